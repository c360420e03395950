/-
  Of the proof of MovePlaces: PE, PF, PG, PH, HC, RE, RI.
-/
import Derived.Test.YtnbdnbcnlgnicaaGreatP2
import Derived.Test.YtnbdnbcnlgnicaaGreatP4
import Derived.Test.YtnbdnbcnlgnicaaGreatP7
import Derived.Test.YtnbdnbcnlgnicaaGreatP8
import Derived.BigRegion
import Derived.BigQuiet
import Derived.Deep.RegionLaw
import Derived.Deep.RegionLawGrows
set_option linter.unusedVariables false
set_option linter.unusedSimpArgs false
set_option maxHeartbeats 40000000
namespace Go.Proofs.YtnbdnbcnlgnicaaGreat
open Go.RowKit Go.Shelf
set_option maxRecDepth 100000 in
theorem rival_form (r:Int) (b off cap:Nat) (ns:List Nd) (t:Tm) (ua:Option Addr) (uc:Nat) (us:List Bool) (w:World) (hN:NodesAt w b off ns) (hc:tchk r ns t=0) (hne:us.length≠ns.length) :
 Calls Tryz.prog 6 #[.agg #[.int .i64 r,.slice (some ⟨b,off,none⟩) ns.length cap],.agg #[.int .i64 t.op,.int .i64 t.a,.int .i64 t.b],.slice ua us.length uc] w fun e w' =>e=.returned (.tuple #[.agg #[.slice none 0 0,.slice none 0 0],.int .i64 1])∧Below w.heap.size w w' :=by
 have hnb:((us.length:Int)==(ns.length:Int))=false:=by rw [beq_eq_false_iff_ne];omega
 have hnn:((us.length:Int) != (ns.length:Int))=true:=by rw [bne,hnb];rfl
 have HOF:=hide (fun W (h:Below w.heap.size w W)=>of_right r b off cap ns t W (hN.below h hN.lt) hc)
 have hbA:Below w.heap.size w ((((w.alloc (.cells #[.int .i64 r,.slice (some ⟨b,off,none⟩) ns.length cap] 24)).alloc (.cells #[.int .i64 t.op,.int .i64 t.a,.int .i64 t.b] 26)).alloc (.cells #[.slice ua us.length uc] 27)).alloc (.cells #[.slice none 0 0,.slice none 0 0] 29)):=(((((Below.refl _ w).alloc (Nat.le_refl _) _).alloc (by simp) _).alloc (by simp;omega) _).alloc (by simp;omega) _)
 have p0:((((w.alloc (.cells #[.int .i64 r,.slice (some ⟨b,off,none⟩) ns.length cap] 24)).alloc (.cells #[.int .i64 t.op,.int .i64 t.a,.int .i64 t.b] 26)).alloc (.cells #[.slice ua us.length uc] 27)).alloc (.cells #[.slice none 0 0,.slice none 0 0] 29)).heap[w.heap.size]?=some (.cells #[.int .i64 r,.slice (some ⟨b,off,none⟩) ns.length cap] 24 (0,0)):=by
  have:=World.alloc_heap_new w (.cells #[.int .i64 r,.slice (some ⟨b,off,none⟩) ns.length cap] 24)
  exact ((Below.heap_alloc _ _ _ (by simp;try omega)).trans (((Below.heap_alloc _ _ _ (by simp;try omega)).trans (((Below.heap_alloc _ _ _ (by simp;try omega)).trans (this))))))
 have p1:((((w.alloc (.cells #[.int .i64 r,.slice (some ⟨b,off,none⟩) ns.length cap] 24)).alloc (.cells #[.int .i64 t.op,.int .i64 t.a,.int .i64 t.b] 26)).alloc (.cells #[.slice ua us.length uc] 27)).alloc (.cells #[.slice none 0 0,.slice none 0 0] 29)).heap[w.heap.size+1]?=some (.cells #[.int .i64 t.op,.int .i64 t.a,.int .i64 t.b] 26 (0,0)):=by
  have:=World.alloc_heap_new (w.alloc (.cells #[.int .i64 r,.slice (some ⟨b,off,none⟩) ns.length cap] 24)) (.cells #[.int .i64 t.op,.int .i64 t.a,.int .i64 t.b] 26)
  simp only [World.size_alloc] at this
  exact ((Below.heap_alloc _ _ _ (by simp;try omega)).trans (((Below.heap_alloc _ _ _ (by simp;try omega)).trans (this))))
 have p2:((((w.alloc (.cells #[.int .i64 r,.slice (some ⟨b,off,none⟩) ns.length cap] 24)).alloc (.cells #[.int .i64 t.op,.int .i64 t.a,.int .i64 t.b] 26)).alloc (.cells #[.slice ua us.length uc] 27)).alloc (.cells #[.slice none 0 0,.slice none 0 0] 29)).heap[w.heap.size+2]?=some (.cells #[.slice ua us.length uc] 27 (0,0)):=by
  have:=World.alloc_heap_new ((w.alloc (.cells #[.int .i64 r,.slice (some ⟨b,off,none⟩) ns.length cap] 24)).alloc (.cells #[.int .i64 t.op,.int .i64 t.a,.int .i64 t.b] 26)) (.cells #[.slice ua us.length uc] 27)
  simp only [World.size_alloc] at this
  exact ((Below.heap_alloc _ _ _ (by simp;try omega)).trans (this))
 have p3:((((w.alloc (.cells #[.int .i64 r,.slice (some ⟨b,off,none⟩) ns.length cap] 24)).alloc (.cells #[.int .i64 t.op,.int .i64 t.a,.int .i64 t.b] 26)).alloc (.cells #[.slice ua us.length uc] 27)).alloc (.cells #[.slice none 0 0,.slice none 0 0] 29)).heap[w.heap.size+3]?=some (.cells #[.slice none 0 0,.slice none 0 0] 29 (0,0)):=by
  have:=World.alloc_heap_new (((w.alloc (.cells #[.int .i64 r,.slice (some ⟨b,off,none⟩) ns.length cap] 24)).alloc (.cells #[.int .i64 t.op,.int .i64 t.a,.int .i64 t.b] 26)).alloc (.cells #[.slice ua us.length uc] 27)) (.cells #[.slice none 0 0,.slice none 0 0] 29)
  simp only [World.size_alloc] at this
  exact this
 go_enter Tryz.func6,Tryz.ntmps6
 go_upto_region 1 with fail
 generalize ((((w.alloc (.cells #[.int .i64 r,.slice (some ⟨b,off,none⟩) ns.length cap] 24)).alloc (.cells #[.int .i64 t.op,.int .i64 t.a,.int .i64 t.b] 26)).alloc (.cells #[.slice ua us.length uc] 27)).alloc (.cells #[.slice none 0 0,.slice none 0 0] 29))=W at hbA p0 p1 p2 p3 ⊢
 try rw [show w.heap.size+1+1=w.heap.size+2 from rfl]
 try rw [show w.heap.size+2+1=w.heap.size+3 from rfl]
 have q0:=blk_cell p0 0
 have q1:=blk_cell p0 1
 simp at q0 q1
 have t0:=blk_cell p1 0
 have t1:=blk_cell p1 1
 have t2:=blk_cell p1 2
 simp at t0 t1 t2
 have pl:=blk_lt p0
 have tl:=blk_lt p1
 have HB:=hide hbA
 have HP:=hide p0
 have HT:=hide p1
 have HU:=hide p2
 have HR:=hide p3
 clear hbA p0 p1 p2 p3
 go_wp2_with fail
 refine (HOF.out _ HB.out).mono ?_
 rintro e w1 ⟨a0,a1,a2,a3,a4,a5,c0,c1,c2,c3,c4,c5,rfl,⟨o0,o1,o2,o3,o4,o5⟩,hb1⟩
 have hbF:Below w1.heap.size w1 (w1.alloc (.cells #[.slice a0 ns.length c0,.slice a1 ns.length c1,.slice a2 ns.length c2,.slice a3 ns.length c3,.slice a4 ns.length c4,.slice a5 ns.length c5] 41)):=(Below.refl _ w1).alloc (Nat.le_refl _) _
 have hF:(w1.alloc (.cells #[.slice a0 ns.length c0,.slice a1 ns.length c1,.slice a2 ns.length c2,.slice a3 ns.length c3,.slice a4 ns.length c4,.slice a5 ns.length c5] 41)).heap[w1.heap.size]?=some (.cells #[.slice a0 ns.length c0,.slice a1 ns.length c1,.slice a2 ns.length c2,.slice a3 ns.length c3,.slice a4 ns.length c4,.slice a5 ns.length c5] 41 (0,0)):=World.alloc_heap_new w1 _
 have HBW:=hide (hb1.trans (hbF.mono hb1.size))
 have HB2:=hide (HB.out.trans (HBW.out.mono HB.out.size))
 have Y0:Hid (BoolsAt (w1.alloc (.cells #[.slice a0 ns.length c0,.slice a1 ns.length c1,.slice a2 ns.length c2,.slice a3 ns.length c3,.slice a4 ns.length c4,.slice a5 ns.length c5] 41)) a0 (downL ns t)):=(bools_owned o0 (solve_len ns _)).below hbF
 have hP:=(HBW.out.block _ pl).trans HP.out
 have hT:=(HBW.out.block _ tl).trans HT.out
 have hU:=(HBW.out.block _ (blk_lt HU.out)).trans HU.out
 have hR:=(HBW.out.block _ (blk_lt HR.out)).trans HR.out
 have hFs:w.heap.size+3<w1.heap.size:=by have h1:=blk_lt HR.out;have h2:=hb1.size;omega
 have ul1:=Nat.lt_of_lt_of_le (blk_lt HU.out) hb1.size
 have rl1:=Nat.lt_of_lt_of_le (blk_lt HR.out) hb1.size
 clear o0 o1 o2 o3 o4 o5 hb1 q0 q1 t0 t1 t2 pl tl HB HR HP HT HOF HBW hne
 go_upto_region 4 with fail
 generalize (w1.alloc (.cells #[.slice a0 ns.length c0,.slice a1 ns.length c1,.slice a2 ns.length c2,.slice a3 ns.length c3,.slice a4 ns.length c4,.slice a5 ns.length c5] 41))=V at hF hbF HB2 Y0 hP hT hU hR ⊢
 generalize w1.heap.size=FB at *
 have q0:=blk_cell hP 0
 have q1:=blk_cell hP 1
 simp at q0 q1
 have pl:=blk_lt hP
 have u0:=blk_cell hU 0
 simp at u0
 have ul:=blk_lt hU
 have y0:=blk_cell hR 0
 have y1:=blk_cell hR 1
 simp at y0 y1
 have z0:=blk_frozen hR 0
 have z1:=blk_frozen hR 1
 have ylt:=blk_lt hR
 have HR3:=hide hR
 clear hR hP hT hU hF hbF HU
 go_wp2
 have hk:=blk_set2 (v0:=.slice none 0 0) (v1:=.slice none 0 0) HR3.out
 have k0:=blk_cell hk 0
 have k1:=blk_cell hk 1
 simp at k0 k1
 exact bodyPost_ret (v:=.tuple #[.agg #[.slice none 0 0,.slice none 0 0],.int .i64 1]) (by simp [results,Tryz.results6,go_sem,k0,k1]) rfl ⟨rfl,below_set2 HB2.out (by omega)⟩
set_option maxRecDepth 100000 in
theorem rival_right (r:Int) (b off cap:Nat) (ns:List Nd) (t:Tm) (ua:Option Addr) (uc:Nat) (us:List Bool) (w:World) (hN:NodesAt w b off ns) (hc:tchk r ns t=0) (hu:BoolsAt w ua us) (hul:us.length=ns.length) :
 Calls Tryz.prog 6 #[.agg #[.int .i64 r,.slice (some ⟨b,off,none⟩) ns.length cap],.agg #[.int .i64 t.op,.int .i64 t.a,.int .i64 t.b],.slice ua us.length uc] w fun e w' =>∃ a1 c1 a2 c2,e=.returned (.tuple #[.agg #[.slice a1 ns.length c1,.slice a2 ns.length c2],.int .i64 0])∧w'.ownsRow w.heap.size 4 1 (.slice a1 ns.length c1) ns.length ((rivPut ns t us).map Value.bool)∧w'.ownsRow w.heap.size 4 1 (.slice a2 ns.length c2) ns.length ((rivTake ns t us).map Value.bool)∧Below w.heap.size w w' :=by
 obtain ⟨hcr,hto,_⟩:=tchk_zero hc
 have HL:=hide (chk_zero hcr).1
 have HTO:=hide hto
 have HCR:=hide hcr
 have HUB:=hide hu
 have HUL:=hide hul
 have HN:=hide hN
 rw [hul]
 have HOF:=hide (fun W (h:Below w.heap.size w W)=>of_right r b off cap ns t W (hN.below h hN.lt) hc)
 have hbA:Below w.heap.size w ((((w.alloc (.cells #[.int .i64 r,.slice (some ⟨b,off,none⟩) ns.length cap] 24)).alloc (.cells #[.int .i64 t.op,.int .i64 t.a,.int .i64 t.b] 26)).alloc (.cells #[.slice ua ns.length uc] 27)).alloc (.cells #[.slice none 0 0,.slice none 0 0] 29)):=(((((Below.refl _ w).alloc (Nat.le_refl _) _).alloc (by simp) _).alloc (by simp;omega) _).alloc (by simp;omega) _)
 have p0:((((w.alloc (.cells #[.int .i64 r,.slice (some ⟨b,off,none⟩) ns.length cap] 24)).alloc (.cells #[.int .i64 t.op,.int .i64 t.a,.int .i64 t.b] 26)).alloc (.cells #[.slice ua ns.length uc] 27)).alloc (.cells #[.slice none 0 0,.slice none 0 0] 29)).heap[w.heap.size]?=some (.cells #[.int .i64 r,.slice (some ⟨b,off,none⟩) ns.length cap] 24 (0,0)):=by
  have:=World.alloc_heap_new w (.cells #[.int .i64 r,.slice (some ⟨b,off,none⟩) ns.length cap] 24)
  exact ((Below.heap_alloc _ _ _ (by simp;try omega)).trans (((Below.heap_alloc _ _ _ (by simp;try omega)).trans (((Below.heap_alloc _ _ _ (by simp;try omega)).trans (this))))))
 have p1:((((w.alloc (.cells #[.int .i64 r,.slice (some ⟨b,off,none⟩) ns.length cap] 24)).alloc (.cells #[.int .i64 t.op,.int .i64 t.a,.int .i64 t.b] 26)).alloc (.cells #[.slice ua ns.length uc] 27)).alloc (.cells #[.slice none 0 0,.slice none 0 0] 29)).heap[w.heap.size+1]?=some (.cells #[.int .i64 t.op,.int .i64 t.a,.int .i64 t.b] 26 (0,0)):=by
  have:=World.alloc_heap_new (w.alloc (.cells #[.int .i64 r,.slice (some ⟨b,off,none⟩) ns.length cap] 24)) (.cells #[.int .i64 t.op,.int .i64 t.a,.int .i64 t.b] 26)
  simp only [World.size_alloc] at this
  exact ((Below.heap_alloc _ _ _ (by simp;try omega)).trans (((Below.heap_alloc _ _ _ (by simp;try omega)).trans (this))))
 have p2:((((w.alloc (.cells #[.int .i64 r,.slice (some ⟨b,off,none⟩) ns.length cap] 24)).alloc (.cells #[.int .i64 t.op,.int .i64 t.a,.int .i64 t.b] 26)).alloc (.cells #[.slice ua ns.length uc] 27)).alloc (.cells #[.slice none 0 0,.slice none 0 0] 29)).heap[w.heap.size+2]?=some (.cells #[.slice ua ns.length uc] 27 (0,0)):=by
  have:=World.alloc_heap_new ((w.alloc (.cells #[.int .i64 r,.slice (some ⟨b,off,none⟩) ns.length cap] 24)).alloc (.cells #[.int .i64 t.op,.int .i64 t.a,.int .i64 t.b] 26)) (.cells #[.slice ua ns.length uc] 27)
  simp only [World.size_alloc] at this
  exact ((Below.heap_alloc _ _ _ (by simp;try omega)).trans (this))
 have p3:((((w.alloc (.cells #[.int .i64 r,.slice (some ⟨b,off,none⟩) ns.length cap] 24)).alloc (.cells #[.int .i64 t.op,.int .i64 t.a,.int .i64 t.b] 26)).alloc (.cells #[.slice ua ns.length uc] 27)).alloc (.cells #[.slice none 0 0,.slice none 0 0] 29)).heap[w.heap.size+3]?=some (.cells #[.slice none 0 0,.slice none 0 0] 29 (0,0)):=by
  have:=World.alloc_heap_new (((w.alloc (.cells #[.int .i64 r,.slice (some ⟨b,off,none⟩) ns.length cap] 24)).alloc (.cells #[.int .i64 t.op,.int .i64 t.a,.int .i64 t.b] 26)).alloc (.cells #[.slice ua ns.length uc] 27)) (.cells #[.slice none 0 0,.slice none 0 0] 29)
  simp only [World.size_alloc] at this
  exact this
 go_enter Tryz.func6,Tryz.ntmps6
 go_upto_region 1 with fail
 generalize ((((w.alloc (.cells #[.int .i64 r,.slice (some ⟨b,off,none⟩) ns.length cap] 24)).alloc (.cells #[.int .i64 t.op,.int .i64 t.a,.int .i64 t.b] 26)).alloc (.cells #[.slice ua ns.length uc] 27)).alloc (.cells #[.slice none 0 0,.slice none 0 0] 29))=W at hbA p0 p1 p2 p3 ⊢
 try rw [show w.heap.size+1+1=w.heap.size+2 from rfl]
 try rw [show w.heap.size+2+1=w.heap.size+3 from rfl]
 have q0:=blk_cell p0 0
 have q1:=blk_cell p0 1
 simp at q0 q1
 have t0:=blk_cell p1 0
 have t1:=blk_cell p1 1
 have t2:=blk_cell p1 2
 simp at t0 t1 t2
 have pl:=blk_lt p0
 have tl:=blk_lt p1
 have HB:=hide hbA
 have HP:=hide p0
 have HT:=hide p1
 have HU:=hide p2
 have HR:=hide p3
 clear hbA p0 p1 p2 p3
 go_wp2_with fail
 refine (HOF.out _ HB.out).mono ?_
 rintro e w1 ⟨a0,a1,a2,a3,a4,a5,c0,c1,c2,c3,c4,c5,rfl,⟨o0,o1,o2,o3,o4,o5⟩,hb1⟩
 have hbF:Below w1.heap.size w1 (w1.alloc (.cells #[.slice a0 ns.length c0,.slice a1 ns.length c1,.slice a2 ns.length c2,.slice a3 ns.length c3,.slice a4 ns.length c4,.slice a5 ns.length c5] 41)):=(Below.refl _ w1).alloc (Nat.le_refl _) _
 have hF:(w1.alloc (.cells #[.slice a0 ns.length c0,.slice a1 ns.length c1,.slice a2 ns.length c2,.slice a3 ns.length c3,.slice a4 ns.length c4,.slice a5 ns.length c5] 41)).heap[w1.heap.size]?=some (.cells #[.slice a0 ns.length c0,.slice a1 ns.length c1,.slice a2 ns.length c2,.slice a3 ns.length c3,.slice a4 ns.length c4,.slice a5 ns.length c5] 41 (0,0)):=World.alloc_heap_new w1 _
 have HBW:=hide (hb1.trans (hbF.mono hb1.size))
 have HB2:=hide (HB.out.trans (HBW.out.mono HB.out.size))
 have Y0:Hid (BoolsAt (w1.alloc (.cells #[.slice a0 ns.length c0,.slice a1 ns.length c1,.slice a2 ns.length c2,.slice a3 ns.length c3,.slice a4 ns.length c4,.slice a5 ns.length c5] 41)) a0 (downL ns t)):=(bools_owned o0 (solve_len ns _)).below hbF
 have hP:=(HBW.out.block _ pl).trans HP.out
 have hT:=(HBW.out.block _ tl).trans HT.out
 have hU:=(HBW.out.block _ (blk_lt HU.out)).trans HU.out
 have hR:=(HBW.out.block _ (blk_lt HR.out)).trans HR.out
 have hFs:w.heap.size+3<w1.heap.size:=by have h1:=blk_lt HR.out;have h2:=hb1.size;omega
 have ul1:=Nat.lt_of_lt_of_le (blk_lt HU.out) hb1.size
 have rl1:=Nat.lt_of_lt_of_le (blk_lt HR.out) hb1.size
 have HY:=hide (HUB.out.below HB2.out)
 clear o0 o1 o2 o3 o4 o5 hb1 q0 q1 t0 t1 t2 pl tl HB HR HP HT HOF HBW hcr hto hu hul hc hN HU ul1 rl1
 have u0:=blk_cell hU 0
 simp at u0
 have ul:=blk_lt hU
 have q0:=blk_cell hP 0
 have q1:=blk_cell hP 1
 simp at q0 q1
 have pl:=blk_lt hP
 clear ul pl u0 q0 q1
 go_upto_region 4 with fail
 generalize (w1.alloc (.cells #[.slice a0 ns.length c0,.slice a1 ns.length c1,.slice a2 ns.length c2,.slice a3 ns.length c3,.slice a4 ns.length c4,.slice a5 ns.length c5] 41))=V at hF hbF HB2 Y0 HY hP hT hU hR ⊢
 generalize w1.heap.size=FB at *
 have u0:=blk_cell hU 0
 simp at u0
 have ul:=blk_lt hU
 have q0:=blk_cell hP 0
 have q1:=blk_cell hP 1
 simp at q0 q1
 have pl:=blk_lt hP
 have t0:=blk_cell hT 0
 have t1:=blk_cell hT 1
 have t2:=blk_cell hT 2
 simp at t0 t1 t2
 have tl:=blk_lt hT
 have HF:=hide hF
 have HP:=hide hP
 have HT:=hide hT
 have HU:=hide hU
 have HR:=hide hR
 clear hF hP hT hU hR hbF
 have HST:=hide (surelyThere_any (fun n=>bat us n&&bat (downL ns t) n) 20 #[.pointer (some ⟨w.heap.size+2,0,none⟩),.pointer (some ⟨FB,0,none⟩)] r b off cap ns t V (HN.out.below HB2.out HN.out.lt) HCR.out HTO.out (enters_of Tryz.func20 (by kernel_rfl) rfl) (fun i hi U hX=>(rival1_any i (w.heap.size+2) FB ns.length us (downL ns t) ua a0 uc c0 U (by rw [blk_cell ((hX.block _ (blk_lt HU.out)).trans HU.out)];rfl) (by rw [blk_cell ((hX.block _ (blk_lt HF.out)).trans HF.out)];rfl) (blk_lt ((hX.block _ (blk_lt HU.out)).trans HU.out)) (blk_lt ((hX.block _ (blk_lt HF.out)).trans HF.out)) (HY.out.below hX) (Y0.out.below hX) HUL.out (solve_len ns _) hi).mono fun e w' h=>⟨h.1,by rw [h.2];exact Below.refl _ _⟩))
 have HRP:Hid ((List.range ns.length).map (fun n=>bat us n&&bat (downL ns t) n)=rivPut ns t us):=rfl
 rw [HRP.out] at HST
 go_wp2_with fail
 refine HST.out.mono ?_
 rintro e w2 ⟨x3,d3,rfl,hV3,hb2⟩
 have hbD:Below w2.heap.size w2 (w2.alloc (.cells #[.slice x3 ns.length d3] 27)):=(Below.refl _ w2).alloc (Nat.le_refl _) _
 have hD:(w2.alloc (.cells #[.slice x3 ns.length d3] 27)).heap[w2.heap.size]?=some (.cells #[.slice x3 ns.length d3] 27 (0,0)):=World.alloc_heap_new w2 _
 have HBX:=hide (hb2.trans (hbD.mono hb2.size))
 have HY3:Hid (BoolsAt (w2.alloc (.cells #[.slice x3 ns.length d3] 27)) x3 (thereL ns t (rivPut ns t us))):=(bools_owned hV3 (solve_len ns _)).below hbD
 have hs2:w.heap.size+3<w2.heap.size:=by have h1:=hb2.size;have h2:=blk_lt HR.out;omega
 clear q0 q1 t0 t1 t2 pl tl u0 ul hV3 hb2 hbD HST
 go_upto_region 9 with fail
 generalize (w2.alloc (.cells #[.slice x3 ns.length d3] 27))=X at hD HBX HY3 ⊢
 generalize w2.heap.size=DB at *
 have hP:=((HBX.out.block _ (blk_lt HP.out)).trans HP.out)
 have q0:=blk_cell hP 0
 have q1:=blk_cell hP 1
 simp at q0 q1
 have pl:=blk_lt hP
 have HD:=hide hD
 clear hP hD
 have HPL:=hide (places_any (fun n=>bat us n&&bat (downL ns t) n) (fun n=>bat (rcl ns t) n&&bat (thereL ns t (rivPut ns t us)) n) 20 22 #[.pointer (some ⟨w.heap.size+2,0,none⟩),.pointer (some ⟨FB,0,none⟩)] #[.pointer (some ⟨w.heap.size,0,none⟩),.pointer (some ⟨w.heap.size+1,0,none⟩),.pointer (some ⟨DB,0,none⟩)] r (some ⟨b,off,none⟩) ns.length cap X (by have:=HL.out;omega) (enters_of Tryz.func20 (by kernel_rfl) rfl) (enters_of Tryz.func22 (by kernel_rfl) rfl) (fun i hi U hX=>(rival1_any i (w.heap.size+2) FB ns.length us (downL ns t) ua a0 uc c0 U (by rw [blk_cell (((HBX.out.trans (hX.mono HBX.out.size)).block _ (blk_lt HU.out)).trans HU.out)];rfl) (by rw [blk_cell (((HBX.out.trans (hX.mono HBX.out.size)).block _ (blk_lt HF.out)).trans HF.out)];rfl) (blk_lt (((HBX.out.trans (hX.mono HBX.out.size)).block _ (blk_lt HU.out)).trans HU.out)) (blk_lt (((HBX.out.trans (hX.mono HBX.out.size)).block _ (blk_lt HF.out)).trans HF.out)) (HY.out.below (HBX.out.trans (hX.mono HBX.out.size))) (Y0.out.below (HBX.out.trans (hX.mono HBX.out.size))) HUL.out (solve_len ns _) hi).mono fun e w' h=>⟨h.1,by rw [h.2];exact Below.refl _ _⟩) (fun i hi U hX=>rival2_any i w.heap.size (w.heap.size+1) DB r b off cap ns t (thereL ns t (rivPut ns t us)) x3 d3 U (HN.out.below (HB2.out.trans ((HBX.out.trans (hX.mono HBX.out.size)).mono HB2.out.size)) HN.out.lt) hi (((HBX.out.trans (hX.mono HBX.out.size)).block _ (blk_lt HP.out)).trans HP.out) (((HBX.out.trans (hX.mono HBX.out.size)).block _ (blk_lt HT.out)).trans HT.out) HTO.out ((hX.block _ (blk_lt HD.out)).trans HD.out) (HY3.out.below hX) (solve_len ns _)))
 have HR2:=hide ((HBX.out.block _ (blk_lt HR.out)).trans HR.out)
 have HB4:=hide (HB2.out.trans (HBX.out.mono HB2.out.size))
 go_wp2_with fail
 refine HPL.out.mono ?_
 rintro e w3 ⟨x1,d1,x2,d2,rfl,hV1,hV2,hb3⟩
 have hR:=(hb3.block _ (blk_lt HR2.out)).trans HR2.out
 have y0:=blk_cell hR 0
 have y1:=blk_cell hR 1
 simp at y0 y1
 have z0:=blk_frozen hR 0
 have z1:=blk_frozen hR 1
 have ylt:=blk_lt hR
 have HR3:=hide hR
 have HB3:=hide (HB4.out.trans (hb3.mono HB4.out.size))
 have HV1:=hide (ownsRow_base hV1 (base' :=w.heap.size) HB4.out.size)
 have HV2:=hide (ownsRow_base hV2 (base' :=w.heap.size) HB4.out.size)
 clear hR hb3 q0 q1 pl hV1 hV2 HPL
 go_wp2
 have hk:=blk_set2 (v0:=.slice x1 ns.length d1) (v1:=.slice x2 ns.length d2) HR3.out
 have T1:=owns_set (o:=1) (u:=.slice x2 ns.length d2) (owns_set (o:=0) (u:=.slice x1 ns.length d1) HV1.out HR3.out (by decide)) (blk_set (i:=0) (.slice x1 ns.length d1) HR3.out) (by decide)
 have T2:=owns_set (o:=1) (u:=.slice x2 ns.length d2) (owns_set (o:=0) (u:=.slice x1 ns.length d1) HV2.out HR3.out (by decide)) (blk_set (i:=0) (.slice x1 ns.length d1) HR3.out) (by decide)
 have k0:=blk_cell hk 0
 have k1:=blk_cell hk 1
 simp at k0 k1
 exact bodyPost_ret (v:=.tuple #[.agg #[.slice x1 ns.length d1,.slice x2 ns.length d2],.int .i64 0]) (by simp [results,Tryz.results6,go_sem,k0,k1]) rfl ⟨x1,d1,x2,d2,rfl,T1,T2,below_set2 HB3.out (by omega)⟩
theorem clone_fitM (b off cap:Nat) (ns:List Nd) (w:World) (hN:NodesAt w b off ns) (hl:1≤ns.length∧ns.length≤512) :
 Calls Tryz.prog 59 #[.slice (some ⟨b,off,none⟩) ns.length cap] w fun e w' =>∃ cb cc,e=.returned (.slice (some ⟨cb,0,none⟩) ns.length cc)∧w'.ownsRow w.heap.size 47 6 (.slice (some ⟨cb,0,none⟩) ns.length cc) ns.length (ns.flatMap encNd)∧Below w.heap.size w w' :=by
 refine (callsIn_wide.1 (clone_in 1 b off cap ns w hN hl)).mono ?_
 rintro e w' ⟨v,rfl,hv,hB⟩
 rcases hv.2 with ⟨_,q⟩ | ⟨g,vc,cur,rfl,_⟩
 ·omega
 ·exact ⟨g,vc,rfl,hv,hB⟩
theorem nodes_ownM {w:World} {base cb cc:Nat} {e:TypeId} {ns:List Nd} (h:w.ownsRow base e 6 (.slice (some ⟨cb,0,none⟩) ns.length cc) ns.length (ns.flatMap encNd)) (hl:1≤ns.length):NodesAt w cb 0 ns:=by
 obtain ⟨a,c,e,hs⟩:=nodes_of_owns h
 cases e
 obtain ⟨b', o', e,hn⟩:=hs.some hl
 cases e
 exact hn
theorem own_curM {w:World} {base g cap n:Nat} {xs:List Value} (h:w.ownsRow base 47 6 (.slice (some ⟨g,0,none⟩) n cap) n xs):∃ cur,w.heap[g]?=some (.cells cur 47 (0,0))∧base≤g:=by
 rcases h.2 with ⟨q,_⟩ | ⟨g', c,cur,q,a1,a2,_⟩
 ·cases q
 ·cases q;exact ⟨cur,a2,a1⟩
def tkTo (ns:List Nd) (tak:List Bool) (h:Int) (k:Nat):List Nd:=(List.range ns.length).map fun i=>if i<k then tkN ns tak h i else nd ns i
theorem tkTo_len (ns:List Nd) (tak:List Bool) (h:Int) (k:Nat):(tkTo ns tak h k).length=ns.length:=by simp [tkTo]
theorem tkTo_zero (ns:List Nd) (tak:List Bool) (h:Int):tkTo ns tak h 0=ns:=by
 apply List.ext_getElem?
 intro i
 by_cases hi:i<ns.length
 ·rw [get_nd hi];simp [tkTo,hi]
 ·rw [List.getElem?_eq_none (by simp [tkTo];omega),List.getElem?_eq_none (by omega)]
theorem tkTo_all (ns:List Nd) (tak:List Bool) (h:Int):tkTo ns tak h ns.length=(List.range ns.length).map (tkN ns tak h):=by
 apply List.map_congr_left
 intro i hi
 simp [List.mem_range.1 hi]
theorem tkTo_no {ns:List Nd} {tak:List Bool} {h:Int} {k:Nat} (hp:bat tak k=false):tkTo ns tak h (k+1)=tkTo ns tak h k:=by
 apply List.map_congr_left
 intro i hi
 by_cases e:i=k
 ·subst e;simp [tkN,hp]
 ·by_cases h1:i<k
  ·rw [if_pos h1,if_pos (by omega)]
  ·rw [if_neg h1,if_neg (by omega)]
theorem tkTo_yes {ns:List Nd} {tak:List Bool} {h:Int} {k:Nat} (hk:k<ns.length) (hp:bat tak k=true):tkTo ns tak h (k+1)=(tkTo ns tak h k).set k ⟨2,(nd ns k).d,h,0,(nd ns k).t,0⟩:=by
 apply List.ext_getElem?
 intro i
 by_cases hi:i<ns.length
 ·by_cases e:i=k
  ·subst e
   rw [List.getElem?_set_self (by rw [tkTo_len];exact hi)]
   simp [tkTo,hi,tkN,hp]
  ·rw [List.getElem?_set_ne (fun q=>e q.symm)]
   simp only [tkTo,List.getElem?_map,List.getElem?_range hi,Option.map_some]
   by_cases h1:i<k
   ·rw [if_pos h1,if_pos (by omega)]
   ·rw [if_neg h1,if_neg (by omega)]
 ·rw [List.getElem?_eq_none (by simp [tkTo];omega),List.getElem?_eq_none (by simp [tkTo];omega)]
set_option maxRecDepth 100000 in
theorem withTaken_any (b off cap:Nat) (ns:List Nd) (ta:Option Addr) (tc:Nat) (tak:List Bool) (h:Int) (w:World) (hN:NodesAt w b off ns) (hl:1≤ns.length∧ns.length≤256) (ht:BoolsAt w ta tak) (e1:tak.length=ns.length) :
 Calls Tryz.prog 90 #[.slice (some ⟨b,off,none⟩) ns.length cap,.slice ta ns.length tc,.int .i64 h] w fun e w' =>∃ cb cc,e=.returned (.slice (some ⟨cb,0,none⟩) ns.length cc)∧w'.ownsRow w.heap.size 47 6 (.slice (some ⟨cb,0,none⟩) ns.length cc) ns.length (((List.range ns.length).map (tkN ns tak h)).flatMap encNd)∧Below w.heap.size w w' :=by
 have HCL:=hide (clone_fitM b off cap ns w hN (by omega))
 have HN:=hide hN
 have HTK:=hide ht
 have HTL:=hide e1
 clear hN ht e1
 go_enter Tryz.func90,Tryz.ntmps90
 go_wp2_with fail
 refine HCL.out.mono ?_
 rintro e w1 ⟨cb,cc,rfl,hV,hb1⟩
 have HV:=hide hV
 have HB1:=hide hb1
 clear hV hb1 HCL
 go_wp2_with fail
 go_loopw [14] (fun i wr=>∃ k:Nat,k≤ns.length∧i=.int .i64 k∧wr.ownsRow w.heap.size 47 6 (.slice (some ⟨cb,0,none⟩) ns.length cc) ns.length ((tkTo ns tak h k).flatMap encNd)∧Below w.heap.size w wr) (fun i _=>ns.length-(intOf i).toNat)
 case atStart=>exact ⟨0,Nat.zero_le _,rfl,by rw [tkTo_zero];exact HV.out,HB1.out⟩
 case round =>
  obtain ⟨k,hk,rfl,hown,hb⟩:=hrel
  have hsz:=hb.size
  by_cases hlt:k<ns.length
  ·have hx:=get_nd hlt
   have hN2:=HN.out.below hb HN.out.lt
   have c0:=hN2.c0 k _ hx
   have c1:=hN2.c1 k _ hx
   have c2:=hN2.c2 k _ hx
   have c3:=hN2.c3 k _ hx
   have c4:=hN2.c4 k _ hx
   have c5:=hN2.c5 k _ hx
   have bl:=hN2.lt
   obtain ⟨b3,o3,rfl,l3,v3⟩:=bools_cell HTK.out (k:=k) (by rw [HTL.out];exact hlt)
   have v4:wr.cell? ⟨b3,o3+k,none⟩=some (.bool (bat tak k)):=by rw [World.cell?_of_block (hb.block _ l3)];exact v3
   have l4:b3<wr.heap.size:=Nat.lt_of_lt_of_le l3 hsz
   have hki:(k:Int)<(ns.length:Int):=by omega
   have hS:wr.heap.size<(wr.alloc (.cells #[.int .i64 (nd ns k).op,.int .i64 (nd ns k).d,.int .i64 (nd ns k).a,.int .i64 (nd ns k).b,.int .i64 (nd ns k).t,.int .i64 (nd ns k).e] 47)).heap.size:=by simp
   have hownA:=hown.alloc (.cells #[.int .i64 (nd ns k).op,.int .i64 (nd ns k).d,.int .i64 (nd ns k).a,.int .i64 (nd ns k).b,.int .i64 (nd ns k).t,.int .i64 (nd ns k).e] 47)
   have HBA:=hide (hb.alloc hsz (.cells #[.int .i64 (nd ns k).op,.int .i64 (nd ns k).d,.int .i64 (nd ns k).a,.int .i64 (nd ns k).b,.int .i64 (nd ns k).t,.int .i64 (nd ns k).e] 47))
   have hzn:=World.alloc_heap_new wr (.cells #[.int .i64 (nd ns k).op,.int .i64 (nd ns k).d,.int .i64 (nd ns k).a,.int .i64 (nd ns k).b,.int .i64 (nd ns k).t,.int .i64 (nd ns k).e] 47)
   have hbn:=(Below.refl wr.heap.size wr).alloc (Nat.le_refl _) (.cells #[.int .i64 (nd ns k).op,.int .i64 (nd ns k).d,.int .i64 (nd ns k).a,.int .i64 (nd ns k).b,.int .i64 (nd ns k).t,.int .i64 (nd ns k).e] 47)
   have v5:(wr.alloc (.cells #[.int .i64 (nd ns k).op,.int .i64 (nd ns k).d,.int .i64 (nd ns k).a,.int .i64 (nd ns k).b,.int .i64 (nd ns k).t,.int .i64 (nd ns k).e] 47)).cell? ⟨b3,o3+k,none⟩=some (.bool (bat tak k)):=by rw [World.cell?_of_block (hbn.block _ l4)];exact v4
   have l5:b3<(wr.alloc (.cells #[.int .i64 (nd ns k).op,.int .i64 (nd ns k).d,.int .i64 (nd ns k).a,.int .i64 (nd ns k).b,.int .i64 (nd ns k).t,.int .i64 (nd ns k).e] 47)).heap.size:=by simp;omega
   have HOA:=hide hownA
   have HLT:=hide hlt
   have hgk:(tkTo ns tak h k)[k]?=some (nd (tkTo ns tak h k) k):=get_nd (by rw [tkTo_len];exact hlt)
   have hNd:NodesAt (wr.alloc (.cells #[.int .i64 (nd ns k).op,.int .i64 (nd ns k).d,.int .i64 (nd ns k).a,.int .i64 (nd ns k).b,.int .i64 (nd ns k).t,.int .i64 (nd ns k).e] 47)) cb 0 (tkTo ns tak h k):=nodes_ownM (by rw [tkTo_len];exact hownA) (by rw [tkTo_len];exact hl.1)
   obtain ⟨cur,hcur,hge⟩:=own_curM hownA
   have d0:=hNd.c0 k _ hgk
   have d1:=hNd.c1 k _ hgk
   have d2:=hNd.c2 k _ hgk
   have d3:=hNd.c3 k _ hgk
   have d4:=hNd.c4 k _ hgk
   have d5:=hNd.c5 k _ hgk
   simp only [Nat.zero_add] at d0 d1 d2 d3 d4 d5
   have dl:=hNd.lt
   have g0:=blk_frozen hcur (k*6)
   have g1:=blk_frozen hcur (k*6+1)
   have g2:=blk_frozen hcur (k*6+2)
   have g3:=blk_frozen hcur (k*6+3)
   have g4:=blk_frozen hcur (k*6+4)
   have g5:=blk_frozen hcur (k*6+5)
   have HYES:Hid (bat tak k=true→tkTo ns tak h (k+1)=(tkTo ns tak h k).set k ⟨2,(nd ns k).d,h,0,(nd ns k).t,0⟩):=fun hp=>tkTo_yes hlt hp
   have HNO:Hid (bat tak k=false→tkTo ns tak h (k+1)=tkTo ns tak h k):=fun hp=>tkTo_no hp
   have HWR:=hide (owns_node (y:=⟨2,(nd ns k).d,h,0,(nd ns k).t,0⟩) (by rw [tkTo_len];exact hownA) (by rw [tkTo_len];exact hlt))
   clear hown hownA hx hN2 v3 v4 l3 l4 hgk hNd hcur hbn hb
   generalize nd (tkTo ns tak h k) k=z at d0 d1 d2 d3 d4 d5
   generalize bat tak k=Q at v5 HYES HNO
   go_upto_region 5 with fail
   generalize (wr.alloc (.cells #[.int .i64 (nd ns k).op,.int .i64 (nd ns k).d,.int .i64 (nd ns k).a,.int .i64 (nd ns k).b,.int .i64 (nd ns k).t,.int .i64 (nd ns k).e] 47))=WA at hS HOA HBA v5 l5 d0 d1 d2 d3 d4 d5 dl g0 g1 g2 g3 g4 g5 HWR hzn ⊢
   generalize wr.heap.size=XB at *
   have x1:=blk_cell hzn 1
   have x4:=blk_cell hzn 4
   simp at x1 x4
   clear hzn
   clear c0 c1 c2 c3 c4 c5 bl
   cases Q
   ·clear HYES HWR
    go_wp2_with fail
    go_roundw
    case rel=>exact ⟨k+1,by omega,by go_num,by rw [HNO.out rfl];exact HOA.out,HBA.out⟩
    case measure=>simp [intOf];omega
   ·have HE:=hide (HYES.out rfl)
    clear HNO HYES
    go_wp2_with fail
    go_roundw
    case rel =>
     refine ⟨k+1,by omega,by go_num,?_,HBA.out.trans (six_below WA k ⟨2,(nd ns k).d,h,0,(nd ns k).t,0⟩ hge)⟩
     rw [HE.out]
     have:=HWR.out
     rw [List.length_set,tkTo_len] at this
     exact this
    case measure=>simp [intOf];omega
  ·have ek:k=ns.length:=by omega
   subst ek
   rw [tkTo_all] at hown
   have HO:=hide hown
   have HB:=hide hb
   clear hown hb
   go_wp2
   go_ret
   exact ⟨cb,cc,rfl,HO.out,HB.out⟩
set_option maxRecDepth 100000 in
theorem withPut_any (g0 cap0:Nat) (ns:List Nd) (pa:Option Addr) (pc:Nat) (put tak:List Bool) (t:Tm) (h:Int) (w0 w:World) (hb0:Below w0.heap.size w0 w)
 (hO:w.ownsRow w0.heap.size 47 6 (.slice (some ⟨g0,0,none⟩) ns.length cap0) ns.length (((List.range ns.length).map (tkN ns tak h)).flatMap encNd))
 (hl:1≤ns.length∧ns.length≤256) (hp:BoolsAt w0 pa put) (e1:put.length=ns.length) :
 Calls Tryz.prog 89 #[.slice (some ⟨g0,0,none⟩) ns.length cap0,.slice pa ns.length pc,.agg #[.int .i64 t.op,.int .i64 t.a,.int .i64 t.b],.int .i64 h] w fun e w' =>∃ g cp,e=.returned (.slice (some ⟨g,0,none⟩) (apN ns t put tak h).length cp)∧w'.ownsRow w0.heap.size 47 6 (.slice (some ⟨g,0,none⟩) (apN ns t put tak h).length cp) (apN ns t put tak h).length ((apN ns t put tak h).flatMap encNd)∧Below w0.heap.size w0 w' :=by
 obtain ⟨i0,hi0,hz0,hz1,hz2⟩:=info_parts info_node
 have hbA:Below w0.heap.size w0 (w.alloc (.cells #[.int .i64 t.op,.int .i64 t.a,.int .i64 t.b] 26)):=hb0.alloc hb0.size _
 have hT0:(w.alloc (.cells #[.int .i64 t.op,.int .i64 t.a,.int .i64 t.b] 26)).heap[w.heap.size]?=some (.cells #[.int .i64 t.op,.int .i64 t.a,.int .i64 t.b] 26 (0,0)):=World.alloc_heap_new w _
 have hO1:=hO.alloc (.cells #[.int .i64 t.op,.int .i64 t.a,.int .i64 t.b] 26)
 rw [← apTo_zero ns t put tak h] at hO1
 have HPB:=hide hp
 have HPL:=hide e1
 have hwl:w0.heap.size≤w.heap.size:=hb0.size
 clear hp e1 hO hb0
 go_enter Tryz.func89,Tryz.ntmps89
 go_upto_region 1 with fail
 generalize (w.alloc (.cells #[.int .i64 t.op,.int .i64 t.a,.int .i64 t.b] 26))=W at hbA hT0 hO1 ⊢
 generalize w.heap.size=TB at *
 have HT0:=hide hT0
 have HO1:=hide hO1
 have HBA:=hide hbA
 have HLL:Hid ((apTo ns t put tak h 0).length=ns.length):=by rw [Hid,apTo_len];simp [keptI]
 clear hT0 hO1 hbA
 go_upto_region 2 with fail
 go_loopw [0,14] (fun v i wr=>∃ k g cp:Nat,k≤ns.length∧i=.int .i64 k∧v=.slice (some ⟨g,0,none⟩) (apTo ns t put tak h k).length cp∧wr.ownsRow w0.heap.size 47 6 (.slice (some ⟨g,0,none⟩) (apTo ns t put tak h k).length cp) (apTo ns t put tak h k).length ((apTo ns t put tak h k).flatMap encNd)∧wr.heap[TB]?=some (.cells #[.int .i64 t.op,.int .i64 t.a,.int .i64 t.b] 26 (0,0))∧Below w0.heap.size w0 wr) (fun _ i _=>ns.length-(intOf i).toNat)
 case atStart=>exact ⟨0,g0,cap0,Nat.zero_le _,rfl,by rw [HLL.out],by rw [HLL.out];exact HO1.out,HT0.out,HBA.out⟩
 case round =>
  obtain ⟨k,g,cp,hk,rfl,rfl,hown,hT,hb⟩:=hrel
  have hsz:=hb.size
  by_cases hlt:k<ns.length
  ·have hAL:(apTo ns t put tak h k).length=ns.length+(keptI put k).length:=apTo_len ns t put tak h k
   have hKL:=keptI_len put k
   have hkA:k<(apTo ns t put tak h k).length:=by omega
   have hA512:(apTo ns t put tak h k).length≤512:=by omega
   have hgk:=get_nd hkA
   have hNd:NodesAt wr g 0 (apTo ns t put tak h k):=nodes_ownM hown (by omega)
   have HTK:Hid (nd (apTo ns t put tak h k) k=tkN ns tak h k):=by rw [Hid,nd_apTo hlt,if_neg (by omega)]
   have c0:=hNd.c0 k _ hgk
   have c1:=hNd.c1 k _ hgk
   have c2:=hNd.c2 k _ hgk
   have c3:=hNd.c3 k _ hgk
   have c4:=hNd.c4 k _ hgk
   have c5:=hNd.c5 k _ hgk
   simp only [Nat.zero_add] at c0 c1 c2 c3 c4 c5
   have gl:=hNd.lt
   obtain ⟨b3,o3,rfl,l3,v3⟩:=bools_cell (HPB.out.below hb) (k:=k) (by rw [HPL.out];exact hlt)
   have hki:(k:Int)<(ns.length:Int):=by omega
   have hkai:(k:Int)<((apTo ns t put tak h k).length:Int):=by omega
   obtain ⟨cur,hcur,hge⟩:=own_curM hown
   have hne:=boxed_ne hT hcur (by decide)
   have HOW:=hide hown
   have HT:=hide hT
   have HB:=hide hb
   have HYES:Hid (bat put k=true→apTo ns t put tak h (k+1)=(apTo ns t put tak h k++[tkN ns tak h k]).set k (ptN t h (apTo ns t put tak h k).length)):=fun hp=>apTo_yes hlt hp
   have HNO:Hid (bat put k=false→apTo ns t put tak h (k+1)=apTo ns t put tak h k):=fun hp=>apTo_no hp
   have HCUR:=hide hcur
   have HGE:=hide hge
   have HNE:=hide hne
   clear hown hT hb hgk hNd hcur hge hne hAL hKL
   generalize bat put k=Q at v3 HYES HNO
   generalize nd (apTo ns t put tak h k) k=z at c0 c1 c2 c3 c4 c5 HTK
   have HKA:=hide hkA
   have HAI:=hide hkai
   cases Q
   ·have HE:=hide (HNO.out rfl)
    clear HNO HYES c0 c1 c2 c3 c4 c5
    go_wp2_with fail
    go_roundw
    case rel=>exact ⟨k+1,g,cp,by omega,by go_num,by rw [HE.out],by rw [HE.out];exact HOW.out,HT.out,HB.out⟩
    case measure=>simp [intOf];omega
   ·have HE:=hide (HYES.out rfl)
    clear HNO HYES
    have HM:=hide hA512
    have hm5:(apTo ns t put tak h k).length≤512:=hA512
    generalize hms:apTo ns t put tak h k=ms at HOW HE HKA HAI HM hA512 hkA hkai hm5 ⊢
    clear hms
    go_upto_region 7 with (at_builtin;refine wpList_append_own _ rfl (.tmp 22) (.tmp 27) 22 rfl w0.heap.size 47 i0 _ 6 48 Tryz.underlying22 hi0 hz0 hz1 hz2 rfl (by decide) _ _ _ rfl (HOW.out.alloc _) ⟨wr.heap.size,0,none⟩ 1 1 (encNd z) rfl rfl ?c1 ?c2 ?c3 ?c4 ?c5 ?_)
    case c1 =>
     intro j u hj
     match j,hj with
     | 0,hj=>simp [encNd] at hj;subst hj;simp [Addr.add]
     | 1,hj=>simp [encNd] at hj;subst hj;simp [Addr.add]
     | 2,hj=>simp [encNd] at hj;subst hj;simp [Addr.add]
     | 3,hj=>simp [encNd] at hj;subst hj;simp [Addr.add]
     | 4,hj=>simp [encNd] at hj;subst hj;simp [Addr.add]
     | 5,hj=>simp [encNd] at hj;subst hj;simp [Addr.add]
     | j+6,hj=>simp [encNd] at hj
    case c2=>exact fun u hu=>encNd_one [z] u (by simpa using hu)
    case c3=>unfold maxLen;omega
    case c4=>omega
    case c5=>simp;omega
    intro v' w4 hown5 hg4 hni
    have hlt1:=HOW.out.lt
    have hB4:Below w0.heap.size w0 w4:=(HB.out.alloc hsz _).grown hg4 (by simp;omega) (fun k hk=>(hlt1 k hk).1)
    obtain ⟨g', cp', rfl⟩:∃ g' cp', v' =.slice (some ⟨g', 0,none⟩) (ms.length+1) cp' :=by
     rcases hown5.2 with ⟨_,q⟩ | ⟨g', vc,cur,rfl,_⟩
     ·omega
     ·exact ⟨g', vc,rfl⟩
    have hT4:w4.heap[TB]?=some (.cells #[.int .i64 t.op,.int .i64 t.a,.int .i64 t.b] 26 (0,0)):=by
     rw [hg4.block TB (by have:=blk_lt HT.out;simp;omega) (by simp [Value.ownBlock];exact HNE.out),Below.heap_alloc _ _ _ (blk_lt HT.out)]
     exact HT.out
    have hl6:(ms++[z]).length=ms.length+1:=by simp
    have hown6:w4.ownsRow w0.heap.size 47 6 (.slice (some ⟨g', 0,none⟩) (ms++[z]).length cp') (ms++[z]).length ((ms++[z]).flatMap encNd):=by
     rw [hl6,List.flatMap_append];simpa using hown5
    rw [← hl6]
    rw [← HTK.out] at HE
    clear hown5 hg4 hni hlt1 c0 c1 c2 c3 c4 c5 l3 v3
    have hk6:k<(ms++[z]).length:=by rw [hl6];omega
    have hk6i:(k:Int)<((ms++[z]).length:Int):=by omega
    have HLN:Hid ((ms.length:Int)=(ms.length:Int)):=rfl
    have hml:ms.length≤512:=hm5
    have hNd:=nodes_ownM hown6 (by rw [hl6];omega)
    have hgk:=get_nd hk6
    have d0:=hNd.c0 k _ hgk
    have d1:=hNd.c1 k _ hgk
    have d2:=hNd.c2 k _ hgk
    have d3:=hNd.c3 k _ hgk
    have d4:=hNd.c4 k _ hgk
    have d5:=hNd.c5 k _ hgk
    simp only [Nat.zero_add] at d0 d1 d2 d3 d4 d5
    obtain ⟨cur4,hcur4,hge4⟩:=own_curM hown6
    have dl:=blk_lt hcur4
    have g0:=blk_frozen hcur4 (k*6)
    have g1:=blk_frozen hcur4 (k*6+1)
    have g2:=blk_frozen hcur4 (k*6+2)
    have g3:=blk_frozen hcur4 (k*6+3)
    have g4:=blk_frozen hcur4 (k*6+4)
    have g5:=blk_frozen hcur4 (k*6+5)
    have HWR:=hide (owns_node (y:=ptN t h ms.length) hown6 hk6)
    have HTW:=hide ((six_other (y:=ptN t h ms.length) (j:=k) (w:=w4) (boxed_ne hT4 hcur4 (by decide))).trans hT4)
    have t0:=blk_cell hT4 0
    have t1:=blk_cell hT4 1
    have t2:=blk_cell hT4 2
    simp at t0 t1 t2
    have tl:=blk_lt hT4
    have HB4:=hide (hB4.trans (six_below w4 k (ptN t h ms.length) hge4))
    generalize nd (ms++[z]) k=y at d0 d1 d2 d3 d4 d5
    have HL6:=hide hl6
    clear hNd hgk hown6 hcur4 hT4 hB4 hk6 hl6 HOW HT HB HCUR hml HLN
    generalize hL:(ms++[z]).length=L6 at hk6i HL6 ⊢
    have HL:=hide hL
    clear hL
    go_wp2_with fail
    go_roundw
    case rel =>
     have e:(apTo ns t put tak h (k+1)).length=L6:=by rw [HE.out,List.length_set,HL.out]
     refine ⟨k+1,g', cp', by omega,by go_num,by rw [e],?_,HTW.out,HB4.out⟩
     have:=HWR.out
     rw [← HE.out] at this
     exact this
    case measure=>simp [intOf];omega
  ·have ek:k=ns.length:=by omega
   subst ek
   have HO:=hide hown
   have HB:=hide hb
   have HA:Hid (apTo ns t put tak h ns.length=apN ns t put tak h):=rfl
   rw [HA.out] at HO ⊢
   clear hown hb hT
   go_wp2
   go_ret
   exact ⟨g,cp,rfl,HO.out,HB.out⟩
set_option maxRecDepth 100000 in
theorem indexB_any (a:Option Addr) (cap:Nat) (l:List Bool) (w:World) (hl:BoolsAt w a l) (hn:l.length≤512) :
 Calls Tryz.prog 87 #[.slice a l.length cap,.bool true] w fun e w' =>(∃ i:Int,e=.returned (.int .i64 i)∧(0≤i↔l.any id=true))∧w' =w:=by
 have HL:=hide hl
 clear hl
 go_enter Tryz.func87,Tryz.ntmps87
 go_wp2_with fail
 go_loopw [8] (fun i wr=>∃ k:Nat,k≤l.length∧i=.int .i64 k∧(∀ j,j<k→bat l j=false)∧wr=w) (fun i _=>l.length-(intOf i).toNat)
 case atStart=>exact ⟨0,Nat.zero_le _,rfl,fun j hj=>absurd hj (by omega),rfl⟩
 case round =>
  obtain ⟨k,hk,rfl,hall,rfl⟩:=hrel
  by_cases hlt:k<l.length
  ·obtain ⟨b3,o3,rfl,l3,v3⟩:=bools_cell HL.out (k:=k) hlt
   have hki:(k:Int)<(l.length:Int):=by omega
   have HA:=hide hall
   have HLT:=hide hlt
   clear hall
   cases hq:bat l k
   ·rw [hq] at v3
    have HQ:=hide hq
    clear hq
    go_wp2_with fail
    go_roundw
    case rel=>exact ⟨k+1,by omega,by go_num,fun j hj=>by
     by_cases e:j=k
     ·subst e;exact HQ.out
     ·exact HA.out j (by omega),trivial⟩
    case measure=>simp [intOf];omega
   ·rw [hq] at v3
    have HQ:=hide hq
    clear hq
    go_wp2
    go_ret
    refine ⟨⟨k,rfl,?_⟩,rfl⟩
    refine ⟨fun _=>?_,fun _=>by omega⟩
    rw [List.any_eq_true]
    have h1:=HLT.out
    refine ⟨true,?_,rfl⟩
    have:=HQ.out
    rw [bat,List.getD_eq_getElem?_getD,List.getElem?_eq_getElem h1,Option.getD_some] at this
    rw [← this];exact List.getElem_mem h1
  ·have ek:k=l.length:=by omega
   subst ek
   have HA:=hide hall
   clear hall
   go_wp2
   go_ret
   refine ⟨⟨-1,rfl,?_⟩,rfl⟩
   refine ⟨fun h=>absurd h (by omega),fun h=>?_⟩
   rw [List.any_eq_true] at h
   obtain ⟨x,hx,h2⟩:=h
   obtain ⟨i,hi,rfl⟩:=List.getElem_of_mem hx
   have:=HA.out i hi
   rw [bat,List.getD_eq_getElem?_getD,List.getElem?_eq_getElem hi,Option.getD_some] at this
   rw [this] at h2
   cases h2
theorem containsB_any (a:Option Addr) (cap:Nat) (l:List Bool) (w:World) (hl:BoolsAt w a l) (hn:l.length≤512) :
 Calls Tryz.prog 58 #[.slice a l.length cap,.bool true] w fun e w' =>e=.returned (.bool (l.any id))∧w' =w:=by
 have HI:=hide (indexB_any a cap l w hl hn)
 clear hl
 go_enter Tryz.func58,Tryz.ntmps58
 go_wp2_with fail
 refine HI.out.mono ?_
 rintro e w1 ⟨⟨i,rfl,hi⟩,rfl⟩
 by_cases h0:0≤i
 ·have HX:=hide (hi.1 h0)
  clear hi
  go_wp2
  go_ret
  exact ⟨ret_bool HX.out.symm,rfl⟩
 ·have:l.any id=false:=by
   cases h:l.any id
   ·rfl
   ·exact absurd (hi.2 h) h0
  have HX:=hide this
  clear hi this
  go_wp2
  go_ret
  exact ⟨ret_bool (by rw [HX.out];simpa using h0),rfl⟩
set_option maxRecDepth 100000 in
theorem fits_yes (r:Int) (b off cap:Nat) (ns:List Nd) (t:Tm) (pa ta:Option Addr) (pc tc:Nat) (put tak:List Bool) (w:World) (hN:NodesAt w b off ns) (hl:ns.length≤256) (hto:3≤t.op∧t.op≤8) (e1:put.length=ns.length) (e2:tak.length=ns.length) (ht:BoolsAt w ta tak) (hT:TakeOk ns t tak) :
 Calls Tryz.prog 88 #[.agg #[.int .i64 r,.slice (some ⟨b,off,none⟩) ns.length cap],.agg #[.int .i64 t.op,.int .i64 t.a,.int .i64 t.b],.agg #[.slice pa put.length pc,.slice ta tak.length tc]] w fun e w' =>e=.returned (.bool true)∧Below w.heap.size w w' :=by
 rw [e1,e2]
 have HE2:=hide e2
 have HN:=hide hN
 have HTK:=hide ht
 have HTT:=hide hT
 have HTO:=hide hto
 clear e1 e2 hN ht hT hto
 have hbA:Below w.heap.size w (((w.alloc (.cells #[.int .i64 r,.slice (some ⟨b,off,none⟩) ns.length cap] 24)).alloc (.cells #[.int .i64 t.op,.int .i64 t.a,.int .i64 t.b] 26)).alloc (.cells #[.slice pa ns.length pc,.slice ta ns.length tc] 29)):=((((Below.refl _ w).alloc (Nat.le_refl _) _).alloc (by simp) _).alloc (by simp;omega) _)
 have p0:(((w.alloc (.cells #[.int .i64 r,.slice (some ⟨b,off,none⟩) ns.length cap] 24)).alloc (.cells #[.int .i64 t.op,.int .i64 t.a,.int .i64 t.b] 26)).alloc (.cells #[.slice pa ns.length pc,.slice ta ns.length tc] 29)).heap[w.heap.size]?=some (.cells #[.int .i64 r,.slice (some ⟨b,off,none⟩) ns.length cap] 24 (0,0)):=by
  have:=World.alloc_heap_new w (.cells #[.int .i64 r,.slice (some ⟨b,off,none⟩) ns.length cap] 24)
  exact ((Below.heap_alloc _ _ _ (by simp;try omega)).trans (((Below.heap_alloc _ _ _ (by simp;try omega)).trans (this))))
 have p1:(((w.alloc (.cells #[.int .i64 r,.slice (some ⟨b,off,none⟩) ns.length cap] 24)).alloc (.cells #[.int .i64 t.op,.int .i64 t.a,.int .i64 t.b] 26)).alloc (.cells #[.slice pa ns.length pc,.slice ta ns.length tc] 29)).heap[w.heap.size+1]?=some (.cells #[.int .i64 t.op,.int .i64 t.a,.int .i64 t.b] 26 (0,0)):=by
  have:=World.alloc_heap_new (w.alloc (.cells #[.int .i64 r,.slice (some ⟨b,off,none⟩) ns.length cap] 24)) (.cells #[.int .i64 t.op,.int .i64 t.a,.int .i64 t.b] 26)
  simp only [World.size_alloc] at this
  exact ((Below.heap_alloc _ _ _ (by simp;try omega)).trans (this))
 have p2:(((w.alloc (.cells #[.int .i64 r,.slice (some ⟨b,off,none⟩) ns.length cap] 24)).alloc (.cells #[.int .i64 t.op,.int .i64 t.a,.int .i64 t.b] 26)).alloc (.cells #[.slice pa ns.length pc,.slice ta ns.length tc] 29)).heap[w.heap.size+2]?=some (.cells #[.slice pa ns.length pc,.slice ta ns.length tc] 29 (0,0)):=by
  have:=World.alloc_heap_new ((w.alloc (.cells #[.int .i64 r,.slice (some ⟨b,off,none⟩) ns.length cap] 24)).alloc (.cells #[.int .i64 t.op,.int .i64 t.a,.int .i64 t.b] 26)) (.cells #[.slice pa ns.length pc,.slice ta ns.length tc] 29)
  simp only [World.size_alloc] at this
  exact this
 go_enter Tryz.func88,Tryz.ntmps88
 go_upto_region 1 with fail
 generalize (((w.alloc (.cells #[.int .i64 r,.slice (some ⟨b,off,none⟩) ns.length cap] 24)).alloc (.cells #[.int .i64 t.op,.int .i64 t.a,.int .i64 t.b] 26)).alloc (.cells #[.slice pa ns.length pc,.slice ta ns.length tc] 29))=W at hbA p0 p1 p2 ⊢
 try rw [show w.heap.size+1+1=w.heap.size+2 from rfl]
 have q0:=blk_cell p0 0
 have q1:=blk_cell p0 1
 simp at q0 q1
 have y0:=blk_cell p2 0
 have y1:=blk_cell p2 1
 simp at y0 y1
 have pl:=blk_lt p0
 have yl:=blk_lt p2
 have HB:=hide hbA
 have HP:=hide p0
 have HQ:=hide p1
 clear hbA p0 p1 p2
 go_upto_region 4 with fail
 clear q0 q1 y0 y1 pl yl
 go_loopw [28] (fun i wr=>∃ k:Nat,k≤ns.length∧i=.int .i64 k∧Below W.heap.size W wr) (fun i _=>ns.length-(intOf i).toNat)
 case atStart=>exact ⟨0,Nat.zero_le _,rfl,Below.refl _ _⟩
 case round =>
  obtain ⟨k,hk,rfl,hb⟩:=hrel
  have hBw:=HB.out.trans (hb.mono HB.out.size)
  have hsz:=hBw.size
  by_cases hlt:k<ns.length
  ·have hx:=get_nd hlt
   have hki:(k:Int)<(ns.length:Int):=by omega
   obtain ⟨b3,o3,rfl,l3,v3⟩:=bools_cell (HTK.out.below hBw) (k:=k) (by rw [HE2.out];exact hlt)
   have HS:Hid (∀ u:World,Below wr.heap.size wr u→u.cell? ⟨w.heap.size,0,none⟩=some (.int .i64 r)∧u.cell? ⟨w.heap.size,1,none⟩=some (.slice (some ⟨b,off,none⟩) ns.length cap)∧u.cell? ⟨w.heap.size+1,0,none⟩=some (.int .i64 t.op)∧u.cell? ⟨w.heap.size+1,1,none⟩=some (.int .i64 t.a)∧u.cell? ⟨w.heap.size+1,2,none⟩=some (.int .i64 t.b)∧u.cell? ⟨b,off+k*6,none⟩=some (.int .i64 (nd ns k).op)∧u.cell? ⟨b,off+k*6+1,none⟩=some (.int .i64 (nd ns k).d)∧u.cell? ⟨b,off+k*6+2,none⟩=some (.int .i64 (nd ns k).a)∧u.cell? ⟨b,off+k*6+3,none⟩=some (.int .i64 (nd ns k).b)∧u.cell? ⟨b,off+k*6+4,none⟩=some (.int .i64 (nd ns k).t)∧u.cell? ⟨b,off+k*6+5,none⟩=some (.int .i64 (nd ns k).e)):=fun u h=>by
    have h' :=hb.trans (h.mono hb.size)
    have k1:=(h'.block _ (blk_lt HP.out)).trans HP.out
    have k2:=(h'.block _ (blk_lt HQ.out)).trans HQ.out
    have k3:=HN.out.below (HB.out.trans (h'.mono HB.out.size)) HN.out.lt
    refine ⟨?_,?_,?_,?_,?_,k3.c0 k _ hx,k3.c1 k _ hx,k3.c2 k _ hx,k3.c3 k _ hx,k3.c4 k _ hx,k3.c5 k _ hx⟩
    ·rw [blk_cell k1];rfl
    ·rw [blk_cell k1];rfl
    ·rw [blk_cell k2];rfl
    ·rw [blk_cell k2];rfl
    ·rw [blk_cell k2];rfl
   have HR:Hid (bat tak k=true→rcB t (nd ns k)=true):=fun h=>HTT.out k hlt h
   have bl:=Nat.lt_of_lt_of_le HN.out.lt hsz
   have wl:w.heap.size<wr.heap.size:=Nat.lt_of_lt_of_le (blk_lt HP.out) hb.size
   have wl1:w.heap.size+1<wr.heap.size:=Nat.lt_of_lt_of_le (blk_lt HQ.out) hb.size
   have HBR:=hide hb
   clear hx hb hBw
   generalize bat tak k=Q at v3 HR
   cases Q
   ·clear HR
    go_upto_region 6 with fail
    refine wp_region_held_drew (S:=(fun u=>u.cell? ⟨w.heap.size,0,none⟩=some (.int .i64 r)∧u.cell? ⟨w.heap.size,1,none⟩=some (.slice (some ⟨b,off,none⟩) ns.length cap)∧u.cell? ⟨w.heap.size+1,0,none⟩=some (.int .i64 t.op)∧u.cell? ⟨w.heap.size+1,1,none⟩=some (.int .i64 t.a)∧u.cell? ⟨w.heap.size+1,2,none⟩=some (.int .i64 t.b)∧u.cell? ⟨b,off+k*6,none⟩=some (.int .i64 (nd ns k).op)∧u.cell? ⟨b,off+k*6+1,none⟩=some (.int .i64 (nd ns k).d)∧u.cell? ⟨b,off+k*6+2,none⟩=some (.int .i64 (nd ns k).a)∧u.cell? ⟨b,off+k*6+3,none⟩=some (.int .i64 (nd ns k).b)∧u.cell? ⟨b,off+k*6+4,none⟩=some (.int .i64 (nd ns k).t)∧u.cell? ⟨b,off+k*6+5,none⟩=some (.int .i64 (nd ns k).e))) (by as_aux_lemma=>kernel_rfl) (by (try dsimp only);first | (with_reducible exact HS.out _ hB2) | exact HS.out _ (Below.refl _ wr).drew | exact HS.out _ (Below.refl _ wr)) (fun hHeld=>?_)
    refine tky 0 ⟨some 33,.move (.tmp 8),4, "move.go:127", #[],none⟩ (v:=?_) ?_ ?_
    rotate_left 1
    ·intro w hSw;(try dsimp only at hSw);go_simp;all_goals with_reducible rfl
    (try simp only [Act.put,PM1,PM2,PM3])
    refine tky 1 ⟨some 34,.move (.tmp 33),4, "move.go:127", #[⟨0,.data⟩],none⟩ (v:=?_) ?_ ?_
    rotate_left 1
    ·intro w hSw;(try dsimp only at hSw);go_simp;all_goals with_reducible rfl
    (try simp only [Act.put,PM1,PM2,PM3])
    refine tkn 2 ⟨some 35,.fieldAddr 24 (.tmp 3) 1,0, "move.go:127", #[⟨1,.guard⟩],some (1,true)⟩ ?_
    (try simp only [Act.put,PM1,PM2,PM3])
    refine tkn 3 ⟨some 36,.load 22 (.tmp 35),22, "move.go:127", #[⟨2,.data⟩,⟨1,.guard⟩],some (1,true)⟩ ?_
    (try simp only [Act.put,PM1,PM2,PM3])
    refine tkn 4 ⟨some 37,.move (.tmp 7),3, "move.go:127", #[⟨1,.guard⟩],some (1,true)⟩ ?_
    (try simp only [Act.put,PM1,PM2,PM3])
    refine tkn 5 ⟨some 38,.indexAddr 22 (.tmp 36) (.tmp 37),0, "move.go:127", #[⟨3,.data⟩,⟨4,.data⟩,⟨1,.guard⟩],some (1,true)⟩ ?_
    (try simp only [Act.put,PM1,PM2,PM3])
    refine tkn 6 ⟨some 39,.load 47 (.tmp 38),47, "move.go:127", #[⟨5,.data⟩,⟨1,.guard⟩],some (1,true)⟩ ?_
    (try simp only [Act.put,PM1,PM2,PM3])
    refine tkn 7 ⟨some 40,.load 26 (.tmp 4),26, "move.go:127", #[⟨1,.guard⟩],some (1,true)⟩ ?_
    (try simp only [Act.put,PM1,PM2,PM3])
    refine tkn 8 ⟨some 41,.call { callee:=.value (.func 16),args:=#[.tmp 39,.tmp 40],argTypes:=#[47,26] },4, "move.go:127", #[⟨6,.data⟩,⟨7,.data⟩,⟨1,.chain⟩,⟨1,.guard⟩],some (1,true)⟩ ?_
    (try simp only [Act.put,PM1,PM2,PM3])
    refine tkn 9 ⟨some 42,.unOp Go.UnOp.not 4 (.tmp 41),4, "move.go:127", #[⟨8,.data⟩,⟨1,.guard⟩],some (1,true)⟩ ?_
    (try simp only [Act.put,PM1,PM2,PM3])
    refine tky 10 ⟨some 43,.pick (.tmp 34) (.tmp 42) (.const (Go.Value.bool false)),4, "move.go:127", #[⟨1,.data⟩,⟨9,.data⟩],none⟩ (v:=?_) ?_ ?_
    rotate_left 1
    ·intro w hSw;(try dsimp only at hSw);go_simp;all_goals with_reducible rfl
    (try simp only [Act.put,PM1,PM2,PM3])
    refine wpAnyH_done (by as_aux_lemma=>kernel_rfl) ?_ _
    go_wp2_with fail
    go_roundw
    case rel=>exact ⟨k+1,by omega,by go_num,HBR.out.drew⟩
    case measure=>simp [intOf];omega
   ·have hr:=HR.out rfl
    have HRC:=hide hr
    clear HR hr
    go_upto_region 6 with fail
    go_region_held3 (fun u=>u.cell? ⟨w.heap.size,0,none⟩=some (.int .i64 r)∧u.cell? ⟨w.heap.size,1,none⟩=some (.slice (some ⟨b,off,none⟩) ns.length cap)∧u.cell? ⟨w.heap.size+1,0,none⟩=some (.int .i64 t.op)∧u.cell? ⟨w.heap.size+1,1,none⟩=some (.int .i64 t.a)∧u.cell? ⟨w.heap.size+1,2,none⟩=some (.int .i64 t.b)∧u.cell? ⟨b,off+k*6,none⟩=some (.int .i64 (nd ns k).op)∧u.cell? ⟨b,off+k*6+1,none⟩=some (.int .i64 (nd ns k).d)∧u.cell? ⟨b,off+k*6+2,none⟩=some (.int .i64 (nd ns k).a)∧u.cell? ⟨b,off+k*6+3,none⟩=some (.int .i64 (nd ns k).b)∧u.cell? ⟨b,off+k*6+4,none⟩=some (.int .i64 (nd ns k).t)∧u.cell? ⟨b,off+k*6+5,none⟩=some (.int .i64 (nd ns k).e)) (with_reducible refine HS.out _ ?_;first | with_reducible exact hB2 | with_reducible exact (Below.refl _ wr).drew | with_reducible exact (Below.refl _ wr)) (first
     | (go_at_call 16;refine (sreckons_any (nd ns k) t _ HTO.out).mono ?_;rintro e wa ⟨rfl,hba⟩;have hB2:Below wr.heap.size wr wa:=(by first | exact (Below.refl _ wr).drew.trans hba | exact hba);rw [HRC.out]))
    go_wp2_with fail
    go_roundw
    case rel=>exact ⟨k+1,by omega,by go_num,HBR.out.trans (hB2.mono HBR.out.size)⟩
    case measure=>simp [intOf];omega
  ·have ek:k=ns.length:=by omega
   subst ek
   have HBW:=hide hBw
   clear hb hBw
   go_wp2
   go_ret
   exact ⟨rfl,HBW.out⟩
set_option maxRecDepth 100000 in
theorem apply_wrong (r:Int) (a:Option Addr) (cap:Nat) (ns:List Nd) (t:Tm) (pa ta:Option Addr) (k pc m tc:Nat) (w:World) (hN:SlN w a ns) (hc:tchk r ns t≠0) :
 Calls Tryz.prog 60 #[.agg #[.int .i64 r,.slice a ns.length cap],.agg #[.int .i64 t.op,.int .i64 t.a,.int .i64 t.b],.agg #[.slice pa k pc,.slice ta m tc]] w fun e w' =>e=.returned (.tuple #[.agg #[.int .i64 0,.slice none 0 0],.int .i64 (tchk r ns t)])∧Below w.heap.size w w' :=by
 have HOF:=hide (fun W (h:Below w.heap.size w W)=>of_wrong r a cap ns t W (hN.below h) hc)
 have hCb:(tchk r ns t==0)=false:=by simp [hc]
 have hCn:(tchk r ns t != 0)=true:=by simp [hc]
 clear hc hN
 generalize tchk r ns t=C at *
 have hbA:Below w.heap.size w ((((w.alloc (.cells #[.int .i64 r,.slice a ns.length cap] 24)).alloc (.cells #[.int .i64 t.op,.int .i64 t.a,.int .i64 t.b] 26)).alloc (.cells #[.slice pa k pc,.slice ta m tc] 29)).alloc (.cells #[.int .i64 0,.slice none 0 0] 24)):=(((((Below.refl _ w).alloc (Nat.le_refl _) _).alloc (by simp) _).alloc (by simp;omega) _).alloc (by simp;omega) _)
 have p0:((((w.alloc (.cells #[.int .i64 r,.slice a ns.length cap] 24)).alloc (.cells #[.int .i64 t.op,.int .i64 t.a,.int .i64 t.b] 26)).alloc (.cells #[.slice pa k pc,.slice ta m tc] 29)).alloc (.cells #[.int .i64 0,.slice none 0 0] 24)).heap[w.heap.size]?=some (.cells #[.int .i64 r,.slice a ns.length cap] 24 (0,0)):=by
  have:=World.alloc_heap_new w (.cells #[.int .i64 r,.slice a ns.length cap] 24)
  exact ((Below.heap_alloc _ _ _ (by simp;try omega)).trans (((Below.heap_alloc _ _ _ (by simp;try omega)).trans (((Below.heap_alloc _ _ _ (by simp;try omega)).trans (this))))))
 have p1:((((w.alloc (.cells #[.int .i64 r,.slice a ns.length cap] 24)).alloc (.cells #[.int .i64 t.op,.int .i64 t.a,.int .i64 t.b] 26)).alloc (.cells #[.slice pa k pc,.slice ta m tc] 29)).alloc (.cells #[.int .i64 0,.slice none 0 0] 24)).heap[w.heap.size+1]?=some (.cells #[.int .i64 t.op,.int .i64 t.a,.int .i64 t.b] 26 (0,0)):=by
  have:=World.alloc_heap_new (w.alloc (.cells #[.int .i64 r,.slice a ns.length cap] 24)) (.cells #[.int .i64 t.op,.int .i64 t.a,.int .i64 t.b] 26)
  simp only [World.size_alloc] at this
  exact ((Below.heap_alloc _ _ _ (by simp;try omega)).trans (((Below.heap_alloc _ _ _ (by simp;try omega)).trans (this))))
 have p2:((((w.alloc (.cells #[.int .i64 r,.slice a ns.length cap] 24)).alloc (.cells #[.int .i64 t.op,.int .i64 t.a,.int .i64 t.b] 26)).alloc (.cells #[.slice pa k pc,.slice ta m tc] 29)).alloc (.cells #[.int .i64 0,.slice none 0 0] 24)).heap[w.heap.size+2]?=some (.cells #[.slice pa k pc,.slice ta m tc] 29 (0,0)):=by
  have:=World.alloc_heap_new ((w.alloc (.cells #[.int .i64 r,.slice a ns.length cap] 24)).alloc (.cells #[.int .i64 t.op,.int .i64 t.a,.int .i64 t.b] 26)) (.cells #[.slice pa k pc,.slice ta m tc] 29)
  simp only [World.size_alloc] at this
  exact ((Below.heap_alloc _ _ _ (by simp;try omega)).trans (this))
 have p3:((((w.alloc (.cells #[.int .i64 r,.slice a ns.length cap] 24)).alloc (.cells #[.int .i64 t.op,.int .i64 t.a,.int .i64 t.b] 26)).alloc (.cells #[.slice pa k pc,.slice ta m tc] 29)).alloc (.cells #[.int .i64 0,.slice none 0 0] 24)).heap[w.heap.size+3]?=some (.cells #[.int .i64 0,.slice none 0 0] 24 (0,0)):=by
  have:=World.alloc_heap_new (((w.alloc (.cells #[.int .i64 r,.slice a ns.length cap] 24)).alloc (.cells #[.int .i64 t.op,.int .i64 t.a,.int .i64 t.b] 26)).alloc (.cells #[.slice pa k pc,.slice ta m tc] 29)) (.cells #[.int .i64 0,.slice none 0 0] 24)
  simp only [World.size_alloc] at this
  exact this
 go_enter Tryz.func60,Tryz.ntmps60
 go_upto_region 1 with fail
 generalize ((((w.alloc (.cells #[.int .i64 r,.slice a ns.length cap] 24)).alloc (.cells #[.int .i64 t.op,.int .i64 t.a,.int .i64 t.b] 26)).alloc (.cells #[.slice pa k pc,.slice ta m tc] 29)).alloc (.cells #[.int .i64 0,.slice none 0 0] 24))=W at hbA p0 p1 p2 p3 ⊢
 try rw [show w.heap.size+1+1=w.heap.size+2 from rfl]
 try rw [show w.heap.size+2+1=w.heap.size+3 from rfl]
 have q0:=blk_cell p0 0
 have q1:=blk_cell p0 1
 simp at q0 q1
 have t0:=blk_cell p1 0
 have t1:=blk_cell p1 1
 have t2:=blk_cell p1 2
 simp at t0 t1 t2
 have pl:=blk_lt p0
 have tl:=blk_lt p1
 have HB:=hide hbA
 have HR:=hide p3
 clear hbA p0 p1 p2 p3
 go_wp2_with fail
 refine (HOF.out _ HB.out).mono ?_
 rintro e w1 ⟨rfl,hb1⟩
 have hR:=(hb1.block _ (blk_lt HR.out)).trans HR.out
 have y0:=blk_cell hR 0
 have y1:=blk_cell hR 1
 simp at y0 y1
 have z0:=blk_frozen hR 0
 have z1:=blk_frozen hR 1
 have ylt:=blk_lt hR
 have HR1:=hide hR
 have HB1:=hide (HB.out.trans (hb1.mono HB.out.size))
 clear hR hb1 q0 q1 t0 t1 t2 pl tl HB HR HOF
 go_wp2
 have hk0:=blk_set2 (v0:=.int .i64 0) (v1:=.slice none 0 0) HR1.out
 have hB5:=below_set2 (v0:=.int .i64 0) (v1:=.slice none 0 0) HB1.out (B:=w.heap.size+3) (by omega)
 have hk:=(Below.heap_alloc _ (.cells #[.slice none 0 0,.slice none 0 0,.slice none 0 0,.slice none 0 0,.slice none 0 0,.slice none 0 0] 41) _ (blk_lt hk0)).trans hk0
 have k0:=blk_cell hk 0
 have k1:=blk_cell hk 1
 simp at k0 k1
 exact bodyPost_ret (v:=.tuple #[.agg #[.int .i64 0,.slice none 0 0],.int .i64 C]) (by simp [results,Tryz.results60,go_sem,k0,k1]) rfl ⟨rfl,hB5.alloc hB5.size _⟩
set_option maxRecDepth 100000 in
theorem apply_right (r:Int) (b off cap:Nat) (ns:List Nd) (t:Tm) (pa ta:Option Addr) (pc tc:Nat) (put tak:List Bool) (w:World) (hN:NodesAt w b off ns) (hc:tchk r ns t=0) (e1:put.length=ns.length) (e2:tak.length=ns.length) (hp:BoolsAt w pa put) (ht:BoolsAt w ta tak) (hTk:TakeOk ns t tak) :
 Calls Tryz.prog 60 #[.agg #[.int .i64 r,.slice (some ⟨b,off,none⟩) ns.length cap],.agg #[.int .i64 t.op,.int .i64 t.a,.int .i64 t.b],.agg #[.slice pa ns.length pc,.slice ta ns.length tc]] w fun e w' =>((256<(apN ns t put tak r).length∨63<r)∧e=.returned (.tuple #[.agg #[.int .i64 0,.slice none 0 0],.int .i64 2])∨((apN ns t put tak r).length≤256∧r≤63)∧∃ gb gc,e=.returned (.tuple #[.agg #[.int .i64 (r+1),.slice (some ⟨gb,0,none⟩) (apN ns t put tak r).length gc],.int .i64 0])∧w'.ownsRow w.heap.size 47 6 (.slice (some ⟨gb,0,none⟩) (apN ns t put tak r).length gc) (apN ns t put tak r).length ((apN ns t put tak r).flatMap encNd))∧Below w.heap.size w w' :=by
 obtain ⟨hcr,hto,_⟩:=tchk_zero hc
 have hl:=(chk_full hcr).1
 have hrb:0≤r∧r≤64:=by have:=chk_full hcr;omega
 have HFT:=hide (fun W (h:Below w.heap.size w W)=>fits_yes r b off cap ns t pa ta pc tc put tak W (hN.below h hN.lt) (by omega) hto e1 e2 (ht.below h) hTk)
 rw [e1,e2] at HFT
 have HWT:=hide (fun W (h:Below w.heap.size w W)=>withTaken_any b off cap ns ta tc tak r W (hN.below h hN.lt) (by omega) (ht.below h) e2)
 have HWP:=hide (fun (U:World) (hU:Below w.heap.size w U) (g0 cap0:Nat) (W:World) (h:Below U.heap.size U W) (hO:W.ownsRow U.heap.size 47 6 (.slice (some ⟨g0,0,none⟩) ns.length cap0) ns.length (((List.range ns.length).map (tkN ns tak r)).flatMap encNd))=>withPut_any g0 cap0 ns pa pc put tak t r U W h hO (by omega) (hp.below hU) e1)
 have HAL:Hid ((apN ns t put tak r).length≤512):=by have h1:=apTo_len ns t put tak r ns.length;have h2:=keptI_len put ns.length;rw [Hid,apN,h1];omega
 have HOF:=hide (fun W (h:Below w.heap.size w W)=>of_right r b off cap ns t W (hN.below h hN.lt) hc)
 have hbA:Below w.heap.size w ((((w.alloc (.cells #[.int .i64 r,.slice (some ⟨b,off,none⟩) ns.length cap] 24)).alloc (.cells #[.int .i64 t.op,.int .i64 t.a,.int .i64 t.b] 26)).alloc (.cells #[.slice pa ns.length pc,.slice ta ns.length tc] 29)).alloc (.cells #[.int .i64 0,.slice none 0 0] 24)):=(((((Below.refl _ w).alloc (Nat.le_refl _) _).alloc (by simp) _).alloc (by simp;omega) _).alloc (by simp;omega) _)
 have p0:((((w.alloc (.cells #[.int .i64 r,.slice (some ⟨b,off,none⟩) ns.length cap] 24)).alloc (.cells #[.int .i64 t.op,.int .i64 t.a,.int .i64 t.b] 26)).alloc (.cells #[.slice pa ns.length pc,.slice ta ns.length tc] 29)).alloc (.cells #[.int .i64 0,.slice none 0 0] 24)).heap[w.heap.size]?=some (.cells #[.int .i64 r,.slice (some ⟨b,off,none⟩) ns.length cap] 24 (0,0)):=by
  have:=World.alloc_heap_new w (.cells #[.int .i64 r,.slice (some ⟨b,off,none⟩) ns.length cap] 24)
  exact ((Below.heap_alloc _ _ _ (by simp;try omega)).trans (((Below.heap_alloc _ _ _ (by simp;try omega)).trans (((Below.heap_alloc _ _ _ (by simp;try omega)).trans (this))))))
 have p1:((((w.alloc (.cells #[.int .i64 r,.slice (some ⟨b,off,none⟩) ns.length cap] 24)).alloc (.cells #[.int .i64 t.op,.int .i64 t.a,.int .i64 t.b] 26)).alloc (.cells #[.slice pa ns.length pc,.slice ta ns.length tc] 29)).alloc (.cells #[.int .i64 0,.slice none 0 0] 24)).heap[w.heap.size+1]?=some (.cells #[.int .i64 t.op,.int .i64 t.a,.int .i64 t.b] 26 (0,0)):=by
  have:=World.alloc_heap_new (w.alloc (.cells #[.int .i64 r,.slice (some ⟨b,off,none⟩) ns.length cap] 24)) (.cells #[.int .i64 t.op,.int .i64 t.a,.int .i64 t.b] 26)
  simp only [World.size_alloc] at this
  exact ((Below.heap_alloc _ _ _ (by simp;try omega)).trans (((Below.heap_alloc _ _ _ (by simp;try omega)).trans (this))))
 have p2:((((w.alloc (.cells #[.int .i64 r,.slice (some ⟨b,off,none⟩) ns.length cap] 24)).alloc (.cells #[.int .i64 t.op,.int .i64 t.a,.int .i64 t.b] 26)).alloc (.cells #[.slice pa ns.length pc,.slice ta ns.length tc] 29)).alloc (.cells #[.int .i64 0,.slice none 0 0] 24)).heap[w.heap.size+2]?=some (.cells #[.slice pa ns.length pc,.slice ta ns.length tc] 29 (0,0)):=by
  have:=World.alloc_heap_new ((w.alloc (.cells #[.int .i64 r,.slice (some ⟨b,off,none⟩) ns.length cap] 24)).alloc (.cells #[.int .i64 t.op,.int .i64 t.a,.int .i64 t.b] 26)) (.cells #[.slice pa ns.length pc,.slice ta ns.length tc] 29)
  simp only [World.size_alloc] at this
  exact ((Below.heap_alloc _ _ _ (by simp;try omega)).trans (this))
 have p3:((((w.alloc (.cells #[.int .i64 r,.slice (some ⟨b,off,none⟩) ns.length cap] 24)).alloc (.cells #[.int .i64 t.op,.int .i64 t.a,.int .i64 t.b] 26)).alloc (.cells #[.slice pa ns.length pc,.slice ta ns.length tc] 29)).alloc (.cells #[.int .i64 0,.slice none 0 0] 24)).heap[w.heap.size+3]?=some (.cells #[.int .i64 0,.slice none 0 0] 24 (0,0)):=by
  have:=World.alloc_heap_new (((w.alloc (.cells #[.int .i64 r,.slice (some ⟨b,off,none⟩) ns.length cap] 24)).alloc (.cells #[.int .i64 t.op,.int .i64 t.a,.int .i64 t.b] 26)).alloc (.cells #[.slice pa ns.length pc,.slice ta ns.length tc] 29)) (.cells #[.int .i64 0,.slice none 0 0] 24)
  simp only [World.size_alloc] at this
  exact this
 go_enter Tryz.func60,Tryz.ntmps60
 go_upto_region 1 with fail
 generalize ((((w.alloc (.cells #[.int .i64 r,.slice (some ⟨b,off,none⟩) ns.length cap] 24)).alloc (.cells #[.int .i64 t.op,.int .i64 t.a,.int .i64 t.b] 26)).alloc (.cells #[.slice pa ns.length pc,.slice ta ns.length tc] 29)).alloc (.cells #[.int .i64 0,.slice none 0 0] 24))=W at hbA p0 p1 p2 p3 ⊢
 try rw [show w.heap.size+1+1=w.heap.size+2 from rfl]
 try rw [show w.heap.size+2+1=w.heap.size+3 from rfl]
 have q0:=blk_cell p0 0
 have q1:=blk_cell p0 1
 simp at q0 q1
 have t0:=blk_cell p1 0
 have t1:=blk_cell p1 1
 have t2:=blk_cell p1 2
 simp at t0 t1 t2
 have pl:=blk_lt p0
 have tl:=blk_lt p1
 have HB:=hide hbA
 have HP:=hide p0
 have HT:=hide p1
 have HU:=hide p2
 have HR:=hide p3
 clear hbA p0 p1 p2 p3
 go_wp2_with fail
 refine (HOF.out _ HB.out).mono ?_
 rintro e w1 ⟨a0,a1,a2,a3,a4,a5,c0,c1,c2,c3,c4,c5,rfl,_,hb1⟩
 have hbF:Below w1.heap.size w1 (w1.alloc (.cells #[.slice a0 ns.length c0,.slice a1 ns.length c1,.slice a2 ns.length c2,.slice a3 ns.length c3,.slice a4 ns.length c4,.slice a5 ns.length c5] 41)):=(Below.refl _ w1).alloc (Nat.le_refl _) _
 have HBW:=hide (hb1.trans (hbF.mono hb1.size))
 have HB2:=hide (HB.out.trans (HBW.out.mono HB.out.size))
 have hP:=(HBW.out.block _ pl).trans HP.out
 have hT:=(HBW.out.block _ tl).trans HT.out
 have hU:=(HBW.out.block _ (blk_lt HU.out)).trans HU.out
 have hR:=(HBW.out.block _ (blk_lt HR.out)).trans HR.out
 clear hb1 q0 q1 t0 t1 t2 pl tl HB HR HP HT HU HOF HBW
 go_upto_region 4 with fail
 generalize (w1.alloc (.cells #[.slice a0 ns.length c0,.slice a1 ns.length c1,.slice a2 ns.length c2,.slice a3 ns.length c3,.slice a4 ns.length c4,.slice a5 ns.length c5] 41))=V at hbF HB2 hP hT hU hR ⊢
 generalize w1.heap.size=FB at *
 clear hbF
 have q0:=blk_cell hP 0
 have q1:=blk_cell hP 1
 simp at q0 q1
 have t0:=blk_cell hT 0
 have t1:=blk_cell hT 1
 have t2:=blk_cell hT 2
 simp at t0 t1 t2
 have u0:=blk_cell hU 0
 have u1:=blk_cell hU 1
 simp at u0 u1
 have pl:=blk_lt hP
 have tl:=blk_lt hT
 have ul:=blk_lt hU
 have HP:=hide hP
 have HT:=hide hT
 have HU:=hide hU
 have HR:=hide hR
 clear hP hT hU hR
 clear hp ht hTk e1 e2 hto hcr hc hN
 go_wp2_with fail
 refine (HFT.out _ HB2.out).mono ?_
 rintro e w2 ⟨rfl,hb2⟩
 have hP:=(hb2.block _ pl).trans HP.out
 have hT:=(hb2.block _ tl).trans HT.out
 have hU:=(hb2.block _ ul).trans HU.out
 have HR2:=hide ((hb2.block _ (blk_lt HR.out)).trans HR.out)
 have HB3:=hide (HB2.out.trans (hb2.mono HB2.out.size))
 clear q0 q1 t0 t1 t2 u0 u1 pl tl ul HP HT HU HR HB2 hb2 HFT
 have q0:=blk_cell hP 0
 have q1:=blk_cell hP 1
 simp at q0 q1
 have pl:=blk_lt hP
 go_upto_region 7 with fail
 have tl:=blk_lt hT
 have ul:=blk_lt hU
 have HH:Hid (∀ u:World,Below w2.heap.size w2 u→u.cell? ⟨w.heap.size,0,none⟩=some (.int .i64 r)∧u.cell? ⟨w.heap.size,1,none⟩=some (.slice (some ⟨b,off,none⟩) ns.length cap)∧u.cell? ⟨w.heap.size+1,0,none⟩=some (.int .i64 t.op)∧u.cell? ⟨w.heap.size+1,1,none⟩=some (.int .i64 t.a)∧u.cell? ⟨w.heap.size+1,2,none⟩=some (.int .i64 t.b)∧u.cell? ⟨w.heap.size+2,0,none⟩=some (.slice pa ns.length pc)∧u.cell? ⟨w.heap.size+2,1,none⟩=some (.slice ta ns.length tc)):=fun u h=>by
  have k1:=(h.block _ pl).trans hP
  have k2:=(h.block _ tl).trans hT
  have k3:=(h.block _ ul).trans hU
  refine ⟨?_,?_,?_,?_,?_,?_,?_⟩
  ·rw [blk_cell k1];rfl
  ·rw [blk_cell k1];rfl
  ·rw [blk_cell k2];rfl
  ·rw [blk_cell k2];rfl
  ·rw [blk_cell k2];rfl
  ·rw [blk_cell k3];rfl
  ·rw [blk_cell k3];rfl
 clear hP hT hU q0 q1
 go_region_held3 (fun u=>u.cell? ⟨w.heap.size,0,none⟩=some (.int .i64 r)∧u.cell? ⟨w.heap.size,1,none⟩=some (.slice (some ⟨b,off,none⟩) ns.length cap)∧u.cell? ⟨w.heap.size+1,0,none⟩=some (.int .i64 t.op)∧u.cell? ⟨w.heap.size+1,1,none⟩=some (.int .i64 t.a)∧u.cell? ⟨w.heap.size+1,2,none⟩=some (.int .i64 t.b)∧u.cell? ⟨w.heap.size+2,0,none⟩=some (.slice pa ns.length pc)∧u.cell? ⟨w.heap.size+2,1,none⟩=some (.slice ta ns.length tc)) (with_reducible refine HH.out _ ?_;first | with_reducible exact hB5 | with_reducible exact hB4 | with_reducible exact (Below.refl _ w2).drew | with_reducible exact (Below.refl _ w2)) (first
  | (go_at_call 89;refine (HWP.out w2 HB3.out _ _ _ hB4 hV).mono ?_;rintro e w5 ⟨gb,gc,rfl,hV5,hB5⟩)
  | (go_at_call 90;refine (HWT.out _ (by first | exact HB3.out.trans ((Below.refl _ w2).drew.mono HB3.out.size) | exact HB3.out)).mono ?_;rintro e w4 ⟨cb,cc,rfl,hV,hb4⟩;have hB4:Below w2.heap.size w2 w4:=(by first | exact (Below.refl _ w2).drew.trans hb4 | exact hb4)))
 all_goals have hR5:=(hB5.block _ (blk_lt HR2.out)).trans HR2.out
 all_goals have y0:=blk_cell hR5 0
 all_goals have y1:=blk_cell hR5 1
 all_goals simp at y0 y1
 all_goals have z0:=blk_frozen hR5 0
 all_goals have z1:=blk_frozen hR5 1
 all_goals have ylt:=blk_lt hR5
 all_goals have HR5:=hide hR5
 all_goals have HV5:=hide (ownsRow_base hV5 (base' :=w.heap.size) HB3.out.size)
 all_goals have HB5:=hide (HB3.out.trans (hB5.mono HB3.out.size))
 all_goals clear hR5 hV5 hV hb4 hB4 hB5 HH pl tl ul
 all_goals generalize hL:(apN ns t put tak r).length=L at HAL HV5 ⊢
 all_goals have hLi:L≤512:=HAL.out
 all_goals have HL:=hide hL
 all_goals clear hL
 all_goals by_cases h256:256<L
 ·have h256i:(256:Int)<(L:Int):=by omega
  go_wp2
  have hk:=blk_set2 (v0:=.int .i64 0) (v1:=.slice none 0 0) HR5.out
  have k0:=blk_cell hk 0
  have k1:=blk_cell hk 1
  simp at k0 k1
  exact bodyPost_ret (v:=.tuple #[.agg #[.int .i64 0,.slice none 0 0],.int .i64 2]) (by simp [results,Tryz.results60,go_sem,k0,k1]) rfl ⟨Or.inl ⟨Or.inl (by rw [HL.out];exact h256),rfl⟩,below_set2 HB5.out (by omega)⟩
 ·have h256i:¬ (256:Int)<(L:Int):=by omega
  by_cases h64:64<r+1
  ·go_wp2
   have hk:=blk_set2 (v0:=.int .i64 0) (v1:=.slice none 0 0) HR5.out
   have k0:=blk_cell hk 0
   have k1:=blk_cell hk 1
   simp at k0 k1
   exact bodyPost_ret (v:=.tuple #[.agg #[.int .i64 0,.slice none 0 0],.int .i64 2]) (by simp [results,Tryz.results60,go_sem,k0,k1]) rfl ⟨Or.inl ⟨Or.inr (by omega),rfl⟩,below_set2 HB5.out (by omega)⟩
  ·go_wp2
   have hk:=blk_set2 (v0:=.int .i64 (r+1)) (v1:=.slice (some ⟨gb,0,none⟩) L gc) HR5.out
   have k0:=blk_cell hk 0
   have k1:=blk_cell hk 1
   simp at k0 k1
   exact bodyPost_ret (v:=.tuple #[.agg #[.int .i64 (r+1),.slice (some ⟨gb,0,none⟩) L gc],.int .i64 0]) (by simp [results,Tryz.results60,go_sem,k0,k1]) rfl ⟨Or.inr ⟨⟨by rw [HL.out];omega,by omega⟩,gb,gc,by rw [HL.out],by rw [HL.out];exact owns_set (o:=1) (u:=.slice (some ⟨gb,0,none⟩) L gc) (owns_set (o:=0) (u:=.int .i64 (r+1)) HV5.out HR5.out (by decide)) (blk_set (i:=0) (.int .i64 (r+1)) HR5.out) (by decide)⟩,below_set2 HB5.out (by omega)⟩
end Go.Proofs.YtnbdnbcnlgnicaaGreat
namespace Go.Proofs.YtnbdnbcnlgnicaaGreat
def oneQ (ns:List Nd):List Nd:=splitN (trimN ns)
def oneB (ns:List Nd) (t:Tm):Bool:=(lazyPut (oneQ ns) t).any id||(lazyTake (oneQ ns) t).any id
def oneN (ns:List Nd) (t:Tm) (r:Int):List Nd:=if oneB ns t then apN (oneQ ns) t (lazyPut (oneQ ns) t) (lazyTake (oneQ ns) t) r else ns
def oneR (ns:List Nd) (t:Tm) (r:Int):Int:=if oneB ns t then r+1 else r
theorem lazy_takeOk (ns:List Nd) (t:Tm):TakeOk ns t (lazyTake ns t):=fun n hn h=>by
 have ht:bat (lazyTake ns t) n=(bat (rcl ns t) n&&!(bat (lateL ns t) n&&bat (aloneL ns t) n)):=by unfold lazyTake;rw [bat_map _ hn]
 rw [ht,bat_rcl hn] at h
 simp only [Bool.and_eq_true] at h
 exact h.1
end Go.Proofs.YtnbdnbcnlgnicaaGreat
namespace Go.Proofs.YtnbdnbcnlgnicaaGreat
open Go.RowKit Go.Maps Go.ChangeMaps
def twf (t:Tm):Prop:=(Lit.int .i64 t.op).wf=true∧(Lit.int .i64 t.a).wf=true∧(Lit.int .i64 t.b).wf=true
def MapRel (D:DataW Unit) (l:List Ct):Prop :=
 IsMap D∧∀ t:Tm,twf t→∀ z,D.atKey (tkl t) z=match ctOf l t with | some n=>.lit (.int .i64 n) | none=>z
theorem tkl_inj {t u:Tm} (ht:twf t) (hu:twf u) (h:tkl t=tkl u):t=u:=by
 have h1:=tkey t ht.1 ht.2.1 ht.2.2
 have h2:=tkey u hu.1 hu.2.1 hu.2.2
 rw [h] at h1
 have:=tlaw.inj h1 h2
 simp at this
 obtain ⟨t1,t2,t3⟩:=t
 obtain ⟨u1,u2,u3⟩:=u
 simp at this
 simp [this]
theorem MapRel.more {D:DataW Unit} {l:List Ct} (h:MapRel D l) (hs:Srt l) {t:Tm} (ht:twf t) {c:Int} (hc:D.atKey (tkl t) (.lit (.int .i64 0))=.lit (.int .i64 c)):c=(ctOf l t).getD 0∧MapRel (D.put (tkl t) (.lit (.int .i64 (c+1)))) (omore l t):=by
 have h1:=h.2 t ht (.lit (.int .i64 0))
 rw [hc] at h1
 have hcc:c=(ctOf l t).getD 0:=by
  cases hq:ctOf l t with
  | none=>rw [hq] at h1;simpa using (Lit.int.inj (DataW.lit.inj h1)).2
  | some n=>rw [hq] at h1;simpa using (Lit.int.inj (DataW.lit.inj h1)).2
 refine ⟨hcc,h.1.put _ _,?_⟩
 intro u hu z
 rw [omore_ct hs]
 by_cases e:u=t
 ·subst e
  rw [if_pos rfl,atKey_put_same h.1 (by trivial),hcc]
 ·rw [if_neg e,atKey_put_other (fun e' =>e (tkl_inj hu ht e'))]
  exact h.2 u hu z
structure MA (B s mb rb mp nb noff ncap rc:Nat) (ns:List Nd) (w:World) (σ:St) (v:Value) (ia:Option Addr) (ic n:Nat) (D:DataW Unit):Prop where
 hm:w.heap[mb]?=some (.cells #[v,.int .i64 σ.ret,.bool σ.ended,.int .i64 σ.steps,.slice none 0 0,.slice (some ⟨nb,noff,none⟩) ns.length ncap,.int .i64 σ.pc,.slice ia σ.inp.length ic,.slice (some ⟨rb,0,none⟩) σ.regs.length rc,.map (some mp)] 89 (0,0))
 hr:w.heap[rb]?=some (.cells (σ.regs.map (Value.int .i64)).toArray 3 (0,0))
 ho:w.ownsMap Tryz.prog 26 (plainElem Tryz.prog 3) mp n D
 hout:w.ownsRow s 3 1 v σ.out.length (σ.out.map (Value.int .i64))
 hin:InAt w B ia σ.inp
 hic:σ.inp.length≤ic
 hN:NodesAt w nb noff ns
 hnb:nb<B
 geo:B≤mb∧B≤rb∧B≤mp∧mb<s∧rb<s∧mp<s∧mb≠rb∧mb≠mp∧rb≠mp
 hs:s≤w.heap.size
 hn:n≤σ.steps
 hst:σ.steps≤131072
 hol:σ.out.length≤σ.steps
 hrl:σ.regs.length≤64
 rel:MapRel D σ.cts
 srt:Srt σ.cts
 cb:∀ c∈σ.cts,0≤c.n∧c.n≤σ.steps
theorem MA.B_le {B s mb rb mp nb noff ncap rc:Nat} {ns:List Nd} {w:World} {σ:St} {v:Value} {ia:Option Addr} {ic n:Nat} {D:DataW Unit} (M:MA B s mb rb mp nb noff ncap rc ns w σ v ia ic n D):B≤w.heap.size:=by
 have:=M.geo;have:=M.hs;omega
theorem MA.below {B s mb rb mp nb noff ncap rc:Nat} {ns:List Nd} {w w' :World} {σ:St} {v:Value} {ia:Option Addr} {ic n:Nat} {D:DataW Unit} (M:MA B s mb rb mp nb noff ncap rc ns w σ v ia ic n D) (K:Keeps [mb,rb,mp] w w'):Below B w w' :=
 K.below (by have:=M.geo;simp;omega) M.B_le
theorem MA.nextB {B s mb rb mp nb noff ncap rc:Nat} {ns:List Nd} {w w' :World} {σ σ' :St} {v v' :Value} {ia ia' :Option Addr} {ic ic' n n' :Nat} {D D' :DataW Unit} (M:MA B s mb rb mp nb noff ncap rc ns w σ v ia ic n D) (K:Below B w w')
 (hm:w'.heap[mb]?=some (.cells #[v', .int .i64 σ'.ret,.bool σ'.ended,.int .i64 σ'.steps,.slice none 0 0,.slice (some ⟨nb,noff,none⟩) ns.length ncap,.int .i64 σ'.pc,.slice ia' σ'.inp.length ic', .slice (some ⟨rb,0,none⟩) σ'.regs.length rc,.map (some mp)] 89 (0,0)))
 (hr:w'.heap[rb]?=some (.cells (σ'.regs.map (Value.int .i64)).toArray 3 (0,0)))
 (ho:w'.ownsMap Tryz.prog 26 (plainElem Tryz.prog 3) mp n' D')
 (hout:w'.ownsRow s 3 1 v' σ'.out.length (σ'.out.map (Value.int .i64)))
 (hin:InAt w B ia' σ'.inp) (hic:σ'.inp.length≤ic') (hst:σ'.steps=σ.steps+1) (hlt:σ.steps<131072) (hn:n' ≤σ.steps+1) (hol:σ'.out.length≤σ.out.length+1) (hrl:σ'.regs.length=σ.regs.length)
 (rel:MapRel D' σ'.cts) (srt:Srt σ'.cts) (cb:∀ c∈σ'.cts,0≤c.n∧c.n≤σ.steps+1):MA B s mb rb mp nb noff ncap rc ns w' σ' v' ia' ic' n' D' :=by
 have hb:=K
 exact ⟨hm,hr,ho,hout,hin.below hb,hic,M.hN.below hb M.hnb,M.hnb,M.geo,Nat.le_trans M.hs K.size,by rw [hst];exact hn,by omega,by have:=M.hol;omega,by rw [hrl];exact M.hrl,rel,srt,by rw [hst];exact_mod_cast cb⟩
theorem MA.next {B s mb rb mp nb noff ncap rc:Nat} {ns:List Nd} {w w' :World} {σ σ' :St} {v v' :Value} {ia ia' :Option Addr} {ic ic' n n' :Nat} {D D' :DataW Unit} (M:MA B s mb rb mp nb noff ncap rc ns w σ v ia ic n D) (K:Keeps [mb,rb,mp] w w')
 (hm:w'.heap[mb]?=some (.cells #[v', .int .i64 σ'.ret,.bool σ'.ended,.int .i64 σ'.steps,.slice none 0 0,.slice (some ⟨nb,noff,none⟩) ns.length ncap,.int .i64 σ'.pc,.slice ia' σ'.inp.length ic', .slice (some ⟨rb,0,none⟩) σ'.regs.length rc,.map (some mp)] 89 (0,0)))
 (hr:w'.heap[rb]?=some (.cells (σ'.regs.map (Value.int .i64)).toArray 3 (0,0)))
 (ho:w'.ownsMap Tryz.prog 26 (plainElem Tryz.prog 3) mp n' D')
 (hout:w'.ownsRow s 3 1 v' σ'.out.length (σ'.out.map (Value.int .i64)))
 (hin:InAt w B ia' σ'.inp) (hic:σ'.inp.length≤ic') (hst:σ'.steps=σ.steps+1) (hlt:σ.steps<131072) (hn:n' ≤σ.steps+1) (hol:σ'.out.length≤σ.out.length+1) (hrl:σ'.regs.length=σ.regs.length)
 (rel:MapRel D' σ'.cts) (srt:Srt σ'.cts) (cb:∀ c∈σ'.cts,0≤c.n∧c.n≤σ.steps+1):MA B s mb rb mp nb noff ncap rc ns w' σ' v' ia' ic' n' D' :=by
 exact M.nextB (M.below K) hm hr ho hout hin hic hst hlt hn hol hrl rel srt cb
def InR (l:List Int) (a:Int):Prop:=0≤a∧a<l.length
theorem regs_at {l:List Int} {k:Nat} (h:k<l.length):((l.map (Value.int .i64)).toArray)[k]?=some (.int .i64 (getR l k)):=by
 simp [getR];rw [List.getElem?_eq_getElem h];simp
theorem regs_set (l:List Int) (k:Nat) (z:Int):((l.map (Value.int .i64)).toArray).setIfInBounds k (.int .i64 z)=((setR l k z).map (Value.int .i64)).toArray:=by
 rw [show setR l (k:Int) z=l.set k z from rfl,List.map_set];simp
theorem setR_len (l:List Int) (d z:Int):(setR l d z).length=l.length:=by simp [setR]
def W3 (w:World) (mb:Nat) (steps:Int) (op d a b t e:Int):World :=
 (((w.setCell ⟨mb,3,none⟩ (.int .i64 steps)).setCell ⟨mb,6,none⟩ (.int .i64 t)).alloc (.cells #[.int .i64 op,.int .i64 d,.int .i64 a,.int .i64 b,.int .i64 t,.int .i64 e] 47)).drew
theorem blk_new {w:World} {o:Obj} {n:Nat} (h:w.heap.size=n):(w.alloc o).heap[n]?=some o:=by subst h;exact (MapKept.heap_alloc w o).1
structure Pre (B s mb rb mp nb noff ncap rc:Nat) (ns:List Nd) (w W:World) (σ:St) (v:Value) (ia:Option Addr) (ic n:Nat) (D:DataW Unit) (x:Nd):Prop where
 hm:W.heap[mb]?=some (.cells #[v,.int .i64 σ.ret,.bool σ.ended,.int .i64 ((σ.steps:Int)+1),.slice none 0 0,.slice (some ⟨nb,noff,none⟩) ns.length ncap,.int .i64 x.t,.slice ia σ.inp.length ic,.slice (some ⟨rb,0,none⟩) σ.regs.length rc,.map (some mp)] 89 (0,0))
 hr:W.heap[rb]?=some (.cells (σ.regs.map (Value.int .i64)).toArray 3 (0,0))
 ho:W.ownsMap Tryz.prog 26 (plainElem Tryz.prog 3) mp n D
 hout:W.ownsRow s 3 1 v σ.out.length (σ.out.map (Value.int .i64))
 hnd:W.heap[w.heap.size]?=some (.cells #[.int .i64 x.op,.int .i64 x.d,.int .i64 x.a,.int .i64 x.b,.int .i64 x.t,.int .i64 x.e] 47 (0,0))
 K:Keeps [mb,rb,mp] w W
theorem pre_of {B s mb rb mp nb noff ncap rc:Nat} {ns:List Nd} {w:World} {σ:St} {v:Value} {ia:Option Addr} {ic n:Nat} {D:DataW Unit} (M:MA B s mb rb mp nb noff ncap rc ns w σ v ia ic n D) (x:Nd) :
 Pre B s mb rb mp nb noff ncap rc ns w (W3 w mb ((σ.steps:Int)+1) x.op x.d x.a x.b x.t x.e) σ v ia ic n D x:=by
 obtain ⟨g1,g2,g3,g4,g5,g6,g7,g8,g9⟩:=M.geo
 have hs:=M.hs
 have K:Keeps [mb,rb,mp] w (W3 w mb ((σ.steps:Int)+1) x.op x.d x.a x.b x.t x.e):=((((Keeps.refl _ w).setCell (p:=⟨mb,3,none⟩) (by simp) _).setCell (p:=⟨mb,6,none⟩) (by simp) _).alloc _).drew
 refine ⟨?_,?_,?_,K.owns M.hout (by simp;omega),?_,K⟩
 ·have h:=blk_alloc (.cells #[.int .i64 x.op,.int .i64 x.d,.int .i64 x.a,.int .i64 x.b,.int .i64 x.t,.int .i64 x.e] 47) (blk_set (i:=6) (.int .i64 x.t) (blk_set (i:=3) (.int .i64 ((σ.steps:Int)+1)) M.hm))
  exact h
 ·exact blk_alloc _ (blk_set_ne _ (blk_set_ne _ M.hr (fun e=>g7 e.symm)) (fun e=>g7 e.symm))
 ·refine own_at M.ho ?_
  have hlt:=M.ho.lt
  show ((((w.setCell ⟨mb,3,none⟩ _).setCell ⟨mb,6,none⟩ _).alloc _)).heap[mp]?=_
  rw [Below.heap_alloc _ _ _ (by simpa [World.setCell] using hlt),Below.heap_setCell _ _ _ _ (by exact fun e=>g8 e.symm),Below.heap_setCell _ _ _ _ (by exact fun e=>g8 e.symm)]
 ·have hz:((w.setCell ⟨mb,3,none⟩ (.int .i64 ((σ.steps:Int)+1))).setCell ⟨mb,6,none⟩ (.int .i64 x.t)).heap.size=w.heap.size:=by simp [World.setCell]
  show (((w.setCell ⟨mb,3,none⟩ (.int .i64 ((σ.steps:Int)+1))).setCell ⟨mb,6,none⟩ (.int .i64 x.t)).alloc (.cells #[.int .i64 x.op,.int .i64 x.d,.int .i64 x.a,.int .i64 x.b,.int .i64 x.t,.int .i64 x.e] 47)).heap[w.heap.size]?=_
  exact blk_new hz
set_option maxRecDepth 100000 in
theorem step_skip {B s mb rb mp nb noff ncap rc:Nat} {ns:List Nd} {w:World} {σ:St} {v:Value} {ia:Option Addr} {ic n:Nat} {D:DataW Unit} (M:MA B s mb rb mp nb noff ncap rc ns w σ v ia ic n D) {x:Nd} (hx:ns[σ.pc]?=some x) (hlen:ns.length≤256) (hlt:σ.steps<131072) (ht:0≤x.t) (hop:x.op=0) :
 Calls Tryz.prog 62 #[.pointer (some ⟨mb,0,none⟩)] w fun e w' =>e=.returned (.tuple #[])∧∃ v' ia' ic' n' D', MA B s mb rb mp nb noff ncap rc ns w' (stp x σ) v' ia' ic' n' D' ∧Below B w w' :=by
 have hpc:σ.pc<ns.length:=(List.getElem?_eq_some_iff.1 hx).1
 have hml:=blk_lt M.hm
 have hnlt:=M.hN.lt
 have hst0:=M.hst
 have m3:=blk_cell M.hm 3
 have m5:=blk_cell M.hm 5
 have m6:=blk_cell M.hm 6
 have f3:=blk_frozen M.hm 3
 have f6:=blk_frozen M.hm 6
 simp at m3 m5 m6
 have c0:=M.hN.c0 σ.pc x hx
 have c1:=M.hN.c1 σ.pc x hx
 have c2:=M.hN.c2 σ.pc x hx
 have c3:=M.hN.c3 σ.pc x hx
 have c4:=M.hN.c4 σ.pc x hx
 have c5:=M.hN.c5 σ.pc x hx
 have P3:=pre_of M x
 obtain ⟨op,d,a,b,t,e⟩:=x
 simp only at *
 subst hop
 have HS:=hide (And.intro m5 (And.intro m6 (And.intro c0 (And.intro c1 (And.intro c2 (And.intro c3 (And.intro c4 c5)))))))
 have HSa:Hid (∀ o,(w.alloc o).cell? ⟨mb,5,none⟩=some (.slice (some ⟨nb,noff,none⟩) ns.length ncap)∧(w.alloc o).cell? ⟨mb,6,none⟩=some (.int .i64 σ.pc)∧(w.alloc o).cell? ⟨nb,noff+σ.pc*6,none⟩=some (.int .i64 0)∧(w.alloc o).cell? ⟨nb,noff+σ.pc*6+1,none⟩=some (.int .i64 d)∧(w.alloc o).cell? ⟨nb,noff+σ.pc*6+2,none⟩=some (.int .i64 a)∧(w.alloc o).cell? ⟨nb,noff+σ.pc*6+3,none⟩=some (.int .i64 b)∧(w.alloc o).cell? ⟨nb,noff+σ.pc*6+4,none⟩=some (.int .i64 t)∧(w.alloc o).cell? ⟨nb,noff+σ.pc*6+5,none⟩=some (.int .i64 e)):=by
  intro o
  simp only [World.cell?_alloc_past _ _ _ hml,World.cell?_alloc_past _ _ _ hnlt]
  exact HS.out
 have hpi:(σ.pc:Int)<(ns.length:Int):=by omega
 have hpi0:(0:Int)≤(σ.pc:Int):=by omega
 have HM:=hide M
 have HX:=hide hx
 have HP:=hide P3
 clear M hx P3
 go_enter Tryz.func62,Tryz.ntmps62
 go_wp2
 go_region_held3 (fun u=>u.cell? ⟨mb,5,none⟩=some (.slice (some ⟨nb,noff,none⟩) ns.length ncap)∧u.cell? ⟨mb,6,none⟩=some (.int .i64 σ.pc)∧u.cell? ⟨nb,noff+σ.pc*6,none⟩=some (.int .i64 0)∧u.cell? ⟨nb,noff+σ.pc*6+1,none⟩=some (.int .i64 d)∧u.cell? ⟨nb,noff+σ.pc*6+2,none⟩=some (.int .i64 a)∧u.cell? ⟨nb,noff+σ.pc*6+3,none⟩=some (.int .i64 b)∧u.cell? ⟨nb,noff+σ.pc*6+4,none⟩=some (.int .i64 t)∧u.cell? ⟨nb,noff+σ.pc*6+5,none⟩=some (.int .i64 e)) (first | exact HS.out | exact HSa.out _) (fail)
 go_wp2
 go_end0
 have hW:=HP.out
 rw [show stp ⟨0,d,a,b,t,e⟩ σ={ σ with pc:=t.toNat,steps:=σ.steps+1 } from rfl]
 refine ⟨rfl,v,ia,ic,n,D,HM.out.next hW.K ?_ hW.hr hW.ho hW.hout HM.out.hin HM.out.hic rfl hlt (by have:=HM.out.hn;omega) (Nat.le_succ _) rfl HM.out.rel HM.out.srt (fun c hc=>by have:=HM.out.cb c hc;omega),HM.out.below hW.K⟩
 have:=hW.hm
 show _=some (Obj.cells #[_,_,_,_,_,_,Value.int .i64 ((t.toNat:Nat):Int),_,_,_] _ _)
 rw [show ((t.toNat:Nat):Int)=t from by omega]
 exact this
set_option maxRecDepth 100000 in
theorem step_set {B s mb rb mp nb noff ncap rc:Nat} {ns:List Nd} {w:World} {σ:St} {v:Value} {ia:Option Addr} {ic n:Nat} {D:DataW Unit} (M:MA B s mb rb mp nb noff ncap rc ns w σ v ia ic n D) {x:Nd} (hx:ns[σ.pc]?=some x) (hlen:ns.length≤256) (hlt:σ.steps<131072) (ht:0≤x.t) (hop:x.op=1) (hd:InR σ.regs x.d) :
 Calls Tryz.prog 62 #[.pointer (some ⟨mb,0,none⟩)] w fun e w' =>e=.returned (.tuple #[])∧∃ v' ia' ic' n' D', MA B s mb rb mp nb noff ncap rc ns w' (stp x σ) v' ia' ic' n' D' ∧Below B w w' :=by
 have hpc:σ.pc<ns.length:=(List.getElem?_eq_some_iff.1 hx).1
 have hml:=blk_lt M.hm
 have hnlt:=M.hN.lt
 have hst0:=M.hst
 have m3:=blk_cell M.hm 3
 have m5:=blk_cell M.hm 5
 have m6:=blk_cell M.hm 6
 have f3:=blk_frozen M.hm 3
 have f6:=blk_frozen M.hm 6
 simp at m3 m5 m6
 have c0:=M.hN.c0 σ.pc x hx
 have c1:=M.hN.c1 σ.pc x hx
 have c2:=M.hN.c2 σ.pc x hx
 have c3:=M.hN.c3 σ.pc x hx
 have c4:=M.hN.c4 σ.pc x hx
 have c5:=M.hN.c5 σ.pc x hx
 have P3:=pre_of M x
 obtain ⟨op,d,a,b,t,e⟩:=x
 simp only at *
 subst hop
 have HS:=hide (And.intro m5 (And.intro m6 (And.intro c0 (And.intro c1 (And.intro c2 (And.intro c3 (And.intro c4 c5)))))))
 have HSa:Hid (∀ o,(w.alloc o).cell? ⟨mb,5,none⟩=some (.slice (some ⟨nb,noff,none⟩) ns.length ncap)∧(w.alloc o).cell? ⟨mb,6,none⟩=some (.int .i64 σ.pc)∧(w.alloc o).cell? ⟨nb,noff+σ.pc*6,none⟩=some (.int .i64 1)∧(w.alloc o).cell? ⟨nb,noff+σ.pc*6+1,none⟩=some (.int .i64 d)∧(w.alloc o).cell? ⟨nb,noff+σ.pc*6+2,none⟩=some (.int .i64 a)∧(w.alloc o).cell? ⟨nb,noff+σ.pc*6+3,none⟩=some (.int .i64 b)∧(w.alloc o).cell? ⟨nb,noff+σ.pc*6+4,none⟩=some (.int .i64 t)∧(w.alloc o).cell? ⟨nb,noff+σ.pc*6+5,none⟩=some (.int .i64 e)):=by
  intro o
  simp only [World.cell?_alloc_past _ _ _ hml,World.cell?_alloc_past _ _ _ hnlt]
  exact HS.out
 have hpi:(σ.pc:Int)<(ns.length:Int):=by omega
 have hpi0:(0:Int)≤(σ.pc:Int):=by omega
 have HM:=hide M
 have HX:=hide hx
 have HP:=hide P3
 clear M hx P3
 go_enter Tryz.func62,Tryz.ntmps62
 go_wp2
 go_region_held3 (fun u=>u.cell? ⟨mb,5,none⟩=some (.slice (some ⟨nb,noff,none⟩) ns.length ncap)∧u.cell? ⟨mb,6,none⟩=some (.int .i64 σ.pc)∧u.cell? ⟨nb,noff+σ.pc*6,none⟩=some (.int .i64 1)∧u.cell? ⟨nb,noff+σ.pc*6+1,none⟩=some (.int .i64 d)∧u.cell? ⟨nb,noff+σ.pc*6+2,none⟩=some (.int .i64 a)∧u.cell? ⟨nb,noff+σ.pc*6+3,none⟩=some (.int .i64 b)∧u.cell? ⟨nb,noff+σ.pc*6+4,none⟩=some (.int .i64 t)∧u.cell? ⟨nb,noff+σ.pc*6+5,none⟩=some (.int .i64 e)) (first | exact HS.out | exact HSa.out _) (fail)
 go_wp2
 clear m3 m5 m6 f3 f6 c0 c1 c2 c3 c4 c5 HS HSa hpi hpi0
 have hW:=HP.out
 unfold W3 at hW
 generalize (((w.setCell ⟨mb,3,none⟩ (.int .i64 ((σ.steps:Int)+1))).setCell ⟨mb,6,none⟩ (.int .i64 t)).alloc (.cells #[.int .i64 1,.int .i64 d,.int .i64 a,.int .i64 b,.int .i64 t,.int .i64 e] 47)).drew=W at hW ⊢
 clear HP
 have HW:=hide hW
 obtain ⟨g1,g2,g3,g4,g5,g6,g7,g8,g9⟩:=HM.out.geo
 have wml:=blk_lt hW.hm
 have wrl:=blk_lt hW.hr
 have wnl:=blk_lt hW.hnd
 have hss:=HM.out.hs
 obtain ⟨hd0,hd1⟩:=hd
 obtain ⟨dn,rfl⟩:=Int.eq_ofNat_of_zero_le hd0
 have m8:=blk_cell hW.hm 8
 have n1:=blk_cell hW.hnd 1
 have n2:=blk_cell hW.hnd 2
 have rd:=blk_cell hW.hr dn
 rw [regs_at (by omega)] at rd
 have rf:=blk_frozen hW.hr dn
 simp at m8 n1 n2
 clear hW
 refine wp_region_still_tail 9 (by kernel_rfl) (by kernel_rfl) ?_
 simp only [List.take_succ_cons,List.take_zero,List.drop_succ_cons,List.drop_zero]
 repeat still_step
 refine wpStill_nil ?_
 go_wp2
 go_end0
 have hW:=HW.out
 have K2:Keeps [mb,rb,mp] w (W.setCell ⟨rb,dn,none⟩ (.int .i64 a)).drew:=(hW.K.setCell (p:=⟨rb,dn,none⟩) (by simp) _).drew
 rw [show stp ⟨1,dn,a,b,t,e⟩ σ={ σ with pc:=t.toNat,steps:=σ.steps+1,regs:=setR σ.regs dn a } from rfl]
 refine ⟨rfl,v,ia,ic,n,D,HM.out.next K2 ?_ ?_ ?_ ?_ HM.out.hin HM.out.hic rfl hlt (by have:=HM.out.hn;omega) (Nat.le_succ _) (setR_len _ _ _) HM.out.rel HM.out.srt (fun c hc=>by have:=HM.out.cb c hc;omega),HM.out.below K2⟩
 ·have:=blk_set_ne (i:=dn) (.int .i64 a) hW.hm g7
  show _=some (Obj.cells #[_,_,_,_,_,_,Value.int .i64 ((t.toNat:Nat):Int),_,Value.slice _ (setR σ.regs dn a).length _,_] _ _)
  rw [show ((t.toNat:Nat):Int)=t from by omega,setR_len]
  exact this
 ·have:=blk_set (i:=dn) (.int .i64 a) hW.hr
  rw [regs_set] at this
  exact this
 ·exact own_at hW.ho (Below.heap_setCell _ _ _ _ (by exact fun e=>g9 e.symm))
 ·exact ((Keeps.refl [rb] W).setCell (p:=⟨rb,dn,none⟩) (by simp) _).drew.owns hW.hout (by simp;omega)
set_option maxRecDepth 100000 in
theorem step_end {B s mb rb mp nb noff ncap rc:Nat} {ns:List Nd} {w:World} {σ:St} {v:Value} {ia:Option Addr} {ic n:Nat} {D:DataW Unit} (M:MA B s mb rb mp nb noff ncap rc ns w σ v ia ic n D) {x:Nd} (hx:ns[σ.pc]?=some x) (hlen:ns.length≤256) (hlt:σ.steps<131072) (ht:0≤x.t) (hop:x.op=12) (ha:InR σ.regs x.a) :
 Calls Tryz.prog 62 #[.pointer (some ⟨mb,0,none⟩)] w fun e w' =>e=.returned (.tuple #[])∧∃ v' ia' ic' n' D', MA B s mb rb mp nb noff ncap rc ns w' (stp x σ) v' ia' ic' n' D' ∧Below B w w' :=by
 have hpc:σ.pc<ns.length:=(List.getElem?_eq_some_iff.1 hx).1
 have hml:=blk_lt M.hm
 have hnlt:=M.hN.lt
 have hst0:=M.hst
 have m3:=blk_cell M.hm 3
 have m5:=blk_cell M.hm 5
 have m6:=blk_cell M.hm 6
 have f3:=blk_frozen M.hm 3
 have f6:=blk_frozen M.hm 6
 simp at m3 m5 m6
 have c0:=M.hN.c0 σ.pc x hx
 have c1:=M.hN.c1 σ.pc x hx
 have c2:=M.hN.c2 σ.pc x hx
 have c3:=M.hN.c3 σ.pc x hx
 have c4:=M.hN.c4 σ.pc x hx
 have c5:=M.hN.c5 σ.pc x hx
 have P3:=pre_of M x
 obtain ⟨op,d,a,b,t,e⟩:=x
 simp only at *
 subst hop
 have HS:=hide (And.intro m5 (And.intro m6 (And.intro c0 (And.intro c1 (And.intro c2 (And.intro c3 (And.intro c4 c5)))))))
 have HSa:Hid (∀ o,(w.alloc o).cell? ⟨mb,5,none⟩=some (.slice (some ⟨nb,noff,none⟩) ns.length ncap)∧(w.alloc o).cell? ⟨mb,6,none⟩=some (.int .i64 σ.pc)∧(w.alloc o).cell? ⟨nb,noff+σ.pc*6,none⟩=some (.int .i64 12)∧(w.alloc o).cell? ⟨nb,noff+σ.pc*6+1,none⟩=some (.int .i64 d)∧(w.alloc o).cell? ⟨nb,noff+σ.pc*6+2,none⟩=some (.int .i64 a)∧(w.alloc o).cell? ⟨nb,noff+σ.pc*6+3,none⟩=some (.int .i64 b)∧(w.alloc o).cell? ⟨nb,noff+σ.pc*6+4,none⟩=some (.int .i64 t)∧(w.alloc o).cell? ⟨nb,noff+σ.pc*6+5,none⟩=some (.int .i64 e)):=by
  intro o
  simp only [World.cell?_alloc_past _ _ _ hml,World.cell?_alloc_past _ _ _ hnlt]
  exact HS.out
 have hpi:(σ.pc:Int)<(ns.length:Int):=by omega
 have hpi0:(0:Int)≤(σ.pc:Int):=by omega
 have HM:=hide M
 have HX:=hide hx
 have HP:=hide P3
 clear M hx P3
 go_enter Tryz.func62,Tryz.ntmps62
 go_wp2
 go_region_held3 (fun u=>u.cell? ⟨mb,5,none⟩=some (.slice (some ⟨nb,noff,none⟩) ns.length ncap)∧u.cell? ⟨mb,6,none⟩=some (.int .i64 σ.pc)∧u.cell? ⟨nb,noff+σ.pc*6,none⟩=some (.int .i64 12)∧u.cell? ⟨nb,noff+σ.pc*6+1,none⟩=some (.int .i64 d)∧u.cell? ⟨nb,noff+σ.pc*6+2,none⟩=some (.int .i64 a)∧u.cell? ⟨nb,noff+σ.pc*6+3,none⟩=some (.int .i64 b)∧u.cell? ⟨nb,noff+σ.pc*6+4,none⟩=some (.int .i64 t)∧u.cell? ⟨nb,noff+σ.pc*6+5,none⟩=some (.int .i64 e)) (first | exact HS.out | exact HSa.out _) (fail)
 go_wp2
 clear m3 m5 m6 f3 f6 c0 c1 c2 c3 c4 c5 HS HSa hpi hpi0
 have hW:=HP.out
 unfold W3 at hW
 generalize (((w.setCell ⟨mb,3,none⟩ (.int .i64 ((σ.steps:Int)+1))).setCell ⟨mb,6,none⟩ (.int .i64 t)).alloc (.cells #[.int .i64 12,.int .i64 d,.int .i64 a,.int .i64 b,.int .i64 t,.int .i64 e] 47)).drew=W at hW ⊢
 clear HP
 have HW:=hide hW
 obtain ⟨g1,g2,g3,g4,g5,g6,g7,g8,g9⟩:=HM.out.geo
 have wml:=blk_lt hW.hm
 have wrl:=blk_lt hW.hr
 have wnl:=blk_lt hW.hnd
 have hss:=HM.out.hs
 obtain ⟨ha0,ha1⟩:=ha
 obtain ⟨an,rfl⟩:=Int.eq_ofNat_of_zero_le ha0
 have m1:=blk_cell hW.hm 1
 have m2:=blk_cell hW.hm 2
 have m8:=blk_cell hW.hm 8
 have f1:=blk_frozen hW.hm 1
 have f2:=blk_frozen hW.hm 2
 have n2:=blk_cell hW.hnd 2
 have ra:=blk_cell hW.hr an
 rw [regs_at (by omega)] at ra
 simp at m1 m2 m8 n2
 clear hW
 go_region
 go_wp2
 go_end0
 have hW:=HW.out
 rw [show stp ⟨12,d,an,b,t,e⟩ σ={ σ with pc:=t.toNat,steps:=σ.steps+1,ret:=getR σ.regs an,ended:=true } from rfl]
 have K2:Keeps [mb,rb,mp] w ((W.setCell ⟨mb,1,none⟩ (.int .i64 (getR σ.regs an))).setCell ⟨mb,2,none⟩ (.bool true)).drew:=((hW.K.setCell (p:=⟨mb,1,none⟩) (by simp) _).setCell (p:=⟨mb,2,none⟩) (by simp) _).drew
 refine ⟨rfl,v,ia,ic,n,D,HM.out.next K2 ?_ ?_ ?_ ?_ HM.out.hin HM.out.hic rfl hlt (by have:=HM.out.hn;omega) (Nat.le_succ _) rfl HM.out.rel HM.out.srt (fun c hc=>by have:=HM.out.cb c hc;omega),HM.out.below K2⟩
 ·have:=blk_set (i:=2) (.bool true) (blk_set (i:=1) (.int .i64 (getR σ.regs an)) hW.hm)
  show _=some (Obj.cells #[_,_,_,_,_,_,Value.int .i64 ((t.toNat:Nat):Int),_,_,_] _ _)
  rw [show ((t.toNat:Nat):Int)=t from by omega]
  exact this
 ·exact blk_set_ne _ (blk_set_ne _ hW.hr (fun e=>g7 e.symm)) (fun e=>g7 e.symm)
 ·refine own_at hW.ho ?_
  show ((W.setCell ⟨mb,1,none⟩ _).setCell ⟨mb,2,none⟩ _).heap[mp]?=_
  rw [Below.heap_setCell _ _ _ _ (by exact fun e=>g8 e.symm),Below.heap_setCell _ _ _ _ (by exact fun e=>g8 e.symm)]
 ·exact (((Keeps.refl [mb] W).setCell (p:=⟨mb,1,none⟩) (by simp) _).setCell (p:=⟨mb,2,none⟩) (by simp) _).drew.owns hW.hout (by simp;omega)
set_option maxRecDepth 100000 in
theorem step_inn {B s mb rb mp nb noff ncap rc:Nat} {ns:List Nd} {w:World} {σ:St} {v:Value} {ia:Option Addr} {ic n:Nat} {D:DataW Unit} (M:MA B s mb rb mp nb noff ncap rc ns w σ v ia ic n D) {x:Nd} (hx:ns[σ.pc]?=some x) (hlen:ns.length≤256) (hlt:σ.steps<131072) (ht:0≤x.t) (hop:x.op=9) (hd:InR σ.regs x.d) :
 Calls Tryz.prog 62 #[.pointer (some ⟨mb,0,none⟩)] w fun e w' =>e=.returned (.tuple #[])∧∃ v' ia' ic' n' D', MA B s mb rb mp nb noff ncap rc ns w' (stp x σ) v' ia' ic' n' D' ∧Below B w w' :=by
 have hpc:σ.pc<ns.length:=(List.getElem?_eq_some_iff.1 hx).1
 have hml:=blk_lt M.hm
 have hnlt:=M.hN.lt
 have hst0:=M.hst
 have m3:=blk_cell M.hm 3
 have m5:=blk_cell M.hm 5
 have m6:=blk_cell M.hm 6
 have f3:=blk_frozen M.hm 3
 have f6:=blk_frozen M.hm 6
 simp at m3 m5 m6
 have c0:=M.hN.c0 σ.pc x hx
 have c1:=M.hN.c1 σ.pc x hx
 have c2:=M.hN.c2 σ.pc x hx
 have c3:=M.hN.c3 σ.pc x hx
 have c4:=M.hN.c4 σ.pc x hx
 have c5:=M.hN.c5 σ.pc x hx
 have P3:=pre_of M x
 obtain ⟨op,d,a,b,t,e⟩:=x
 simp only at *
 subst hop
 have HS:=hide (And.intro m5 (And.intro m6 (And.intro c0 (And.intro c1 (And.intro c2 (And.intro c3 (And.intro c4 c5)))))))
 have HSa:Hid (∀ o,(w.alloc o).cell? ⟨mb,5,none⟩=some (.slice (some ⟨nb,noff,none⟩) ns.length ncap)∧(w.alloc o).cell? ⟨mb,6,none⟩=some (.int .i64 σ.pc)∧(w.alloc o).cell? ⟨nb,noff+σ.pc*6,none⟩=some (.int .i64 9)∧(w.alloc o).cell? ⟨nb,noff+σ.pc*6+1,none⟩=some (.int .i64 d)∧(w.alloc o).cell? ⟨nb,noff+σ.pc*6+2,none⟩=some (.int .i64 a)∧(w.alloc o).cell? ⟨nb,noff+σ.pc*6+3,none⟩=some (.int .i64 b)∧(w.alloc o).cell? ⟨nb,noff+σ.pc*6+4,none⟩=some (.int .i64 t)∧(w.alloc o).cell? ⟨nb,noff+σ.pc*6+5,none⟩=some (.int .i64 e)):=by
  intro o
  simp only [World.cell?_alloc_past _ _ _ hml,World.cell?_alloc_past _ _ _ hnlt]
  exact HS.out
 have hpi:(σ.pc:Int)<(ns.length:Int):=by omega
 have hpi0:(0:Int)≤(σ.pc:Int):=by omega
 have HM:=hide M
 have HX:=hide hx
 have HP:=hide P3
 clear M hx P3
 go_enter Tryz.func62,Tryz.ntmps62
 go_wp2
 go_region_held3 (fun u=>u.cell? ⟨mb,5,none⟩=some (.slice (some ⟨nb,noff,none⟩) ns.length ncap)∧u.cell? ⟨mb,6,none⟩=some (.int .i64 σ.pc)∧u.cell? ⟨nb,noff+σ.pc*6,none⟩=some (.int .i64 9)∧u.cell? ⟨nb,noff+σ.pc*6+1,none⟩=some (.int .i64 d)∧u.cell? ⟨nb,noff+σ.pc*6+2,none⟩=some (.int .i64 a)∧u.cell? ⟨nb,noff+σ.pc*6+3,none⟩=some (.int .i64 b)∧u.cell? ⟨nb,noff+σ.pc*6+4,none⟩=some (.int .i64 t)∧u.cell? ⟨nb,noff+σ.pc*6+5,none⟩=some (.int .i64 e)) (first | exact HS.out | exact HSa.out _) (fail)
 go_wp2
 clear m3 m5 m6 f3 f6 c0 c1 c2 c3 c4 c5 HS HSa hpi hpi0
 have hW:=HP.out
 unfold W3 at hW
 generalize (((w.setCell ⟨mb,3,none⟩ (.int .i64 ((σ.steps:Int)+1))).setCell ⟨mb,6,none⟩ (.int .i64 t)).alloc (.cells #[.int .i64 9,.int .i64 d,.int .i64 a,.int .i64 b,.int .i64 t,.int .i64 e] 47)).drew=W at hW ⊢
 clear HP
 have HW:=hide hW
 obtain ⟨g1,g2,g3,g4,g5,g6,g7,g8,g9⟩:=HM.out.geo
 have wml:=blk_lt hW.hm
 have wrl:=blk_lt hW.hr
 have wnl:=blk_lt hW.hnd
 have hss:=HM.out.hs
 obtain ⟨hd0,hd1⟩:=hd
 obtain ⟨dn,rfl⟩:=Int.eq_ofNat_of_zero_le hd0
 have m8:=blk_cell hW.hm 8
 have n1:=blk_cell hW.hnd 1
 simp at m8 n1
 have rd:=blk_cell hW.hr dn
 rw [regs_at (by omega)] at rd
 have rf:=blk_frozen hW.hr dn
 have hgr:W.heap.size≠rb:=by omega
 have hin:=HM.out.hin
 have hic:=HM.out.hic
 have hnd7:w.heap.size≠mb:=by have:=blk_lt HM.out.hm;omega
 have Ke:=hW.K
 have HS3:=hide (And.intro m8 n1)
 cases hinp:σ.inp with
 | nil =>
  have hm' :=hW.hm
  rw [hinp] at hm'
  have hmd:W.drew.heap[mb]?=_:=hm'
  have HNIL:=hide hinp
  clear hinp hW
  have S4:Hid ((W.setCell ⟨rb,dn,none⟩ (.int .i64 0)).cell? ⟨mb,8,none⟩=some (.slice (some ⟨rb,0,none⟩) σ.regs.length rc)∧(W.setCell ⟨rb,dn,none⟩ (.int .i64 0)).cell? ⟨w.heap.size,1,none⟩=some (.int .i64 dn)):=⟨(World.cell?_of_block (w:=W) (Below.heap_setCell _ _ _ _ (by exact g7))).trans m8,(World.cell?_of_block (w:=W) (Below.heap_setCell _ _ _ _ (by show w.heap.size≠rb;omega))).trans n1⟩
  go_region_held3 (fun u=>u.cell? ⟨mb,8,none⟩=some (.slice (some ⟨rb,0,none⟩) σ.regs.length rc)∧u.cell? ⟨w.heap.size,1,none⟩=some (.int .i64 dn)) (first | exact HS3.out | exact S4.out) (first
   | (go_at_call 96;refine (comeIn_nil mb _ _ _ _ _ _ _ _ _ _ _ _ hmd).mono ?_;rintro e1 w5 ⟨rfl,rfl⟩))
  all_goals go_wp2
  all_goals go_end0
  all_goals
   have hW:=HW.out
   have hinp:=HNIL.out
   rw [show stp ⟨9,dn,a,b,t,e⟩ σ={ σ with pc:=t.toNat,steps:=σ.steps+1,regs:=setR σ.regs dn 0 } from by
    show ({ σ with pc:=t.toNat,steps:=σ.steps+1,regs:=setR σ.regs dn (σ.inp.headD 0),inp:=σ.inp.tail }:St)=_
    rw [hinp];rfl]
   have K2:Keeps [mb,rb,mp] w (W.setCell ⟨rb,dn,none⟩ (.int .i64 0)).drew:=(Ke.setCell (p:=⟨rb,dn,none⟩) (by simp) _).drew
   refine ⟨rfl,v,ia,ic,n,D,HM.out.next K2 ?_ ?_ ?_ ?_ HM.out.hin HM.out.hic rfl hlt (by have:=HM.out.hn;omega) (Nat.le_succ _) (setR_len _ _ _) HM.out.rel HM.out.srt (fun c hc=>by have:=HM.out.cb c hc;omega),HM.out.below K2⟩
   ·have:=blk_set_ne (i:=dn) (.int .i64 0) hW.hm g7
    show _=some (Obj.cells #[_,_,_,_,_,_,Value.int .i64 ((t.toNat:Nat):Int),_,Value.slice _ (setR σ.regs dn 0).length _,_] _ _)
    rw [show ((t.toNat:Nat):Int)=t from by omega,setR_len]
    exact this
   ·have:=blk_set (i:=dn) (.int .i64 0) hW.hr
    rw [regs_set] at this
    exact this
   ·exact own_at hW.ho (Below.heap_setCell _ _ _ _ (by exact fun e=>g9 e.symm))
   ·exact ((Keeps.refl [rb] W).setCell (p:=⟨rb,dn,none⟩) (by simp) _).drew.owns hW.hout (by simp;omega)
 | cons z zs =>
  rw [hinp] at hin hic
  rcases hin with hin | ⟨bi,oi,hia,hbi,hci⟩
  ·cases hin
  subst hia
  have hm' :=hW.hm
  rw [hinp] at hm'
  have hmd:W.drew.heap[mb]?=some (.cells #[v,.int .i64 σ.ret,.bool σ.ended,.int .i64 ((σ.steps:Int)+1),.slice none 0 0,.slice (some ⟨nb,noff,none⟩) ns.length ncap,.int .i64 t,.slice (some ⟨bi,oi,none⟩) (zs.length+1) ic,.slice (some ⟨rb,0,none⟩) σ.regs.length rc,.map (some mp)] 89 (0,0)):=hm'
  have hz0:W.drew.cell? ⟨bi,oi,none⟩=some (.int .i64 z):=by
   have:=hci 0 z rfl
   show W.cell? _=_
   rw [Ke.cell (by have:=HM.out.B_le;omega) (by simp;omega)];exact this
  have HC:=hide hinp
  have S4:Hid (∀ X:Value,(W.setCell ⟨mb,7,none⟩ X).cell? ⟨mb,8,none⟩=some (.slice (some ⟨rb,0,none⟩) σ.regs.length rc)∧(W.setCell ⟨mb,7,none⟩ X).cell? ⟨w.heap.size,1,none⟩=some (.int .i64 dn)):=by
   intro X
   refine ⟨?_,(World.cell?_of_block (w:=W) (Below.heap_setCell _ _ _ _ (by exact hnd7))).trans n1⟩
   have:=blk_cell (blk_set (i:=7) X hW.hm) 8
   rw [this];rfl
  have S5:Hid (∀ X Y:Value,((W.setCell ⟨mb,7,none⟩ X).setCell ⟨rb,dn,none⟩ Y).cell? ⟨mb,8,none⟩=some (.slice (some ⟨rb,0,none⟩) σ.regs.length rc)∧((W.setCell ⟨mb,7,none⟩ X).setCell ⟨rb,dn,none⟩ Y).cell? ⟨w.heap.size,1,none⟩=some (.int .i64 dn)):=by
   intro X Y
   exact ⟨(World.cell?_of_block (w:=W.setCell ⟨mb,7,none⟩ X) (Below.heap_setCell _ _ _ _ (by exact g7))).trans (S4.out X).1,(World.cell?_of_block (w:=W.setCell ⟨mb,7,none⟩ X) (Below.heap_setCell _ _ _ _ (by show w.heap.size≠rb;omega))).trans (S4.out X).2⟩
  have rd' :∀ X:Value,(W.setCell ⟨mb,7,none⟩ X).cell? ⟨rb,dn,none⟩=some (.int .i64 (getR σ.regs dn)):=fun X=>(World.cell?_of_block (w:=W) (Below.heap_setCell _ _ _ _ (by exact fun e=>g7 e.symm))).trans rd
  have rf' :∀ X:Value,(W.setCell ⟨mb,7,none⟩ X).frozen? ⟨rb,dn,none⟩=false:=fun X=>(World.frozen?_of_block (w:=W) (Below.heap_setCell _ _ _ _ (by exact fun e=>g7 e.symm))).trans rf
  have HCI:=hide hci
  have hicl:zs.length+1≤ic:=by simpa using hic
  clear hinp hW hci hic
  go_region_held3 (fun u=>u.cell? ⟨mb,8,none⟩=some (.slice (some ⟨rb,0,none⟩) σ.regs.length rc)∧u.cell? ⟨w.heap.size,1,none⟩=some (.int .i64 dn)) (first | exact HS3.out | exact S4.out _ | exact S5.out _ _) (first
   | (go_at_call 96;refine (comeIn_cons mb _ _ _ _ _ _ _ _ _ bi oi zs.length ic z _ hicl hmd hz0).mono ?_;rintro e1 w5 ⟨rfl,ia5,ic5,rfl,hl5,ho5⟩))
  all_goals go_wp2
  all_goals go_end0
  all_goals
   have hW:=HW.out
   have hinp:=HC.out
   rw [show stp ⟨9,dn,a,b,t,e⟩ σ={ σ with pc:=t.toNat,steps:=σ.steps+1,regs:=setR σ.regs dn z,inp:=zs } from by
    show ({ σ with pc:=t.toNat,steps:=σ.steps+1,regs:=setR σ.regs dn (σ.inp.headD 0),inp:=σ.inp.tail }:St)=_
    rw [hinp];rfl]
   have K2:Keeps [mb,rb,mp] w ((W.setCell ⟨mb,7,none⟩ (.slice ia5 zs.length ic5)).setCell ⟨rb,dn,none⟩ (.int .i64 z)).drew:=((Ke.setCell (p:=⟨mb,7,none⟩) (by simp) _).setCell (p:=⟨rb,dn,none⟩) (by simp) _).drew
   have hin5:InAt w B ia5 zs:=by
    rcases ho5 with ho5 | ho5
    ·exact Or.inl (List.eq_nil_of_length_eq_zero ho5)
    ·refine Or.inr ⟨bi,oi+1,ho5,hbi,fun j y hy=>?_⟩
     have:=HCI.out (j+1) y (by simpa using hy)
     rw [show oi+1+j=oi+(j+1) by omega];exact this
   refine ⟨rfl,v,ia5,ic5,n,D,HM.out.next K2 ?_ ?_ ?_ ?_ hin5 hl5 rfl hlt (by have:=HM.out.hn;omega) (Nat.le_succ _) (setR_len _ _ _) HM.out.rel HM.out.srt (fun c hc=>by have:=HM.out.cb c hc;omega),HM.out.below K2⟩
   ·have:=blk_set_ne (i:=dn) (.int .i64 z) (blk_set (i:=7) (.slice ia5 zs.length ic5) hW.hm) g7
    show _=some (Obj.cells #[_,_,_,_,_,_,Value.int .i64 ((t.toNat:Nat):Int),_,Value.slice _ (setR σ.regs dn z).length _,_] _ _)
    rw [show ((t.toNat:Nat):Int)=t from by omega,setR_len]
    exact this
   ·have:=blk_set (i:=dn) (.int .i64 z) (blk_set_ne (i:=7) (.slice ia5 zs.length ic5) hW.hr (fun e=>g7 e.symm))
    rw [regs_set] at this
    exact this
   ·refine own_at hW.ho ?_
    show ((W.setCell ⟨mb,7,none⟩ _).setCell ⟨rb,dn,none⟩ _).heap[mp]?=_
    rw [Below.heap_setCell _ _ _ _ (by exact fun e=>g9 e.symm),Below.heap_setCell _ _ _ _ (by exact fun e=>g8 e.symm)]
   ·exact (((Keeps.refl [mb,rb] W).setCell (p:=⟨mb,7,none⟩) (by simp) _).setCell (p:=⟨rb,dn,none⟩) (by simp) _).drew.owns hW.hout (by simp;omega)
end Go.Proofs.YtnbdnbcnlgnicaaGreat
