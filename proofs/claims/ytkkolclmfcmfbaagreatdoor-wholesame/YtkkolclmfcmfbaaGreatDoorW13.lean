/-
  Of the proof of WholeSame: PH, HC, PI, HD, HE, HF, HG.
-/
import Derived.Test.YtkkolclmfcmfbaaGreatDoorW8
import Derived.Test.YtkkolclmfcmfbaaGreatDoorW9
import Derived.Test.YtkkolclmfcmfbaaGreatDoorW12
set_option linter.unusedVariables false
set_option linter.unusedSimpArgs false
set_option maxHeartbeats 40000000
namespace Go.Proofs.YtkkolclmfcmfbaaGreatDoor
open Go.RowKit Go.Shelf
set_option maxRecDepth 100000 in
theorem apply_wrong (r:Int) (a:Option Addr) (cap:Nat) (ns:List Nd) (t:Tm) (pa ta:Option Addr) (k pc m tc:Nat) (w:World) (hN:SlN w a ns) (hc:tchk r ns t≠0) :
 Calls Tryz.prog 79 #[.agg #[.int .i64 r,.slice a ns.length cap],.agg #[.int .i64 t.op,.int .i64 t.a,.int .i64 t.b],.agg #[.slice pa k pc,.slice ta m tc]] w fun e w' =>e=.returned (.tuple #[.agg #[.int .i64 0,.slice none 0 0],.int .i64 (tchk r ns t)])∧Below w.heap.size w w' :=by
 have HOF:=hide (fun W (h:Below w.heap.size w W)=>of_wrong r a cap ns t W (hN.below h) hc)
 have hCb:(tchk r ns t==0)=false:=by simp [hc]
 have hCn:(tchk r ns t != 0)=true:=by simp [hc]
 clear hc hN
 generalize tchk r ns t=C at *
 have hbA:Below w.heap.size w ((((w.alloc (.cells #[.int .i64 r,.slice a ns.length cap] 24)).alloc (.cells #[.int .i64 t.op,.int .i64 t.a,.int .i64 t.b] 57)).alloc (.cells #[.slice pa k pc,.slice ta m tc] 138)).alloc (.cells #[.int .i64 0,.slice none 0 0] 24)):=(((((Below.refl _ w).alloc (Nat.le_refl _) _).alloc (by simp) _).alloc (by simp;omega) _).alloc (by simp;omega) _)
 have p0:((((w.alloc (.cells #[.int .i64 r,.slice a ns.length cap] 24)).alloc (.cells #[.int .i64 t.op,.int .i64 t.a,.int .i64 t.b] 57)).alloc (.cells #[.slice pa k pc,.slice ta m tc] 138)).alloc (.cells #[.int .i64 0,.slice none 0 0] 24)).heap[w.heap.size]?=some (.cells #[.int .i64 r,.slice a ns.length cap] 24 (0,0)):=by
  have:=World.alloc_heap_new w (.cells #[.int .i64 r,.slice a ns.length cap] 24)
  exact ((Below.heap_alloc _ _ _ (by simp;try omega)).trans (((Below.heap_alloc _ _ _ (by simp;try omega)).trans (((Below.heap_alloc _ _ _ (by simp;try omega)).trans (this))))))
 have p1:((((w.alloc (.cells #[.int .i64 r,.slice a ns.length cap] 24)).alloc (.cells #[.int .i64 t.op,.int .i64 t.a,.int .i64 t.b] 57)).alloc (.cells #[.slice pa k pc,.slice ta m tc] 138)).alloc (.cells #[.int .i64 0,.slice none 0 0] 24)).heap[w.heap.size+1]?=some (.cells #[.int .i64 t.op,.int .i64 t.a,.int .i64 t.b] 57 (0,0)):=by
  have:=World.alloc_heap_new (w.alloc (.cells #[.int .i64 r,.slice a ns.length cap] 24)) (.cells #[.int .i64 t.op,.int .i64 t.a,.int .i64 t.b] 57)
  simp only [World.size_alloc] at this
  exact ((Below.heap_alloc _ _ _ (by simp;try omega)).trans (((Below.heap_alloc _ _ _ (by simp;try omega)).trans (this))))
 have p2:((((w.alloc (.cells #[.int .i64 r,.slice a ns.length cap] 24)).alloc (.cells #[.int .i64 t.op,.int .i64 t.a,.int .i64 t.b] 57)).alloc (.cells #[.slice pa k pc,.slice ta m tc] 138)).alloc (.cells #[.int .i64 0,.slice none 0 0] 24)).heap[w.heap.size+2]?=some (.cells #[.slice pa k pc,.slice ta m tc] 138 (0,0)):=by
  have:=World.alloc_heap_new ((w.alloc (.cells #[.int .i64 r,.slice a ns.length cap] 24)).alloc (.cells #[.int .i64 t.op,.int .i64 t.a,.int .i64 t.b] 57)) (.cells #[.slice pa k pc,.slice ta m tc] 138)
  simp only [World.size_alloc] at this
  exact ((Below.heap_alloc _ _ _ (by simp;try omega)).trans (this))
 have p3:((((w.alloc (.cells #[.int .i64 r,.slice a ns.length cap] 24)).alloc (.cells #[.int .i64 t.op,.int .i64 t.a,.int .i64 t.b] 57)).alloc (.cells #[.slice pa k pc,.slice ta m tc] 138)).alloc (.cells #[.int .i64 0,.slice none 0 0] 24)).heap[w.heap.size+3]?=some (.cells #[.int .i64 0,.slice none 0 0] 24 (0,0)):=by
  have:=World.alloc_heap_new (((w.alloc (.cells #[.int .i64 r,.slice a ns.length cap] 24)).alloc (.cells #[.int .i64 t.op,.int .i64 t.a,.int .i64 t.b] 57)).alloc (.cells #[.slice pa k pc,.slice ta m tc] 138)) (.cells #[.int .i64 0,.slice none 0 0] 24)
  simp only [World.size_alloc] at this
  exact this
 go_enter Tryz.func79,Tryz.ntmps79
 go_upto_region 1 with fail
 generalize ((((w.alloc (.cells #[.int .i64 r,.slice a ns.length cap] 24)).alloc (.cells #[.int .i64 t.op,.int .i64 t.a,.int .i64 t.b] 57)).alloc (.cells #[.slice pa k pc,.slice ta m tc] 138)).alloc (.cells #[.int .i64 0,.slice none 0 0] 24))=W at hbA p0 p1 p2 p3 ⊢
 try rw [show w.heap.size+1+1=w.heap.size+2 from rfl]
 try rw [show w.heap.size+2+1=w.heap.size+3 from rfl]
 have q0:=blk_cell p0 0
 have q1:=blk_cell p0 1
 simp at q0 q1
 have t0:=blk_cell p1 0
 have t1:=blk_cell p1 1
 have t2:=blk_cell p1 2
 simp at t0 t1 t2
 have pl:=blk_lt p0
 have tl:=blk_lt p1
 have HB:=hide hbA
 have HR:=hide p3
 clear hbA p0 p1 p2 p3
 go_wp2_with fail
 refine (HOF.out _ HB.out).mono ?_
 rintro e w1 ⟨rfl,hb1⟩
 have hR:=(hb1.block _ (blk_lt HR.out)).trans HR.out
 have y0:=blk_cell hR 0
 have y1:=blk_cell hR 1
 simp at y0 y1
 have z0:=blk_frozen hR 0
 have z1:=blk_frozen hR 1
 have ylt:=blk_lt hR
 have HR1:=hide hR
 have HB1:=hide (HB.out.trans (hb1.mono HB.out.size))
 clear hR hb1 q0 q1 t0 t1 t2 pl tl HB HR HOF
 go_wp2
 have hk0:=blk_set2 (v0:=.int .i64 0) (v1:=.slice none 0 0) HR1.out
 have hB5:=below_set2 (v0:=.int .i64 0) (v1:=.slice none 0 0) HB1.out (B:=w.heap.size+3) (by omega)
 have hk:=(Below.heap_alloc _ (.cells #[.slice none 0 0,.slice none 0 0,.slice none 0 0,.slice none 0 0,.slice none 0 0,.slice none 0 0] 164) _ (blk_lt hk0)).trans hk0
 have k0:=blk_cell hk 0
 have k1:=blk_cell hk 1
 simp at k0 k1
 exact bodyPost_ret (v:=.tuple #[.agg #[.int .i64 0,.slice none 0 0],.int .i64 C]) (by simp [results,Tryz.results79,go_sem,k0,k1]) rfl ⟨rfl,hB5.alloc hB5.size _⟩
set_option maxRecDepth 100000 in
theorem apply_right (r:Int) (b off cap:Nat) (ns:List Nd) (t:Tm) (pa ta:Option Addr) (pc tc:Nat) (put tak:List Bool) (w:World) (hN:NodesAt w b off ns) (hc:tchk r ns t=0) (e1:put.length=ns.length) (e2:tak.length=ns.length) (hp:BoolsAt w pa put) (ht:BoolsAt w ta tak) (hTk:TakeOk ns t tak) :
 Calls Tryz.prog 79 #[.agg #[.int .i64 r,.slice (some ⟨b,off,none⟩) ns.length cap],.agg #[.int .i64 t.op,.int .i64 t.a,.int .i64 t.b],.agg #[.slice pa ns.length pc,.slice ta ns.length tc]] w fun e w' =>((256<(apN ns t put tak r).length∨63<r)∧e=.returned (.tuple #[.agg #[.int .i64 0,.slice none 0 0],.int .i64 2])∨((apN ns t put tak r).length≤256∧r≤63)∧∃ gb gc,e=.returned (.tuple #[.agg #[.int .i64 (r+1),.slice (some ⟨gb,0,none⟩) (apN ns t put tak r).length gc],.int .i64 0])∧w'.ownsRow w.heap.size 48 6 (.slice (some ⟨gb,0,none⟩) (apN ns t put tak r).length gc) (apN ns t put tak r).length ((apN ns t put tak r).flatMap encNd))∧Below w.heap.size w w' :=by
 obtain ⟨hcr,hto,_⟩:=tchk_zero hc
 have hl:=(chk_full hcr).1
 have hrb:0≤r∧r≤64:=by have:=chk_full hcr;omega
 have HFT:=hide (fun W (h:Below w.heap.size w W)=>fits_yes r b off cap ns t pa ta pc tc put tak W (hN.below h hN.lt) (by omega) hto e1 e2 (ht.below h) hTk)
 rw [e1,e2] at HFT
 have HWT:=hide (fun W (h:Below w.heap.size w W)=>withTaken_any b off cap ns ta tc tak r W (hN.below h hN.lt) (by omega) (ht.below h) e2)
 have HWP:=hide (fun (U:World) (hU:Below w.heap.size w U) (g0 cap0:Nat) (W:World) (h:Below U.heap.size U W) (hO:W.ownsRow U.heap.size 48 6 (.slice (some ⟨g0,0,none⟩) ns.length cap0) ns.length (((List.range ns.length).map (tkN ns tak r)).flatMap encNd))=>withPut_any g0 cap0 ns pa pc put tak t r U W h hO (by omega) (hp.below hU) e1)
 have HAL:Hid ((apN ns t put tak r).length≤512):=by have h1:=apTo_len ns t put tak r ns.length;have h2:=keptI_len put ns.length;rw [Hid,apN,h1];omega
 have HOF:=hide (fun W (h:Below w.heap.size w W)=>of_right r b off cap ns t W (hN.below h hN.lt) hc)
 have hbA:Below w.heap.size w ((((w.alloc (.cells #[.int .i64 r,.slice (some ⟨b,off,none⟩) ns.length cap] 24)).alloc (.cells #[.int .i64 t.op,.int .i64 t.a,.int .i64 t.b] 57)).alloc (.cells #[.slice pa ns.length pc,.slice ta ns.length tc] 138)).alloc (.cells #[.int .i64 0,.slice none 0 0] 24)):=(((((Below.refl _ w).alloc (Nat.le_refl _) _).alloc (by simp) _).alloc (by simp;omega) _).alloc (by simp;omega) _)
 have p0:((((w.alloc (.cells #[.int .i64 r,.slice (some ⟨b,off,none⟩) ns.length cap] 24)).alloc (.cells #[.int .i64 t.op,.int .i64 t.a,.int .i64 t.b] 57)).alloc (.cells #[.slice pa ns.length pc,.slice ta ns.length tc] 138)).alloc (.cells #[.int .i64 0,.slice none 0 0] 24)).heap[w.heap.size]?=some (.cells #[.int .i64 r,.slice (some ⟨b,off,none⟩) ns.length cap] 24 (0,0)):=by
  have:=World.alloc_heap_new w (.cells #[.int .i64 r,.slice (some ⟨b,off,none⟩) ns.length cap] 24)
  exact ((Below.heap_alloc _ _ _ (by simp;try omega)).trans (((Below.heap_alloc _ _ _ (by simp;try omega)).trans (((Below.heap_alloc _ _ _ (by simp;try omega)).trans (this))))))
 have p1:((((w.alloc (.cells #[.int .i64 r,.slice (some ⟨b,off,none⟩) ns.length cap] 24)).alloc (.cells #[.int .i64 t.op,.int .i64 t.a,.int .i64 t.b] 57)).alloc (.cells #[.slice pa ns.length pc,.slice ta ns.length tc] 138)).alloc (.cells #[.int .i64 0,.slice none 0 0] 24)).heap[w.heap.size+1]?=some (.cells #[.int .i64 t.op,.int .i64 t.a,.int .i64 t.b] 57 (0,0)):=by
  have:=World.alloc_heap_new (w.alloc (.cells #[.int .i64 r,.slice (some ⟨b,off,none⟩) ns.length cap] 24)) (.cells #[.int .i64 t.op,.int .i64 t.a,.int .i64 t.b] 57)
  simp only [World.size_alloc] at this
  exact ((Below.heap_alloc _ _ _ (by simp;try omega)).trans (((Below.heap_alloc _ _ _ (by simp;try omega)).trans (this))))
 have p2:((((w.alloc (.cells #[.int .i64 r,.slice (some ⟨b,off,none⟩) ns.length cap] 24)).alloc (.cells #[.int .i64 t.op,.int .i64 t.a,.int .i64 t.b] 57)).alloc (.cells #[.slice pa ns.length pc,.slice ta ns.length tc] 138)).alloc (.cells #[.int .i64 0,.slice none 0 0] 24)).heap[w.heap.size+2]?=some (.cells #[.slice pa ns.length pc,.slice ta ns.length tc] 138 (0,0)):=by
  have:=World.alloc_heap_new ((w.alloc (.cells #[.int .i64 r,.slice (some ⟨b,off,none⟩) ns.length cap] 24)).alloc (.cells #[.int .i64 t.op,.int .i64 t.a,.int .i64 t.b] 57)) (.cells #[.slice pa ns.length pc,.slice ta ns.length tc] 138)
  simp only [World.size_alloc] at this
  exact ((Below.heap_alloc _ _ _ (by simp;try omega)).trans (this))
 have p3:((((w.alloc (.cells #[.int .i64 r,.slice (some ⟨b,off,none⟩) ns.length cap] 24)).alloc (.cells #[.int .i64 t.op,.int .i64 t.a,.int .i64 t.b] 57)).alloc (.cells #[.slice pa ns.length pc,.slice ta ns.length tc] 138)).alloc (.cells #[.int .i64 0,.slice none 0 0] 24)).heap[w.heap.size+3]?=some (.cells #[.int .i64 0,.slice none 0 0] 24 (0,0)):=by
  have:=World.alloc_heap_new (((w.alloc (.cells #[.int .i64 r,.slice (some ⟨b,off,none⟩) ns.length cap] 24)).alloc (.cells #[.int .i64 t.op,.int .i64 t.a,.int .i64 t.b] 57)).alloc (.cells #[.slice pa ns.length pc,.slice ta ns.length tc] 138)) (.cells #[.int .i64 0,.slice none 0 0] 24)
  simp only [World.size_alloc] at this
  exact this
 go_enter Tryz.func79,Tryz.ntmps79
 go_upto_region 1 with fail
 generalize ((((w.alloc (.cells #[.int .i64 r,.slice (some ⟨b,off,none⟩) ns.length cap] 24)).alloc (.cells #[.int .i64 t.op,.int .i64 t.a,.int .i64 t.b] 57)).alloc (.cells #[.slice pa ns.length pc,.slice ta ns.length tc] 138)).alloc (.cells #[.int .i64 0,.slice none 0 0] 24))=W at hbA p0 p1 p2 p3 ⊢
 try rw [show w.heap.size+1+1=w.heap.size+2 from rfl]
 try rw [show w.heap.size+2+1=w.heap.size+3 from rfl]
 have q0:=blk_cell p0 0
 have q1:=blk_cell p0 1
 simp at q0 q1
 have t0:=blk_cell p1 0
 have t1:=blk_cell p1 1
 have t2:=blk_cell p1 2
 simp at t0 t1 t2
 have pl:=blk_lt p0
 have tl:=blk_lt p1
 have HB:=hide hbA
 have HP:=hide p0
 have HT:=hide p1
 have HU:=hide p2
 have HR:=hide p3
 clear hbA p0 p1 p2 p3
 go_wp2_with fail
 refine (HOF.out _ HB.out).mono ?_
 rintro e w1 ⟨a0,a1,a2,a3,a4,a5,c0,c1,c2,c3,c4,c5,rfl,_,hb1⟩
 have hbF:Below w1.heap.size w1 (w1.alloc (.cells #[.slice a0 ns.length c0,.slice a1 ns.length c1,.slice a2 ns.length c2,.slice a3 ns.length c3,.slice a4 ns.length c4,.slice a5 ns.length c5] 164)):=(Below.refl _ w1).alloc (Nat.le_refl _) _
 have HBW:=hide (hb1.trans (hbF.mono hb1.size))
 have HB2:=hide (HB.out.trans (HBW.out.mono HB.out.size))
 have hP:=(HBW.out.block _ pl).trans HP.out
 have hT:=(HBW.out.block _ tl).trans HT.out
 have hU:=(HBW.out.block _ (blk_lt HU.out)).trans HU.out
 have hR:=(HBW.out.block _ (blk_lt HR.out)).trans HR.out
 clear hb1 q0 q1 t0 t1 t2 pl tl HB HR HP HT HU HOF HBW
 go_upto_region 4 with fail
 generalize (w1.alloc (.cells #[.slice a0 ns.length c0,.slice a1 ns.length c1,.slice a2 ns.length c2,.slice a3 ns.length c3,.slice a4 ns.length c4,.slice a5 ns.length c5] 164))=V at hbF HB2 hP hT hU hR ⊢
 generalize w1.heap.size=FB at *
 clear hbF
 have q0:=blk_cell hP 0
 have q1:=blk_cell hP 1
 simp at q0 q1
 have t0:=blk_cell hT 0
 have t1:=blk_cell hT 1
 have t2:=blk_cell hT 2
 simp at t0 t1 t2
 have u0:=blk_cell hU 0
 have u1:=blk_cell hU 1
 simp at u0 u1
 have pl:=blk_lt hP
 have tl:=blk_lt hT
 have ul:=blk_lt hU
 have HP:=hide hP
 have HT:=hide hT
 have HU:=hide hU
 have HR:=hide hR
 clear hP hT hU hR
 clear hp ht hTk e1 e2 hto hcr hc hN
 go_wp2_with fail
 refine (HFT.out _ HB2.out).mono ?_
 rintro e w2 ⟨rfl,hb2⟩
 have hP:=(hb2.block _ pl).trans HP.out
 have hT:=(hb2.block _ tl).trans HT.out
 have hU:=(hb2.block _ ul).trans HU.out
 have HR2:=hide ((hb2.block _ (blk_lt HR.out)).trans HR.out)
 have HB3:=hide (HB2.out.trans (hb2.mono HB2.out.size))
 clear q0 q1 t0 t1 t2 u0 u1 pl tl ul HP HT HU HR HB2 hb2 HFT
 have q0:=blk_cell hP 0
 have q1:=blk_cell hP 1
 simp at q0 q1
 have pl:=blk_lt hP
 go_upto_region 7 with fail
 have tl:=blk_lt hT
 have ul:=blk_lt hU
 have HH:Hid (∀ u:World,Below w2.heap.size w2 u→u.cell? ⟨w.heap.size,0,none⟩=some (.int .i64 r)∧u.cell? ⟨w.heap.size,1,none⟩=some (.slice (some ⟨b,off,none⟩) ns.length cap)∧u.cell? ⟨w.heap.size+1,0,none⟩=some (.int .i64 t.op)∧u.cell? ⟨w.heap.size+1,1,none⟩=some (.int .i64 t.a)∧u.cell? ⟨w.heap.size+1,2,none⟩=some (.int .i64 t.b)∧u.cell? ⟨w.heap.size+2,0,none⟩=some (.slice pa ns.length pc)∧u.cell? ⟨w.heap.size+2,1,none⟩=some (.slice ta ns.length tc)):=fun u h=>by
  have k1:=(h.block _ pl).trans hP
  have k2:=(h.block _ tl).trans hT
  have k3:=(h.block _ ul).trans hU
  refine ⟨?_,?_,?_,?_,?_,?_,?_⟩
  ·rw [blk_cell k1];rfl
  ·rw [blk_cell k1];rfl
  ·rw [blk_cell k2];rfl
  ·rw [blk_cell k2];rfl
  ·rw [blk_cell k2];rfl
  ·rw [blk_cell k3];rfl
  ·rw [blk_cell k3];rfl
 clear hP hT hU q0 q1
 go_region_held3 (fun u=>u.cell? ⟨w.heap.size,0,none⟩=some (.int .i64 r)∧u.cell? ⟨w.heap.size,1,none⟩=some (.slice (some ⟨b,off,none⟩) ns.length cap)∧u.cell? ⟨w.heap.size+1,0,none⟩=some (.int .i64 t.op)∧u.cell? ⟨w.heap.size+1,1,none⟩=some (.int .i64 t.a)∧u.cell? ⟨w.heap.size+1,2,none⟩=some (.int .i64 t.b)∧u.cell? ⟨w.heap.size+2,0,none⟩=some (.slice pa ns.length pc)∧u.cell? ⟨w.heap.size+2,1,none⟩=some (.slice ta ns.length tc)) (with_reducible refine HH.out _ ?_;first | with_reducible exact hB5 | with_reducible exact hB4 | with_reducible exact (Below.refl _ w2).drew | with_reducible exact (Below.refl _ w2)) (first
  | (go_at_call 110;refine (HWP.out w2 HB3.out _ _ _ hB4 hV).mono ?_;rintro e w5 ⟨gb,gc,rfl,hV5,hB5⟩)
  | (go_at_call 111;refine (HWT.out _ (by first | exact HB3.out.trans ((Below.refl _ w2).drew.mono HB3.out.size) | exact HB3.out)).mono ?_;rintro e w4 ⟨cb,cc,rfl,hV,hb4⟩;have hB4:Below w2.heap.size w2 w4:=(by first | exact (Below.refl _ w2).drew.trans hb4 | exact hb4)))
 all_goals have hR5:=(hB5.block _ (blk_lt HR2.out)).trans HR2.out
 all_goals have y0:=blk_cell hR5 0
 all_goals have y1:=blk_cell hR5 1
 all_goals simp at y0 y1
 all_goals have z0:=blk_frozen hR5 0
 all_goals have z1:=blk_frozen hR5 1
 all_goals have ylt:=blk_lt hR5
 all_goals have HR5:=hide hR5
 all_goals have HV5:=hide (ownsRow_base hV5 (base' :=w.heap.size) HB3.out.size)
 all_goals have HB5:=hide (HB3.out.trans (hB5.mono HB3.out.size))
 all_goals clear hR5 hV5 hV hb4 hB4 hB5 HH pl tl ul
 all_goals generalize hL:(apN ns t put tak r).length=L at HAL HV5 ⊢
 all_goals have hLi:L≤512:=HAL.out
 all_goals have HL:=hide hL
 all_goals clear hL
 all_goals by_cases h256:256<L
 ·have h256i:(256:Int)<(L:Int):=by omega
  go_wp2
  have hk:=blk_set2 (v0:=.int .i64 0) (v1:=.slice none 0 0) HR5.out
  have k0:=blk_cell hk 0
  have k1:=blk_cell hk 1
  simp at k0 k1
  exact bodyPost_ret (v:=.tuple #[.agg #[.int .i64 0,.slice none 0 0],.int .i64 2]) (by simp [results,Tryz.results79,go_sem,k0,k1]) rfl ⟨Or.inl ⟨Or.inl (by rw [HL.out];exact h256),rfl⟩,below_set2 HB5.out (by omega)⟩
 ·have h256i:¬ (256:Int)<(L:Int):=by omega
  by_cases h64:64<r+1
  ·go_wp2
   have hk:=blk_set2 (v0:=.int .i64 0) (v1:=.slice none 0 0) HR5.out
   have k0:=blk_cell hk 0
   have k1:=blk_cell hk 1
   simp at k0 k1
   exact bodyPost_ret (v:=.tuple #[.agg #[.int .i64 0,.slice none 0 0],.int .i64 2]) (by simp [results,Tryz.results79,go_sem,k0,k1]) rfl ⟨Or.inl ⟨Or.inr (by omega),rfl⟩,below_set2 HB5.out (by omega)⟩
  ·go_wp2
   have hk:=blk_set2 (v0:=.int .i64 (r+1)) (v1:=.slice (some ⟨gb,0,none⟩) L gc) HR5.out
   have k0:=blk_cell hk 0
   have k1:=blk_cell hk 1
   simp at k0 k1
   exact bodyPost_ret (v:=.tuple #[.agg #[.int .i64 (r+1),.slice (some ⟨gb,0,none⟩) L gc],.int .i64 0]) (by simp [results,Tryz.results79,go_sem,k0,k1]) rfl ⟨Or.inr ⟨⟨by rw [HL.out];omega,by omega⟩,gb,gc,by rw [HL.out],by rw [HL.out];exact owns_set (o:=1) (u:=.slice (some ⟨gb,0,none⟩) L gc) (owns_set (o:=0) (u:=.int .i64 (r+1)) HV5.out HR5.out (by decide)) (blk_set (i:=0) (.int .i64 (r+1)) HR5.out) (by decide)⟩,below_set2 HB5.out (by omega)⟩
end Go.Proofs.YtkkolclmfcmfbaaGreatDoor
namespace Go.Proofs.YtkkolclmfcmfbaaGreatDoor
def Sims (ns:List Nd) (r:Nat) (ms:List Nd) (r' :Nat):Prop :=
 ∀ inp:List Int,∃ (f:Nat→Nat) (sil:Nat→Bool) (rk:Nat→Nat) (M:Nat) (R:St→St→Prop),Sim ns ms f sil rk M R∧R (st0 r inp) (st0 r' inp)
theorem Sims.does {ns ms:List Nd} {r r' :Nat} (h:Sims ns r ms r') (inp:List Int) (n:Nat):Does ns ms (st0 r inp) (st0 r' inp) n:=by
 obtain ⟨f,sil,rk,M,R,hS,h0⟩:=h inp
 exact hS.does h0 n
theorem Sims.trans {ns ms ls:List Nd} {r r' r'' :Nat} (h:Sims ns r ms r') (h' :Sims ms r' ls r''):Sims ns r ls r'' :=fun inp=>by
 obtain ⟨f,sil,rk,M,R,hS,h0⟩:=h inp
 obtain ⟨f', sil', rk', M', R', hS', h0'⟩:=h' inp
 exact ⟨_,_,_,_,_,hS.comp hS', _,h0,h0'⟩
theorem run1_in {r:Int} {ns:List Nd} (hc:chk r ns=0) {s:St} (h:s.pc<ns.length):(run1 ns s).pc<ns.length:=by
 unfold run1
 split
 ·exact h
 ·rw [get_nd h]
  rcases stp_next hc h s with ⟨_,e⟩ | ⟨_,e⟩
  ·show (stp (nd ns s.pc) s).pc<_
   rw [e];omega
  ·exact (mem_nxl.1 e).1
theorem Sims.refl {r:Int} {ns:List Nd} (hc:chk r ns=0) (k:Nat):Sims ns k ns k:=fun inp=>by
 refine ⟨id,fun _=>false,fun _=>0,0,fun s u=>s=u∧s.pc<ns.length,⟨?_,?_,?_,?_,fun _=>Nat.le_refl _⟩,rfl,(chk_full hc).1.1⟩
 ·rintro s u ⟨rfl,h⟩;exact ⟨rfl,h,h⟩
 ·rintro s u ⟨rfl,_⟩;exact ⟨rfl,rfl,rfl⟩
 ·intro s u _ _ q;cases q
 ·rintro s u ⟨rfl,h⟩ _ _;exact ⟨rfl,run1_in hc h⟩
theorem trim_step {r:Int} {ns:List Nd} (hc:chk r ns=0) {s:St} (h:s.pc<ns.length∧bat (rchL ns) s.pc=true):(run1 ns s).pc<ns.length∧bat (rchL ns) (run1 ns s).pc=true:=by
 cases he:s.ended
 ·rw [run1_at he (get_nd h.1)]
  rcases stp_next hc h.1 s with ⟨_,e⟩ | ⟨h12,e⟩
  ·rw [e];exact ⟨by omega,rch_zero (by omega)⟩
  ·have hm:=mem_nxl.1 e
   exact ⟨hm.1,(rch_bat hm.1).2 (Rch.step ((rch_bat h.1).1 h.2) hm.2)⟩
 ·rw [run1_ended he];exact h
theorem trim_sims {r:Int} {ns:List Nd} (hc:chk r ns=0) (k:Nat):Sims ns k (trimN ns) k:=fun inp=>by
 have h0:=(chk_full hc).1.1
 have e0:renS (rchL ns) (st0 k inp)=st0 k inp:=by simp [renS,st0,anew_zero]
 refine ⟨fun i=>(keptI (rchL ns) ns.length).getD i 0,fun _=>false,fun _=>0,0,fun s u=>u=renS (rchL ns) s∧s.pc<ns.length∧bat (rchL ns) s.pc=true,⟨?_,?_,?_,?_,fun _=>Nat.le_refl _⟩,e0.symm,h0,rch_zero h0⟩
 ·rintro s u ⟨rfl,h1,h2⟩
  refine ⟨?_,h1,anew_lt h1 h2⟩
  show s.pc=(keptI (rchL ns) ns.length).getD (anewAt (rchL ns) s.pc) 0
  rw [anewAt,if_pos h2,List.getD_eq_getElem?_getD,keptI_get h2 h1];rfl
 ·rintro s u ⟨rfl,_⟩;exact ⟨rfl,rfl,rfl⟩
 ·intro s u _ _ q;cases q
 ·rintro s u ⟨rfl,h1,h2⟩ _ _
  exact ⟨(trim_run1 hc (Or.inr ⟨h1,h2⟩)).1,trim_step hc ⟨h1,h2⟩⟩
theorem split_sims {r:Int} {ns:List Nd} (hc:chk r ns=0) (k:Nat):Sims ns k (splitN ns) k:=fun inp =>
 ⟨_,_,_,_,_,split_sim hc,split_begin hc k inp⟩
theorem move_sims {r:Nat} {ns:List Nd} (hc:chk r ns=0) {t:Tm} (ht:TmOk r t) {put tak:List Bool} {A:Nat→Bool} (hS:Safe ns t (bat put) (bat tak) A):Sims ns r (apN ns t put tak r) (r+1):=fun inp =>
 ⟨_,_,_,_,_,move_sim hc ht hS,move_begin hc hS inp⟩
def oneQ (ns:List Nd):List Nd:=splitN (trimN ns)
def oneB (ns:List Nd) (t:Tm):Bool:=(lazyPut (oneQ ns) t).any id||(lazyTake (oneQ ns) t).any id
def oneN (ns:List Nd) (t:Tm) (r:Int):List Nd:=if oneB ns t then apN (oneQ ns) t (lazyPut (oneQ ns) t) (lazyTake (oneQ ns) t) r else ns
def oneR (ns:List Nd) (t:Tm) (r:Int):Int:=if oneB ns t then r+1 else r
theorem lazy_takeOk (ns:List Nd) (t:Tm):TakeOk ns t (lazyTake ns t):=fun n hn h=>by
 have ht:bat (lazyTake ns t) n=(bat (rcl ns t) n&&!(bat (lateL ns t) n&&bat (aloneL ns t) n)):=by unfold lazyTake;rw [bat_map _ hn]
 rw [ht,bat_rcl hn] at h
 simp only [Bool.and_eq_true] at h
 exact h.1
theorem one_sims {r:Int} {ns:List Nd} (hc:chk r ns=0) {t:Tm} (ht:TmOk r t) (hl:(oneQ ns).length≤256):Sims ns r.toNat (oneN ns t r) (oneR ns t r).toNat:=by
 have hr:=(chk_full hc).2.1
 have hct:=trim_chk hc
 have hcs:=split_chk hct hl
 unfold oneN oneR
 split
 ·have er:((r.toNat:Nat):Int)=r:=by omega
  have h3:=move_sims (r:=r.toNat) (ns:=oneQ ns) (by rw [er];exact hcs) (t:=t) (by rw [er];exact ht) (lazy_safe hcs t)
  rw [er] at h3
  have e1:(r+1).toNat=r.toNat+1:=by omega
  rw [e1]
  exact ((trim_sims hc _).trans (split_sims hct _)).trans h3
 ·exact Sims.refl hc _
theorem one_chk {r:Int} {ns:List Nd} (hc:chk r ns=0) {t:Tm} (ht:TmOk r t) (hl:(oneQ ns).length≤256) (h1:(oneN ns t r).length≤256) (h2:oneR ns t r≤64):chk (oneR ns t r) (oneN ns t r)=0:=by
 have hcs:=split_chk (trim_chk hc) hl
 unfold oneN oneR at *
 split
 ·rename_i hb
  rw [if_pos hb] at h1 h2
  exact ap_chk hcs ht (lazy_takeOk _ t) h1 h2
 ·exact hc
end Go.Proofs.YtkkolclmfcmfbaaGreatDoor
namespace Go.Proofs.YtkkolclmfcmfbaaGreatDoor
open Go.RowKit Go.Shelf
theorem NodesAt.setM {w:World} {b off B o:Nat} {ns:List Nd} {v:Value} (h:NodesAt w b off ns) (hne:b≠B):NodesAt (w.setCell ⟨B,o,none⟩ v) b off ns:=by
 have e:∀ k,(w.setCell ⟨B,o,none⟩ v).cell? ⟨b,k,none⟩=w.cell? ⟨b,k,none⟩:=fun k=>World.cell?_of_block (cells_setP hne _ _)
 exact ⟨by simpa using h.lt,fun i x hx=>(e _).trans (h.c0 i x hx),fun i x hx=>(e _).trans (h.c1 i x hx),fun i x hx=>(e _).trans (h.c2 i x hx),fun i x hx=>(e _).trans (h.c3 i x hx),fun i x hx=>(e _).trans (h.c4 i x hx),fun i x hx=>(e _).trans (h.c5 i x hx)⟩
theorem split_fitM (r:Int) (b off cap:Nat) (ns:List Nd) (w:World) (hN:NodesAt w b off ns) (hc:chk r ns=0) (hl:(splitN ns).length≤256) :
 Calls Tryz.prog 31 #[.agg #[.int .i64 r,.slice (some ⟨b,off,none⟩) ns.length cap]] w fun e w' =>∃ tb tq tc,e=.returned (.tuple #[.agg #[.int .i64 r,.slice (some ⟨tb,tq,none⟩) (splitN ns).length tc],.int .i64 0])∧NodesAt w' tb tq (splitN ns)∧w.heap.size≤tb∧Below w.heap.size w w' :=by
 refine (callsIn_wide.1 (split_ok r b off cap ns w hN hc)).mono ?_
 rintro e w' ⟨v1,v2,er,rfl,h,hB⟩
 rcases h with ⟨_,rfl,rfl,hv⟩ | ⟨h,_⟩
 ·obtain ⟨ta,tc,rfl,hs⟩:=nodes_of_owns hv
  obtain ⟨tb,tq,rfl,hn⟩:=hs.some (chk_zero (split_chk hc hl)).1.1
  rcases hv.2 with ⟨q,_⟩ | ⟨g', c,cur,q,a1,a2,_⟩
  ·cases q
  ·cases q;exact ⟨tb,0,tc,rfl,hn,a1,hB⟩
 ·omega
set_option maxRecDepth 100000 in
theorem one_wrong (r:Int) (a:Option Addr) (cap:Nat) (ns:List Nd) (t:Tm) (w:World) (hN:SlN w a ns) (hc:chk r ns≠0) :
 Calls Tryz.prog 53 #[.agg #[.int .i64 r,.slice a ns.length cap],.agg #[.int .i64 t.op,.int .i64 t.a,.int .i64 t.b]] w fun e w' =>e=.returned (.tuple #[.agg #[.int .i64 0,.slice none 0 0],.int .i64 (chk r ns)])∧Below w.heap.size w w' :=by
 have HTR:=hide (fun W (h:Below w.heap.size w W)=>trim_err r a cap ns W (hN.below h) hc)
 have hCb:(chk r ns==0)=false:=by simp [hc]
 have hCn:(chk r ns != 0)=true:=by simp [hc]
 clear hc hN
 generalize chk r ns=C at *
 have hbA:Below w.heap.size w (((w.alloc (.cells #[.int .i64 r,.slice a ns.length cap] 24)).alloc (.cells #[.int .i64 t.op,.int .i64 t.a,.int .i64 t.b] 57)).alloc (.cells #[.int .i64 0,.slice none 0 0] 24)):=((((Below.refl _ w).alloc (Nat.le_refl _) _).alloc (by simp) _).alloc (by simp;omega) _)
 have p0:(((w.alloc (.cells #[.int .i64 r,.slice a ns.length cap] 24)).alloc (.cells #[.int .i64 t.op,.int .i64 t.a,.int .i64 t.b] 57)).alloc (.cells #[.int .i64 0,.slice none 0 0] 24)).heap[w.heap.size]?=some (.cells #[.int .i64 r,.slice a ns.length cap] 24 (0,0)):=by
  have:=World.alloc_heap_new w (.cells #[.int .i64 r,.slice a ns.length cap] 24)
  exact ((Below.heap_alloc _ _ _ (by simp;try omega)).trans (((Below.heap_alloc _ _ _ (by simp;try omega)).trans (this))))
 have p1:(((w.alloc (.cells #[.int .i64 r,.slice a ns.length cap] 24)).alloc (.cells #[.int .i64 t.op,.int .i64 t.a,.int .i64 t.b] 57)).alloc (.cells #[.int .i64 0,.slice none 0 0] 24)).heap[w.heap.size+1]?=some (.cells #[.int .i64 t.op,.int .i64 t.a,.int .i64 t.b] 57 (0,0)):=by
  have:=World.alloc_heap_new (w.alloc (.cells #[.int .i64 r,.slice a ns.length cap] 24)) (.cells #[.int .i64 t.op,.int .i64 t.a,.int .i64 t.b] 57)
  simp only [World.size_alloc] at this
  exact ((Below.heap_alloc _ _ _ (by simp;try omega)).trans (this))
 have p2:(((w.alloc (.cells #[.int .i64 r,.slice a ns.length cap] 24)).alloc (.cells #[.int .i64 t.op,.int .i64 t.a,.int .i64 t.b] 57)).alloc (.cells #[.int .i64 0,.slice none 0 0] 24)).heap[w.heap.size+2]?=some (.cells #[.int .i64 0,.slice none 0 0] 24 (0,0)):=by
  have:=World.alloc_heap_new ((w.alloc (.cells #[.int .i64 r,.slice a ns.length cap] 24)).alloc (.cells #[.int .i64 t.op,.int .i64 t.a,.int .i64 t.b] 57)) (.cells #[.int .i64 0,.slice none 0 0] 24)
  simp only [World.size_alloc] at this
  exact this
 go_enter Tryz.func53,Tryz.ntmps53
 go_upto_region 1 with fail
 generalize (((w.alloc (.cells #[.int .i64 r,.slice a ns.length cap] 24)).alloc (.cells #[.int .i64 t.op,.int .i64 t.a,.int .i64 t.b] 57)).alloc (.cells #[.int .i64 0,.slice none 0 0] 24))=W at hbA p0 p1 p2 ⊢
 try rw [show w.heap.size+1+1=w.heap.size+2 from rfl]
 have q0:=blk_cell p0 0
 have q1:=blk_cell p0 1
 simp at q0 q1
 have pl:=blk_lt p0
 have HB:=hide hbA
 have HP:=hide p0
 have HT:=hide p1
 have HR:=hide p2
 clear hbA p0 p1 p2
 go_wp2_with fail
 refine (HTR.out _ HB.out).mono ?_
 rintro e w1 ⟨rfl,hb1⟩
 have HR1:=hide ((hb1.block _ (blk_lt HR.out)).trans HR.out)
 have HB1:=hide (HB.out.trans (hb1.mono HB.out.size))
 clear hb1 q0 q1 pl HB HR HP HT HTR
 have hR:=HR1.out
 have y0:=blk_cell hR 0
 have y1:=blk_cell hR 1
 simp at y0 y1
 have z0:=blk_frozen hR 0
 have z1:=blk_frozen hR 1
 have ylt:=blk_lt hR
 clear hR
 go_wp2
 have hk0:=blk_set2 (v0:=.int .i64 0) (v1:=.slice none 0 0) HR1.out
 have hB5:=below_set2 (v0:=.int .i64 0) (v1:=.slice none 0 0) HB1.out (B:=w.heap.size+2) (by omega)
 have hk:=(Below.heap_alloc _ (.cells #[.int .i64 0,.slice none 0 0] 24) _ (blk_lt hk0)).trans hk0
 have k0:=blk_cell hk 0
 have k1:=blk_cell hk 1
 simp at k0 k1
 exact bodyPost_ret (v:=.tuple #[.agg #[.int .i64 0,.slice none 0 0],.int .i64 C]) (by simp [results,Tryz.results53,go_sem,k0,k1]) rfl ⟨rfl,hB5.alloc hB5.size _⟩
set_option maxRecDepth 100000 in
theorem one_many (r:Int) (b off cap:Nat) (ns:List Nd) (t:Tm) (w:World) (hN:NodesAt w b off ns) (hc:chk r ns=0) (hl:256<(oneQ ns).length) :
 Calls Tryz.prog 53 #[.agg #[.int .i64 r,.slice (some ⟨b,off,none⟩) ns.length cap],.agg #[.int .i64 t.op,.int .i64 t.a,.int .i64 t.b]] w fun e w' =>e=.returned (.tuple #[.agg #[.int .i64 0,.slice none 0 0],.int .i64 2])∧Below w.heap.size w w' :=by
 have HSP:=hide (fun (W:World) (tb tq tc:Nat) (h:NodesAt W tb tq (trimN ns))=>split_long r tb tq tc (trimN ns) W h (trim_chk hc) hl)
 have HTR:=hide (fun W (h:Below w.heap.size w W)=>trim_fit r b off cap ns W (hN.below h hN.lt) hc)
 have hbA:Below w.heap.size w (((w.alloc (.cells #[.int .i64 r,.slice (some ⟨b,off,none⟩) ns.length cap] 24)).alloc (.cells #[.int .i64 t.op,.int .i64 t.a,.int .i64 t.b] 57)).alloc (.cells #[.int .i64 0,.slice none 0 0] 24)):=((((Below.refl _ w).alloc (Nat.le_refl _) _).alloc (by simp) _).alloc (by simp;omega) _)
 have p0:(((w.alloc (.cells #[.int .i64 r,.slice (some ⟨b,off,none⟩) ns.length cap] 24)).alloc (.cells #[.int .i64 t.op,.int .i64 t.a,.int .i64 t.b] 57)).alloc (.cells #[.int .i64 0,.slice none 0 0] 24)).heap[w.heap.size]?=some (.cells #[.int .i64 r,.slice (some ⟨b,off,none⟩) ns.length cap] 24 (0,0)):=by
  have:=World.alloc_heap_new w (.cells #[.int .i64 r,.slice (some ⟨b,off,none⟩) ns.length cap] 24)
  exact ((Below.heap_alloc _ _ _ (by simp;try omega)).trans (((Below.heap_alloc _ _ _ (by simp;try omega)).trans (this))))
 have p1:(((w.alloc (.cells #[.int .i64 r,.slice (some ⟨b,off,none⟩) ns.length cap] 24)).alloc (.cells #[.int .i64 t.op,.int .i64 t.a,.int .i64 t.b] 57)).alloc (.cells #[.int .i64 0,.slice none 0 0] 24)).heap[w.heap.size+1]?=some (.cells #[.int .i64 t.op,.int .i64 t.a,.int .i64 t.b] 57 (0,0)):=by
  have:=World.alloc_heap_new (w.alloc (.cells #[.int .i64 r,.slice (some ⟨b,off,none⟩) ns.length cap] 24)) (.cells #[.int .i64 t.op,.int .i64 t.a,.int .i64 t.b] 57)
  simp only [World.size_alloc] at this
  exact ((Below.heap_alloc _ _ _ (by simp;try omega)).trans (this))
 have p2:(((w.alloc (.cells #[.int .i64 r,.slice (some ⟨b,off,none⟩) ns.length cap] 24)).alloc (.cells #[.int .i64 t.op,.int .i64 t.a,.int .i64 t.b] 57)).alloc (.cells #[.int .i64 0,.slice none 0 0] 24)).heap[w.heap.size+2]?=some (.cells #[.int .i64 0,.slice none 0 0] 24 (0,0)):=by
  have:=World.alloc_heap_new ((w.alloc (.cells #[.int .i64 r,.slice (some ⟨b,off,none⟩) ns.length cap] 24)).alloc (.cells #[.int .i64 t.op,.int .i64 t.a,.int .i64 t.b] 57)) (.cells #[.int .i64 0,.slice none 0 0] 24)
  simp only [World.size_alloc] at this
  exact this
 go_enter Tryz.func53,Tryz.ntmps53
 go_upto_region 1 with fail
 generalize (((w.alloc (.cells #[.int .i64 r,.slice (some ⟨b,off,none⟩) ns.length cap] 24)).alloc (.cells #[.int .i64 t.op,.int .i64 t.a,.int .i64 t.b] 57)).alloc (.cells #[.int .i64 0,.slice none 0 0] 24))=W at hbA p0 p1 p2 ⊢
 try rw [show w.heap.size+1+1=w.heap.size+2 from rfl]
 have q0:=blk_cell p0 0
 have q1:=blk_cell p0 1
 simp at q0 q1
 have pl:=blk_lt p0
 have HB:=hide hbA
 have HP:=hide p0
 have HT:=hide p1
 have HR:=hide p2
 clear hbA p0 p1 p2
 go_wp2_with fail
 refine (HTR.out _ HB.out).mono ?_
 rintro e w1 ⟨tb,tq,tc,rfl,hN1,hb1⟩
 have hbF:Below w1.heap.size w1 (w1.alloc (.cells #[.int .i64 r,.slice (some ⟨tb,tq,none⟩) (trimN ns).length tc] 24)):=(Below.refl _ w1).alloc (Nat.le_refl _) _
 have hQ:(w1.alloc (.cells #[.int .i64 r,.slice (some ⟨tb,tq,none⟩) (trimN ns).length tc] 24)).heap[w1.heap.size]?=some (.cells #[.int .i64 r,.slice (some ⟨tb,tq,none⟩) (trimN ns).length tc] 24 (0,0)):=World.alloc_heap_new w1 _
 have HBW:=hide (hb1.trans (hbF.mono hb1.size))
 have HB2:=hide (HB.out.trans (HBW.out.mono HB.out.size))
 have HN2:=hide (hN1.below hbF hN1.lt)
 have HP2:=hide ((HBW.out.block _ (blk_lt HP.out)).trans HP.out)
 have HT2:=hide ((HBW.out.block _ (blk_lt HT.out)).trans HT.out)
 have HR2:=hide ((HBW.out.block _ (blk_lt HR.out)).trans HR.out)
 have hQs:w.heap.size+2<w1.heap.size:=by have h1:=blk_lt HR.out;have h2:=hb1.size;omega
 clear hb1 q0 q1 pl HB HR HP HT HTR HBW hN1
 go_upto_region 4 with fail
 generalize (w1.alloc (.cells #[.int .i64 r,.slice (some ⟨tb,tq,none⟩) (trimN ns).length tc] 24))=V at hbF hQ HB2 HN2 HP2 HT2 HR2 ⊢
 generalize w1.heap.size=QB at *
 clear hbF
 have q0:=blk_cell hQ 0
 have q1:=blk_cell hQ 1
 simp at q0 q1
 have ql:=blk_lt hQ
 have HQ:=hide hQ
 clear hQ
 have z0:=blk_frozen HQ.out 0
 have z1:=blk_frozen HQ.out 1
 clear z0 z1
 go_wp2_with fail
 refine (HSP.out _ tb tq tc HN2.out).mono ?_
 rintro e w2 ⟨rfl,hb2⟩
 have hQ2:=(hb2.block _ ql).trans HQ.out
 clear q0 q1 ql
 have q0:=blk_cell hQ2 0
 have q1:=blk_cell hQ2 1
 simp at q0 q1
 have f0:=blk_frozen hQ2 0
 have f1:=blk_frozen hQ2 1
 have ql:=blk_lt hQ2
 have hR2:=(hb2.block _ (blk_lt HR2.out)).trans HR2.out
 have hne:w.heap.size+2≠QB:=by omega
 have HR1:Hid (((w2.setCell ⟨QB,0,none⟩ (.int .i64 0)).setCell ⟨QB,1,none⟩ (.slice none 0 0)).heap[w.heap.size+2]?=some (.cells #[.int .i64 0,.slice none 0 0] 24 (0,0))):=(cells_setP hne _ _).trans ((cells_setP hne _ _).trans hR2)
 have HB1:=hide (below_set2 (v0:=.int .i64 0) (v1:=.slice none 0 0) (HB2.out.trans (hb2.mono HB2.out.size)) (B:=QB) (by omega))
 have hx:((w2.setCell ⟨QB,0,none⟩ (.int .i64 0)).setCell ⟨QB,1,none⟩ (.slice none 0 0)).heap.size=w2.heap.size:=by simp
 clear hb2 hQ2 hR2 HR2 HB2 HQ HN2 HP2 HT2 HSP
 go_upto_region 5 with fail
 clear q0 q1 f0 f1
 generalize ((w2.setCell ⟨QB,0,none⟩ (.int .i64 0)).setCell ⟨QB,1,none⟩ (.slice none 0 0))=U at HR1 HB1 hx ⊢
 have hR:=HR1.out
 have y0:=blk_cell hR 0
 have y1:=blk_cell hR 1
 simp at y0 y1
 have z0:=blk_frozen hR 0
 have z1:=blk_frozen hR 1
 have ylt:=blk_lt hR
 clear hR
 go_wp2
 have hk0:=blk_set2 (v0:=.int .i64 0) (v1:=.slice none 0 0) HR1.out
 have hB5:=below_set2 (v0:=.int .i64 0) (v1:=.slice none 0 0) HB1.out (B:=w.heap.size+2) (by omega)
 have k0:=blk_cell hk0 0
 have k1:=blk_cell hk0 1
 simp at k0 k1
 exact bodyPost_ret (v:=.tuple #[.agg #[.int .i64 0,.slice none 0 0],.int .i64 2]) (by simp [results,Tryz.results53,go_sem,k0,k1]) rfl ⟨rfl,hB5⟩
set_option maxRecDepth 100000 in
theorem one_term (r:Int) (b off cap:Nat) (ns:List Nd) (t:Tm) (w:World) (hN:NodesAt w b off ns) (hc:chk r ns=0) (hl:(oneQ ns).length≤256) (ht:tchk r (oneQ ns) t≠0) :
 Calls Tryz.prog 53 #[.agg #[.int .i64 r,.slice (some ⟨b,off,none⟩) ns.length cap],.agg #[.int .i64 t.op,.int .i64 t.a,.int .i64 t.b]] w fun e w' =>e=.returned (.tuple #[.agg #[.int .i64 0,.slice none 0 0],.int .i64 (tchk r (oneQ ns) t)])∧Below w.heap.size w w' :=by
 have HLZ:=hide (fun (W:World) (sb sq sc:Nat) (h:NodesAt W sb sq (oneQ ns))=>lazy_wrong r (some ⟨sb,sq,none⟩) sc (oneQ ns) t W (Or.inr ⟨sb,sq,rfl,h⟩) ht)
 have hCb:(tchk r (oneQ ns) t==0)=false:=by simp [ht]
 have hCn:(tchk r (oneQ ns) t != 0)=true:=by simp [ht]
 clear ht
 generalize tchk r (oneQ ns) t=C at *
 have hl' :(splitN (trimN ns)).length≤256:=hl
 have hch:chk r (oneQ ns)=0:=split_chk (trim_chk hc) hl'
 have HSP:=hide (fun (W:World) (tb tq tc:Nat) (h:NodesAt W tb tq (trimN ns))=>split_fitM r tb tq tc (trimN ns) W h (trim_chk hc) hl)
 rw [show splitN (trimN ns)=oneQ ns from rfl] at HSP
 have HTR:=hide (fun W (h:Below w.heap.size w W)=>trim_fit r b off cap ns W (hN.below h hN.lt) hc)
 have hbA:Below w.heap.size w (((w.alloc (.cells #[.int .i64 r,.slice (some ⟨b,off,none⟩) ns.length cap] 24)).alloc (.cells #[.int .i64 t.op,.int .i64 t.a,.int .i64 t.b] 57)).alloc (.cells #[.int .i64 0,.slice none 0 0] 24)):=((((Below.refl _ w).alloc (Nat.le_refl _) _).alloc (by simp) _).alloc (by simp;omega) _)
 have p0:(((w.alloc (.cells #[.int .i64 r,.slice (some ⟨b,off,none⟩) ns.length cap] 24)).alloc (.cells #[.int .i64 t.op,.int .i64 t.a,.int .i64 t.b] 57)).alloc (.cells #[.int .i64 0,.slice none 0 0] 24)).heap[w.heap.size]?=some (.cells #[.int .i64 r,.slice (some ⟨b,off,none⟩) ns.length cap] 24 (0,0)):=by
  have:=World.alloc_heap_new w (.cells #[.int .i64 r,.slice (some ⟨b,off,none⟩) ns.length cap] 24)
  exact ((Below.heap_alloc _ _ _ (by simp;try omega)).trans (((Below.heap_alloc _ _ _ (by simp;try omega)).trans (this))))
 have p1:(((w.alloc (.cells #[.int .i64 r,.slice (some ⟨b,off,none⟩) ns.length cap] 24)).alloc (.cells #[.int .i64 t.op,.int .i64 t.a,.int .i64 t.b] 57)).alloc (.cells #[.int .i64 0,.slice none 0 0] 24)).heap[w.heap.size+1]?=some (.cells #[.int .i64 t.op,.int .i64 t.a,.int .i64 t.b] 57 (0,0)):=by
  have:=World.alloc_heap_new (w.alloc (.cells #[.int .i64 r,.slice (some ⟨b,off,none⟩) ns.length cap] 24)) (.cells #[.int .i64 t.op,.int .i64 t.a,.int .i64 t.b] 57)
  simp only [World.size_alloc] at this
  exact ((Below.heap_alloc _ _ _ (by simp;try omega)).trans (this))
 have p2:(((w.alloc (.cells #[.int .i64 r,.slice (some ⟨b,off,none⟩) ns.length cap] 24)).alloc (.cells #[.int .i64 t.op,.int .i64 t.a,.int .i64 t.b] 57)).alloc (.cells #[.int .i64 0,.slice none 0 0] 24)).heap[w.heap.size+2]?=some (.cells #[.int .i64 0,.slice none 0 0] 24 (0,0)):=by
  have:=World.alloc_heap_new ((w.alloc (.cells #[.int .i64 r,.slice (some ⟨b,off,none⟩) ns.length cap] 24)).alloc (.cells #[.int .i64 t.op,.int .i64 t.a,.int .i64 t.b] 57)) (.cells #[.int .i64 0,.slice none 0 0] 24)
  simp only [World.size_alloc] at this
  exact this
 go_enter Tryz.func53,Tryz.ntmps53
 go_upto_region 1 with fail
 generalize (((w.alloc (.cells #[.int .i64 r,.slice (some ⟨b,off,none⟩) ns.length cap] 24)).alloc (.cells #[.int .i64 t.op,.int .i64 t.a,.int .i64 t.b] 57)).alloc (.cells #[.int .i64 0,.slice none 0 0] 24))=W at hbA p0 p1 p2 ⊢
 try rw [show w.heap.size+1+1=w.heap.size+2 from rfl]
 have q0:=blk_cell p0 0
 have q1:=blk_cell p0 1
 simp at q0 q1
 have pl:=blk_lt p0
 have HB:=hide hbA
 have HP:=hide p0
 have HT:=hide p1
 have HR:=hide p2
 clear hbA p0 p1 p2
 go_wp2_with fail
 refine (HTR.out _ HB.out).mono ?_
 rintro e w1 ⟨tb,tq,tc,rfl,hN1,hb1⟩
 have hbF:Below w1.heap.size w1 (w1.alloc (.cells #[.int .i64 r,.slice (some ⟨tb,tq,none⟩) (trimN ns).length tc] 24)):=(Below.refl _ w1).alloc (Nat.le_refl _) _
 have hQ:(w1.alloc (.cells #[.int .i64 r,.slice (some ⟨tb,tq,none⟩) (trimN ns).length tc] 24)).heap[w1.heap.size]?=some (.cells #[.int .i64 r,.slice (some ⟨tb,tq,none⟩) (trimN ns).length tc] 24 (0,0)):=World.alloc_heap_new w1 _
 have HBW:=hide (hb1.trans (hbF.mono hb1.size))
 have HB2:=hide (HB.out.trans (HBW.out.mono HB.out.size))
 have HN2:=hide (hN1.below hbF hN1.lt)
 have HP2:=hide ((HBW.out.block _ (blk_lt HP.out)).trans HP.out)
 have HT2:=hide ((HBW.out.block _ (blk_lt HT.out)).trans HT.out)
 have HR2:=hide ((HBW.out.block _ (blk_lt HR.out)).trans HR.out)
 have hQs:w.heap.size+2<w1.heap.size:=by have h1:=blk_lt HR.out;have h2:=hb1.size;omega
 clear hb1 q0 q1 pl HB HR HP HT HTR HBW hN1
 go_upto_region 4 with fail
 generalize (w1.alloc (.cells #[.int .i64 r,.slice (some ⟨tb,tq,none⟩) (trimN ns).length tc] 24))=V at hbF hQ HB2 HN2 HP2 HT2 HR2 ⊢
 generalize w1.heap.size=QB at *
 clear hbF
 have q0:=blk_cell hQ 0
 have q1:=blk_cell hQ 1
 simp at q0 q1
 have ql:=blk_lt hQ
 have HQ:=hide hQ
 clear hQ
 go_wp2_with fail
 refine (HSP.out _ tb tq tc HN2.out).mono ?_
 rintro e w2 ⟨sb,sq,sc,rfl,hN3,hsb,hb2⟩
 have hsq:sb≠QB:=by omega
 have hQ2:=(hb2.block _ ql).trans HQ.out
 clear q0 q1 ql
 have q0:=blk_cell hQ2 0
 have q1:=blk_cell hQ2 1
 simp at q0 q1
 have f0:=blk_frozen hQ2 0
 have f1:=blk_frozen hQ2 1
 have ql:=blk_lt hQ2
 have hne:w.heap.size+2≠QB:=by omega
 have hne1:w.heap.size+1≠QB:=by omega
 have hne0:w.heap.size≠QB:=by omega
 have HR1:Hid (((w2.setCell ⟨QB,0,none⟩ (.int .i64 r)).setCell ⟨QB,1,none⟩ (.slice (some ⟨sb,sq,none⟩) (oneQ ns).length sc)).heap[w.heap.size+2]?=some (.cells #[.int .i64 0,.slice none 0 0] 24 (0,0))):=(cells_setP hne _ _).trans ((cells_setP hne _ _).trans ((hb2.block _ (blk_lt HR2.out)).trans HR2.out))
 have HT1:Hid (((w2.setCell ⟨QB,0,none⟩ (.int .i64 r)).setCell ⟨QB,1,none⟩ (.slice (some ⟨sb,sq,none⟩) (oneQ ns).length sc)).heap[w.heap.size+1]?=some (.cells #[.int .i64 t.op,.int .i64 t.a,.int .i64 t.b] 57 (0,0))):=(cells_setP hne1 _ _).trans ((cells_setP hne1 _ _).trans ((hb2.block _ (blk_lt HT2.out)).trans HT2.out))
 have HP1:Hid (((w2.setCell ⟨QB,0,none⟩ (.int .i64 r)).setCell ⟨QB,1,none⟩ (.slice (some ⟨sb,sq,none⟩) (oneQ ns).length sc)).heap[w.heap.size]?=some (.cells #[.int .i64 r,.slice (some ⟨b,off,none⟩) ns.length cap] 24 (0,0))):=(cells_setP hne0 _ _).trans ((cells_setP hne0 _ _).trans ((hb2.block _ (blk_lt HP2.out)).trans HP2.out))
 have HQ1:Hid (((w2.setCell ⟨QB,0,none⟩ (.int .i64 r)).setCell ⟨QB,1,none⟩ (.slice (some ⟨sb,sq,none⟩) (oneQ ns).length sc)).heap[QB]?=some (.cells #[.int .i64 r,.slice (some ⟨sb,sq,none⟩) (oneQ ns).length sc] 24 (0,0))):=blk_set2 hQ2
 have HN1:Hid (NodesAt ((w2.setCell ⟨QB,0,none⟩ (.int .i64 r)).setCell ⟨QB,1,none⟩ (.slice (some ⟨sb,sq,none⟩) (oneQ ns).length sc)) sb sq (oneQ ns)):=(hN3.setM hsq).setM hsq
 have HB1:=hide (below_set2 (v0:=.int .i64 r) (v1:=.slice (some ⟨sb,sq,none⟩) (oneQ ns).length sc) (HB2.out.trans (hb2.mono HB2.out.size)) (B:=QB) (by omega))
 have hQU:QB<((w2.setCell ⟨QB,0,none⟩ (.int .i64 r)).setCell ⟨QB,1,none⟩ (.slice (some ⟨sb,sq,none⟩) (oneQ ns).length sc)).heap.size:=by simp;exact ql
 clear hb2 hQ2 HR2 HB2 HQ HN2 HP2 HT2 HSP hN3 hne hne1 hne0 hsb hsq
 go_upto_region 5 with fail
 clear q0 q1 f0 f1 ql
 generalize ((w2.setCell ⟨QB,0,none⟩ (.int .i64 r)).setCell ⟨QB,1,none⟩ (.slice (some ⟨sb,sq,none⟩) (oneQ ns).length sc))=U at HR1 HT1 HP1 HQ1 HN1 HB1 hQU ⊢
 have hQ:=HQ1.out
 have q0:=blk_cell hQ 0
 have q1:=blk_cell hQ 1
 simp at q0 q1
 have ql:=blk_lt hQ
 have hT:=HT1.out
 have t0:=blk_cell hT 0
 have t1:=blk_cell hT 1
 have t2:=blk_cell hT 2
 simp at t0 t1 t2
 have tl:=blk_lt hT
 clear hQ hT
 go_upto_region 7 with fail
 go_wp2_with fail
 refine (HLZ.out _ sb sq sc HN1.out).mono ?_
 rintro e w3 ⟨rfl,hb3⟩
 have HR3:=hide ((hb3.block _ (blk_lt HR1.out)).trans HR1.out)
 have HB3:=hide (HB1.out.trans (hb3.mono HB1.out.size))
 clear q0 q1 t0 t1 t2 ql tl hb3 HR1 HB1 HQ1 HT1 HP1 HN1 HLZ
 have hR:=HR3.out
 have y0:=blk_cell hR 0
 have y1:=blk_cell hR 1
 simp at y0 y1
 have z0:=blk_frozen hR 0
 have z1:=blk_frozen hR 1
 have ylt:=blk_lt hR
 clear hR
 go_wp2
 have hk0:=blk_set2 (v0:=.int .i64 0) (v1:=.slice none 0 0) HR3.out
 have hB5:=below_set2 (v0:=.int .i64 0) (v1:=.slice none 0 0) HB3.out (B:=w.heap.size+2) (by omega)
 have hk:=(Below.heap_alloc _ (.cells #[.slice none 0 0,.slice none 0 0] 138) _ (blk_lt hk0)).trans hk0
 have k0:=blk_cell hk 0
 have k1:=blk_cell hk 1
 simp at k0 k1
 exact bodyPost_ret (v:=.tuple #[.agg #[.int .i64 0,.slice none 0 0],.int .i64 C]) (by simp [results,Tryz.results53,go_sem,k0,k1]) rfl ⟨rfl,hB5.alloc hB5.size _⟩
set_option maxRecDepth 100000 in
theorem one_same (r:Int) (b off cap:Nat) (ns:List Nd) (t:Tm) (w:World) (hN:NodesAt w b off ns) (hc:chk r ns=0) (hl:(oneQ ns).length≤256) (ht:tchk r (oneQ ns) t=0) (hbb:oneB ns t=false) :
 Calls Tryz.prog 53 #[.agg #[.int .i64 r,.slice (some ⟨b,off,none⟩) ns.length cap],.agg #[.int .i64 t.op,.int .i64 t.a,.int .i64 t.b]] w fun e w' =>∃ gb gc,e=.returned (.tuple #[.agg #[.int .i64 r,.slice (some ⟨gb,0,none⟩) ns.length gc],.int .i64 0])∧w'.ownsRow w.heap.size 48 6 (.slice (some ⟨gb,0,none⟩) ns.length gc) ns.length (ns.flatMap encNd)∧Below w.heap.size w w' :=by
 have hbp:(lazyPut (oneQ ns) t).any id=false:=by rw [oneB,Bool.or_eq_false_iff] at hbb;exact hbb.1
 have hbt:(lazyTake (oneQ ns) t).any id=false:=by rw [oneB,Bool.or_eq_false_iff] at hbb;exact hbb.2
 have hl0:=(chk_full hc).1
 have HN:=hide hN
 have HLZ:=hide (fun (W:World) (sb sq sc:Nat) (h:NodesAt W sb sq (oneQ ns))=>lazy_right r sb sq sc (oneQ ns) t W h ht)
 have hl' :(splitN (trimN ns)).length≤256:=hl
 have hch:chk r (oneQ ns)=0:=split_chk (trim_chk hc) hl'
 have HSP:=hide (fun (W:World) (tb tq tc:Nat) (h:NodesAt W tb tq (trimN ns))=>split_fitM r tb tq tc (trimN ns) W h (trim_chk hc) hl)
 rw [show splitN (trimN ns)=oneQ ns from rfl] at HSP
 have HTR:=hide (fun W (h:Below w.heap.size w W)=>trim_fit r b off cap ns W (hN.below h hN.lt) hc)
 have hbA:Below w.heap.size w (((w.alloc (.cells #[.int .i64 r,.slice (some ⟨b,off,none⟩) ns.length cap] 24)).alloc (.cells #[.int .i64 t.op,.int .i64 t.a,.int .i64 t.b] 57)).alloc (.cells #[.int .i64 0,.slice none 0 0] 24)):=((((Below.refl _ w).alloc (Nat.le_refl _) _).alloc (by simp) _).alloc (by simp;omega) _)
 have p0:(((w.alloc (.cells #[.int .i64 r,.slice (some ⟨b,off,none⟩) ns.length cap] 24)).alloc (.cells #[.int .i64 t.op,.int .i64 t.a,.int .i64 t.b] 57)).alloc (.cells #[.int .i64 0,.slice none 0 0] 24)).heap[w.heap.size]?=some (.cells #[.int .i64 r,.slice (some ⟨b,off,none⟩) ns.length cap] 24 (0,0)):=by
  have:=World.alloc_heap_new w (.cells #[.int .i64 r,.slice (some ⟨b,off,none⟩) ns.length cap] 24)
  exact ((Below.heap_alloc _ _ _ (by simp;try omega)).trans (((Below.heap_alloc _ _ _ (by simp;try omega)).trans (this))))
 have p1:(((w.alloc (.cells #[.int .i64 r,.slice (some ⟨b,off,none⟩) ns.length cap] 24)).alloc (.cells #[.int .i64 t.op,.int .i64 t.a,.int .i64 t.b] 57)).alloc (.cells #[.int .i64 0,.slice none 0 0] 24)).heap[w.heap.size+1]?=some (.cells #[.int .i64 t.op,.int .i64 t.a,.int .i64 t.b] 57 (0,0)):=by
  have:=World.alloc_heap_new (w.alloc (.cells #[.int .i64 r,.slice (some ⟨b,off,none⟩) ns.length cap] 24)) (.cells #[.int .i64 t.op,.int .i64 t.a,.int .i64 t.b] 57)
  simp only [World.size_alloc] at this
  exact ((Below.heap_alloc _ _ _ (by simp;try omega)).trans (this))
 have p2:(((w.alloc (.cells #[.int .i64 r,.slice (some ⟨b,off,none⟩) ns.length cap] 24)).alloc (.cells #[.int .i64 t.op,.int .i64 t.a,.int .i64 t.b] 57)).alloc (.cells #[.int .i64 0,.slice none 0 0] 24)).heap[w.heap.size+2]?=some (.cells #[.int .i64 0,.slice none 0 0] 24 (0,0)):=by
  have:=World.alloc_heap_new ((w.alloc (.cells #[.int .i64 r,.slice (some ⟨b,off,none⟩) ns.length cap] 24)).alloc (.cells #[.int .i64 t.op,.int .i64 t.a,.int .i64 t.b] 57)) (.cells #[.int .i64 0,.slice none 0 0] 24)
  simp only [World.size_alloc] at this
  exact this
 go_enter Tryz.func53,Tryz.ntmps53
 go_upto_region 1 with fail
 generalize (((w.alloc (.cells #[.int .i64 r,.slice (some ⟨b,off,none⟩) ns.length cap] 24)).alloc (.cells #[.int .i64 t.op,.int .i64 t.a,.int .i64 t.b] 57)).alloc (.cells #[.int .i64 0,.slice none 0 0] 24))=W at hbA p0 p1 p2 ⊢
 try rw [show w.heap.size+1+1=w.heap.size+2 from rfl]
 have q0:=blk_cell p0 0
 have q1:=blk_cell p0 1
 simp at q0 q1
 have pl:=blk_lt p0
 have HB:=hide hbA
 have HP:=hide p0
 have HT:=hide p1
 have HR:=hide p2
 clear hbA p0 p1 p2
 go_wp2_with fail
 refine (HTR.out _ HB.out).mono ?_
 rintro e w1 ⟨tb,tq,tc,rfl,hN1,hb1⟩
 have hbF:Below w1.heap.size w1 (w1.alloc (.cells #[.int .i64 r,.slice (some ⟨tb,tq,none⟩) (trimN ns).length tc] 24)):=(Below.refl _ w1).alloc (Nat.le_refl _) _
 have hQ:(w1.alloc (.cells #[.int .i64 r,.slice (some ⟨tb,tq,none⟩) (trimN ns).length tc] 24)).heap[w1.heap.size]?=some (.cells #[.int .i64 r,.slice (some ⟨tb,tq,none⟩) (trimN ns).length tc] 24 (0,0)):=World.alloc_heap_new w1 _
 have HBW:=hide (hb1.trans (hbF.mono hb1.size))
 have HB2:=hide (HB.out.trans (HBW.out.mono HB.out.size))
 have HN2:=hide (hN1.below hbF hN1.lt)
 have HP2:=hide ((HBW.out.block _ (blk_lt HP.out)).trans HP.out)
 have HT2:=hide ((HBW.out.block _ (blk_lt HT.out)).trans HT.out)
 have HR2:=hide ((HBW.out.block _ (blk_lt HR.out)).trans HR.out)
 have hQs:w.heap.size+2<w1.heap.size:=by have h1:=blk_lt HR.out;have h2:=hb1.size;omega
 clear hb1 q0 q1 pl HB HR HP HT HTR HBW hN1
 go_upto_region 4 with fail
 generalize (w1.alloc (.cells #[.int .i64 r,.slice (some ⟨tb,tq,none⟩) (trimN ns).length tc] 24))=V at hbF hQ HB2 HN2 HP2 HT2 HR2 ⊢
 generalize w1.heap.size=QB at *
 clear hbF
 have q0:=blk_cell hQ 0
 have q1:=blk_cell hQ 1
 simp at q0 q1
 have ql:=blk_lt hQ
 have HQ:=hide hQ
 clear hQ
 go_wp2_with fail
 refine (HSP.out _ tb tq tc HN2.out).mono ?_
 rintro e w2 ⟨sb,sq,sc,rfl,hN3,hsb,hb2⟩
 have hsq:sb≠QB:=by omega
 have hQ2:=(hb2.block _ ql).trans HQ.out
 clear q0 q1 ql
 have q0:=blk_cell hQ2 0
 have q1:=blk_cell hQ2 1
 simp at q0 q1
 have f0:=blk_frozen hQ2 0
 have f1:=blk_frozen hQ2 1
 have ql:=blk_lt hQ2
 have hne:w.heap.size+2≠QB:=by omega
 have hne1:w.heap.size+1≠QB:=by omega
 have hne0:w.heap.size≠QB:=by omega
 have HR1:Hid (((w2.setCell ⟨QB,0,none⟩ (.int .i64 r)).setCell ⟨QB,1,none⟩ (.slice (some ⟨sb,sq,none⟩) (oneQ ns).length sc)).heap[w.heap.size+2]?=some (.cells #[.int .i64 0,.slice none 0 0] 24 (0,0))):=(cells_setP hne _ _).trans ((cells_setP hne _ _).trans ((hb2.block _ (blk_lt HR2.out)).trans HR2.out))
 have HT1:Hid (((w2.setCell ⟨QB,0,none⟩ (.int .i64 r)).setCell ⟨QB,1,none⟩ (.slice (some ⟨sb,sq,none⟩) (oneQ ns).length sc)).heap[w.heap.size+1]?=some (.cells #[.int .i64 t.op,.int .i64 t.a,.int .i64 t.b] 57 (0,0))):=(cells_setP hne1 _ _).trans ((cells_setP hne1 _ _).trans ((hb2.block _ (blk_lt HT2.out)).trans HT2.out))
 have HP1:Hid (((w2.setCell ⟨QB,0,none⟩ (.int .i64 r)).setCell ⟨QB,1,none⟩ (.slice (some ⟨sb,sq,none⟩) (oneQ ns).length sc)).heap[w.heap.size]?=some (.cells #[.int .i64 r,.slice (some ⟨b,off,none⟩) ns.length cap] 24 (0,0))):=(cells_setP hne0 _ _).trans ((cells_setP hne0 _ _).trans ((hb2.block _ (blk_lt HP2.out)).trans HP2.out))
 have HQ1:Hid (((w2.setCell ⟨QB,0,none⟩ (.int .i64 r)).setCell ⟨QB,1,none⟩ (.slice (some ⟨sb,sq,none⟩) (oneQ ns).length sc)).heap[QB]?=some (.cells #[.int .i64 r,.slice (some ⟨sb,sq,none⟩) (oneQ ns).length sc] 24 (0,0))):=blk_set2 hQ2
 have HN1:Hid (NodesAt ((w2.setCell ⟨QB,0,none⟩ (.int .i64 r)).setCell ⟨QB,1,none⟩ (.slice (some ⟨sb,sq,none⟩) (oneQ ns).length sc)) sb sq (oneQ ns)):=(hN3.setM hsq).setM hsq
 have HB1:=hide (below_set2 (v0:=.int .i64 r) (v1:=.slice (some ⟨sb,sq,none⟩) (oneQ ns).length sc) (HB2.out.trans (hb2.mono HB2.out.size)) (B:=QB) (by omega))
 have hQU:QB<((w2.setCell ⟨QB,0,none⟩ (.int .i64 r)).setCell ⟨QB,1,none⟩ (.slice (some ⟨sb,sq,none⟩) (oneQ ns).length sc)).heap.size:=by simp;exact ql
 clear hb2 hQ2 HR2 HB2 HQ HN2 HP2 HT2 HSP hN3 hne hne1 hne0 hsb hsq
 go_upto_region 5 with fail
 clear q0 q1 f0 f1 ql
 generalize ((w2.setCell ⟨QB,0,none⟩ (.int .i64 r)).setCell ⟨QB,1,none⟩ (.slice (some ⟨sb,sq,none⟩) (oneQ ns).length sc))=U at HR1 HT1 HP1 HQ1 HN1 HB1 hQU ⊢
 have hQ:=HQ1.out
 have q0:=blk_cell hQ 0
 have q1:=blk_cell hQ 1
 simp at q0 q1
 have ql:=blk_lt hQ
 have hT:=HT1.out
 have t0:=blk_cell hT 0
 have t1:=blk_cell hT 1
 have t2:=blk_cell hT 2
 simp at t0 t1 t2
 have tl:=blk_lt hT
 clear hQ hT
 go_upto_region 7 with fail
 go_wp2_with fail
 refine (HLZ.out _ sb sq sc HN1.out).mono ?_
 rintro e w3 ⟨x1,d1,x2,d2,rfl,hV1,hV2,hb3⟩
 have hbF:Below w3.heap.size w3 (w3.alloc (.cells #[.slice x1 (oneQ ns).length d1,.slice x2 (oneQ ns).length d2] 138)):=(Below.refl _ w3).alloc (Nat.le_refl _) _
 have hL:(w3.alloc (.cells #[.slice x1 (oneQ ns).length d1,.slice x2 (oneQ ns).length d2] 138)).heap[w3.heap.size]?=some (.cells #[.slice x1 (oneQ ns).length d1,.slice x2 (oneQ ns).length d2] 138 (0,0)):=World.alloc_heap_new w3 _
 have HBW:=hide (hb3.trans (hbF.mono hb3.size))
 have Y1:Hid (BoolsAt (w3.alloc (.cells #[.slice x1 (oneQ ns).length d1,.slice x2 (oneQ ns).length d2] 138)) x1 (lazyPut (oneQ ns) t)):=(bools_owned hV1 (by simp [lazyPut])).below hbF
 have Y2:Hid (BoolsAt (w3.alloc (.cells #[.slice x1 (oneQ ns).length d1,.slice x2 (oneQ ns).length d2] 138)) x2 (lazyTake (oneQ ns) t)):=(bools_owned hV2 (by simp [lazyTake])).below hbF
 have HR4:=hide ((HBW.out.block _ (blk_lt HR1.out)).trans HR1.out)
 have HP4:=hide ((HBW.out.block _ (blk_lt HP1.out)).trans HP1.out)
 have HT4:=hide ((HBW.out.block _ (blk_lt HT1.out)).trans HT1.out)
 have HQ4:=hide ((HBW.out.block _ (blk_lt HQ1.out)).trans HQ1.out)
 have HN4:=hide (HN1.out.below HBW.out HN1.out.lt)
 have HB4:=hide (HB1.out.trans (HBW.out.mono HB1.out.size))
 have hLB:QB<w3.heap.size:=by have:=hb3.size;omega
 clear q0 q1 t0 t1 t2 ql tl hV1 hV2 hb3 HR1 HB1 HQ1 HT1 HP1 HN1 HLZ HBW hQU
 go_upto_region 10 with fail
 generalize (w3.alloc (.cells #[.slice x1 (oneQ ns).length d1,.slice x2 (oneQ ns).length d2] 138))=V3 at hbF hL Y1 Y2 HR4 HP4 HT4 HQ4 HN4 HB4 ⊢
 generalize w3.heap.size=LB at *
 clear hbF
 have l0:=blk_cell hL 0
 have l1:=blk_cell hL 1
 simp at l0 l1
 have ll:=blk_lt hL
 have HL:=hide hL
 clear hL
 have HC1:=hide (containsB_any x1 d1 (lazyPut (oneQ ns) t) V3 Y1.out (by simp [lazyPut];omega))
 have HC2:=hide (containsB_any x2 d2 (lazyTake (oneQ ns) t) V3 Y2.out (by simp [lazyTake];omega))
 rw [show (lazyPut (oneQ ns) t).length=(oneQ ns).length by simp [lazyPut]] at HC1
 rw [show (lazyTake (oneQ ns) t).length=(oneQ ns).length by simp [lazyTake]] at HC2
 rw [hbp] at HC1
 rw [hbt] at HC2
 go_wp2_with fail
 refine HC1.out.mono ?_
 rintro e w5 ⟨rfl,rfl⟩
 go_wp2_with fail
 refine HC2.out.mono ?_
 rintro e w6 ⟨rfl,rfl⟩
 go_upto_region 11 with fail
 have HS:Hid (∀ u:World,Below w6.heap.size w6 u→u.cell? ⟨w.heap.size,0,none⟩=some (.int .i64 r)∧u.cell? ⟨w.heap.size,1,none⟩=some (.slice (some ⟨b,off,none⟩) ns.length cap)):=fun u h=>by
  have k1:=(h.block _ (blk_lt HP4.out)).trans HP4.out
  refine ⟨?_,?_⟩
  ·rw [blk_cell k1];rfl
  ·rw [blk_cell k1];rfl
 have HH:Hid (∀ u:World,Below w6.heap.size w6 u→u.heap[w.heap.size+2]?=some (.cells #[.int .i64 0,.slice none 0 0] 24 (0,0))):=fun u h=>(h.block _ (blk_lt HR4.out)).trans HR4.out
 have HSet:Hid (∀ (u:World) (v0 v1:Value),(u.cell? ⟨w.heap.size,0,none⟩=some (.int .i64 r)∧u.cell? ⟨w.heap.size,1,none⟩=some (.slice (some ⟨b,off,none⟩) ns.length cap))→((u.setCell ⟨w.heap.size+2,0,none⟩ v0).setCell ⟨w.heap.size+2,1,none⟩ v1).cell? ⟨w.heap.size,0,none⟩=some (.int .i64 r)∧((u.setCell ⟨w.heap.size+2,0,none⟩ v0).setCell ⟨w.heap.size+2,1,none⟩ v1).cell? ⟨w.heap.size,1,none⟩=some (.slice (some ⟨b,off,none⟩) ns.length cap)):=fun u v0 v1 h=>by
  have e:∀ (B k:Nat),B≠w.heap.size+2→((u.setCell ⟨w.heap.size+2,0,none⟩ v0).setCell ⟨w.heap.size+2,1,none⟩ v1).cell? ⟨B,k,none⟩=u.cell? ⟨B,k,none⟩:=fun B k h=>World.cell?_of_block (by
   show ((u.setCell ⟨w.heap.size+2,0,none⟩ v0).setCell ⟨w.heap.size+2,1,none⟩ v1).heap[B]?=u.heap[B]?
   simp only [cells_setP h])
  simp only [e w.heap.size _ (by omega)]
  exact h
 have pl:w.heap.size<w6.heap.size:=blk_lt HP4.out
 clear l0 l1 ll
 go_region_held3 (fun u=>u.cell? ⟨w.heap.size,0,none⟩=some (.int .i64 r)∧u.cell? ⟨w.heap.size,1,none⟩=some (.slice (some ⟨b,off,none⟩) ns.length cap)) (first
  | (with_reducible refine HSet.out _ _ _ ?_;exact HS.out _ hB7)
  | (with_reducible refine HS.out _ ?_;first | with_reducible exact hB7 | with_reducible exact (Below.refl _ w6).drew | with_reducible exact (Below.refl _ w6))) (first
  | (go_at_call 15;refine (clone_fitM b off cap ns _ (by first | exact (HN.out.below HB4.out HN.out.lt).below (Below.refl _ w6).drew (Nat.lt_of_lt_of_le HN.out.lt HB4.out.size) | exact HN.out.below HB4.out HN.out.lt) (by omega)).mono ?_;rintro e w7 ⟨gb,gc,rfl,hV7,hb7⟩;have hB7:Below w6.heap.size w6 w7:=(by first | exact (Below.refl _ w6).drew.trans hb7 | exact hb7);have x0:=blk_cell (HH.out _ hB7) 0;have x1:=blk_cell (HH.out _ hB7) 1;simp at x0 x1;have f0:=blk_frozen (HH.out _ hB7) 0;have f1:=blk_frozen (HH.out _ hB7) 1;have xl:=blk_lt (HH.out _ hB7)))
 all_goals have HV7:=hide (ownsRow_base hV7 (base' :=w.heap.size) (by have:=HB4.out.size;first | exact this | (simp;omega)))
 all_goals have hk:=blk_set2 (v0:=.int .i64 r) (v1:=.slice (some ⟨gb,0,none⟩) ns.length gc) (HH.out _ hB7)
 all_goals have T1:=owns_set (o:=1) (u:=.slice (some ⟨gb,0,none⟩) ns.length gc) (owns_set (o:=0) (u:=.int .i64 r) HV7.out (HH.out _ hB7) (by decide)) (blk_set (i:=0) (.int .i64 r) (HH.out _ hB7)) (by decide)
 all_goals have hBf:=below_set2 (v0:=.int .i64 r) (v1:=.slice (some ⟨gb,0,none⟩) ns.length gc) (HB4.out.trans (hB7.mono HB4.out.size)) (B:=w.heap.size+2) (by omega)
 all_goals clear hV7 x0 x1 f0 f1 xl
 all_goals go_wp2_with fail
 all_goals generalize ((w7.setCell ⟨w.heap.size+2,0,none⟩ (.int .i64 r)).setCell ⟨w.heap.size+2,1,none⟩ (.slice (some ⟨gb,0,none⟩) ns.length gc))=Wf at hk T1 hBf ⊢
 all_goals have k0:=blk_cell hk 0
 all_goals have k1:=blk_cell hk 1
 all_goals simp at k0 k1
 all_goals exact bodyPost_ret (v:=.tuple #[.agg #[.int .i64 r,.slice (some ⟨gb,0,none⟩) ns.length gc],.int .i64 0]) (by simp [results,Tryz.results53,go_sem,k0,k1]) rfl ⟨gb,gc,rfl,T1,hBf⟩
set_option maxRecDepth 100000 in
theorem one_moved (r:Int) (b off cap:Nat) (ns:List Nd) (t:Tm) (w:World) (hN:NodesAt w b off ns) (hc:chk r ns=0) (hl:(oneQ ns).length≤256) (ht:tchk r (oneQ ns) t=0) (hbb:oneB ns t=true) :
 Calls Tryz.prog 53 #[.agg #[.int .i64 r,.slice (some ⟨b,off,none⟩) ns.length cap],.agg #[.int .i64 t.op,.int .i64 t.a,.int .i64 t.b]] w fun e w' =>((256<(apN (oneQ ns) t (lazyPut (oneQ ns) t) (lazyTake (oneQ ns) t) r).length∨63<r)∧e=.returned (.tuple #[.agg #[.int .i64 0,.slice none 0 0],.int .i64 2])∨((apN (oneQ ns) t (lazyPut (oneQ ns) t) (lazyTake (oneQ ns) t) r).length≤256∧r≤63)∧∃ gb gc,e=.returned (.tuple #[.agg #[.int .i64 (r+1),.slice (some ⟨gb,0,none⟩) (apN (oneQ ns) t (lazyPut (oneQ ns) t) (lazyTake (oneQ ns) t) r).length gc],.int .i64 0])∧w'.ownsRow w.heap.size 48 6 (.slice (some ⟨gb,0,none⟩) (apN (oneQ ns) t (lazyPut (oneQ ns) t) (lazyTake (oneQ ns) t) r).length gc) (apN (oneQ ns) t (lazyPut (oneQ ns) t) (lazyTake (oneQ ns) t) r).length ((apN (oneQ ns) t (lazyPut (oneQ ns) t) (lazyTake (oneQ ns) t) r).flatMap encNd))∧Below w.heap.size w w' :=by
 have HAP:=hide (fun (W:World) (sb sq sc:Nat) (x1 x2:Option Addr) (d1 d2:Nat) (h:NodesAt W sb sq (oneQ ns)) (h1:BoolsAt W x1 (lazyPut (oneQ ns) t)) (h2:BoolsAt W x2 (lazyTake (oneQ ns) t))=>apply_right r sb sq sc (oneQ ns) t x1 x2 d1 d2 (lazyPut (oneQ ns) t) (lazyTake (oneQ ns) t) W h ht (by simp [lazyPut]) (by simp [lazyTake]) h1 h2 (lazy_takeOk _ _))
 have HBB:=hide hbb
 clear hbb
 generalize (apN (oneQ ns) t (lazyPut (oneQ ns) t) (lazyTake (oneQ ns) t) r)=A at HAP ⊢
 have HLZ:=hide (fun (W:World) (sb sq sc:Nat) (h:NodesAt W sb sq (oneQ ns))=>lazy_right r sb sq sc (oneQ ns) t W h ht)
 have hl' :(splitN (trimN ns)).length≤256:=hl
 have hch:chk r (oneQ ns)=0:=split_chk (trim_chk hc) hl'
 have HSP:=hide (fun (W:World) (tb tq tc:Nat) (h:NodesAt W tb tq (trimN ns))=>split_fitM r tb tq tc (trimN ns) W h (trim_chk hc) hl)
 rw [show splitN (trimN ns)=oneQ ns from rfl] at HSP
 have HTR:=hide (fun W (h:Below w.heap.size w W)=>trim_fit r b off cap ns W (hN.below h hN.lt) hc)
 have hbA:Below w.heap.size w (((w.alloc (.cells #[.int .i64 r,.slice (some ⟨b,off,none⟩) ns.length cap] 24)).alloc (.cells #[.int .i64 t.op,.int .i64 t.a,.int .i64 t.b] 57)).alloc (.cells #[.int .i64 0,.slice none 0 0] 24)):=((((Below.refl _ w).alloc (Nat.le_refl _) _).alloc (by simp) _).alloc (by simp;omega) _)
 have p0:(((w.alloc (.cells #[.int .i64 r,.slice (some ⟨b,off,none⟩) ns.length cap] 24)).alloc (.cells #[.int .i64 t.op,.int .i64 t.a,.int .i64 t.b] 57)).alloc (.cells #[.int .i64 0,.slice none 0 0] 24)).heap[w.heap.size]?=some (.cells #[.int .i64 r,.slice (some ⟨b,off,none⟩) ns.length cap] 24 (0,0)):=by
  have:=World.alloc_heap_new w (.cells #[.int .i64 r,.slice (some ⟨b,off,none⟩) ns.length cap] 24)
  exact ((Below.heap_alloc _ _ _ (by simp;try omega)).trans (((Below.heap_alloc _ _ _ (by simp;try omega)).trans (this))))
 have p1:(((w.alloc (.cells #[.int .i64 r,.slice (some ⟨b,off,none⟩) ns.length cap] 24)).alloc (.cells #[.int .i64 t.op,.int .i64 t.a,.int .i64 t.b] 57)).alloc (.cells #[.int .i64 0,.slice none 0 0] 24)).heap[w.heap.size+1]?=some (.cells #[.int .i64 t.op,.int .i64 t.a,.int .i64 t.b] 57 (0,0)):=by
  have:=World.alloc_heap_new (w.alloc (.cells #[.int .i64 r,.slice (some ⟨b,off,none⟩) ns.length cap] 24)) (.cells #[.int .i64 t.op,.int .i64 t.a,.int .i64 t.b] 57)
  simp only [World.size_alloc] at this
  exact ((Below.heap_alloc _ _ _ (by simp;try omega)).trans (this))
 have p2:(((w.alloc (.cells #[.int .i64 r,.slice (some ⟨b,off,none⟩) ns.length cap] 24)).alloc (.cells #[.int .i64 t.op,.int .i64 t.a,.int .i64 t.b] 57)).alloc (.cells #[.int .i64 0,.slice none 0 0] 24)).heap[w.heap.size+2]?=some (.cells #[.int .i64 0,.slice none 0 0] 24 (0,0)):=by
  have:=World.alloc_heap_new ((w.alloc (.cells #[.int .i64 r,.slice (some ⟨b,off,none⟩) ns.length cap] 24)).alloc (.cells #[.int .i64 t.op,.int .i64 t.a,.int .i64 t.b] 57)) (.cells #[.int .i64 0,.slice none 0 0] 24)
  simp only [World.size_alloc] at this
  exact this
 go_enter Tryz.func53,Tryz.ntmps53
 go_upto_region 1 with fail
 generalize (((w.alloc (.cells #[.int .i64 r,.slice (some ⟨b,off,none⟩) ns.length cap] 24)).alloc (.cells #[.int .i64 t.op,.int .i64 t.a,.int .i64 t.b] 57)).alloc (.cells #[.int .i64 0,.slice none 0 0] 24))=W at hbA p0 p1 p2 ⊢
 try rw [show w.heap.size+1+1=w.heap.size+2 from rfl]
 have q0:=blk_cell p0 0
 have q1:=blk_cell p0 1
 simp at q0 q1
 have pl:=blk_lt p0
 have HB:=hide hbA
 have HP:=hide p0
 have HT:=hide p1
 have HR:=hide p2
 clear hbA p0 p1 p2
 go_wp2_with fail
 refine (HTR.out _ HB.out).mono ?_
 rintro e w1 ⟨tb,tq,tc,rfl,hN1,hb1⟩
 have hbF:Below w1.heap.size w1 (w1.alloc (.cells #[.int .i64 r,.slice (some ⟨tb,tq,none⟩) (trimN ns).length tc] 24)):=(Below.refl _ w1).alloc (Nat.le_refl _) _
 have hQ:(w1.alloc (.cells #[.int .i64 r,.slice (some ⟨tb,tq,none⟩) (trimN ns).length tc] 24)).heap[w1.heap.size]?=some (.cells #[.int .i64 r,.slice (some ⟨tb,tq,none⟩) (trimN ns).length tc] 24 (0,0)):=World.alloc_heap_new w1 _
 have HBW:=hide (hb1.trans (hbF.mono hb1.size))
 have HB2:=hide (HB.out.trans (HBW.out.mono HB.out.size))
 have HN2:=hide (hN1.below hbF hN1.lt)
 have HP2:=hide ((HBW.out.block _ (blk_lt HP.out)).trans HP.out)
 have HT2:=hide ((HBW.out.block _ (blk_lt HT.out)).trans HT.out)
 have HR2:=hide ((HBW.out.block _ (blk_lt HR.out)).trans HR.out)
 have hQs:w.heap.size+2<w1.heap.size:=by have h1:=blk_lt HR.out;have h2:=hb1.size;omega
 clear hb1 q0 q1 pl HB HR HP HT HTR HBW hN1
 go_upto_region 4 with fail
 generalize (w1.alloc (.cells #[.int .i64 r,.slice (some ⟨tb,tq,none⟩) (trimN ns).length tc] 24))=V at hbF hQ HB2 HN2 HP2 HT2 HR2 ⊢
 generalize w1.heap.size=QB at *
 clear hbF
 have q0:=blk_cell hQ 0
 have q1:=blk_cell hQ 1
 simp at q0 q1
 have ql:=blk_lt hQ
 have HQ:=hide hQ
 clear hQ
 go_wp2_with fail
 refine (HSP.out _ tb tq tc HN2.out).mono ?_
 rintro e w2 ⟨sb,sq,sc,rfl,hN3,hsb,hb2⟩
 have hsq:sb≠QB:=by omega
 have hQ2:=(hb2.block _ ql).trans HQ.out
 clear q0 q1 ql
 have q0:=blk_cell hQ2 0
 have q1:=blk_cell hQ2 1
 simp at q0 q1
 have f0:=blk_frozen hQ2 0
 have f1:=blk_frozen hQ2 1
 have ql:=blk_lt hQ2
 have hne:w.heap.size+2≠QB:=by omega
 have hne1:w.heap.size+1≠QB:=by omega
 have hne0:w.heap.size≠QB:=by omega
 have HR1:Hid (((w2.setCell ⟨QB,0,none⟩ (.int .i64 r)).setCell ⟨QB,1,none⟩ (.slice (some ⟨sb,sq,none⟩) (oneQ ns).length sc)).heap[w.heap.size+2]?=some (.cells #[.int .i64 0,.slice none 0 0] 24 (0,0))):=(cells_setP hne _ _).trans ((cells_setP hne _ _).trans ((hb2.block _ (blk_lt HR2.out)).trans HR2.out))
 have HT1:Hid (((w2.setCell ⟨QB,0,none⟩ (.int .i64 r)).setCell ⟨QB,1,none⟩ (.slice (some ⟨sb,sq,none⟩) (oneQ ns).length sc)).heap[w.heap.size+1]?=some (.cells #[.int .i64 t.op,.int .i64 t.a,.int .i64 t.b] 57 (0,0))):=(cells_setP hne1 _ _).trans ((cells_setP hne1 _ _).trans ((hb2.block _ (blk_lt HT2.out)).trans HT2.out))
 have HP1:Hid (((w2.setCell ⟨QB,0,none⟩ (.int .i64 r)).setCell ⟨QB,1,none⟩ (.slice (some ⟨sb,sq,none⟩) (oneQ ns).length sc)).heap[w.heap.size]?=some (.cells #[.int .i64 r,.slice (some ⟨b,off,none⟩) ns.length cap] 24 (0,0))):=(cells_setP hne0 _ _).trans ((cells_setP hne0 _ _).trans ((hb2.block _ (blk_lt HP2.out)).trans HP2.out))
 have HQ1:Hid (((w2.setCell ⟨QB,0,none⟩ (.int .i64 r)).setCell ⟨QB,1,none⟩ (.slice (some ⟨sb,sq,none⟩) (oneQ ns).length sc)).heap[QB]?=some (.cells #[.int .i64 r,.slice (some ⟨sb,sq,none⟩) (oneQ ns).length sc] 24 (0,0))):=blk_set2 hQ2
 have HN1:Hid (NodesAt ((w2.setCell ⟨QB,0,none⟩ (.int .i64 r)).setCell ⟨QB,1,none⟩ (.slice (some ⟨sb,sq,none⟩) (oneQ ns).length sc)) sb sq (oneQ ns)):=(hN3.setM hsq).setM hsq
 have HB1:=hide (below_set2 (v0:=.int .i64 r) (v1:=.slice (some ⟨sb,sq,none⟩) (oneQ ns).length sc) (HB2.out.trans (hb2.mono HB2.out.size)) (B:=QB) (by omega))
 have hQU:QB<((w2.setCell ⟨QB,0,none⟩ (.int .i64 r)).setCell ⟨QB,1,none⟩ (.slice (some ⟨sb,sq,none⟩) (oneQ ns).length sc)).heap.size:=by simp;exact ql
 clear hb2 hQ2 HR2 HB2 HQ HN2 HP2 HT2 HSP hN3 hne hne1 hne0 hsb hsq
 go_upto_region 5 with fail
 clear q0 q1 f0 f1 ql
 generalize ((w2.setCell ⟨QB,0,none⟩ (.int .i64 r)).setCell ⟨QB,1,none⟩ (.slice (some ⟨sb,sq,none⟩) (oneQ ns).length sc))=U at HR1 HT1 HP1 HQ1 HN1 HB1 hQU ⊢
 have hQ:=HQ1.out
 have q0:=blk_cell hQ 0
 have q1:=blk_cell hQ 1
 simp at q0 q1
 have ql:=blk_lt hQ
 have hT:=HT1.out
 have t0:=blk_cell hT 0
 have t1:=blk_cell hT 1
 have t2:=blk_cell hT 2
 simp at t0 t1 t2
 have tl:=blk_lt hT
 clear hQ hT
 go_upto_region 7 with fail
 go_wp2_with fail
 refine (HLZ.out _ sb sq sc HN1.out).mono ?_
 rintro e w3 ⟨x1,d1,x2,d2,rfl,hV1,hV2,hb3⟩
 have hbF:Below w3.heap.size w3 (w3.alloc (.cells #[.slice x1 (oneQ ns).length d1,.slice x2 (oneQ ns).length d2] 138)):=(Below.refl _ w3).alloc (Nat.le_refl _) _
 have hL:(w3.alloc (.cells #[.slice x1 (oneQ ns).length d1,.slice x2 (oneQ ns).length d2] 138)).heap[w3.heap.size]?=some (.cells #[.slice x1 (oneQ ns).length d1,.slice x2 (oneQ ns).length d2] 138 (0,0)):=World.alloc_heap_new w3 _
 have HBW:=hide (hb3.trans (hbF.mono hb3.size))
 have Y1:Hid (BoolsAt (w3.alloc (.cells #[.slice x1 (oneQ ns).length d1,.slice x2 (oneQ ns).length d2] 138)) x1 (lazyPut (oneQ ns) t)):=(bools_owned hV1 (by simp [lazyPut])).below hbF
 have Y2:Hid (BoolsAt (w3.alloc (.cells #[.slice x1 (oneQ ns).length d1,.slice x2 (oneQ ns).length d2] 138)) x2 (lazyTake (oneQ ns) t)):=(bools_owned hV2 (by simp [lazyTake])).below hbF
 have HR4:=hide ((HBW.out.block _ (blk_lt HR1.out)).trans HR1.out)
 have HP4:=hide ((HBW.out.block _ (blk_lt HP1.out)).trans HP1.out)
 have HT4:=hide ((HBW.out.block _ (blk_lt HT1.out)).trans HT1.out)
 have HQ4:=hide ((HBW.out.block _ (blk_lt HQ1.out)).trans HQ1.out)
 have HN4:=hide (HN1.out.below HBW.out HN1.out.lt)
 have HB4:=hide (HB1.out.trans (HBW.out.mono HB1.out.size))
 have hLB:QB<w3.heap.size:=by have:=hb3.size;omega
 clear q0 q1 t0 t1 t2 ql tl hV1 hV2 hb3 HR1 HB1 HQ1 HT1 HP1 HN1 HLZ HBW hQU
 go_upto_region 10 with fail
 generalize (w3.alloc (.cells #[.slice x1 (oneQ ns).length d1,.slice x2 (oneQ ns).length d2] 138))=V3 at hbF hL Y1 Y2 HR4 HP4 HT4 HQ4 HN4 HB4 ⊢
 generalize w3.heap.size=LB at *
 clear hbF
 have l0:=blk_cell hL 0
 have l1:=blk_cell hL 1
 simp at l0 l1
 have ll:=blk_lt hL
 have HL:=hide hL
 clear hL
 have HC1:=hide (containsB_any x1 d1 (lazyPut (oneQ ns) t) V3 Y1.out (by simp [lazyPut];omega))
 have HC2:=hide (containsB_any x2 d2 (lazyTake (oneQ ns) t) V3 Y2.out (by simp [lazyTake];omega))
 rw [show (lazyPut (oneQ ns) t).length=(oneQ ns).length by simp [lazyPut]] at HC1
 rw [show (lazyTake (oneQ ns) t).length=(oneQ ns).length by simp [lazyTake]] at HC2
 cases hp:(lazyPut (oneQ ns) t).any id
 ·have hq:(lazyTake (oneQ ns) t).any id=true:=by have:=HBB.out;rw [oneB,hp,Bool.false_or] at this;exact this
  rw [hp] at HC1
  rw [hq] at HC2
  clear hp hq
  go_wp2_with fail
  refine HC1.out.mono ?_
  rintro e w5 ⟨rfl,rfl⟩
  go_wp2_with fail
  refine HC2.out.mono ?_
  rintro e w6 ⟨rfl,rfl⟩
  go_upto_region 12 with fail
  have hQ:=HQ4.out
  have q0:=blk_cell hQ 0
  have q1:=blk_cell hQ 1
  simp at q0 q1
  have ql:=blk_lt hQ
  have hT:=HT4.out
  have t0:=blk_cell hT 0
  have t1:=blk_cell hT 1
  have t2:=blk_cell hT 2
  simp at t0 t1 t2
  have tl:=blk_lt hT
  clear hQ hT
  go_wp2_with fail
  refine (HAP.out _ sb sq sc x1 x2 d1 d2 HN4.out Y1.out Y2.out).mono ?_
  rintro e w7 ⟨hres,hb7⟩
  have hR:=(hb7.block _ (blk_lt HR4.out)).trans HR4.out
  have y0:=blk_cell hR 0
  have y1:=blk_cell hR 1
  simp at y0 y1
  have z0:=blk_frozen hR 0
  have z1:=blk_frozen hR 1
  have ylt:=blk_lt hR
  have HR7:=hide hR
  have HB7:=hide (HB4.out.trans (hb7.mono HB4.out.size))
  clear hR hb7 q0 q1 t0 t1 t2 ql tl l0 l1 ll
  rcases hres with ⟨hx,rfl⟩ | ⟨hx,gb,gc,rfl,hV⟩
  ·have HX:=hide hx
   clear hx
   go_wp2
   have hk:=blk_set2 (v0:=.int .i64 0) (v1:=.slice none 0 0) HR7.out
   have k0:=blk_cell hk 0
   have k1:=blk_cell hk 1
   simp at k0 k1
   exact bodyPost_ret (v:=.tuple #[.agg #[.int .i64 0,.slice none 0 0],.int .i64 2]) (by simp [results,Tryz.results53,go_sem,k0,k1]) rfl ⟨Or.inl ⟨HX.out,rfl⟩,below_set2 HB7.out (by omega)⟩
  ·have HX:=hide hx
   have HV:=hide (ownsRow_base hV (base' :=w.heap.size) HB4.out.size)
   clear hx hV
   go_wp2
   have hk:=blk_set2 (v0:=.int .i64 (r+1)) (v1:=.slice (some ⟨gb,0,none⟩) A.length gc) HR7.out
   have k0:=blk_cell hk 0
   have k1:=blk_cell hk 1
   simp at k0 k1
   exact bodyPost_ret (v:=.tuple #[.agg #[.int .i64 (r+1),.slice (some ⟨gb,0,none⟩) A.length gc],.int .i64 0]) (by simp [results,Tryz.results53,go_sem,k0,k1]) rfl ⟨Or.inr ⟨HX.out,gb,gc,rfl,owns_set (o:=1) (u:=.slice (some ⟨gb,0,none⟩) A.length gc) (owns_set (o:=0) (u:=.int .i64 (r+1)) HV.out HR7.out (by decide)) (blk_set (i:=0) (.int .i64 (r+1)) HR7.out) (by decide)⟩,below_set2 HB7.out (by omega)⟩
 ·rw [hp] at HC1
  clear hp
  go_wp2_with fail
  refine HC1.out.mono ?_
  rintro e w5 ⟨rfl,rfl⟩
  go_upto_region 12 with fail
  have hQ:=HQ4.out
  have q0:=blk_cell hQ 0
  have q1:=blk_cell hQ 1
  simp at q0 q1
  have ql:=blk_lt hQ
  have hT:=HT4.out
  have t0:=blk_cell hT 0
  have t1:=blk_cell hT 1
  have t2:=blk_cell hT 2
  simp at t0 t1 t2
  have tl:=blk_lt hT
  clear hQ hT
  go_wp2_with fail
  refine (HAP.out _ sb sq sc x1 x2 d1 d2 HN4.out Y1.out Y2.out).mono ?_
  rintro e w7 ⟨hres,hb7⟩
  have hR:=(hb7.block _ (blk_lt HR4.out)).trans HR4.out
  have y0:=blk_cell hR 0
  have y1:=blk_cell hR 1
  simp at y0 y1
  have z0:=blk_frozen hR 0
  have z1:=blk_frozen hR 1
  have ylt:=blk_lt hR
  have HR7:=hide hR
  have HB7:=hide (HB4.out.trans (hb7.mono HB4.out.size))
  clear hR hb7 q0 q1 t0 t1 t2 ql tl l0 l1 ll
  rcases hres with ⟨hx,rfl⟩ | ⟨hx,gb,gc,rfl,hV⟩
  ·have HX:=hide hx
   clear hx
   go_wp2
   have hk:=blk_set2 (v0:=.int .i64 0) (v1:=.slice none 0 0) HR7.out
   have k0:=blk_cell hk 0
   have k1:=blk_cell hk 1
   simp at k0 k1
   exact bodyPost_ret (v:=.tuple #[.agg #[.int .i64 0,.slice none 0 0],.int .i64 2]) (by simp [results,Tryz.results53,go_sem,k0,k1]) rfl ⟨Or.inl ⟨HX.out,rfl⟩,below_set2 HB7.out (by omega)⟩
  ·have HX:=hide hx
   have HV:=hide (ownsRow_base hV (base' :=w.heap.size) HB4.out.size)
   clear hx hV
   go_wp2
   have hk:=blk_set2 (v0:=.int .i64 (r+1)) (v1:=.slice (some ⟨gb,0,none⟩) A.length gc) HR7.out
   have k0:=blk_cell hk 0
   have k1:=blk_cell hk 1
   simp at k0 k1
   exact bodyPost_ret (v:=.tuple #[.agg #[.int .i64 (r+1),.slice (some ⟨gb,0,none⟩) A.length gc],.int .i64 0]) (by simp [results,Tryz.results53,go_sem,k0,k1]) rfl ⟨Or.inr ⟨HX.out,gb,gc,rfl,owns_set (o:=1) (u:=.slice (some ⟨gb,0,none⟩) A.length gc) (owns_set (o:=0) (u:=.int .i64 (r+1)) HV.out HR7.out (by decide)) (blk_set (i:=0) (.int .i64 (r+1)) HR7.out) (by decide)⟩,below_set2 HB7.out (by omega)⟩
end Go.Proofs.YtkkolclmfcmfbaaGreatDoor
namespace Go.Proofs.YtkkolclmfcmfbaaGreatDoor
def tally (w:Nat→Int) (ns:List Nd):Nat→St→Int
 | 0,_=>0
 | k+1,s=>(if s.ended then 0 else w s.pc)+tally w ns k (run1 ns s)
theorem tally_ended {w:Nat→Int} {ns:List Nd}:∀ (k:Nat) {s:St},s.ended=true→tally w ns k s=0
 | 0,_,_=>rfl
 | k+1,s,h=>by
  rw [tally,if_pos h,run1_ended h,tally_ended k h];rfl
def wX (ns:List Nd) (t:Tm) (P T:Nat→Bool) (n:Nat):Int:=(if P n=true then 1 else 0)+(if rcB t (nd ns n)=true∧T n=false then 1 else 0)
def wO (ns:List Nd) (t:Tm) (n:Nat):Int:=if rcB t (nd ns n)=true then 1 else 0
theorem tmOf_eq {t:Tm} {x:Nd}:t=tmOf x↔rcB t x=true:=by
 rw [rcB_iff]
 cases t
 simp only [tmOf,Tm.mk.injEq]
 constructor
 ·rintro ⟨a,b,c⟩;exact ⟨a.symm,b.symm,c.symm⟩
 ·rintro ⟨a,b,c⟩;exact ⟨a.symm,b.symm,c.symm⟩
theorem stp_cnt {t:Tm} (ht:3≤t.op∧t.op≤8) {x:Nd} (_hx:0≤x.op∧x.op≤12) {u:St} (hu:Srt u.cts):cnt (stp x u).cts t=cnt u.cts t+(if rcB t x=true then 1 else 0)∧Srt (stp x u).cts:=by
 have no:¬ (3≤x.op∧x.op≤8)→¬ rcB t x=true:=fun h q=>by have:=(rcB_iff.1 q).1;omega
 unfold stp
 by_cases h0:x.op=0
 ·rw [if_pos h0,if_neg (no (by omega))];exact ⟨by simp,hu⟩
 rw [if_neg h0]
 by_cases h1:x.op=1
 ·rw [if_pos h1,if_neg (no (by omega))];exact ⟨by simp,hu⟩
 rw [if_neg h1]
 by_cases h2:x.op=2
 ·rw [if_pos h2,if_neg (no (by omega))];exact ⟨by simp,hu⟩
 rw [if_neg h2]
 by_cases h9:x.op=9
 ·rw [if_pos h9,if_neg (no (by omega))];exact ⟨by simp,hu⟩
 rw [if_neg h9]
 by_cases h10:x.op=10
 ·rw [if_pos h10,if_neg (no (by omega))];exact ⟨by simp,hu⟩
 rw [if_neg h10]
 by_cases h11:x.op=11
 ·rw [if_pos h11,if_neg (no (by omega))];exact ⟨by simp,hu⟩
 rw [if_neg h11]
 by_cases h12:x.op=12
 ·rw [if_pos h12,if_neg (no (by omega))];exact ⟨by simp,hu⟩
 rw [if_neg h12]
 refine ⟨?_,omore_srt hu _⟩
 show cnt (omore u.cts (tmOf x)) t=_
 rw [cnt_more hu]
 by_cases q:rcB t x=true
 ·rw [if_pos q,if_pos (tmOf_eq.2 q)]
 ·rw [if_neg q,if_neg fun e=>q (tmOf_eq.1 e)]
theorem stp_end {x:Nd} {s:St}:x.op=12∧(stp x s).ended=true∨x.op≠12∧(stp x s).ended=s.ended:=by
 by_cases h:x.op=12
 ·left;exact ⟨h,by simp [stp,h]⟩
 ·right
  refine ⟨h,?_⟩
  unfold stp
  repeat' split
  all_goals first | rfl | contradiction
theorem stp_in {x:Nd} {s:St}:(stp x s).pc=x.t.toNat∨(stp x s).pc=x.e.toNat∧x.op=11:=by
 unfold stp
 by_cases h11:x.op=11
 ·simp only [h11]
  simp
  split
  ·right;rfl
  ·left;rfl
 ·left
  repeat' split
  all_goals first | rfl | contradiction
theorem own_tally {r:Int} {ns:List Nd} (hc:chk r ns=0) {t:Tm} (ht:3≤t.op∧t.op≤8):∀ (k:Nat) {s:St},s.pc<ns.length→Srt s.cts→cnt (runN ns k s).cts t=cnt s.cts t+tally (wO ns t) ns k s∧Srt (runN ns k s).cts
 | 0,s,_,hs=>⟨by simp [tally,runN],hs⟩
 | k+1,s,h,hs=>by
  rw [runS_succ,tally]
  cases he:s.ended
  ·have hr:=run1_at he (get_nd h)
   obtain ⟨c1,c2⟩:=stp_cnt ht (chk_at hc h).op hs
   have hp:(run1 ns s).pc<ns.length:=run1_in hc h
   rw [hr] at hp ⊢
   obtain ⟨i1,i2⟩:=own_tally hc ht k hp c2
   refine ⟨?_,i2⟩
   rw [i1,c1]
   unfold wO
   simp only [Bool.false_eq_true,if_false]
   omega
  ·rw [run1_ended he]
   obtain ⟨i1,i2⟩:=own_tally hc ht k h hs
   refine ⟨?_,i2⟩
   rw [i1];simp
theorem move_one {r:Nat} {ns:List Nd} (hc:chk r ns=0) {t:Tm} (ht:TmOk r t) {put tak:List Bool} {A:Nat→Bool} (hS:Safe ns t (bat put) (bat tak) A) {s u:St} (h:MvR r ns t put tak A s u) (hu:u.pc<ns.length) (he:s.ended=false) :
 ∃ j,j≤2∧MvR r ns t put tak A (run1 ns s) (runN (apN ns t put tak r) j u)∧(runN (apN ns t put tak r) j u).pc<ns.length∧cnt (runN (apN ns t put tak r) j u).cts t=cnt u.cts t+wX ns t (bat put) (bat tak) s.pc:=by
 have S:=move_sim hc ht hS
 have hop:=ht.op
 have last:∀ v,MvR r ns t put tak A s v→(decide (v.pc<ns.length)&&bat put v.pc)=false→MvR r ns t put tak A (run1 ns s) (run1 (apN ns t put tak r) v)∧(run1 (apN ns t put tak r) v).pc<ns.length∧cnt (run1 (apN ns t put tak r) v).cts t=cnt v.cts t+(if rcB t (nd ns s.pc)=true∧bat tak s.pc=false then 1 else 0):=by
  intro v hv hs
  refine ⟨S.step s v hv he hs,?_⟩
  have hev:v.ended=false:=by rw [hv.ended];exact he
  obtain ⟨hnd,_⟩:=nd_ap hv.mlt hs
  rw [← hv.pc] at hnd
  have hF:=chk_at hc hv.lt
  have hb:=full_bounds hF (chk_full hc).1.1
  rw [run1_at hev (get_nd hv.mlt),hnd]
  unfold tkN
  cases htk:bat tak s.pc
  ·simp only [Bool.false_eq_true,if_false,and_true]
   exact ⟨by rcases stp_in (x:=nd ns s.pc) (s:=v) with q | ⟨q,_⟩ <;> rw [q] <;> omega,(stp_cnt hop hF.op hv.su).1⟩
  ·simp only [if_true,Bool.true_eq_false,and_false,if_false]
   have e:stp ⟨2,(nd ns s.pc).d,(r:Int),0,(nd ns s.pc).t,0⟩ v={ v with pc:=(nd ns s.pc).t.toNat,steps:=v.steps+1,regs:=setR v.regs (nd ns s.pc).d (getR v.regs r) }:=by
    unfold stp
    simp only
    rw [if_neg (by omega),if_neg (by omega),if_pos trivial]
   rw [e]
   exact ⟨by show (nd ns s.pc).t.toNat<_;omega,by show cnt v.cts t=_;omega⟩
 have hpc:s.pc=u.pc:=by rw [h.pc,mvF_lt hu]
 cases hp:bat put u.pc
 ·obtain ⟨a,b,c⟩:=last u h (by simp [hp])
  have e1:runN (apN ns t put tak r) 1 u=run1 (apN ns t put tak r) u:=by rw [runS_succ];rfl
  refine ⟨1,by omega,by rw [e1];exact a,by rw [e1];exact b,?_⟩
  rw [e1]
  show cnt (run1 (apN ns t put tak r) u).cts t=_
  rw [c,wX,hpc,hp]
  simp
 ·have hs:(decide (u.pc<ns.length)&&bat put u.pc)=true:=by simp [hp,hu]
  obtain ⟨h1,h2⟩:=S.silent s u h he hs
  have heu:u.ended=false:=by rw [h.ended];exact he
  have hnd:nd (apN ns t put tak r) u.pc=ptN t r (ns.length+(keptI put u.pc).length):=by
   unfold apN
   rw [nd_apTo hu,if_pos ⟨hu,hp⟩]
  have hc1:cnt (run1 (apN ns t put tak r) u).cts t=cnt u.cts t+1:=by
   rw [run1_at heu (get_nd h.mlt),hnd,(stp_cnt hop (by simp [ptN];omega) h.su).1,if_pos (rcB_iff.2 ⟨rfl,rfl,rfl⟩)]
  have hp1:(run1 (apN ns t put tak r) u).pc=ns.length+(keptI put u.pc).length:=by
   rw [run1_at heu (get_nd h.mlt),hnd]
   rcases stp_in (x:=ptN t (r:Int) (ns.length+(keptI put u.pc).length)) (s:=u) with q | ⟨_,q⟩
   ·rw [q];simp [ptN];omega
   ·simp [ptN] at q;omega
  obtain ⟨a,b,c⟩:=last (run1 (apN ns t put tak r) u) h1 (by
   rw [hp1]
   simp;omega)
  have e2:runN (apN ns t put tak r) 2 u=run1 (apN ns t put tak r) (run1 (apN ns t put tak r) u):=by rw [runS_succ,runS_succ];rfl
  refine ⟨2,by omega,by rw [e2];exact a,by rw [e2];exact b,?_⟩
  rw [e2]
  show cnt (run1 (apN ns t put tak r) (run1 (apN ns t put tak r) u)).cts t=_
  rw [c,hc1,wX,hpc,hp]
  simp
  omega
theorem move_tally {r:Nat} {ns:List Nd} (hc:chk r ns=0) {t:Tm} (ht:TmOk r t) {put tak:List Bool} {A:Nat→Bool} (hS:Safe ns t (bat put) (bat tak) A):∀ (k:Nat) {s u:St},MvR r ns t put tak A s u→u.pc<ns.length →
 ∃ m,m≤2*k∧MvR r ns t put tak A (runN ns k s) (runN (apN ns t put tak r) m u)∧cnt (runN (apN ns t put tak r) m u).cts t=cnt u.cts t+tally (wX ns t (bat put) (bat tak)) ns k s
 | 0,s,u,h,_=>⟨0,by omega,h,by simp [tally,runN]⟩
 | k+1,s,u,h,hu=>by
  rw [runS_succ,tally]
  cases he:s.ended
  ·obtain ⟨j,j1,j2,j3,j4⟩:=move_one hc ht hS h hu he
   obtain ⟨m,m1,m2,m3⟩:=move_tally hc ht hS k j2 j3
   refine ⟨j+m,by omega,?_,?_⟩
   ·rw [runN_plus];exact m2
   ·rw [runN_plus,m3,j4]
    simp only [Bool.false_eq_true,if_false]
    omega
  ·rw [run1_ended he]
   obtain ⟨m,m1,m2,m3⟩:=move_tally hc ht hS k h hu
   exact ⟨m,by omega,m2,by rw [m3];simp⟩
def Spl (ns:List Nd):Prop:=∀ n m,m<ns.length→n∈ahl ns m→(nd ns n).op≠0→∀ n', n' ∈ahl ns m→n' =n
theorem skip_keeps {t:Tm} {x:Nd} (h:x.op=0):kpB t x=true:=by
 unfold kpB
 rw [show wi x.op 1 9=false by rw [h];rfl];rfl
theorem down_next {ns:List Nd} {t:Tm} {n:Nat} (hn:n<ns.length) (hd:bat (downL ns t) n=true) (hr:rcB t (nd ns n)=false):kpB t (nd ns n)=true∧nxl ns n≠[]∧∀ m∈nxl ns n,bat (downL ns t) m=true:=by
 rw [down_fix hn,hr,Bool.false_or,Bool.and_eq_true] at hd
 exact ⟨hd.1,allOr_no.1 hd.2⟩
theorem end_next {ns:List Nd} {n:Nat} (h:(nd ns n).op=12):nxl ns n=[]:=by
 cases e:nxl ns n with
 | nil=>rfl
 | cons a l =>
  have:a∈nxl ns n:=by rw [e];simp
  obtain ⟨_,h2⟩:=ahB_iff.1 (mem_nxl.1 this).2
  omega
theorem down_end {ns:List Nd} {t:Tm} (ht:3≤t.op∧t.op≤8) {n:Nat} (hn:n<ns.length) (h:(nd ns n).op=12):bat (downL ns t) n=false:=by
 cases q:bat (downL ns t) n
 ·rfl
 ·have hr:rcB t (nd ns n)=false:=by
   cases z:rcB t (nd ns n)
   ·rfl
   ·have:=(rcB_iff.1 z).1;omega
  exact absurd (end_next h) (down_next hn q hr).2.1
theorem down_on {r:Int} {ns:List Nd} (hc:chk r ns=0) (hs:Spl ns) {t:Tm} {n m:Nat} (hn:n<ns.length) (hd:bat (downL ns t) n=true) (hr:rcB t (nd ns n)=false) (hm:m∈nxl ns n):bat (downL ns t) m=true∧bat (earlyL ns t) m=false:=by
 obtain ⟨hk,_,hall⟩:=down_next hn hd hr
 have hml:=nxl_ltN hm
 have ha:n∈ahl ns m:=mem_ahl.2 ⟨hn,(mem_nxl.1 hm).2⟩
 refine ⟨hall m hm,?_⟩
 rw [early_eq hml,hall m hm,Bool.true_and,Bool.or_eq_false_iff]
 refine ⟨by cases q:ahl ns m with | nil=>rw [q] at ha;cases ha | cons a l=>rfl,?_⟩
 rw [Bool.not_eq_false', List.all_eq_true]
 intro n' hn'
 have hl' :=ahl_ltN hn'
 rw [bat_kpl hl', Bool.and_eq_true,Bool.or_eq_true]
 by_cases h0:(nd ns n').op=0
 ·refine ⟨skip_keeps h0,Or.inl ?_⟩
  rw [down_fix hl', skip_keeps h0,Bool.true_and,Bool.or_eq_true]
  right
  rw [nxl_one hc hl' (by omega) (by omega),allOr_no]
  refine ⟨by simp,fun j hj=>?_⟩
  have hmn:m∈nxl ns n' :=ahl_nxl hml hn'
  rw [nxl_one hc hl' (by omega) (by omega)] at hmn
  have e1:m=(nd ns n').t.toNat:=by simpa using hmn
  have e2:j=(nd ns n').t.toNat:=by simpa using hj
  rw [e2,← e1];exact hall m hm
 ·have e:=hs n' m hml hn' h0 n ha
  subst e
  exact ⟨hk,Or.inl hd⟩
theorem delay_two {r:Int} {ns:List Nd} (hc:chk r ns=0) (hs:Spl ns) {t:Tm} {n a b:Nat} (hn:n<ns.length) (hd:bat (delayL ns t) n=true) (hr:rcB t (nd ns n)=false) (ha:a∈nxl ns n) (hb:b∈nxl ns n) (h:bat (delayL ns t) a=false):bat (delayL ns t) b=false:=by
 by_cases e:b=a
 ·rw [e];exact h
 exfalso
 have h0:(nd ns n).op≠0:=fun h0=>by
  rw [nxl_one hc hn (by omega) (by omega)] at ha hb
  simp at ha hb
  exact e (by rw [ha,hb])
 have hal:=nxl_ltN ha
 have hna:n∈ahl ns a:=mem_ahl.2 ⟨hn,(mem_nxl.1 ha).2⟩
 have hne:ahl ns a≠[]:=fun q=>by rw [q] at hna;cases hna
 have hall:∀ m∈ahl ns a,rcB t (nd ns m)=false∧bat (delayL ns t) m=true:=fun m hm=>by
  have e:=hs n a hal hna h0 m hm
  rw [e]
  exact ⟨hr,hd⟩
 have:=(delay_fix (t:=t) hal).2 (Or.inr ⟨hne,hall⟩)
 rw [h] at this;cases this
theorem delay_down {r:Int} {ns:List Nd} (hc:chk r ns=0) {t:Tm} {n:Nat} (h:Rch ns n):n<ns.length→bat (delayL ns t) n=true→bat (downL ns t) n=true:=by
 have early:∀ {n},n<ns.length→bat (earlyL ns t) n=true→bat (downL ns t) n=true:=fun hn q=>by
  rw [early_eq hn,Bool.and_eq_true] at q;exact q.1
 induction h with
 | zero =>
  intro hn hd
  rcases (delay_fix hn).1 hd with q | ⟨q,_⟩
  ·exact early hn q
  ·exact absurd (ahl_zero hc) q
 | @step a b hr hab ih =>
  intro hn hd
  rcases (delay_fix hn).1 hd with q | ⟨q1,q2⟩
  ·exact early hn q
  ·have hal:=ahB_lt hab
   obtain ⟨p1,p2⟩:=q2 a (mem_ahl.2 ⟨hal,hab⟩)
   exact (down_next hal (ih hal p2) p1).2.2 b (mem_nxl.2 ⟨hn,hab⟩)
theorem run_step {r:Int} {ns:List Nd} (hc:chk r ns=0) {s:St} (he:s.ended=false) (hp:s.pc<ns.length):(nd ns s.pc).op=12∧(run1 ns s).ended=true∨(nd ns s.pc).op≠12∧(run1 ns s).ended=false∧(run1 ns s).pc∈nxl ns s.pc:=by
 rw [run1_at he (get_nd hp)]
 rcases stp_end (x:=nd ns s.pc) (s:=s) with ⟨h1,h2⟩ | ⟨h1,h2⟩
 ·exact Or.inl ⟨h1,h2⟩
 ·rcases stp_next hc hp s with ⟨q,_⟩ | ⟨_,q⟩
  ·exact absurd q h1
  ·exact Or.inr ⟨h1,by rw [h2];exact he,q⟩
def wB (ns:List Nd) (t:Tm) (n:Nat):Int:=if bat (earlyL ns t) n=true then 1 else 0
structure Riv (ns:List Nd) (t:Tm) (P T E:Nat→Bool):Prop where
 down:∀ n,n<ns.length→P n=true→bat (downL ns t) n=true
 there:∀ n,n<ns.length→E n=true→P n=true∨fromAll ns t E n=true
 take:∀ n,n<ns.length→T n=true→E n=true
theorem from_iff {ns:List Nd} {t:Tm} {E:Nat→Bool} {n:Nat}:fromAll ns t E n=true↔ahl ns n≠[]∧∀ m∈ahl ns n,kpB t (nd ns m)=true∧E m=true:=by
 unfold fromAll
 rw [allOr_no]
 refine and_congr_right fun _=>forall_congr' fun m=>imp_congr_right fun _=>?_
 rw [Bool.and_eq_true]
theorem riv_known {ns:List Nd} {t:Tm} {P T E:Nat→Bool} (h:Riv ns t P T E) {n:Nat} (hn:n<ns.length) (hE:E n=true):known ns t n=true:=by
 unfold known
 cases hd:bat (downL ns t) n
 ·rw [Bool.false_or]
  refine solve_top ns (upW ns t) (fun m=>decide (m<ns.length)&&(E m&&!bat (downL ns t) m)) (fun m hm=>by simp;omega) (fun m hm hy=>?_) (n:=n) (by simp [hn,hE,hd])
  have hy' :E m=true∧bat (downL ns t) m=false:=by simpa [hm] using hy
  show (bat (nol ns.length) m||(bat (yesl ns.length) m&&allOr false (ahl ns m) fun j=>bat (bothl ns t) j||(bat (kpl ns t) j&&(decide (j<ns.length)&&(E j&&!bat (downL ns t) j)))))=true
  rw [bat_noN,bat_yesN hm,Bool.false_or,Bool.true_and,allOr_no]
  rcases h.there m hm hy'.1 with q | q
  ·rw [h.down m hm q] at hy'; cases hy'.2
  ·obtain ⟨q1,q2⟩:=from_iff.1 q
   refine ⟨q1,fun j hj=>?_⟩
   have hjl:=ahl_ltN hj
   obtain ⟨k1,k2⟩:=q2 j hj
   rw [bat_both hjl,bat_kpl hjl,k1,k2]
   cases hr:rcB t (nd ns j)
   ·cases hdj:bat (downL ns t) j
    ·simp [hjl]
    ·have:=(down_next hjl hdj hr).2.2 m (ahl_nxl hm hj)
     rw [hy'.2] at this;cases this
   ·rfl
 ·rfl
theorem early_from {ns:List Nd} {t:Tm} {P T E:Nat→Bool} (h:Riv ns t P T E) {n:Nat} (hn:n<ns.length) (he:bat (earlyL ns t) n=true):fromAll ns t E n=false:=by
 cases q:fromAll ns t E n
 ·rfl
 ·exfalso
  obtain ⟨q1,q2⟩:=from_iff.1 q
  rw [early_eq hn,Bool.and_eq_true,Bool.or_eq_true] at he
  rcases he.2 with z | z
  ·exact q1 (by simpa using z)
  ·rw [Bool.not_eq_true'] at z
   have:(ahl ns n).all (fun m=>bat (kpl ns t) m&&(bat (downL ns t) m||bat (upL ns t) m))=true:=by
    rw [List.all_eq_true]
    intro m hm
    rw [bat_kpl (ahl_ltN hm),(q2 m hm).1]
    exact riv_known h (ahl_ltN hm) (q2 m hm).2
   rw [z] at this;cases this
theorem wX_nonneg (ns:List Nd) (t:Tm) (P T:Nat→Bool) (n:Nat):0≤wX ns t P T n:=by
 unfold wX;split <;> split <;> omega
theorem busy_le {r:Int} {ns:List Nd} (hc:chk r ns=0) (hs:Spl ns) {t:Tm} (ht:3≤t.op∧t.op≤8) {P T E:Nat→Bool} (hR:Riv ns t P T E):∀ (k:Nat) {s:St},s.ended=false→s.pc<ns.length→(runN ns k s).ended=true →
 tally (wB ns t) ns k s≤tally (wX ns t P T) ns k s∧(bat (downL ns t) s.pc=true→fromAll ns t E s.pc=false→bat (earlyL ns t) s.pc=false→tally (wB ns t) ns k s+1≤tally (wX ns t P T) ns k s)
 | 0,s,he,_,hk=>by rw [show runN ns 0 s=s from rfl,he] at hk;cases hk
 | k+1,s,he,hp,hk=>by
  rw [runS_succ] at hk
  rw [tally,tally,if_neg (by simp [he]),if_neg (by simp [he])]
  have h0:=wX_nonneg ns t P T s.pc
  have next:bat (downL ns t) s.pc=true→fromAll ns t E s.pc=false→wX ns t P T s.pc=0→tally (wB ns t) ns k (run1 ns s)+1≤tally (wX ns t P T) ns k (run1 ns s):=by
   intro hd hf hw
   have hP:P s.pc=false:=by
    cases q:P s.pc
    ·rfl
    ·unfold wX at hw;rw [if_pos q] at hw;split at hw <;> omega
   have hE:E s.pc=false:=by
    cases q:E s.pc
    ·rfl
    ·rcases hR.there s.pc hp q with z | z
     ·rw [hP] at z;cases z
     ·rw [hf] at z;cases z
   have hT:T s.pc=false:=by
    cases q:T s.pc
    ·rfl
    ·rw [hR.take s.pc hp q] at hE;cases hE
   have hr:rcB t (nd ns s.pc)=false:=by
    cases q:rcB t (nd ns s.pc)
    ·rfl
    ·unfold wX at hw;rw [hP,q,hT] at hw;simp at hw
   rcases run_step hc he hp with ⟨q,_⟩ | ⟨_,q1,q2⟩
   ·rw [down_end ht hp q] at hd;cases hd
   ·obtain ⟨d1,d2⟩:=down_on hc hs hp hd hr q2
    refine (busy_le hc hs ht hR k q1 (nxl_ltN q2) hk).2 d1 ?_ d2
    cases z:fromAll ns t E (run1 ns s).pc
    ·rfl
    ·have:=((from_iff.1 z).2 s.pc (mem_ahl.2 ⟨hp,(mem_nxl.1 q2).2⟩)).2
     rw [hE] at this;cases this
  have rest:tally (wB ns t) ns k (run1 ns s)≤tally (wX ns t P T) ns k (run1 ns s):=by
   rcases run_step hc he hp with ⟨_,q⟩ | ⟨_,q1,q2⟩
   ·rw [tally_ended k q,tally_ended k q];omega
   ·exact (busy_le hc hs ht hR k q1 (nxl_ltN q2) hk).1
  constructor
  ·cases hb:bat (earlyL ns t) s.pc
   ·have e1:wB ns t s.pc=0:=by unfold wB;rw [hb];rfl
    rw [e1]
    omega
   ·have e1:wB ns t s.pc=1:=by unfold wB;rw [hb];rfl
    rw [e1]
    by_cases hw:wX ns t P T s.pc=0
    ·have hd:bat (downL ns t) s.pc=true:=by rw [early_eq hp,Bool.and_eq_true] at hb;exact hb.1
     have:=next hd (early_from hR hp hb) hw
     omega
    ·omega
  ·intro hd hf hb
   have e1:wB ns t s.pc=0:=by unfold wB;rw [hb];rfl
   rw [e1]
   by_cases hw:wX ns t P T s.pc=0
   ·have:=next hd hf hw
    omega
   ·omega
theorem nodelay_on {r:Int} {ns:List Nd} (hc:chk r ns=0) (hs:Spl ns) {t:Tm} {n m:Nat} (hn:n<ns.length) (hd:bat (downL ns t) n=true) (hr:rcB t (nd ns n)=false) (hl:bat (delayL ns t) n=false) (hm:m∈nxl ns n):bat (delayL ns t) m=false:=by
 cases q:bat (delayL ns t) m
 ·rfl
 ·exfalso
  rcases (delay_fix (nxl_ltN hm)).1 q with z | ⟨_,z⟩
  ·rw [(down_on hc hs hn hd hr hm).2] at z;cases z
  ·have:=(z n (mem_ahl.2 ⟨hn,(mem_nxl.1 hm).2⟩)).2
   rw [hl] at this;cases this
theorem not_alone {r:Int} {ns:List Nd} (hc:chk r ns=0) (hs:Spl ns) {t:Tm} (ht:3≤t.op∧t.op≤8):∀ (k:Nat) {s:St},s.ended=false→s.pc<ns.length→(runN ns k s).ended=true→bat (downL ns t) s.pc=true→bat (delayL ns t) s.pc=false→rcB t (nd ns s.pc)=false→bat (aloneL ns t) s.pc=false
 | 0,s,he,_,hk,_,_,_=>by rw [show runN ns 0 s=s from rfl,he] at hk;cases hk
 | k+1,s,he,hp,hk,hd,hl,hr=>by
  rw [runS_succ] at hk
  rcases run_step hc he hp with ⟨q,_⟩ | ⟨_,q1,q2⟩
  ·rw [down_end ht hp q] at hd;cases hd
  ·have d:=(down_on hc hs hp hd hr q2).1
   have l:=nodelay_on hc hs hp hd hr hl q2
   cases z:bat (aloneL ns t) s.pc
   ·rfl
   ·exfalso
    rcases (alone_fix hp).1 z _ q2 with y | ⟨y1,y2⟩
    ·rw [late_delay (nxl_ltN q2) y] at l;cases l
    ·rw [not_alone hc hs ht k q1 (nxl_ltN q2) hk d l y1] at y2;cases y2
def owed (ns:List Nd) (t:Tm) (n:Nat):Int:=if bat (delayL ns t) n=true∧bat (earlyL ns t) n=false then 1 else 0
theorem bat_lzp {ns:List Nd} {t:Tm} {n:Nat} (hn:n<ns.length):bat (lazyPut ns t) n=(bat (lateL ns t) n&&!bat (aloneL ns t) n):=by unfold lazyPut;rw [bat_map _ hn]
theorem bat_lzt {ns:List Nd} {t:Tm} {n:Nat} (hn:n<ns.length):bat (lazyTake ns t) n=(rcB t (nd ns n)&&!(bat (lateL ns t) n&&bat (aloneL ns t) n)):=by unfold lazyTake;rw [bat_map _ hn,bat_rcl hn]
theorem lazy_busy {r:Int} {ns:List Nd} (hc:chk r ns=0) (hs:Spl ns) {t:Tm} (ht:3≤t.op∧t.op≤8):∀ (k:Nat) {s:St},s.ended=false→s.pc<ns.length→Rch ns s.pc→(runN ns k s).ended=true →
 tally (wX ns t (bat (lazyPut ns t)) (bat (lazyTake ns t))) ns k s=tally (wB ns t) ns k s+owed ns t s.pc
 | 0,s,he,_,_,hk=>by rw [show runN ns 0 s=s from rfl,he] at hk;cases hk
 | k+1,s,he,hp,hrch,hk=>by
  have hk' :=hk
  rw [runS_succ] at hk
  rw [tally,tally,if_neg (by simp [he]),if_neg (by simp [he])]
  have wb:wB ns t s.pc=if bat (earlyL ns t) s.pc=true then 1 else 0:=rfl
  have early_delay:bat (earlyL ns t) s.pc=true→bat (delayL ns t) s.pc=true:=fun q=>(delay_fix hp).2 (Or.inl q)
  cases hd:bat (delayL ns t) s.pc
  ·
   have he0:bat (earlyL ns t) s.pc=false:=by
    cases q:bat (earlyL ns t) s.pc
    ·rfl
    ·rw [early_delay q] at hd;cases hd
   have hl0:bat (lateL ns t) s.pc=false:=by
    cases q:bat (lateL ns t) s.pc
    ·rfl
    ·rw [late_delay hp q] at hd;cases hd
   have w0:wX ns t (bat (lazyPut ns t)) (bat (lazyTake ns t)) s.pc=0:=by
    unfold wX
    rw [bat_lzp hp,bat_lzt hp,hl0]
    cases rcB t (nd ns s.pc) <;> simp
   have o0:owed ns t s.pc=0:=by unfold owed;rw [hd];simp
   have b0:wB ns t s.pc=0:=by rw [wb,he0];simp
   rw [w0,o0,b0]
   rcases run_step hc he hp with ⟨_,q⟩ | ⟨_,q1,q2⟩
   ·rw [tally_ended k q,tally_ended k q];rfl
   ·rw [lazy_busy hc hs ht k q1 (nxl_ltN q2) (Rch.step hrch (mem_nxl.1 q2).2) hk]
    have:owed ns t (run1 ns s).pc=0:=by
     unfold owed
     refine if_neg fun z=>?_
     rcases (delay_fix (nxl_ltN q2)).1 z.1 with y | ⟨_,y⟩
     ·rw [z.2] at y;cases y
     ·have:=(y s.pc (mem_ahl.2 ⟨hp,(mem_nxl.1 q2).2⟩)).2
      rw [hd] at this;cases this
    rw [this];omega
  ·have hdn:=delay_down hc hrch hp hd
   have ob:wB ns t s.pc+owed ns t s.pc=1:=by
    rw [wb];unfold owed
    cases bat (earlyL ns t) s.pc <;> simp [hd]
   rcases run_step hc he hp with ⟨q,_⟩ | ⟨_,q1,q2⟩
   ·rw [down_end ht hp q] at hdn;cases hdn
   ·rw [lazy_busy hc hs ht k q1 (nxl_ltN q2) (Rch.step hrch (mem_nxl.1 q2).2) hk]
    suffices h:wX ns t (bat (lazyPut ns t)) (bat (lazyTake ns t)) s.pc+owed ns t (run1 ns s).pc=1 by omega
    cases hr:rcB t (nd ns s.pc)
    ·cases hl:bat (lateL ns t) s.pc
     ·
      have w0:wX ns t (bat (lazyPut ns t)) (bat (lazyTake ns t)) s.pc=0:=by
       unfold wX
       rw [bat_lzp hp,bat_lzt hp,hl,hr];simp
      rw [w0]
      rw [late_eq hp,hd,bat_rcl hp,hr,Bool.true_and,Bool.false_or,Bool.not_eq_false', List.all_eq_true] at hl
      unfold owed
      rw [if_pos ⟨hl _ q2,(down_on hc hs hp hdn hr q2).2⟩];rfl
     ·have hl' :=hl
      rw [late_eq hp,hd,bat_rcl hp,hr,Bool.true_and,Bool.false_or,Bool.not_eq_true', List.all_eq_false] at hl'
      obtain ⟨a,ha,hna⟩:=hl'
      have hnd:=delay_two hc hs hp hd hr ha q2 (by simpa using hna)
      have o0:owed ns t (run1 ns s).pc=0:=by unfold owed;rw [hnd];simp
      have al:bat (aloneL ns t) s.pc=false:=by
       cases z:bat (aloneL ns t) s.pc
       ·rfl
       ·exfalso
        rcases (alone_fix hp).1 z _ q2 with y | ⟨y1,y2⟩
        ·rw [late_delay (nxl_ltN q2) y] at hnd;cases hnd
        ·rw [not_alone hc hs ht k q1 (nxl_ltN q2) hk (down_on hc hs hp hdn hr q2).1 hnd y1] at y2;cases y2
      rw [o0]
      unfold wX
      rw [bat_lzp hp,bat_lzt hp,hl,hr,al];simp
    ·have hl:bat (lateL ns t) s.pc=true:=by rw [late_eq hp,hd,bat_rcl hp,hr];rfl
     have o0:owed ns t (run1 ns s).pc=0:=by
      unfold owed
      refine if_neg fun z=>?_
      rcases (delay_fix (nxl_ltN q2)).1 z.1 with y | ⟨_,y⟩
      ·rw [z.2] at y;cases y
      ·have:=(y s.pc (mem_ahl.2 ⟨hp,(mem_nxl.1 q2).2⟩)).1
       rw [hr] at this;cases this
     rw [o0]
     unfold wX
     rw [bat_lzp hp,bat_lzt hp,hl,hr]
     cases bat (aloneL ns t) s.pc <;> simp
theorem spl_of {r:Int} {ns:List Nd} (hc:chk r ns=0) (hl:(splitN ns).length≤256):Spl (splitN ns):=by
 intro n m hm hn h0 n' hn'
 have hcs:=split_chk hc hl
 have hnl:=ahl_ltN hn
 have hF:=chk_at hcs hnl
 obtain ⟨_,h2⟩:=ahB_iff.1 (mem_ahl.1 hn).2
 have hx:((m:Nat):Int)∈exo (nd (splitN ns) n):=in_exo hF.op (h2.imp (fun q=>⟨q.1,q.2.symm⟩) (fun q=>⟨q.1,q.2.symm⟩))
 have:=split_none hc hl hnl h0 hx
 rw [Int.toNat_natCast] at this
 cases e:ahl (splitN ns) m with
 | nil=>rw [e] at hn;cases hn
 | cons a l =>
  cases l with
  | nil=>rw [e] at hn hn'; simp at hn hn'; rw [hn,hn']
  | cons b l=>rw [e] at this;simp at this
theorem Sim.oneM {ns ms:List Nd} {f:Nat→Nat} {sil:Nat→Bool} {rk:Nat→Nat} {M:Nat} {R:St→St→Prop} (S:Sim ns ms f sil rk M R):∀ (j:Nat) {s u:St},R s u→rk u.pc≤j→∃ i,i≤j+1∧R (run1 ns s) (runN ms i u)
 | j,s,u,h,hj=>by
  cases he:s.ended
  ·cases hs:sil u.pc
   ·exact ⟨1,by omega,by rw [runS_succ];exact S.step s u h he hs⟩
   ·obtain ⟨h1,h2⟩:=S.silent s u h he hs
    cases j with
    | zero=>omega
    | succ j =>
     obtain ⟨i,i1,i2⟩:=S.oneM j h1 (by omega)
     exact ⟨i+1,by omega,by rw [runS_succ];exact i2⟩
  ·exact ⟨0,by omega,by rw [run1_ended he];exact h⟩
theorem Sim.fwdM {ns ms:List Nd} {f:Nat→Nat} {sil:Nat→Bool} {rk:Nat→Nat} {M:Nat} {R:St→St→Prop} (S:Sim ns ms f sil rk M R) {s u:St} (h:R s u):∀ n,∃ m,m≤n*(M+1)∧R (runN ns n s) (runN ms m u)
 | 0=>⟨0,by omega,h⟩
 | n+1=>by
  obtain ⟨m,h1,h2⟩:=S.fwdM h n
  obtain ⟨j,h3,h4⟩:=S.oneM M h2 (S.bound _)
  refine ⟨m+j,?_,?_⟩
  ·rw [Nat.succ_mul];omega
  ·rw [runN_last,runN_plus];exact h4
theorem both_ended {ns:List Nd} {n m:Nat} {s:St} (h1:(runN ns n s).ended=true) (h2:(runN ns m s).ended=true):runN ns n s=runN ns m s:=by
 rcases Nat.le_total n m with h | h
 ·exact (runN_stays h h1).symm
 ·exact runN_stays h h2
theorem srt0 (r:Nat) (inp:List Int):Srt (st0 r inp).cts:=List.Pairwise.nil
theorem cnt0 (r:Nat) (inp:List Int) (t:Tm):cnt (st0 r inp).cts t=0:=rfl
theorem placed_run {r:Nat} {ns:List Nd} (hc:chk r ns=0) {t:Tm} (ht:TmOk r t) {put tak:List Bool} {A:Nat→Bool} (hS:Safe ns t (bat put) (bat tak) A) (inp:List Int) {k:Nat} (hk:(runN ns k (st0 r inp)).ended=true) :
 (∀ M,2*k≤M→(runN (apN ns t put tak r) M (st0 (r+1) inp)).ended=true) ∧
 ∀ M,(runN (apN ns t put tak r) M (st0 (r+1) inp)).ended=true→cnt (runN (apN ns t put tak r) M (st0 (r+1) inp)).cts t=tally (wX ns t (bat put) (bat tak)) ns k (st0 r inp)∧(∀ t', t' ≠t→cnt (runN (apN ns t put tak r) M (st0 (r+1) inp)).cts t' =cnt (runN ns k (st0 r inp)).cts t')∧Srt (runN (apN ns t put tak r) M (st0 (r+1) inp)).cts:=by
 have h0:=move_begin hc hS inp
 obtain ⟨m,m1,m2,m3⟩:=move_tally hc ht hS k h0 (by show 0<_;have:=(chk_full hc).1;omega)
 have hm:(runN (apN ns t put tak r) m (st0 (r+1) inp)).ended=true:=by rw [m2.ended];exact hk
 refine ⟨fun M hM=>by rw [runN_stays (show m≤M by omega) hm];exact hm,fun M hM=>?_⟩
 rw [both_ended hM hm]
 exact ⟨by rw [m3,cnt0];omega,m2.oth,m2.su⟩
theorem lazy_tot {r:Int} {ns:List Nd} (hc:chk r ns=0) (hs:Spl ns) {t:Tm} (ht:3≤t.op∧t.op≤8) (j:Nat) (inp:List Int) {k:Nat} (hk:(runN ns k (st0 j inp)).ended=true) :
 tally (wX ns t (bat (lazyPut ns t)) (bat (lazyTake ns t))) ns k (st0 j inp)=tally (wB ns t) ns k (st0 j inp) ∧
 ∀ P T E,Riv ns t P T E→tally (wX ns t (bat (lazyPut ns t)) (bat (lazyTake ns t))) ns k (st0 j inp)≤tally (wX ns t P T) ns k (st0 j inp):=by
 have h0:0<ns.length:=(chk_full hc).1.1
 have e:=lazy_busy hc hs ht k (s:=st0 j inp) rfl h0 Rch.zero hk
 have o:owed ns t (st0 j inp).pc=0:=by
  unfold owed
  refine if_neg fun z=>?_
  rcases (delay_fix h0).1 z.1 with y | ⟨y,_⟩
  ·have z2:bat (earlyL ns t) 0=false:=z.2
   rw [z2] at y;cases y
  ·exact y (ahl_zero hc)
 rw [o,Int.add_zero] at e
 refine ⟨e,fun P T E hR=>?_⟩
 rw [e]
 exact (busy_le hc hs ht hR k (s:=st0 j inp) rfl h0 hk).1
theorem tally_congr {w w' :Nat→Int} {ns:List Nd} {r:Int} (hc:chk r ns=0) (h:∀ n,n<ns.length→w n=w' n):∀ (k:Nat) {s:St},s.pc<ns.length→tally w ns k s=tally w' ns k s
 | 0,_,_=>rfl
 | k+1,s,hp=>by
  rw [tally,tally,h _ hp,tally_congr hc h k (run1_in hc hp)]
theorem riv_none (ns:List Nd) (t:Tm):Riv ns t (fun _=>false) (fun _=>false) (fun _=>false) :=
 ⟨fun _ _ h=>Bool.noConfusion h,fun _ _ h=>Bool.noConfusion h,fun _ _ h=>Bool.noConfusion h⟩
theorem wX_none (ns:List Nd) (t:Tm) (n:Nat):wX ns t (fun _=>false) (fun _=>false) n=wO ns t n:=by
 unfold wX wO;simp
theorem split_run {r:Int} {ns:List Nd} (hc:chk r ns=0) (j:Nat) (inp:List Int) {n:Nat} (h:(runN ns n (st0 j inp)).ended=true):∃ k,k≤n*2∧(runN (splitN ns) k (st0 j inp)).ended=true∧(runN (splitN ns) k (st0 j inp)).cts=(runN ns n (st0 j inp)).cts:=by
 obtain ⟨m,m1,m2⟩:=(split_sim hc).fwdM (split_begin hc j inp) n
 exact ⟨m,m1,by rw [m2.like.ended];exact h,m2.like.cts⟩
theorem own_count {r:Int} {ns:List Nd} (hc:chk r ns=0) {t:Tm} (ht:3≤t.op∧t.op≤8) (j:Nat) (inp:List Int) (k:Nat):cnt (runN ns k (st0 j inp)).cts t=tally (wO ns t) ns k (st0 j inp)∧Srt (runN ns k (st0 j inp)).cts:=by
 obtain ⟨a,b⟩:=own_tally hc ht k (s:=st0 j inp) (by show 0<_;have:=(chk_full hc).1;omega) (srt0 j inp)
 exact ⟨by rw [a,cnt0];omega,b⟩
theorem one_saves {r:Nat} {ns:List Nd} (hc:chk r ns=0) {t:Tm} (ht:TmOk r t) (hl:(oneQ ns).length≤256) (inp:List Int) {n:Nat} (h:(runN ns n (st0 r inp)).ended=true) {M:Nat} (hM:n*(oneN ns t r).length≤M) :
 (runN (oneN ns t r) M (st0 (oneR ns t r).toNat inp)).ended=true∧cnt (runN (oneN ns t r) M (st0 (oneR ns t r).toNat inp)).cts t≤cnt (runN ns n (st0 r inp)).cts t ∧
 (∀ t', t' ≠t→cnt (runN (oneN ns t r) M (st0 (oneR ns t r).toNat inp)).cts t' =cnt (runN ns n (st0 r inp)).cts t'):=by
 have hend:(runN (oneN ns t r) M (st0 (oneR ns t r).toNat inp)).ended=true:=by
  obtain ⟨f,sil,rk,L,R,hS,h0⟩:=one_sims hc ht hl inp
  rw [Int.toNat_natCast] at h0
  obtain ⟨m,m1,m2⟩:=hS.fwd h0 n
  have hm:(runN (oneN ns t r) m (st0 (oneR ns t r).toNat inp)).ended=true:=by rw [(hS.obs _ _ m2).2.1];exact h
  rw [runN_stays (Nat.le_trans m1 hM) hm];exact hm
 refine ⟨hend,?_⟩
 unfold oneN oneR at *
 cases hb:oneB ns t
 ·rw [hb] at hend
  simp only [Bool.false_eq_true,if_false,Int.toNat_natCast] at hend ⊢
  rw [both_ended hend h]
  exact ⟨Int.le_refl _,fun _ _=>rfl⟩
 ·rw [hb] at hend
  simp only [if_true,show ((r:Int)+1).toNat=r+1 by omega] at hend ⊢
  have hct:=trim_chk hc
  have hcs:=split_chk hct hl
  have ht1:(runN (trimN ns) n (st0 r inp)).ended=true∧(runN (trimN ns) n (st0 r inp)).cts=(runN ns n (st0 r inp)).cts:=by
   rw [trim_same hc];exact ⟨h,rfl⟩
  obtain ⟨k,_,k2,k3⟩:=split_run hct r inp ht1.1
  obtain ⟨p1,p2⟩:=placed_run hcs ht (lazy_safe hcs t) inp k2
  obtain ⟨c1,c2,_⟩:=p2 M hend
  obtain ⟨_,l2⟩:=lazy_tot hcs (spl_of hct hl) ht.op r inp k2
  have l3:=l2 _ _ _ (riv_none _ t)
  have o:=(own_count hcs ht.op r inp k).1
  rw [tally_congr hcs (fun n _=>wX_none _ t n) k (show (st0 r inp).pc<_ from (chk_full hcs).1.1),← o,k3,ht1.2] at l3
  refine ⟨by rw [← c1] at l3;exact l3,fun t' ht' =>?_⟩
  rw [← ht1.2,← k3]
  exact c2 t' ht'
def xo (ns:List Nd) (put:List Bool) (n:Nat):Nat:=if bat put n=true then ns.length+(keptI put n).length else n
section moved
variable {r:Nat} {ns:List Nd} {t:Tm} {put tak:List Bool}
end moved
section once
variable {r:Nat} {ns:List Nd} {t:Tm}
end once
def tmE (r:Int) (t:Tm):Int:=if 3≤t.op∧t.op≤8 then (if (0≤t.a∧t.a<r)∧(0≤t.b∧t.b<r) then 0 else 3) else 4
theorem tmE_ok {r:Int} {t:Tm} (h:tmE r t=0):TmOk r t:=by
 unfold tmE at h
 split at h
 ·split at h
  ·rename_i a b;exact ⟨a,b.1,b.2⟩
  ·omega
 ·omega
def oneE (r:Int) (ns:List Nd) (t:Tm):Int :=
 if chk r ns≠0 then chk r ns else if 256<(oneQ ns).length then 2 else if tmE r t≠0 then tmE r t
 else if oneB ns t=true∧(256<(oneN ns t r).length∨63<r) then 2 else 0
structure OneOk (r:Int) (ns:List Nd) (t:Tm):Prop where
 ck:chk r ns=0
 len:(oneQ ns).length≤256
 tm:TmOk r t
 fit:oneB ns t=true→(oneN ns t r).length≤256∧r≤63
theorem oneE_ok {r:Int} {ns:List Nd} {t:Tm} (h:oneE r ns t=0):OneOk r ns t:=by
 unfold oneE at h
 by_cases h1:chk r ns=0
 ·rw [if_neg (by simp [h1])] at h
  by_cases h2:256<(oneQ ns).length
  ·rw [if_pos h2] at h;omega
  ·rw [if_neg h2] at h
   by_cases h3:tmE r t=0
   ·rw [if_neg (by simp [h3])] at h
    refine ⟨h1,by omega,tmE_ok h3,fun hb=>?_⟩
    by_cases h4:oneB ns t=true∧(256<(oneN ns t r).length∨63<r)
    ·rw [if_pos h4] at h;omega
    ·have:¬ (256<(oneN ns t r).length∨63<r):=fun q=>h4 ⟨hb,q⟩
     omega
   ·rw [if_pos (by simpa using h3)] at h;exact absurd h h3
 ·rw [if_pos (by simpa using h1)] at h;exact absurd h h1
theorem OneOk.next {r:Int} {ns:List Nd} {t:Tm} (h:OneOk r ns t):chk (oneR ns t r) (oneN ns t r)=0:=by
 have hl:=(chk_full h.ck).1
 have hr:=(chk_full h.ck).2.1
 refine one_chk h.ck h.tm h.len ?_ ?_
 ·cases hb:oneB ns t
  ·unfold oneN;rw [hb];simp;omega
  ·exact (h.fit hb).1
 ·cases hb:oneB ns t
  ·unfold oneR;rw [hb];simp;omega
  ·have:=(h.fit hb).2
   unfold oneR;rw [hb];simp;omega
theorem OneOk.sims {r:Int} {ns:List Nd} {t:Tm} (h:OneOk r ns t):Sims ns r.toNat (oneN ns t r) (oneR ns t r).toNat:=one_sims h.ck h.tm h.len
theorem oneR_le (ns:List Nd) (t:Tm) (r:Int):r≤oneR ns t r:=by unfold oneR;split <;> omega
def allS (x:Int × Int × List Nd) (t:Tm):Int × Int × List Nd:=if x.1≠0 then x else if oneE x.2.1 x.2.2 t=0 then (0,oneR x.2.2 t x.2.1,oneN x.2.2 t x.2.1) else (oneE x.2.1 x.2.2 t,0,[])
def allF (r:Int) (ns:List Nd) (ts:List Tm):Int × Int × List Nd:=ts.foldl allS (0,r,ns)
theorem allF_snoc (r:Int) (ns:List Nd) (ts:List Tm) (t:Tm):allF r ns (ts++[t])=allS (allF r ns ts) t:=by simp [allF,List.foldl_append]
theorem fold_err:∀ (ts:List Tm) {x:Int × Int × List Nd},x.1≠0→ts.foldl allS x=x
 | [],_,_=>rfl
 | t::ts,x,h=>by
  rw [List.foldl_cons]
  have e:allS x t=x:=by unfold allS;rw [if_pos h]
  rw [e];exact fold_err ts h
theorem allF_err {r:Int} {ns:List Nd} {ts us:List Tm} (h:(allF r ns ts).1≠0):allF r ns (ts++us)=allF r ns ts:=by
 unfold allF at *
 rw [List.foldl_append];exact fold_err us h
structure AllOk (r:Int) (ns:List Nd) (x:Int × Int × List Nd):Prop where
 ck:chk x.2.1 x.2.2=0
 le:r≤x.2.1
 sims:Sims ns r.toNat x.2.2 x.2.1.toNat
theorem allF_ok {r:Int} {ns:List Nd} (hc:chk r ns=0):∀ (ts:List Tm) {x:Int × Int × List Nd},AllOk r ns x→x.1=0→(ts.foldl allS x).1=0→AllOk r ns (ts.foldl allS x)
 | [],_,h,_,_=>h
 | t::ts,x,h,h0,he=>by
  rw [List.foldl_cons] at he ⊢
  by_cases h1:oneE x.2.1 x.2.2 t=0
  ·have e:allS x t=(0,oneR x.2.2 t x.2.1,oneN x.2.2 t x.2.1):=by unfold allS;rw [if_neg (by simp [h0]),if_pos h1]
   rw [e] at he ⊢
   have ho:=oneE_ok h1
   have:=h.le
   have:=oneR_le x.2.2 t x.2.1
   exact allF_ok hc ts ⟨ho.next,by show r≤oneR x.2.2 t x.2.1;omega,h.sims.trans ho.sims⟩ rfl he
  ·have e:allS x t=(oneE x.2.1 x.2.2 t,0,[]):=by unfold allS;rw [if_neg (by simp [h0]),if_neg h1]
   rw [e,fold_err ts (by exact h1)] at he
   exact absurd he h1
theorem allF_all {r:Int} {ns:List Nd} (hc:chk r ns=0) {ts:List Tm} (he:(allF r ns ts).1=0):AllOk r ns (allF r ns ts) :=
 allF_ok hc ts (x:=(0,r,ns)) ⟨hc,Int.le_refl _,Sims.refl hc _⟩ rfl he
end Go.Proofs.YtkkolclmfcmfbaaGreatDoor
