/-
  Of the proof of MovePlaces: MG, FD, FL, TK, TW, TX.
-/
import Derived.Test.YtnbdnbcnlgnicaaGreatP1
import Derived.Test.YtnbdnbcnlgnicaaGreatP3
import Derived.Maps.AppendAt
import Derived.Deep.RegionHeld3
import Derived.Laws.AppendOwn
set_option linter.unusedVariables false
set_option linter.unusedSimpArgs false
set_option maxHeartbeats 40000000
namespace Go.Proofs.YtnbdnbcnlgnicaaGreat
open Go.RowKit Go.Shelf
set_option maxRecDepth 100000 in
theorem solve_right (r:Int) (b off cap:Nat) (ns:List Nd) (f:Flw) (a1 a2 a3 a4:Option Addr) (c1 c2 c3 c4:Nat) (w:World) (hN:NodesAt w b off ns) (hc:fchk r ns f=0) (h1:BoolsAt w a1 f.gen) (h2:BoolsAt w a2 f.pass) (h3:BoolsAt w a3 f.plus) (h4:BoolsAt w a4 f.lets) :
 Calls Tryz.prog 47 #[.agg #[.int .i64 r,.slice (some ⟨b,off,none⟩) ns.length cap],.agg #[.bool f.back,.bool f.empty,.slice a1 f.gen.length c1,.slice a2 f.pass.length c2,.slice a3 f.plus.length c3,.slice a4 f.lets.length c4]] w fun e w' =>∃ v,e=.returned (.tuple #[v,.int .i64 0])∧w'.ownsRow w.heap.size 4 1 v ns.length ((solve ns f).map Value.bool)∧Below w.heap.size w w' :=by
 obtain ⟨i0,hi,hz0,hz1,hz2⟩:=info_parts info_int
 have hbA:Below w.heap.size w ((w.alloc (.cells #[.int .i64 r,.slice (some ⟨b,off,none⟩) ns.length cap] 24)).alloc (.cells #[.bool f.back,.bool f.empty,.slice a1 f.gen.length c1,.slice a2 f.pass.length c2,.slice a3 f.plus.length c3,.slice a4 f.lets.length c4] 79)):=((Below.refl _ w).alloc (Nat.le_refl _) _).alloc (by simp) _
 have hck:=fun W (h:Below w.heap.size w W)=>fcheck_any r (some ⟨b,off,none⟩) cap ns f a1 a2 a3 a4 c1 c2 c3 c4 W (Or.inr ⟨b,off,rfl,hN.below h hN.lt⟩)
 have hlo:=fun W (h:Below w.heap.size w W)=>layOut_any r b off cap ns f a1 a2 a3 a4 c1 c2 c3 c4 W (hN.below h hN.lt) hc (h1.below h) (h2.below h) (h3.below h) (h4.below h)
 rw [hc] at hck
 have hl:=(chk_zero (fchk_zero hc).1).1
 have HCK:=hide hck
 have HLO:=hide hlo
 clear hck hlo hc h1 h2 h3 h4 hN
 go_enter Tryz.func47,Tryz.ntmps47
 go_upto_region 1 with fail
 generalize HG:((w.alloc (.cells #[.int .i64 r,.slice (some ⟨b,off,none⟩) ns.length cap] 24)).alloc (.cells #[.bool f.back,.bool f.empty,.slice a1 f.gen.length c1,.slice a2 f.pass.length c2,.slice a3 f.plus.length c3,.slice a4 f.lets.length c4] 79))=W
 have hp:W.heap[w.heap.size]?=some (.cells #[.int .i64 r,.slice (some ⟨b,off,none⟩) ns.length cap] 24 (0,0)):=by rw [← HG];exact (Below.heap_alloc _ _ _ (by simp)).trans (World.alloc_heap_new w _)
 have hf:W.heap[w.heap.size+1]?=some (.cells #[.bool f.back,.bool f.empty,.slice a1 f.gen.length c1,.slice a2 f.pass.length c2,.slice a3 f.plus.length c3,.slice a4 f.lets.length c4] 79 (0,0)):=by
  rw [← HG]
  have:=World.alloc_heap_new (w.alloc (.cells #[.int .i64 r,.slice (some ⟨b,off,none⟩) ns.length cap] 24)) (.cells #[.bool f.back,.bool f.empty,.slice a1 f.gen.length c1,.slice a2 f.pass.length c2,.slice a3 f.plus.length c3,.slice a4 f.lets.length c4] 79)
  rwa [World.size_alloc] at this
 rw [HG] at hbA
 clear HG
 have p0:=blk_cell hp 0
 have p1:=blk_cell hp 1
 have q0:=blk_cell hf 0
 have q1:=blk_cell hf 1
 have q2:=blk_cell hf 2
 have q3:=blk_cell hf 3
 have q4:=blk_cell hf 4
 have q5:=blk_cell hf 5
 simp at p0 p1 q0 q1 q2 q3 q4 q5
 have pl:=blk_lt hp
 have ql:=blk_lt hf
 have HW:=hide hbA
 have HP:=hide hp
 have HF:=hide hf
 clear hp hf hbA
 go_wp2_with fail
 refine (HCK.out _ HW.out).mono ?_
 rintro e w1 ⟨rfl,hb1⟩
 have HW1:=hide (HW.out.trans (hb1.mono HW.out.size))
 have hp1:=(hb1.block _ pl).trans HP.out
 have hf1:=(hb1.block _ ql).trans HF.out
 clear p0 p1 q0 q1 q2 q3 q4 q5 pl ql hb1 HP HF HW HCK
 have p0:=blk_cell hp1 0
 have p1:=blk_cell hp1 1
 have q0:=blk_cell hf1 0
 have q1:=blk_cell hf1 1
 have q2:=blk_cell hf1 2
 have q3:=blk_cell hf1 3
 have q4:=blk_cell hf1 4
 have q5:=blk_cell hf1 5
 simp at p0 p1 q0 q1 q2 q3 q4 q5
 have pl:=blk_lt hp1
 have ql:=blk_lt hf1
 have HP:=hide hp1
 clear hp1 hf1
 have hms:∀ W:World,Sem.run Tryz.prog (Instr.makeSlice 27 (.int .i64 (ns.length:Int)) (.int .i64 (ns.length:Int))) W=.ok (.slice (some ⟨W.heap.size,0,none⟩) ns.length ns.length) (W.alloc (.cells (madeCells #[.bool false] ns.length) 4)):=fun W=>run_make_row' 27 4 _ 1 Tryz.underlying27 info_boolF rfl .i64 .i64 ns.length (by omega) (by omega) W
 go_upto_region 5 with (go_at_call 81;refine (HLO.out _ HW1.out).mono ?_;rintro e w2 ⟨rb1,rb2,rfl,hQ,hb2⟩)
 have hbQ:Below w2.heap.size w2 (w2.alloc (.cells #[.bool f.back,.bool f.empty,.slice a1 f.gen.length c1,.slice a2 f.pass.length c2,.slice a3 f.plus.length c3,.slice a4 f.lets.length c4,.slice (some ⟨rb1,0,none⟩) ns.length ns.length,.slice (some ⟨rb2,0,none⟩) ns.length ns.length] 98)):=(Below.refl _ w2).alloc (Nat.le_refl _) _
 have hq:(w2.alloc (.cells #[.bool f.back,.bool f.empty,.slice a1 f.gen.length c1,.slice a2 f.pass.length c2,.slice a3 f.plus.length c3,.slice a4 f.lets.length c4,.slice (some ⟨rb1,0,none⟩) ns.length ns.length,.slice (some ⟨rb2,0,none⟩) ns.length ns.length] 98)).heap[w2.heap.size]?=some (.cells #[.bool f.back,.bool f.empty,.slice a1 f.gen.length c1,.slice a2 f.pass.length c2,.slice a3 f.plus.length c3,.slice a4 f.lets.length c4,.slice (some ⟨rb1,0,none⟩) ns.length ns.length,.slice (some ⟨rb2,0,none⟩) ns.length ns.length] 98 (0,0)):=World.alloc_heap_new w2 _
 generalize (w2.alloc (.cells #[.bool f.back,.bool f.empty,.slice a1 f.gen.length c1,.slice a2 f.pass.length c2,.slice a3 f.plus.length c3,.slice a4 f.lets.length c4,.slice (some ⟨rb1,0,none⟩) ns.length ns.length,.slice (some ⟨rb2,0,none⟩) ns.length ns.length] 98))=Wq at hbQ hq ⊢
 have hp2:=(hbQ.block _ (Nat.lt_of_lt_of_le pl hb2.size)).trans ((hb2.block _ pl).trans HP.out)
 have HQ:=hide (hQ.below hbQ)
 have HWq:=hide (HW1.out.trans ((hb2.trans (hbQ.mono hb2.size)).mono HW1.out.size))
 clear p0 p1 q0 q1 q2 q3 q4 q5 pl ql hQ HP hb2 hbQ HW1 HLO
 have p1:=blk_cell hp2 1
 simp at p1
 have pl:=blk_lt hp2
 have HQB:=hide hq
 clear hq hp2
 generalize w2.heap.size=QB at HQB ⊢
 go_wp2_with fail
 have hB0:Below Wq.heap.size Wq (Wq.alloc (.cells (madeCells #[.bool false] ns.length) 4)):=(Below.refl _ Wq).alloc (Nat.le_refl _) _
 have hX0:(Wq.alloc (.cells (madeCells #[.bool false] ns.length) 4)).heap[Wq.heap.size]?=some (.cells ((List.replicate 0 true++List.replicate (ns.length-0) false).map Value.bool).toArray 4 (0,0)):=by
  rw [World.alloc_heap_new,made_boolsF];simp
 generalize (Wq.alloc (.cells (madeCells #[.bool false] ns.length) 4))=W0 at hB0 hX0 ⊢
 have HX0:=hide hX0
 clear hX0 hms p1 pl
 go_loopw [9,27] (fun v i wr=>∃ k:Nat,k≤ns.length∧i=.int .i64 k∧wr.heap[Wq.heap.size]?=some (.cells ((List.replicate k true++List.replicate (ns.length-k) false).map Value.bool).toArray 4 (0,0))∧wr.ownsRow (Wq.heap.size+1) 3 1 v (ints (List.range k)).length ((ints (List.range k)).map (Value.int .i64))∧Below Wq.heap.size Wq wr) (fun _ i _=>ns.length-(intOf i).toNat)
 case atStart=>exact ⟨0,Nat.zero_le _,rfl,HX0.out,World.ownsRow_nil _ _ _ _,hB0⟩
 case round =>
  obtain ⟨k,hk,rfl,hX,hown,hb⟩:=hrel
  have hsz:=hb.size
  have hXl:=blk_lt hX
  by_cases hlt:k<ns.length
  ·have hxc:=blk_cell hX k
   rw [repl_get hlt] at hxc
   have hxf:=blk_frozen hX k
   have hli:(k:Int)<(ns.length:Int):=by omega
   have HX:=hide hX
   have HO:=hide hown
   have hlen:(ints (List.range k)).length=k:=by simp [ints]
   have HB:=hide hb
   clear hX hown hb
   have hown2:(wr.setCell ⟨Wq.heap.size,k,none⟩ (.bool true)).ownsRow (Wq.heap.size+1) 3 1 u9 (ints (List.range k)).length ((ints (List.range k)).map (Value.int .i64)):=owns_set HO.out HX.out (by decide)
   have HO2:=hide hown2
   have HLE:=hide hlen
   have hnew:=World.alloc_heap_new (wr.setCell ⟨Wq.heap.size,k,none⟩ (.bool true)) (.cells #[.int .i64 k] 3)
   rw [show (wr.setCell ⟨Wq.heap.size,k,none⟩ (.bool true)).heap.size=wr.heap.size by simp] at hnew
   have HNW:=hide hnew
   clear hnew
   clear hown2 hlen
   go_wp2_with (at_builtin;refine wpList_append_own _ rfl (.tmp 33) (.tmp 35) 54 rfl (Wq.heap.size+1) 3 i0 (.int .i64 0) 1 8 Tryz.underlying54 hi hz0 hz1 hz2 rfl (by decide) _ _ _ rfl (HO2.out.alloc _) ⟨wr.heap.size,0,none⟩ 1 1 [.int .i64 k] rfl rfl ?c1 ?c2 ?c3 ?c4 ?c5 ?_)
   case c1 =>
    intro j u hj
    match j,hj with
    | 0,hj=>simp at hj;subst hj;exact blk_cell HNW.out 0
   case c2=>intro u hu;simp at hu;subst hu;rfl
   case c3=>rw [HLE.out];unfold maxLen;omega
   case c4=>rw [HLE.out];omega
   case c5=>simp;omega
   intro v' w3 hown3 hg3 _
   have hlt3:=HO2.out.lt
   have hbS:Below Wq.heap.size Wq (wr.setCell ⟨Wq.heap.size,k,none⟩ (.bool true)):=HB.out.setCell (p:=⟨Wq.heap.size,k,none⟩) (by simp) _
   have hB3:Below Wq.heap.size Wq w3:=(hbS.alloc (by simpa using hsz) _).grown hg3 (by simp;omega) (fun k hk=>by have:=(hlt3 k hk).1;omega)
   have hX3:w3.heap[Wq.heap.size]?=some (.cells ((List.replicate (k+1) true++List.replicate (ns.length-(k+1)) false).map Value.bool).toArray 4 (0,0)):=by
    rw [hg3.block _ (by simp;omega) (fun e=>by have:=(hlt3 _ e.symm).1;omega),Below.heap_alloc _ _ _ (by simpa using hXl),blk_set _ HX.out,← repl_set hlt]
    simp only [List.map_set,List.setIfInBounds_toArray]
   have hown4:w3.ownsRow (Wq.heap.size+1) 3 1 v' (ints (List.range (k+1))).length ((ints (List.range (k+1))).map (Value.int .i64)):=by
    rw [List.range_succ,ints_snoc];simpa using hown3
   have H3:=hide (And.intro hX3 (And.intro hown4 hB3))
   clear hown3 hg3 hlt3 hbS hB3 hX3 hown4 HO HO2 HX HB
   go_wp2
   go_roundw
   case rel=>exact ⟨k+1,by omega,by go_num,H3.out.1,H3.out.2.1,H3.out.2.2⟩
   case measure=>simp [intOf];omega
  ·have ek:k=ns.length:=by omega
   subst ek
   have hS:=Stk.start (sayF ns f) ns.length
   have hX' :wr.heap[Wq.heap.size]?=some (.cells ((List.replicate ns.length true).map Value.bool).toArray 4 (0,0)):=by rw [hX];simp
   have HX:=hide hX'
   have HO:=hide hown
   have HB:=hide hb
   clear hX hX' hown hb
   go_wp2_with fail
   go_loopw [9] (fun v wr=>∃ x wk,Stk (sayF ns f) ns.length x wk∧wr.heap[Wq.heap.size]?=some (.cells (x.map Value.bool).toArray 4 (0,0))∧wr.ownsRow (Wq.heap.size+1) 3 1 v (ints wk).length ((ints wk).map (Value.int .i64))∧Below Wq.heap.size Wq wr) (fun v wr=>lenV v+truesAt wr Wq.heap.size*(ns.length+1))
   case atStart=>exact ⟨_,_,hS,HX.out,HO.out,HB.out⟩
   case round =>
    clear hS HX HO HB hXl hsz
    obtain ⟨x,wk,hS,hX,hown,hb⟩:=hrel
    have hXl:=blk_lt hX
    have hxl:=hS.on.len
    rcases List.eq_nil_or_concat wk with rfl | ⟨wk', n,rfl⟩
    ·obtain ⟨va,vc,rfl⟩:=owns_slice hown
     have HX:=hide hX
     have HS:=hide hS
     have HB:=hide hb
     clear hX hS hb hown
     go_wp2
     go_ret2
     have hG:=HS.out.done.eq_gr (sayF_mono ns f)
     refine ⟨_,rfl,?_,HWq.out.trans (HB.out.mono HWq.out.size)⟩
     rw [show solve ns f=x from hG.symm]
     exact ⟨by simp [hxl],Or.inr ⟨Wq.heap.size,ns.length,_,rfl,HWq.out.size,HX.out,Nat.le_refl _,by unfold maxLen;omega,by simp [hxl],by simp [List.take_of_length_le,hxl]⟩⟩
    ·rw [List.concat_eq_append] at hS hown
     have e:(ints (wk' ++[n])).length=wk'.length+1:=by simp [ints]
     rw [e,ints_snoc,List.map_append] at hown
     have hn:n<ns.length:=hS.lt n (by simp)
     obtain ⟨g,vc,rfl,hgb,hgl,hvc⟩:∃ g vc,u9=.slice (some ⟨g,0,none⟩) (wk'.length+1) vc∧Wq.heap.size+1≤g∧g<wr.heap.size∧wk'.length+1≤vc:=by
      rcases hown.2 with ⟨_,q⟩ | ⟨g,vc,cur,rfl,q1,q2,q3,_⟩
      ·omega
      ·exact ⟨g,vc,rfl,q1,blk_lt q2,q3⟩
     have hcell:wr.cell? ⟨g,wk'.length,none⟩=some (.int .i64 n):=by
      have h0:=hown.cells (g:=g) rfl wk'.length (.int .i64 n) (by rw [List.getElem?_append_right (by simp [ints])];simp [ints])
      rwa [addr_add,Nat.zero_add] at h0
     have hfew:wk'.length<70000:=by
      have h0:=hS.few
      have h5:ns.length*(ns.length+1)≤256*257:=Nat.mul_le_mul (by omega) (by omega)
      simp at h0
      omega
     have hwrap:IntKind.i64.wrap (((wk'.length+1:Nat):Int)-1)=(wk'.length:Int):=by
      rw [IntWalk.i64_left];unfold wrap64;omega
     have hmc:(wk'.length:Int)≤(vc:Int):=by omega
     have hni:(n:Int)<(ns.length:Int):=by omega
     have hxc:wr.cell? ⟨Wq.heap.size,n,none⟩=some (.bool (bat x n)):=by
      rw [blk_cell hX,List.getElem?_toArray,List.getElem?_map,get_bat (by omega)];rfl
     have hqr:=(hb.block QB (blk_lt HQB.out)).trans HQB.out
     have hql:=blk_lt hqr
     have q0:=blk_cell hqr 0
     have q1:=blk_cell hqr 1
     have q2:=blk_cell hqr 2
     have q3:=blk_cell hqr 3
     have q4:=blk_cell hqr 4
     have q5:=blk_cell hqr 5
     have q6:=blk_cell hqr 6
     have q7:=blk_cell hqr 7
     simp at q0 q1 q2 q3 q4 q5 q6 q7
     have hbx:BoolsAt wr (some ⟨Wq.heap.size,0,none⟩) x:=Or.inr ⟨Wq.heap.size,0,rfl,hXl,fun j z hz=>by rw [Nat.zero_add,blk_cell hX,List.getElem?_toArray,List.getElem?_map,hz];rfl⟩
     have hsy:=says_any ns f a1 a2 a3 a4 (some ⟨Wq.heap.size,0,none⟩) c1 c2 c3 c4 ns.length rb1 rb2 n x wr (HQ.out.below hb) hbx hxl hn hl.2
     rw [hxl] at hsy
     have HSY:=hide hsy
     have HX:=hide hX
     have HS:=hide hS
     have HB:=hide hb
     have HO:=hide hown
     have HQR:=hide hqr
     have hm0:(0:Int)<((wk'.length+1:Nat):Int):=by omega
     clear hsy hX hS hb hown hqr hbx e hxl
     cases hxn:bat x n
     ·rw [hxn] at hxc
      have HXN:=hide hxn
      clear hxn
      go_wp2_with fail
      go_roundw
      case rel=>exact ⟨x,wk', HS.out.pop (Or.inl HXN.out),HX.out,by rw [ints_len];exact owns_pop HO.out,HB.out⟩
      case measure=>simp [lenV]
     ·rw [hxn] at hxc
      have HXN:=hide hxn
      clear hxn
      go_wp2_with fail
      refine HSY.out.mono ?_
      rintro e w4 ⟨rfl,hb4⟩
      have hX4:=(hb4.block _ hXl).trans HX.out
      have hO4:=ownsRow_below HO.out hb4 (Nat.le_refl _)
      have hB4:=HB.out.trans (hb4.mono HB.out.size)
      cases hsay:sayF ns f (bat x) n
      ·have hxc4:=(hb4.cell (p:=⟨Wq.heap.size,n,none⟩) hXl).trans hxc
       have hxf4:=blk_frozen hX4 n
       have hXl4:=blk_lt hX4
       have HX4:=hide hX4
       have HO4:=hide hO4
       have HB4:=hide hB4
       have HSA:=hide hsay
       clear hX4 hO4 hB4 hsay q0 q1 q2 q3 q4 q5 q6 q7 hxc hcell hb4
       go_upto_region 18 with fail
       have hX5:=blk_set (i:=n) (.bool false) HX4.out
       have hX5' :(w4.setCell ⟨Wq.heap.size,n,none⟩ (.bool false)).heap[Wq.heap.size]?=some (.cells ((x.set n false).map Value.bool).toArray 4 (0,0)):=by
        rw [hX5];simp only [List.map_set,List.setIfInBounds_toArray]
       have hO5:(w4.setCell ⟨Wq.heap.size,n,none⟩ (.bool false)).ownsRow (Wq.heap.size+1) 3 1 (.slice (some ⟨g,0,none⟩) wk'.length vc) wk'.length ((ints wk').map (Value.int .i64)):=owns_set (owns_pop HO4.out) HX4.out (by decide)
       have hB5:Below Wq.heap.size Wq (w4.setCell ⟨Wq.heap.size,n,none⟩ (.bool false)):=HB4.out.setCell (p:=⟨Wq.heap.size,n,none⟩) (Nat.le_refl _) _
       generalize (w4.setCell ⟨Wq.heap.size,n,none⟩ (.bool false))=W5 at hX5' hO5 hB5 ⊢
       clear hX5 HX4 HO4 HB4 hxc4 hxf4 hXl4 HSY HQR
       have hS5:=HS.out.turn (sayF_mono ns f) (asks_of ns f) HXN.out HSA.out
       have hless:=HS.out.less (asks_of ns f) HXN.out
       have hfew5:(wk' ++ask ns f n).length<70000:=by
        have h0:=hS5.few
        have h5:ns.length*(ns.length+1)≤256*257:=Nat.mul_le_mul (by omega) (by omega)
        omega
       have hQ5:=HQ.out.below hB5
       obtain ⟨ra,rc,hrc,hrI⟩:=hQ5.askers.row n hn
       have hrl:=hQ5.askers.lt
       have hq5:=(hB5.block QB (blk_lt HQB.out)).trans HQB.out
       have q7:=blk_cell hq5 7
       simp at q7
       have ql5:=blk_lt hq5
       have HX5:=hide hX5'
       have HO5:=hide hO5
       have HB5:=hide hB5
       have HS5:=hide hS5
       have HL:=hide hless
       have HI:=hide hrI
       have hgl5:g<W5.heap.size:=(hO5.lt g rfl).2
       have HT:=hide (truesAt_of HX.out)
       clear hX5' hO5 hB5 hS5 hless hrI hQ5 hq5
       simp only [List.length_append] at hfew5
       by_cases hz:(ask ns f n).length=0
       ·rw [hz] at hrc
        have he:ask ns f n=[]:=List.eq_nil_of_length_eq_zero hz
        have HE:=hide he
        clear he hz
        go_wp2_with (at_builtin;refine wpList_append_zero rfl (.tmp 66) (.tmp 71) rfl (some ⟨g,0,none⟩) ra wk'.length vc rc rfl rfl (by omega) ?_)
        go_roundw
        case rel=>exact ⟨x.set n false,wk' ++ask ns f n,HS5.out,HX5.out,by rw [HE.out,List.append_nil,ints_len];exact HO5.out,HB5.out⟩
        case measure =>
         rw [truesAt_of HX5.out,HT.out]
         have:=HL.out
         rw [HE.out] at this
         simp [lenV] at this ⊢
         omega
       ·have hpos:0<(ints (ask ns f n)).length:=by rw [ints_len];omega
        obtain ⟨ab,ao,rfl,hal,hac⟩:=HI.out.at hpos
        have HAC:=hide hac
        clear hac
        have hfi:(ints (ask ns f n)).length=(ask ns f n).length:=ints_len _
        have HFI:=hide hfi
        clear hfi
        have hS0:=HB5.out.size
        go_wp2_with (at_builtin;refine wpList_append_own _ rfl (.tmp 66) (.tmp 71) 54 rfl (Wq.heap.size+1) 3 i0 (.int .i64 0) 1 8 Tryz.underlying54 hi hz0 hz1 hz2 rfl (by decide) _ _ _ rfl HO5.out ⟨ab,ao,none⟩ (ask ns f n).length rc ((ints (ask ns f n)).map (Value.int .i64)) rfl (by simp [ints]) ?c1 ?c2 ?c3 ?c4 ?c5 ?_)
        case c1 =>
         intro j u hj
         rw [List.getElem?_map] at hj
         cases hz2:(ints (ask ns f n))[j]? with
         | none=>rw [hz2] at hj;cases hj
         | some z=>rw [hz2] at hj;cases hj;rw [addr_add];exact HAC.out j z hz2
        case c2=>intro u hu;obtain ⟨z,_,rfl⟩:=List.mem_map.1 hu;rfl
        case c3=>unfold maxLen;omega
        case c4=>omega
        case c5=>have:=blk_lt HX5.out;omega
        intro v' w6 hown6 hg6 _
        have hlt6:=HO5.out.lt
        have hB6:Below Wq.heap.size Wq w6:=HB5.out.grown hg6 (by omega) (fun k hk=>by have:=(hlt6 k hk).1;omega)
        have hX6:=(hg6.block _ (blk_lt HX5.out) (fun e=>by have:=(hlt6 _ e.symm).1;omega)).trans HX5.out
        have hown7:w6.ownsRow (Wq.heap.size+1) 3 1 v' (ints (wk' ++ask ns f n)).length ((ints (wk' ++ask ns f n)).map (Value.int .i64)):=by
         rw [ints_append,List.map_append,List.length_append,ints_len,ints_len];exact hown6
        have hv:lenV v' =(wk' ++ask ns f n).length:=by
         obtain ⟨_,_,e⟩:=owns_slice hown7
         rw [e,lenV,ints_len]
        have H6:=hide (And.intro hX6 (And.intro hown7 (And.intro hB6 hv)))
        clear hown6 hg6 hlt6 hB6 hX6 hown7 hv
        go_wp2_with fail
        go_roundw
        case rel=>exact ⟨x.set n false,wk' ++ask ns f n,HS5.out,H6.out.1,H6.out.2.1,H6.out.2.2.1⟩
        case measure =>
         rw [truesAt_of H6.out.1,HT.out]
         have:=HL.out
         have:=H6.out.2.2.2
         simp [lenV] at *
         omega
      ·have HX4:=hide hX4
       have HO4:=hide hO4
       have HB4:=hide hB4
       have HSA:=hide hsay
       clear hX4 hO4 hB4 hsay q0 q1 q2 q3 q4 q5 q6 q7 hxc hcell
       go_wp2_with fail
       go_roundw
       case rel=>exact ⟨x,wk', HS.out.pop (Or.inr HSA.out),HX4.out,by rw [ints_len];exact owns_pop HO4.out,HB4.out⟩
       case measure =>
        rw [truesAt_of HX4.out,truesAt_of HX.out]
        simp [lenV]
theorem part_set (R:Nat→Bool) {k n:Nat} (h:k<n):((List.range k).map R++List.replicate (n-k) false).set k (R k)=(List.range (k+1)).map R++List.replicate (n-(k+1)) false:=by
 obtain ⟨d,hd⟩:∃ d,n-k=d+1:=⟨n-k-1,by omega⟩
 have e:n-(k+1)=d:=by omega
 rw [hd,e,List.replicate_succ,List.set_append_right _ _ (by simp)]
 simp [List.range_succ]
theorem part_get (R:Nat→Bool) {k n:Nat} (h:k<n):(((List.range k).map R++List.replicate (n-k) false).map Value.bool).toArray[k]?=some (.bool false):=by
 obtain ⟨d,hd⟩:∃ d,n-k=d+1:=⟨n-k-1,by omega⟩
 rw [hd,List.getElem?_toArray,List.getElem?_map,List.getElem?_append_right (by simp)]
 simp
set_option maxRecDepth 100000 in
theorem askEach_any (R:Nat→Bool) (g:Nat) (cb:Array Value) (n:Nat) (w:World) (hn:n≤256)
 (eg:∀ args w,(callFunc g args).run Tryz.prog w=.ok (.enter g args) w)
 (hg:∀ i,i<n→∀ W:World,Below w.heap.size w W→Calls Tryz.prog g (#[.int .i64 (i:Int)]++cb) W fun e w' =>e=.returned (.bool (R i))∧Below W.heap.size W w') :
 Calls Tryz.prog 45 #[.int .i64 (n:Int),.func (.func g) #[] cb] w fun e w' =>∃ v,e=.returned v∧w'.ownsRow w.heap.size 4 1 v n (((List.range n).map R).map Value.bool)∧Below w.heap.size w w' :=by
 have hms:∀ W:World,Sem.run Tryz.prog (Instr.makeSlice 27 (.int .i64 (n:Int)) (.int .i64 (n:Int))) W=.ok (.slice (some ⟨W.heap.size,0,none⟩) n n) (W.alloc (.cells (madeCells #[.bool false] n) 4)):=fun W=>run_make_row' 27 4 _ 1 Tryz.underlying27 info_boolF rfl .i64 .i64 n (by omega) (by omega) W
 have HG:=hide hg
 clear hg
 go_enter Tryz.func45,Tryz.ntmps45
 go_wp2
 have hB0:Below w.heap.size w (w.alloc (.cells (madeCells #[.bool false] n) 4)):=(Below.refl _ w).alloc (Nat.le_refl _) _
 have hX0:(w.alloc (.cells (madeCells #[.bool false] n) 4)).heap[w.heap.size]?=some (.cells (((List.range 0).map R++List.replicate (n-0) false).map Value.bool).toArray 4 (0,0)):=by
  rw [World.alloc_heap_new,made_boolsF];simp
 generalize (w.alloc (.cells (madeCells #[.bool false] n) 4))=W0 at hB0 hX0 ⊢
 have HX0:=hide hX0
 clear hX0 hms
 go_loopw [11] (fun i wr=>∃ k:Nat,k≤n∧i=.int .i64 k∧wr.heap[w.heap.size]?=some (.cells (((List.range k).map R++List.replicate (n-k) false).map Value.bool).toArray 4 (0,0))∧Below w.heap.size w wr) (fun i _=>n-(intOf i).toNat)
 case atStart=>exact ⟨0,Nat.zero_le _,rfl,HX0.out,hB0⟩
 case round =>
  obtain ⟨k,hk,rfl,hX,hb⟩:=hrel
  have hXl:=blk_lt hX
  by_cases hlt:k<n
  ·have hki:(k:Int)<(n:Int):=by omega
   have HX:=hide hX
   have HB:=hide hb
   clear hX hb
   go_wp2_with fail
   refine (HG.out k hlt _ HB.out).mono ?_
   rintro e w1 ⟨rfl,hb1⟩
   have hX1:=(hb1.block _ hXl).trans HX.out
   have hxc:=blk_cell hX1 k
   rw [part_get R hlt] at hxc
   have hxf:=blk_frozen hX1 k
   have hXl1:=blk_lt hX1
   have HX1:=hide hX1
   have HB1:=hide (HB.out.trans (hb1.mono HB.out.size))
   clear hX1 hb1
   go_wp2
   go_roundw
   case rel =>
    refine ⟨k+1,by omega,by go_num,?_,HB1.out.setCell (p:=⟨w.heap.size,k,none⟩) (Nat.le_refl _) _⟩
    rw [blk_set _ HX1.out,← part_set R hlt]
    simp only [List.map_set,List.setIfInBounds_toArray]
   case measure=>simp [intOf];omega
  ·have ek:k=n:=by omega
   subst ek
   have HX:=hide hX
   have HB:=hide hb
   clear hX hb
   go_wp2
   go_ret
   refine ⟨_,rfl,⟨by simp,Or.inr ⟨w.heap.size,k,_,rfl,Nat.le_refl _,HX.out,Nat.le_refl _,by unfold maxLen;omega,by simp,?_⟩⟩,HB.out⟩
   rw [Nat.mul_one,List.toList_toArray,List.take_of_length_le (by simp)];simp
set_option maxRecDepth 100000 in
theorem each_any (R:Nat→Bool) (g:Nat) (cb:Array Value) (r:Int) (a:Option Addr) (L cap:Nat) (v2 v3 v4 v5:Value) (w:World) (hn:L≤256)
 (eg:∀ args w,(callFunc g args).run Tryz.prog w=.ok (.enter g args) w)
 (hg:∀ i,i<L→∀ W:World,Below w.heap.size w W→Calls Tryz.prog g (#[.int .i64 (i:Int)]++cb) W fun e w' =>e=.returned (.bool (R i))∧Below W.heap.size W w') :
 Calls Tryz.prog 68 #[.agg #[.int .i64 r,.slice a L cap,v2,v3,v4,v5],.func (.func g) #[] cb] w fun e w' =>∃ v,e=.returned v∧w'.ownsRow w.heap.size 4 1 v L (((List.range L).map R).map Value.bool)∧Below w.heap.size w w' :=by
 have hb0:Below w.heap.size w (w.alloc (.cells #[.int .i64 r,.slice a L cap,v2,v3,v4,v5] 68)):=(Below.refl _ w).alloc (Nat.le_refl _) _
 have hae:=askEach_any R g cb L (w.alloc (.cells #[.int .i64 r,.slice a L cap,v2,v3,v4,v5] 68)) hn eg (fun i hi W hW=>hg i hi W (hb0.trans (hW.mono hb0.size)))
 have HAE:=hide hae
 clear hae hg
 go_enter Tryz.func68,Tryz.ntmps68
 go_wp2_with fail
 refine HAE.out.mono ?_
 rintro e w1 ⟨v,rfl,hv,hb1⟩
 have HV:=hide hv
 clear hv
 go_wp2
 go_ret
 exact ⟨_,rfl,ownsRow_base HV.out hb0.size,hb0.trans (hb1.mono hb0.size)⟩
theorem none1_any (i:Int) (w:World):Calls Tryz.prog 103 #[.int .i64 i] w fun e w' =>e=.returned (.bool false)∧w' =w:=by
 go_enter Tryz.func103,Tryz.ntmps103
 go_wp2
 go_ret
 exact ⟨rfl,rfl⟩
theorem all1_any (i:Int) (w:World):Calls Tryz.prog 104 #[.int .i64 i] w fun e w' =>e=.returned (.bool true)∧w' =w:=by
 go_enter Tryz.func104,Tryz.ntmps104
 go_wp2
 go_ret
 exact ⟨rfl,rfl⟩
theorem map_const (b:Bool) (L:Nat):(List.range L).map (fun _=>b)=List.replicate L b:=by
 induction L with
 | zero=>rfl
 | succ n ih=>rw [List.range_succ,List.map_append,ih,List.replicate_succ'];rfl
set_option maxRecDepth 100000 in
theorem none_any (r:Int) (a:Option Addr) (L cap:Nat) (v2 v3 v4 v5:Value) (w:World) (hn:L≤256) :
 Calls Tryz.prog 72 #[.agg #[.int .i64 r,.slice a L cap,v2,v3,v4,v5]] w fun e w' =>∃ v,e=.returned v∧w'.ownsRow w.heap.size 4 1 v L ((nol L).map Value.bool)∧Below w.heap.size w w' :=by
 have eg:∀ args w,(callFunc 103 args).run Tryz.prog w=.ok (.enter 103 args) w:=enters_of Tryz.func103 (by kernel_rfl) rfl
 have hb0:Below w.heap.size w (w.alloc (.cells #[.int .i64 r,.slice a L cap,v2,v3,v4,v5] 68)):=(Below.refl _ w).alloc (Nat.le_refl _) _
 have hea:=each_any (fun _=>false) 103 #[] r a L cap v2 v3 v4 v5 (w.alloc (.cells #[.int .i64 r,.slice a L cap,v2,v3,v4,v5] 68)) hn eg (fun i hi W hW=>(none1_any i W).mono (by rintro e w' ⟨rfl,rfl⟩;exact ⟨rfl,Below.refl _ _⟩))
 rw [map_const] at hea
 have HEA:=hide hea
 clear hea
 go_enter Tryz.func72,Tryz.ntmps72
 go_wp2_with fail
 refine HEA.out.mono ?_
 rintro e w1 ⟨v,rfl,hv,hb1⟩
 have HV:=hide hv
 clear hv
 go_wp2
 go_ret
 exact ⟨_,rfl,ownsRow_base HV.out hb0.size,hb0.trans (hb1.mono hb0.size)⟩
set_option maxRecDepth 100000 in
theorem all_any (r:Int) (a:Option Addr) (L cap:Nat) (v2 v3 v4 v5:Value) (w:World) (hn:L≤256) :
 Calls Tryz.prog 73 #[.agg #[.int .i64 r,.slice a L cap,v2,v3,v4,v5]] w fun e w' =>∃ v,e=.returned v∧w'.ownsRow w.heap.size 4 1 v L ((yesl L).map Value.bool)∧Below w.heap.size w w' :=by
 have eg:∀ args w,(callFunc 104 args).run Tryz.prog w=.ok (.enter 104 args) w:=enters_of Tryz.func104 (by kernel_rfl) rfl
 have hb0:Below w.heap.size w (w.alloc (.cells #[.int .i64 r,.slice a L cap,v2,v3,v4,v5] 68)):=(Below.refl _ w).alloc (Nat.le_refl _) _
 have hea:=each_any (fun _=>true) 104 #[] r a L cap v2 v3 v4 v5 (w.alloc (.cells #[.int .i64 r,.slice a L cap,v2,v3,v4,v5] 68)) hn eg (fun i hi W hW=>(all1_any i W).mono (by rintro e w' ⟨rfl,rfl⟩;exact ⟨rfl,Below.refl _ _⟩))
 rw [map_const] at hea
 have HEA:=hide hea
 clear hea
 go_enter Tryz.func73,Tryz.ntmps73
 go_wp2_with fail
 refine HEA.out.mono ?_
 rintro e w1 ⟨v,rfl,hv,hb1⟩
 have HV:=hide hv
 clear hv
 go_wp2
 go_ret
 exact ⟨_,rfl,ownsRow_base HV.out hb0.size,hb0.trans (hb1.mono hb0.size)⟩
theorem sets_any (x:Nd) (w:World) :
 Calls Tryz.prog 83 #[.agg #[.int .i64 x.op,.int .i64 x.d,.int .i64 x.a,.int .i64 x.b,.int .i64 x.t,.int .i64 x.e]] w fun e w' =>∃ z,e=.returned (.tuple #[.int .i64 z,.bool (wi x.op 1 9)])∧(wi x.op 1 9=true→z=x.d)∧Below w.heap.size w w' :=by
 have hb0:Below w.heap.size w (w.alloc (.cells #[.int .i64 x.op,.int .i64 x.d,.int .i64 x.a,.int .i64 x.b,.int .i64 x.t,.int .i64 x.e] 47)):=(Below.refl _ w).alloc (Nat.le_refl _) _
 have hn:(w.alloc (.cells #[.int .i64 x.op,.int .i64 x.d,.int .i64 x.a,.int .i64 x.b,.int .i64 x.t,.int .i64 x.e] 47)).heap[w.heap.size]?=some (.cells #[.int .i64 x.op,.int .i64 x.d,.int .i64 x.a,.int .i64 x.b,.int .i64 x.t,.int .i64 x.e] 47 (0,0)):=World.alloc_heap_new w _
 go_enter Tryz.func83,Tryz.ntmps83
 go_wp2_with fail
 generalize (w.alloc (.cells #[.int .i64 x.op,.int .i64 x.d,.int .i64 x.a,.int .i64 x.b,.int .i64 x.t,.int .i64 x.e] 47))=W at hb0 hn ⊢
 refine (of_any _ _).mono ?_
 rintro e w1 ⟨rfl,hb1⟩
 have hn1:=(hb1.block _ (blk_lt hn)).trans hn
 have c1:=blk_cell hn1 1
 simp at c1
 have cl:=blk_lt hn1
 have HB:=hide (hb0.trans (hb1.mono hb0.size))
 clear hn hn1 hb1 hb0
 have HK:Hid (k0 x.op=if wi x.op 1 9 then 1 else 0):=rfl
 generalize k0 x.op=K at HK ⊢
 cases hw:wi x.op 1 9
 ·obtain rfl:K=0:=by rw [HK.out,hw];rfl
  have HQ:=hide hw
  clear hw
  go_wp2
  go_ret2
  exact ⟨0,by rw [HQ.out];rfl,(fun h=>by rw [HQ.out] at h;cases h),HB.out.alloc HB.out.size _⟩
 ·obtain rfl:K=1:=by rw [HK.out,hw];rfl
  have HQ:=hide hw
  clear hw
  go_wp2
  go_ret2
  exact ⟨x.d,by rw [HQ.out];rfl,(fun _=>rfl),HB.out.alloc HB.out.size _⟩
theorem keeps_any (x:Nd) (t:Tm) (w:World) :
 Calls Tryz.prog 51 #[.agg #[.int .i64 x.op,.int .i64 x.d,.int .i64 x.a,.int .i64 x.b,.int .i64 x.t,.int .i64 x.e],.agg #[.int .i64 t.op,.int .i64 t.a,.int .i64 t.b]] w fun e w' =>e=.returned (.bool (kpB t x))∧Below w.heap.size w w' :=by
 have hb0:Below w.heap.size w ((w.alloc (.cells #[.int .i64 x.op,.int .i64 x.d,.int .i64 x.a,.int .i64 x.b,.int .i64 x.t,.int .i64 x.e] 47)).alloc (.cells #[.int .i64 t.op,.int .i64 t.a,.int .i64 t.b] 26)):=((Below.refl _ w).alloc (Nat.le_refl _) _).alloc (by simp) _
 have hn:((w.alloc (.cells #[.int .i64 x.op,.int .i64 x.d,.int .i64 x.a,.int .i64 x.b,.int .i64 x.t,.int .i64 x.e] 47)).alloc (.cells #[.int .i64 t.op,.int .i64 t.a,.int .i64 t.b] 26)).heap[w.heap.size+1]?=some (.cells #[.int .i64 t.op,.int .i64 t.a,.int .i64 t.b] 26 (0,0)):=by
  have:=World.alloc_heap_new (w.alloc (.cells #[.int .i64 x.op,.int .i64 x.d,.int .i64 x.a,.int .i64 x.b,.int .i64 x.t,.int .i64 x.e] 47)) (.cells #[.int .i64 t.op,.int .i64 t.a,.int .i64 t.b] 26)
  rwa [World.size_alloc] at this
 go_enter Tryz.func51,Tryz.ntmps51
 go_wp2_with fail
 generalize ((w.alloc (.cells #[.int .i64 x.op,.int .i64 x.d,.int .i64 x.a,.int .i64 x.b,.int .i64 x.t,.int .i64 x.e] 47)).alloc (.cells #[.int .i64 t.op,.int .i64 t.a,.int .i64 t.b] 26))=W at hb0 hn ⊢
 refine (sets_any x _).mono ?_
 rintro e w1 ⟨z,rfl,hz,hb1⟩
 have hn1:=(hb1.block _ (blk_lt hn)).trans hn
 have c1:=blk_cell hn1 1
 have c2:=blk_cell hn1 2
 simp at c1 c2
 have cl:=blk_lt hn1
 have HB:=hide (hb0.trans (hb1.mono hb0.size))
 clear hn hn1 hb1 hb0
 have HK:Hid (kpB t x=(!wi x.op 1 9||(x.d != t.a&&x.d != t.b))):=rfl
 generalize wi x.op 1 9=Q at HK hz ⊢
 cases Q
 ·go_wp2
  go_ret
  exact ⟨ret_bool (by rw [HK.out];rfl),HB.out⟩
 ·obtain rfl:=hz rfl
  by_cases h1:x.d=t.a
  ·go_wp2
   go_ret
   exact ⟨ret_bool (by rw [HK.out];simp [h1]),HB.out⟩
  ·by_cases h2:x.d=t.b
   ·go_wp2
    go_ret
    exact ⟨ret_bool (by rw [HK.out];simp [h2]),HB.out⟩
   ·go_wp2
    go_ret
    exact ⟨ret_bool (by rw [HK.out];simp [h1,h2]),HB.out⟩
theorem sreckons_any (x:Nd) (t:Tm) (w:World) (ht:3≤t.op∧t.op≤8) :
 Calls Tryz.prog 16 #[.agg #[.int .i64 x.op,.int .i64 x.d,.int .i64 x.a,.int .i64 x.b,.int .i64 x.t,.int .i64 x.e],.agg #[.int .i64 t.op,.int .i64 t.a,.int .i64 t.b]] w fun e w' =>e=.returned (.bool (rcB t x))∧Below w.heap.size w w' :=by
 have hb0:Below w.heap.size w ((w.alloc (.cells #[.int .i64 x.op,.int .i64 x.d,.int .i64 x.a,.int .i64 x.b,.int .i64 x.t,.int .i64 x.e] 47)).alloc (.cells #[.int .i64 t.op,.int .i64 t.a,.int .i64 t.b] 26)):=((Below.refl _ w).alloc (Nat.le_refl _) _).alloc (by simp) _
 have hn:((w.alloc (.cells #[.int .i64 x.op,.int .i64 x.d,.int .i64 x.a,.int .i64 x.b,.int .i64 x.t,.int .i64 x.e] 47)).alloc (.cells #[.int .i64 t.op,.int .i64 t.a,.int .i64 t.b] 26)).heap[w.heap.size+1]?=some (.cells #[.int .i64 t.op,.int .i64 t.a,.int .i64 t.b] 26 (0,0)):=by
  have:=World.alloc_heap_new (w.alloc (.cells #[.int .i64 x.op,.int .i64 x.d,.int .i64 x.a,.int .i64 x.b,.int .i64 x.t,.int .i64 x.e] 47)) (.cells #[.int .i64 t.op,.int .i64 t.a,.int .i64 t.b] 26)
  rwa [World.size_alloc] at this
 have HR:Hid (rcB t x=(x.op==t.op&&x.a==t.a&&x.b==t.b)):=rfl
 have HT:=hide ht
 clear ht
 go_enter Tryz.func16,Tryz.ntmps16
 go_wp2_with fail
 generalize ((w.alloc (.cells #[.int .i64 x.op,.int .i64 x.d,.int .i64 x.a,.int .i64 x.b,.int .i64 x.t,.int .i64 x.e] 47)).alloc (.cells #[.int .i64 t.op,.int .i64 t.a,.int .i64 t.b] 26))=W at hb0 hn ⊢
 by_cases hq:3≤x.op∧x.op≤8
 ·refine (term_yes _ _ _ _ _ _ _ hq.1 hq.2).mono ?_
  rintro e w1 ⟨rfl,hb1⟩
  have hn1:=(hb1.block _ (blk_lt hn)).trans hn
  have c0:=blk_cell hn1 0
  have c1:=blk_cell hn1 1
  have c2:=blk_cell hn1 2
  simp at c0 c1 c2
  have cl:=blk_lt hn1
  have HB:=hide (hb0.trans (hb1.mono hb0.size))
  clear hn hn1 hb1 hb0 hq
  by_cases h1:x.op=t.op
  ·by_cases h2:x.a=t.a
   ·by_cases h3:x.b=t.b
    ·go_wp2
     go_ret
     exact ⟨ret_bool (by rw [HR.out];simp [h1,h2,h3]),HB.out.alloc HB.out.size _⟩
    ·go_wp2
     go_ret
     exact ⟨ret_bool (by rw [HR.out];simp [h3]),HB.out.alloc HB.out.size _⟩
   ·go_wp2
    go_ret
    exact ⟨ret_bool (by rw [HR.out];simp [h2]),HB.out.alloc HB.out.size _⟩
  ·go_wp2
   go_ret
   exact ⟨ret_bool (by rw [HR.out];simp [h1]),HB.out.alloc HB.out.size _⟩
 ·refine (term_no _ _ _ _ _ _ _ (by omega)).mono ?_
  rintro e w1 ⟨rfl,hb1⟩
  have HB:=hide (hb0.trans (hb1.mono hb0.size))
  have hne:(x.op==t.op)=false:=by have:=HT.out;rw [beq_eq_false_iff_ne];omega
  have HN:=hide hne
  clear hn hb1 hb0 hq hne
  go_wp2
  go_ret
  exact ⟨ret_bool (by rw [HR.out,HN.out];rfl),HB.out.alloc HB.out.size _⟩
theorem reckonsIt_any (x:Nd) (t:Tm) (w:World) :
 Calls Tryz.prog 27 #[.agg #[.int .i64 x.op,.int .i64 x.d,.int .i64 x.a,.int .i64 x.b,.int .i64 x.t,.int .i64 x.e],.agg #[.int .i64 t.op,.int .i64 t.a,.int .i64 t.b]] w fun e w' =>e=.returned (.bool (rcB t x))∧Below w.heap.size w w' :=by
 have hb0:Below w.heap.size w ((w.alloc (.cells #[.int .i64 x.op,.int .i64 x.d,.int .i64 x.a,.int .i64 x.b,.int .i64 x.t,.int .i64 x.e] 47)).alloc (.cells #[.int .i64 t.op,.int .i64 t.a,.int .i64 t.b] 26)):=((Below.refl _ w).alloc (Nat.le_refl _) _).alloc (by simp) _
 have HR:Hid (rcB t x=(x.op==t.op&&x.a==t.a&&x.b==t.b)):=rfl
 by_cases h1:x.op=t.op
 ·by_cases h2:x.a=t.a
  ·have h3:x.b=t.b∨¬ x.b=t.b:=Classical.em _
   rcases h3 with h3 | h3
   ·go_enter Tryz.func27,Tryz.ntmps27
    go_wp2
    go_ret
    exact ⟨ret_bool (by rw [HR.out];simp [h1,h2,h3]),by simpa [h1,h2,h3] using hb0⟩
   ·go_enter Tryz.func27,Tryz.ntmps27
    go_wp2
    go_ret
    exact ⟨ret_bool (by rw [HR.out];simp [h3]),by simpa [h1,h2] using hb0⟩
  ·go_enter Tryz.func27,Tryz.ntmps27
   go_wp2
   go_ret
   exact ⟨ret_bool (by rw [HR.out];simp [h2]),by simpa [h1] using hb0⟩
 ·go_enter Tryz.func27,Tryz.ntmps27
  go_wp2
  go_ret
  exact ⟨ret_bool (by rw [HR.out];simp [h1]),hb0⟩
theorem keepsIt_any (x:Nd) (t:Tm) (w:World) :
 Calls Tryz.prog 29 #[.agg #[.int .i64 x.op,.int .i64 x.d,.int .i64 x.a,.int .i64 x.b,.int .i64 x.t,.int .i64 x.e],.agg #[.int .i64 t.op,.int .i64 t.a,.int .i64 t.b]] w fun e w' =>e=.returned (.bool (kpB t x))∧Below w.heap.size w w' :=by
 have hb0:Below w.heap.size w ((w.alloc (.cells #[.int .i64 x.op,.int .i64 x.d,.int .i64 x.a,.int .i64 x.b,.int .i64 x.t,.int .i64 x.e] 47)).alloc (.cells #[.int .i64 t.op,.int .i64 t.a,.int .i64 t.b] 26)):=((Below.refl _ w).alloc (Nat.le_refl _) _).alloc (by simp) _
 have hn:((w.alloc (.cells #[.int .i64 x.op,.int .i64 x.d,.int .i64 x.a,.int .i64 x.b,.int .i64 x.t,.int .i64 x.e] 47)).alloc (.cells #[.int .i64 t.op,.int .i64 t.a,.int .i64 t.b] 26)).heap[w.heap.size+1]?=some (.cells #[.int .i64 t.op,.int .i64 t.a,.int .i64 t.b] 26 (0,0)):=by
  have:=World.alloc_heap_new (w.alloc (.cells #[.int .i64 x.op,.int .i64 x.d,.int .i64 x.a,.int .i64 x.b,.int .i64 x.t,.int .i64 x.e] 47)) (.cells #[.int .i64 t.op,.int .i64 t.a,.int .i64 t.b] 26)
  rwa [World.size_alloc] at this
 have hm:((w.alloc (.cells #[.int .i64 x.op,.int .i64 x.d,.int .i64 x.a,.int .i64 x.b,.int .i64 x.t,.int .i64 x.e] 47)).alloc (.cells #[.int .i64 t.op,.int .i64 t.a,.int .i64 t.b] 26)).heap[w.heap.size]?=some (.cells #[.int .i64 x.op,.int .i64 x.d,.int .i64 x.a,.int .i64 x.b,.int .i64 x.t,.int .i64 x.e] 47 (0,0)):=(Below.heap_alloc _ _ _ (by simp)).trans (World.alloc_heap_new w _)
 go_enter Tryz.func29,Tryz.ntmps29
 go_wp2_with fail
 generalize ((w.alloc (.cells #[.int .i64 x.op,.int .i64 x.d,.int .i64 x.a,.int .i64 x.b,.int .i64 x.t,.int .i64 x.e] 47)).alloc (.cells #[.int .i64 t.op,.int .i64 t.a,.int .i64 t.b] 26))=W at hb0 hn hm ⊢
 refine (fields_any _ _).mono ?_
 rintro e w1 ⟨rfl,rfl⟩
 have c1:=blk_cell hn 1
 have c2:=blk_cell hn 2
 have d1:=blk_cell hm 1
 simp at c1 c2 d1
 have cl:=blk_lt hn
 have dl:=blk_lt hm
 have HB:=hide hb0
 clear hn hm hb0
 have HK:Hid (kpB t x=(!wi x.op 1 9||(x.d != t.a&&x.d != t.b))):=rfl
 generalize wi x.op 1 9=Q at HK ⊢
 cases Q
 ·go_wp2
  go_ret
  exact ⟨ret_bool (by rw [HK.out];rfl),HB.out⟩
 ·by_cases h1:x.d=t.a
  ·go_wp2
   go_ret
   exact ⟨ret_bool (by rw [HK.out];simp [h1]),HB.out⟩
  ·by_cases h2:x.d=t.b
   ·go_wp2
    go_ret
    exact ⟨ret_bool (by rw [HK.out];simp [h2]),HB.out⟩
   ·go_wp2
    go_ret
    exact ⟨ret_bool (by rw [HK.out];simp [h1,h2]),HB.out⟩
set_option maxRecDepth 100000 in
theorem ssolve_any (r:Int) (b off cap:Nat) (ns:List Nd) (f:Flw) (a1 a2 a3 a4:Option Addr) (c1 c2 c3 c4:Nat) (v2 v3 v4 v5:Value) (w:World) (hN:NodesAt w b off ns) (hc:fchk r ns f=0) (h1:BoolsAt w a1 f.gen) (h2:BoolsAt w a2 f.pass) (h3:BoolsAt w a3 f.plus) (h4:BoolsAt w a4 f.lets) :
 Calls Tryz.prog 71 #[.agg #[.int .i64 r,.slice (some ⟨b,off,none⟩) ns.length cap,v2,v3,v4,v5],.agg #[.bool f.back,.bool f.empty,.slice a1 f.gen.length c1,.slice a2 f.pass.length c2,.slice a3 f.plus.length c3,.slice a4 f.lets.length c4]] w fun e w' =>∃ v,e=.returned v∧w'.ownsRow w.heap.size 4 1 v ns.length ((solve ns f).map Value.bool)∧Below w.heap.size w w' :=by
 have hb0:Below w.heap.size w ((w.alloc (.cells #[.int .i64 r,.slice (some ⟨b,off,none⟩) ns.length cap,v2,v3,v4,v5] 68)).alloc (.cells #[.bool f.back,.bool f.empty,.slice a1 f.gen.length c1,.slice a2 f.pass.length c2,.slice a3 f.plus.length c3,.slice a4 f.lets.length c4] 79)):=((Below.refl _ w).alloc (Nat.le_refl _) _).alloc (by simp) _
 have hsv:=solve_right r b off cap ns f a1 a2 a3 a4 c1 c2 c3 c4 _ (hN.below hb0 hN.lt) hc (h1.below hb0) (h2.below hb0) (h3.below hb0) (h4.below hb0)
 have HSV:=hide hsv
 clear hsv hN hc h1 h2 h3 h4
 go_enter Tryz.func71,Tryz.ntmps71
 go_wp2_with fail
 refine HSV.out.mono ?_
 rintro e w1 ⟨v,rfl,hv,hb1⟩
 have HV:=hide hv
 clear hv
 go_wp2
 go_ret
 exact ⟨_,rfl,ownsRow_base HV.out hb0.size,hb0.trans (hb1.mono hb0.size)⟩
theorem notR1_any (m B k:Nat) (rk:List Bool) (ka:Option Addr) (kc:Nat) (w:World) (h4:w.cell? ⟨B,4,none⟩=some (.slice ka k kc)) (hB:B<w.heap.size) (hk:BoolsAt w ka rk) (e1:rk.length=k) (hm:m<k) :
 Calls Tryz.prog 105 #[.int .i64 m,.pointer (some ⟨B,0,none⟩)] w fun e w' =>e=.returned (.bool (!bat rk m))∧w' =w:=by
 obtain ⟨b3,o3,rfl,l3,v3⟩:=bools_cell hk (k:=m) (by omega)
 have hmi:(m:Int)<(k:Int):=by omega
 generalize bat rk m=P at v3 ⊢
 clear hk e1
 go_enter Tryz.func105,Tryz.ntmps105
 go_wp2
 go_ret
 exact ⟨rfl,rfl⟩
set_option maxRecDepth 100000 in
theorem notReckoning_any (r:Int) (b off cap:Nat) (ns:List Nd) (rk:List Bool) (ka:Option Addr) (kc:Nat) (v2 v3 v5:Value) (w:World) (hk:BoolsAt w ka rk) (e1:rk.length=ns.length) (hn:ns.length≤256) :
 Calls Tryz.prog 77 #[.agg #[.int .i64 r,.slice (some ⟨b,off,none⟩) ns.length cap,v2,v3,.slice ka ns.length kc,v5]] w fun e w' =>∃ v,e=.returned v∧w'.ownsRow w.heap.size 4 1 v ns.length (((List.range ns.length).map fun n=>!bat rk n).map Value.bool)∧Below w.heap.size w w' :=by
 have eg:∀ args w,(callFunc 105 args).run Tryz.prog w=.ok (.enter 105 args) w:=enters_of Tryz.func105 (by kernel_rfl) rfl
 have hb0:Below w.heap.size w (w.alloc (.cells #[.int .i64 r,.slice (some ⟨b,off,none⟩) ns.length cap,v2,v3,.slice ka ns.length kc,v5] 68)):=(Below.refl _ w).alloc (Nat.le_refl _) _
 have hs:(w.alloc (.cells #[.int .i64 r,.slice (some ⟨b,off,none⟩) ns.length cap,v2,v3,.slice ka ns.length kc,v5] 68)).heap[w.heap.size]?=some (.cells #[.int .i64 r,.slice (some ⟨b,off,none⟩) ns.length cap,v2,v3,.slice ka ns.length kc,v5] 68 (0,0)):=World.alloc_heap_new w _
 have hea:=each_any (fun n=>!bat rk n) 105 #[.pointer (some ⟨w.heap.size,0,none⟩)] r (some ⟨b,off,none⟩) ns.length cap v2 v3 (.slice ka ns.length kc) v5 (w.alloc (.cells #[.int .i64 r,.slice (some ⟨b,off,none⟩) ns.length cap,v2,v3,.slice ka ns.length kc,v5] 68)) hn eg (fun i hi W hW=>by
  have hs1:=(hW.block _ (blk_lt hs)).trans hs
  refine (notR1_any i w.heap.size ns.length rk ka kc W (by rw [blk_cell hs1];rfl) (blk_lt hs1) (hk.below (hb0.trans (hW.mono hb0.size))) e1 hi).mono ?_
  rintro e w' ⟨rfl,rfl⟩
  exact ⟨rfl,Below.refl _ _⟩)
 have HEA:=hide hea
 clear hea hs
 go_enter Tryz.func77,Tryz.ntmps77
 go_wp2_with fail
 refine HEA.out.mono ?_
 rintro e w1 ⟨v,rfl,hv,hb1⟩
 have HV:=hide hv
 clear hv
 go_wp2
 go_ret
 exact ⟨_,rfl,ownsRow_base HV.out hb0.size,hb0.trans (hb1.mono hb0.size)⟩
set_option maxRecDepth 100000 in
theorem look1_any (i P T:Nat) (r:Int) (b off cap:Nat) (ns:List Nd) (t:Tm) (w:World) (hN:NodesAt w b off ns) (hi:i<ns.length) (hP:w.heap[P]?=some (.cells #[.int .i64 r,.slice (some ⟨b,off,none⟩) ns.length cap] 24 (0,0))) (hT:w.heap[T]?=some (.cells #[.int .i64 t.op,.int .i64 t.a,.int .i64 t.b] 26 (0,0))) (ht:3≤t.op∧t.op≤8) :
 Calls Tryz.prog 69 #[.int .i64 i,.pointer (some ⟨P,0,none⟩),.pointer (some ⟨T,0,none⟩)] w fun e w' =>e=.returned (.bool (bat (ns.map (rcB t)) i))∧Below w.heap.size w w' :=by
 obtain ⟨x,hx⟩:=get_lt hi
 have hb:bat (ns.map (rcB t)) i=rcB t x:=bat_mapn hx
 have hii:(i:Int)<(ns.length:Int):=by omega
 have HS:Hid (∀ u:World,Below w.heap.size w u→u.cell? ⟨P,0,none⟩=some (.int .i64 r)∧u.cell? ⟨P,1,none⟩=some (.slice (some ⟨b,off,none⟩) ns.length cap)∧u.cell? ⟨T,0,none⟩=some (.int .i64 t.op)∧u.cell? ⟨T,1,none⟩=some (.int .i64 t.a)∧u.cell? ⟨T,2,none⟩=some (.int .i64 t.b)∧u.cell? ⟨b,off+i*6,none⟩=some (.int .i64 x.op)∧u.cell? ⟨b,off+i*6+1,none⟩=some (.int .i64 x.d)∧u.cell? ⟨b,off+i*6+2,none⟩=some (.int .i64 x.a)∧u.cell? ⟨b,off+i*6+3,none⟩=some (.int .i64 x.b)∧u.cell? ⟨b,off+i*6+4,none⟩=some (.int .i64 x.t)∧u.cell? ⟨b,off+i*6+5,none⟩=some (.int .i64 x.e)):=fun u h=>by
  have k1:=(h.block _ (blk_lt hP)).trans hP
  have k2:=(h.block _ (blk_lt hT)).trans hT
  have k3:=hN.below h hN.lt
  refine ⟨?_,?_,?_,?_,?_,k3.c0 i x hx,k3.c1 i x hx,k3.c2 i x hx,k3.c3 i x hx,k3.c4 i x hx,k3.c5 i x hx⟩
  ·rw [blk_cell k1];rfl
  ·rw [blk_cell k1];rfl
  ·rw [blk_cell k2];rfl
  ·rw [blk_cell k2];rfl
  ·rw [blk_cell k2];rfl
 have pl:=blk_lt hP
 have tl:=blk_lt hT
 have bl:=hN.lt
 have HBI:=hide hb
 have HT:=hide ht
 clear hP hT hN hx hb ht
 go_enter Tryz.func69,Tryz.ntmps69
 go_upto_region 1 with fail
 go_region_held3 (fun u=>u.cell? ⟨P,0,none⟩=some (.int .i64 r)∧u.cell? ⟨P,1,none⟩=some (.slice (some ⟨b,off,none⟩) ns.length cap)∧u.cell? ⟨T,0,none⟩=some (.int .i64 t.op)∧u.cell? ⟨T,1,none⟩=some (.int .i64 t.a)∧u.cell? ⟨T,2,none⟩=some (.int .i64 t.b)∧u.cell? ⟨b,off+i*6,none⟩=some (.int .i64 x.op)∧u.cell? ⟨b,off+i*6+1,none⟩=some (.int .i64 x.d)∧u.cell? ⟨b,off+i*6+2,none⟩=some (.int .i64 x.a)∧u.cell? ⟨b,off+i*6+3,none⟩=some (.int .i64 x.b)∧u.cell? ⟨b,off+i*6+4,none⟩=some (.int .i64 x.t)∧u.cell? ⟨b,off+i*6+5,none⟩=some (.int .i64 x.e)) (first
  | (with_reducible refine HS.out _ ?_;first | with_reducible exact hB2 | with_reducible exact (Below.refl _ w).drew | with_reducible exact (Below.refl _ w))) (first
  | (go_at_call 16;refine (sreckons_any x t _ HT.out).mono ?_;rintro e wa ⟨rfl,hba⟩;have hB2:Below w.heap.size w wa:=(by first | exact (Below.refl _ w).drew.trans hba | exact hba)))
 go_wp2
 go_ret
 exact ⟨ret_bool HBI.out.symm,hB2⟩
set_option maxRecDepth 100000 in
theorem look2_any (i P T:Nat) (r:Int) (b off cap:Nat) (ns:List Nd) (t:Tm) (w:World) (hN:NodesAt w b off ns) (hi:i<ns.length) (hP:w.heap[P]?=some (.cells #[.int .i64 r,.slice (some ⟨b,off,none⟩) ns.length cap] 24 (0,0))) (hT:w.heap[T]?=some (.cells #[.int .i64 t.op,.int .i64 t.a,.int .i64 t.b] 26 (0,0))) (ht:3≤t.op∧t.op≤8) :
 Calls Tryz.prog 70 #[.int .i64 i,.pointer (some ⟨P,0,none⟩),.pointer (some ⟨T,0,none⟩)] w fun e w' =>e=.returned (.bool (bat (ns.map (kpB t)) i))∧Below w.heap.size w w' :=by
 obtain ⟨x,hx⟩:=get_lt hi
 have hb:bat (ns.map (kpB t)) i=kpB t x:=bat_mapn hx
 have hii:(i:Int)<(ns.length:Int):=by omega
 have HS:Hid (∀ u:World,Below w.heap.size w u→u.cell? ⟨P,0,none⟩=some (.int .i64 r)∧u.cell? ⟨P,1,none⟩=some (.slice (some ⟨b,off,none⟩) ns.length cap)∧u.cell? ⟨T,0,none⟩=some (.int .i64 t.op)∧u.cell? ⟨T,1,none⟩=some (.int .i64 t.a)∧u.cell? ⟨T,2,none⟩=some (.int .i64 t.b)∧u.cell? ⟨b,off+i*6,none⟩=some (.int .i64 x.op)∧u.cell? ⟨b,off+i*6+1,none⟩=some (.int .i64 x.d)∧u.cell? ⟨b,off+i*6+2,none⟩=some (.int .i64 x.a)∧u.cell? ⟨b,off+i*6+3,none⟩=some (.int .i64 x.b)∧u.cell? ⟨b,off+i*6+4,none⟩=some (.int .i64 x.t)∧u.cell? ⟨b,off+i*6+5,none⟩=some (.int .i64 x.e)):=fun u h=>by
  have k1:=(h.block _ (blk_lt hP)).trans hP
  have k2:=(h.block _ (blk_lt hT)).trans hT
  have k3:=hN.below h hN.lt
  refine ⟨?_,?_,?_,?_,?_,k3.c0 i x hx,k3.c1 i x hx,k3.c2 i x hx,k3.c3 i x hx,k3.c4 i x hx,k3.c5 i x hx⟩
  ·rw [blk_cell k1];rfl
  ·rw [blk_cell k1];rfl
  ·rw [blk_cell k2];rfl
  ·rw [blk_cell k2];rfl
  ·rw [blk_cell k2];rfl
 have pl:=blk_lt hP
 have tl:=blk_lt hT
 have bl:=hN.lt
 have HBI:=hide hb
 have HT:=hide ht
 clear hP hT hN hx hb ht
 go_enter Tryz.func70,Tryz.ntmps70
 go_upto_region 1 with fail
 go_region_held3 (fun u=>u.cell? ⟨P,0,none⟩=some (.int .i64 r)∧u.cell? ⟨P,1,none⟩=some (.slice (some ⟨b,off,none⟩) ns.length cap)∧u.cell? ⟨T,0,none⟩=some (.int .i64 t.op)∧u.cell? ⟨T,1,none⟩=some (.int .i64 t.a)∧u.cell? ⟨T,2,none⟩=some (.int .i64 t.b)∧u.cell? ⟨b,off+i*6,none⟩=some (.int .i64 x.op)∧u.cell? ⟨b,off+i*6+1,none⟩=some (.int .i64 x.d)∧u.cell? ⟨b,off+i*6+2,none⟩=some (.int .i64 x.a)∧u.cell? ⟨b,off+i*6+3,none⟩=some (.int .i64 x.b)∧u.cell? ⟨b,off+i*6+4,none⟩=some (.int .i64 x.t)∧u.cell? ⟨b,off+i*6+5,none⟩=some (.int .i64 x.e)) (first
  | (with_reducible refine HS.out _ ?_;first | with_reducible exact hB2 | with_reducible exact (Below.refl _ w).drew | with_reducible exact (Below.refl _ w))) (first
  | (go_at_call 51;refine (keeps_any x t _).mono ?_;rintro e wa ⟨rfl,hba⟩;have hB2:Below w.heap.size w wa:=(by first | exact (Below.refl _ w).drew.trans hba | exact hba)))
 go_wp2
 go_ret
 exact ⟨ret_bool HBI.out.symm,hB2⟩
structure SM (w:World) (ns:List Nd) (t:Tm) (rb1 rb2:Nat) (ka pa:Option Addr):Prop where
 nx:RowsR w rb1 ns.length (nxl ns)
 ah:RowsR w rb2 ns.length (ahl ns)
 rk:BoolsAt w ka (rcl ns t)
 kp:BoolsAt w pa (kpl ns t)
theorem SM.below {w w' :World} {ns:List Nd} {t:Tm} {rb1 rb2:Nat} {ka pa:Option Addr} (h:SM w ns t rb1 rb2 ka pa) (hb:Below w.heap.size w w'):SM w' ns t rb1 rb2 ka pa :=
 ⟨h.nx.below hb,h.ah.below hb,h.rk.below hb,h.kp.below hb⟩
theorem fchk_of {r:Int} {ns:List Nd} {f:Flw} (hc:chk r ns=0) (h1:f.gen.length=ns.length) (h2:f.pass.length=ns.length) (h3:f.plus.length=ns.length) (h4:f.lets.length=ns.length):fchk r ns f=0:=by
 simp [fchk,hc,fits,h1,h2,h3,h4]
theorem rcl_len (ns:List Nd) (t:Tm):(rcl ns t).length=ns.length:=by simp [rcl]
theorem kpl_len (ns:List Nd) (t:Tm):(kpl ns t).length=ns.length:=by simp [kpl]
theorem nol_len (k:Nat):(nol k).length=k:=by simp [nol]
theorem yesl_len (k:Nat):(yesl k).length=k:=by simp [yesl]
theorem nrcl_len (ns:List Nd) (t:Tm):(nrcl ns t).length=ns.length:=by simp [nrcl]
theorem bothl_len (ns:List Nd) (t:Tm):(bothl ns t).length=ns.length:=by simp [bothl]
theorem nrcl_eq (ns:List Nd) (t:Tm):((List.range ns.length).map fun n=>!bat (rcl ns t) n)=nrcl ns t:=by
 refine bat_ext (by simp [nrcl]) fun n hn=>?_
 have hn' :n<ns.length:=by simpa using hn
 obtain ⟨x,hx⟩:=get_lt hn'
 rw [bat_map _ hn', rcl,nrcl,bat_mapn hx,bat_mapn hx]
theorem bools_owned {w:World} {base n:Nat} {a:Option Addr} {c:Nat} {zs:List Bool} (h:w.ownsRow base 4 1 (.slice a n c) n (zs.map Value.bool)) (hl:zs.length=n):BoolsAt w a zs:=by
 subst hl
 obtain ⟨_,_,e,hb⟩:=bools_of_owns h
 cases e
 exact hb
theorem ssolveL_any (r:Int) (b off cap:Nat) (ns:List Nd) (f:Flw) (a1 a2 a3 a4:Option Addr) (c1 c2 c3 c4:Nat) (v2 v3 v4 v5:Value) (w:World) (hN:NodesAt w b off ns) (hc:fchk r ns f=0) (h1:BoolsAt w a1 f.gen) (h2:BoolsAt w a2 f.pass) (h3:BoolsAt w a3 f.plus) (h4:BoolsAt w a4 f.lets) :
 Calls Tryz.prog 71 #[.agg #[.int .i64 r,.slice (some ⟨b,off,none⟩) ns.length cap,v2,v3,v4,v5],.agg #[.bool f.back,.bool f.empty,.slice a1 ns.length c1,.slice a2 ns.length c2,.slice a3 ns.length c3,.slice a4 ns.length c4]] w fun e w' =>∃ v,e=.returned v∧w'.ownsRow w.heap.size 4 1 v ns.length ((solve ns f).map Value.bool)∧Below w.heap.size w w' :=by
 have h:=ssolve_any r b off cap ns f a1 a2 a3 a4 c1 c2 c3 c4 v2 v3 v4 v5 w hN hc h1 h2 h3 h4
 obtain ⟨_,e1,e2,e3,e4⟩:=fchk_zero hc
 rw [e1,e2,e3,e4] at h
 exact h
set_option maxRecDepth 100000 in
theorem down_any (r:Int) (b off cap:Nat) (ns:List Nd) (t:Tm) (rb1 rb2:Nat) (ka pa:Option Addr) (kc pc:Nat) (w:World) (hN:NodesAt w b off ns) (hc:chk r ns=0) (hM:SM w ns t rb1 rb2 ka pa) :
 Calls Tryz.prog 38 #[.agg #[.int .i64 r,.slice (some ⟨b,off,none⟩) ns.length cap,.slice (some ⟨rb1,0,none⟩) ns.length ns.length,.slice (some ⟨rb2,0,none⟩) ns.length ns.length,.slice ka ns.length kc,.slice pa ns.length pc]] w fun e w' =>∃ v,e=.returned v∧w'.ownsRow w.heap.size 4 1 v ns.length ((downL ns t).map Value.bool)∧Below w.heap.size w w' :=by
 have hl:=(chk_zero hc).1
 have hfc:fchk r ns (downW ns t)=0:=fchk_of hc (rcl_len ns t) (kpl_len ns t) (nol_len _) (yesl_len _)
 have hbA:Below w.heap.size w (w.alloc (.cells #[.int .i64 r,.slice (some ⟨b,off,none⟩) ns.length cap,.slice (some ⟨rb1,0,none⟩) ns.length ns.length,.slice (some ⟨rb2,0,none⟩) ns.length ns.length,.slice ka ns.length kc,.slice pa ns.length pc] 68)):=(Below.refl _ w).alloc (Nat.le_refl _) _
 have hs:(w.alloc (.cells #[.int .i64 r,.slice (some ⟨b,off,none⟩) ns.length cap,.slice (some ⟨rb1,0,none⟩) ns.length ns.length,.slice (some ⟨rb2,0,none⟩) ns.length ns.length,.slice ka ns.length kc,.slice pa ns.length pc] 68)).heap[w.heap.size]?=some (.cells #[.int .i64 r,.slice (some ⟨b,off,none⟩) ns.length cap,.slice (some ⟨rb1,0,none⟩) ns.length ns.length,.slice (some ⟨rb2,0,none⟩) ns.length ns.length,.slice ka ns.length kc,.slice pa ns.length pc] 68 (0,0)):=World.alloc_heap_new w _
 go_enter Tryz.func38,Tryz.ntmps38
 go_upto_region 1 with fail
 generalize (w.alloc (.cells #[.int .i64 r,.slice (some ⟨b,off,none⟩) ns.length cap,.slice (some ⟨rb1,0,none⟩) ns.length ns.length,.slice (some ⟨rb2,0,none⟩) ns.length ns.length,.slice ka ns.length kc,.slice pa ns.length pc] 68))=W at hbA hs ⊢
 have HS:Hid (∀ u:World,Below W.heap.size W u→u.cell? ⟨w.heap.size,0,none⟩=some (.int .i64 r)∧u.cell? ⟨w.heap.size,1,none⟩=some (.slice (some ⟨b,off,none⟩) ns.length cap)∧u.cell? ⟨w.heap.size,2,none⟩=some (.slice (some ⟨rb1,0,none⟩) ns.length ns.length)∧u.cell? ⟨w.heap.size,3,none⟩=some (.slice (some ⟨rb2,0,none⟩) ns.length ns.length)∧u.cell? ⟨w.heap.size,4,none⟩=some (.slice ka ns.length kc)∧u.cell? ⟨w.heap.size,5,none⟩=some (.slice pa ns.length pc)):=fun u h=>by
  have k1:=(h.block _ (blk_lt hs)).trans hs
  refine ⟨?_,?_,?_,?_,?_,?_⟩
  ·rw [blk_cell k1];rfl
  ·rw [blk_cell k1];rfl
  ·rw [blk_cell k1];rfl
  ·rw [blk_cell k1];rfl
  ·rw [blk_cell k1];rfl
  ·rw [blk_cell k1];rfl
 have HSV:Hid (∀ (u:World),Below W.heap.size W u→∀ (na ya:Option Addr) (nc yc:Nat),BoolsAt u na (nol ns.length)→BoolsAt u ya (yesl ns.length)→Calls Tryz.prog 71 #[.agg #[.int .i64 r,.slice (some ⟨b,off,none⟩) ns.length cap,.slice (some ⟨rb1,0,none⟩) ns.length ns.length,.slice (some ⟨rb2,0,none⟩) ns.length ns.length,.slice ka ns.length kc,.slice pa ns.length pc],.agg #[.bool true,.bool false,.slice ka ns.length kc,.slice pa ns.length pc,.slice na ns.length nc,.slice ya ns.length yc]] u fun e w' =>∃ v,e=.returned v∧w'.ownsRow u.heap.size 4 1 v ns.length ((downL ns t).map Value.bool)∧Below u.heap.size u w'):=fun u h na ya nc yc h3 h4=>by
  have hu:=hbA.trans (h.mono hbA.size)
  have hm:=hM.below hu
  exact ssolveL_any r b off cap ns (downW ns t) ka pa na ya kc pc nc yc _ _ _ _ u (hN.below hu hN.lt) hfc hm.rk hm.kp h3 h4
 have HW:=hide hbA
 have sl:=blk_lt hs
 clear hs hbA hM hN hc hfc
 go_region_held3 (fun u=>u.cell? ⟨w.heap.size,0,none⟩=some (.int .i64 r)∧u.cell? ⟨w.heap.size,1,none⟩=some (.slice (some ⟨b,off,none⟩) ns.length cap)∧u.cell? ⟨w.heap.size,2,none⟩=some (.slice (some ⟨rb1,0,none⟩) ns.length ns.length)∧u.cell? ⟨w.heap.size,3,none⟩=some (.slice (some ⟨rb2,0,none⟩) ns.length ns.length)∧u.cell? ⟨w.heap.size,4,none⟩=some (.slice ka ns.length kc)∧u.cell? ⟨w.heap.size,5,none⟩=some (.slice pa ns.length pc)) (first
  | (with_reducible refine HS.out _ ?_;first | with_reducible exact hB3 | with_reducible exact hB2 | with_reducible exact hB1 | with_reducible exact (Below.refl _ W).drew | with_reducible exact (Below.refl _ W))) (first
  | (go_at_call 72;refine (none_any r _ ns.length cap _ _ _ _ _ hl.2).mono ?_;rintro e wa ⟨va,rfl,hva,hba⟩;obtain ⟨na,nc,rfl⟩:=owns_slice hva;have hB1:Below W.heap.size W wa:=(by first | exact (Below.refl _ W).drew.trans hba | exact hba))
  | (go_at_call 73;refine (all_any r _ ns.length cap _ _ _ _ _ hl.2).mono ?_;rintro e wb ⟨vb,rfl,hvb,hbb⟩;obtain ⟨ya,yc,rfl⟩:=owns_slice hvb;have hB2:Below W.heap.size W wb:=hB1.trans (hbb.mono hB1.size))
  | (go_at_call 71;refine (HSV.out _ hB2 na ya nc yc (bools_owned (ownsRow_below hva hbb (Nat.le_refl _)) (nol_len _)) (bools_owned hvb (yesl_len _))).mono ?_;rintro e wd ⟨vd,rfl,hvd,hbd⟩;have hB3:Below W.heap.size W wd:=hB2.trans (hbd.mono hB2.size)))
 have HVD:=hide hvd
 have HB3:=hide hB3
 have hle:w.heap.size≤wb.heap.size:=Nat.le_trans HW.out.size hB2.size
 clear hvd hva hvb hba hbb hbd hB1 hB2 hB3
 go_wp2
 go_ret
 exact ⟨_,rfl,ownsRow_base HVD.out hle,HW.out.trans (HB3.out.mono HW.out.size)⟩
end Go.Proofs.YtnbdnbcnlgnicaaGreat
namespace Go.Proofs.YtnbdnbcnlgnicaaGreat
def selfT (F:(Nat→Bool)→Nat→Bool) (x:Nat→Bool) (n:Nat):Bool:=F (fun m=>m==n||x m) n
theorem selfT_mono {F:(Nat→Bool)→Nat→Bool} (hF:Mono F):Mono (selfT F):=by
 intro x y hxy n h
 refine hF _ _ (fun m hm=>?_) n h
 simp only [Bool.or_eq_true] at hm ⊢
 exact hm.imp id (hxy m)
theorem selfT_isG {F:(Nat→Bool)→Nat→Bool} {k:Nat} {x:List Bool} (hF:Mono F) (h:IsG (selfT F) k x):IsG F k x:=by
 have hle:∀ (y:Nat→Bool) n,F y n=true→selfT F y n=true:=fun y n hy=>hF _ _ (fun m hm=>by simp [hm]) n hy
 refine ⟨h.len,fun n hn=>?_,fun y hb hy=>h.top y hb fun n hn hyn=>hle y n (hy n hn hyn)⟩
 have h1:=h.fix n hn
 cases e:bat x n
 ·cases e2:F (bat x) n
  ·rfl
  ·rw [e,hle _ n e2] at h1;cases h1
 ·have h2:(fun m=>m==n||bat x m)=bat x:=by
   funext m
   by_cases q:m=n
   ·subst q;simp [e]
   ·simp [q]
  rw [e,selfT,h2] at h1
  exact h1
theorem gr_selfT {F:(Nat→Bool)→Nat→Bool} (hF:Mono F) (k:Nat):gr (selfT F) k=gr F k:=(selfT_isG hF (gr_isG (selfT_mono hF) k)).eq_gr hF
theorem bat_nol (k m:Nat):bat (nol k) m=false:=by simp [bat,nol,List.getD_eq_getElem?_getD,List.getElem?_replicate];split <;> rfl
theorem bat_yesl {k m:Nat} (h:m<k):bat (yesl k) m=true:=bat_yes h
theorem all_eq {l:List Nat} {p q:Nat→Bool} (h:∀ m∈l,p m=q m):l.all p=l.all q:=by
 induction l with
 | nil=>rfl
 | cons a l ih =>
  simp only [List.all_cons]
  rw [h a (by simp),ih fun m hm=>h m (by simp [hm])]
theorem any_eq {l:List Nat} {p q:Nat→Bool} (h:∀ m∈l,p m=q m):l.any p=l.any q:=by
 induction l with
 | nil=>rfl
 | cons a l ih =>
  simp only [List.any_cons]
  rw [h a (by simp),ih fun m hm=>h m (by simp [hm])]
theorem allOr_false (l:List Nat) (p:Nat→Bool):allOr false l p=(decide (0<l.length)&&l.all p):=by
 cases l <;> simp [allOr]
theorem allOr_true (l:List Nat) (p:Nat→Bool):allOr true l p=l.all p:=by
 cases l <;> simp [allOr]
theorem not_all (l:List Nat) (p:Nat→Bool):(!l.all p)=l.any fun m=>!p m:=by
 induction l with
 | nil=>rfl
 | cons a l ih=>simp only [List.all_cons,List.any_cons,Bool.not_and,ih]
theorem nxl_lt {ns:List Nd} {n m:Nat} (h:m∈nxl ns n):m<ns.length:=(mem_nxl.1 h).1
theorem ahl_lt {ns:List Nd} {n m:Nat} (h:m∈ahl ns n):m<ns.length:=(mem_ahl.1 h).1
theorem down_step {ns:List Nd} {t:Tm} {n:Nat} (y:Nat→Bool) (hn:n<ns.length) :
 sayF ns (downW ns t) y n=(bat (rcl ns t) n||(bat (kpl ns t) n&&decide (0<(nxl ns n).length)&&(nxl ns n).all y)):=by
 simp only [sayF,downW,nbs,if_true,allOr_false]
 rw [all_eq (q:=y) fun m hm=>by rw [bat_nol,bat_yesl (nxl_lt hm)];simp]
 cases bat (rcl ns t) n <;> cases bat (kpl ns t) n <;> simp
theorem both_bat {ns:List Nd} {t:Tm} {m:Nat} (h:m<ns.length):bat (bothl ns t) m=(bat (kpl ns t) m&&bat (rcl ns t) m):=by
 obtain ⟨x,hx⟩:∃ x,ns[m]?=some x:=⟨_,List.getElem?_eq_getElem h⟩
 rw [bothl,kpl,rcl,bat_mapn hx,bat_mapn hx,bat_mapn hx]
theorem nrc_bat {ns:List Nd} {t:Tm} {m:Nat} (h:m<ns.length):bat (nrcl ns t) m=!bat (rcl ns t) m:=by
 obtain ⟨x,hx⟩:∃ x,ns[m]?=some x:=⟨_,List.getElem?_eq_getElem h⟩
 rw [nrcl,rcl,bat_mapn hx,bat_mapn hx]
def upQ (ns:List Nd) (t:Tm) (n:Nat) (y:Nat→Bool) (m:Nat):Bool:=bat (kpl ns t) m&&((m==n||y m)||bat (rcl ns t) m)
theorem up_step {ns:List Nd} {t:Tm} {n:Nat} (y:Nat→Bool) (hn:n<ns.length) :
 selfT (sayF ns (upW ns t)) y n=(decide (0<(ahl ns n).length)&&(ahl ns n).all (upQ ns t n y)):=by
 simp only [selfT,sayF,upW,nbs,if_false,allOr_false,Bool.false_eq_true]
 rw [bat_nol,bat_yesl hn,all_eq (q:=upQ ns t n y) fun m hm=>by
  rw [both_bat (ahl_lt hm),upQ]
  cases bat (kpl ns t) m <;> cases bat (rcl ns t) m <;> simp]
 simp
def aloneQ (ns:List Nd) (t:Tm) (n:Nat) (y:Nat→Bool) (m:Nat):Bool:=bat (lateL ns t) m||(!bat (rcl ns t) m&&(m==n||y m))
theorem alone_step {ns:List Nd} {t:Tm} {n:Nat} (y:Nat→Bool) (hn:n<ns.length) :
 selfT (sayF ns (aloneW ns t)) y n=(nxl ns n).all (aloneQ ns t n y):=by
 simp only [selfT,sayF,aloneW,nbs,if_true,allOr_true]
 rw [bat_nol,bat_yesl hn,all_eq (q:=aloneQ ns t n y) fun m hm=>by
  rw [nrc_bat (nxl_lt hm),aloneQ]]
 simp
def delayQ (ns:List Nd) (t:Tm) (y:Nat→Bool) (m:Nat):Bool:=y m&&!bat (rcl ns t) m
theorem delay_step {ns:List Nd} {t:Tm} {n:Nat} (y:Nat→Bool) (hn:n<ns.length) :
 sayF ns (delayW ns t) y n=(bat (earlyL ns t) n||(decide (0<(ahl ns n).length)&&(ahl ns n).all (delayQ ns t y))):=by
 simp only [sayF,delayW,nbs,if_false,allOr_false,Bool.false_eq_true]
 rw [bat_yesl hn,all_eq (q:=delayQ ns t y) fun m hm=>by
  rw [bat_nol,nrc_bat (ahl_lt hm),delayQ]
  cases y m <;> cases bat (rcl ns t) m <;> simp]
 simp
def earlyQ (ns:List Nd) (t:Tm) (m:Nat):Bool:=!bat (kpl ns t) m||(!bat (downL ns t) m&&!bat (upL ns t) m)
theorem early_step {ns:List Nd} {t:Tm} {n:Nat} (hn:n<ns.length) :
 bat (earlyL ns t) n=(bat (downL ns t) n&&(decide ((ahl ns n).length=0)||(ahl ns n).any (earlyQ ns t))):=by
 rw [earlyL,bat_map _ hn,not_all,any_eq (q:=earlyQ ns t) fun m hm=>by
  rw [earlyQ];cases bat (kpl ns t) m <;> cases bat (downL ns t) m <;> cases bat (upL ns t) m <;> rfl]
 cases ahl ns n <;> simp
theorem late_step {ns:List Nd} {t:Tm} {n:Nat} (hn:n<ns.length) :
 bat (lateL ns t) n=(bat (delayL ns t) n&&(bat (rcl ns t) n||(nxl ns n).any fun m=>!bat (delayL ns t) m)):=by
 rw [lateL,bat_map _ hn,not_all]
theorem take_all_succ {l:List Nat} {q m:Nat} (p:Nat→Bool) (h:l[q]?=some m):(l.take (q+1)).all p=((l.take q).all p&&p m):=by
 have hq:=(List.getElem?_eq_some_iff.1 h)
 obtain ⟨hlt,he⟩:=hq
 rw [List.take_add_one,h];simp [List.all_append]
theorem take_any_succ {l:List Nat} {q m:Nat} (p:Nat→Bool) (h:l[q]?=some m):(l.take (q+1)).any p=((l.take q).any p||p m):=by
 rw [List.take_add_one,h];simp [List.any_append]
end Go.Proofs.YtnbdnbcnlgnicaaGreat
namespace Go.Proofs.YtnbdnbcnlgnicaaGreat
open Go.RowKit Go.Shelf
theorem P1 {α:Type} (l:List α) (i:Nat) (a:α):l.toArray.setIfInBounds i a=(l.set i a).toArray:=List.setIfInBounds_toArray l i a
theorem P3 {α:Type} {x a:α} {i:Nat} {xs:List α}:(x::xs).set (i+1) a=x::xs.set i a:=rfl
theorem blk_ne {w:World} {b b' :Nat} {cs cs' :Array Value} {t t' :TypeId} (h:w.heap[b]?=some (.cells cs t (0,0))) (h' :w.heap[b']?=some (.cells cs' t' (0,0))) (hne:t≠t'):b≠b' :=by
 rintro rfl
 rw [h] at h'
 cases h'
 exact hne rfl
def Tab (w:World) (base:Nat) (v:Value) (k:Nat) (F:Nat→List Nat):Prop :=
 ∃ vs:List Value,w.ownsRow base 54 1 v k vs∧∀ m,m<k→∃ u,vs[m]?=some u∧w.ownsRow 0 3 1 u (F m).length ((ints (F m)).map (Value.int .i64))
theorem Tab.below {w w' :World} {base:Nat} {v:Value} {k:Nat} {F:Nat→List Nat} (h:Tab w base v k F) (hb:Below w.heap.size w w'):Tab w' base v k F:=by
 obtain ⟨vs,h1,h2⟩:=h
 refine ⟨vs,ownsRow_below h1 hb (Nat.le_refl _),fun m hm=>?_⟩
 obtain ⟨u,h3,h4⟩:=h2 m hm
 exact ⟨u,h3,ownsRow_below h4 hb (Nat.le_refl _)⟩
theorem Tab.set {w:World} {base:Nat} {v u:Value} {k b o:Nat} {F:Nat→List Nat} {cs:Array Value} {t:TypeId} (h:Tab w base v k F) (hb:w.heap[b]?=some (.cells cs t (0,0))) (h1:t≠54) (h2:t≠3):Tab (w.setCell ⟨b,o,none⟩ u) base v k F:=by
 obtain ⟨vs,k1,k2⟩:=h
 refine ⟨vs,owns_set k1 hb h1,fun m hm=>?_⟩
 obtain ⟨u,h3,h4⟩:=k2 m hm
 exact ⟨u,h3,owns_set h4 hb h2⟩
theorem Tab.read {w:World} {base:Nat} {v:Value} {k m:Nat} {F:Nat→List Nat} (h:Tab w base v k F) (hm:m<k):∃ g c a d,v=.slice (some ⟨g,0,none⟩) k c∧g<w.heap.size∧w.cell? ⟨g,m,none⟩=some (.slice a (F m).length d)∧IntsAt w a (ints (F m)):=by
 obtain ⟨vs,h1,h2⟩:=h
 obtain ⟨u,h3,h4⟩:=h2 m hm
 obtain ⟨a,d,rfl,hI⟩:=ints_of_owns (zs:=ints (F m)) (by rw [ints_len];exact h4)
 rw [ints_len] at h3
 rcases h1.2 with ⟨e1,e2⟩ | ⟨g,c,cur,rfl,_,hg,_,_,_,hc⟩
 ·subst e2;omega
 ·refine ⟨g,c,a,d,rfl,blk_lt hg,?_,hI⟩
  rw [blk_cell hg]
  have hv:cur[m]?=some (.slice a (F m).length d):=by
   have:(cur.toList.take (k*1))[m]?=some (.slice a (F m).length d):=by rw [hc];exact h3
   rw [List.getElem?_take_of_lt (by omega)] at this
   simpa using this
  exact hv
theorem owns_kept {w w' :World} {base:Nat} {e:TypeId} {size:Nat} {v:Value} {n:Nat} {xs:List Value} {row:Option Nat} (h:w.ownsRow base e size v n xs) (hg:w.grownBy w' row) (hne:∀ g,v.ownBlock=some g→row≠some g):w'.ownsRow base e size v n xs:=by
 obtain ⟨hl,h3⟩:=h
 refine ⟨hl,?_⟩
 rcases h3 with h3 | ⟨g,cap,cur,rfl,a1,a2,a3⟩
 ·exact Or.inl h3
 ·exact Or.inr ⟨g,cap,cur,rfl,a1,(hg.block g (blk_lt a2) (fun q=>hne g rfl q.symm)).trans a2,a3⟩
theorem own_row_ne {w:World} {base b:Nat} {e t:TypeId} {size:Nat} {v:Value} {n:Nat} {xs:List Value} {cs:Array Value} (h:w.ownsRow base e size v n xs) (hb:w.heap[b]?=some (.cells cs t (0,0))) (hne:t≠e):v.ownBlock≠some b:=by
 rcases h.2 with ⟨rfl,_⟩ | ⟨g,cap,cur,rfl,_,a2,_⟩
 ·simp [Value.ownBlock]
 ·intro e1
  simp [Value.ownBlock] at e1
  subst e1
  rw [a2] at hb
  cases hb
  exact hne rfl
theorem own_own_ne {w:World} {base base' :Nat} {e e' :TypeId} {size size' :Nat} {v v' :Value} {n n' :Nat} {xs xs' :List Value} (h:w.ownsRow base e size v n xs) (h' :w.ownsRow base' e' size' v' n' xs') (hne:e≠e'):∀ g,v.ownBlock=some g→v'.ownBlock≠some g:=by
 intro g hg
 rcases h.2 with ⟨rfl,_⟩ | ⟨g', cap,cur,rfl,_,a2,_⟩
 ·simp [Value.ownBlock] at hg
 ·simp [Value.ownBlock] at hg
  subst hg
  exact own_row_ne h' a2 hne
theorem Tab.kept {w w' :World} {base:Nat} {v:Value} {k:Nat} {F:Nat→List Nat} {row:Option Nat} (h:Tab w base v k F) (hg:w.grownBy w' row) (h1:∀ g,v.ownBlock=some g→row≠some g) (h2:∀ g,row=some g→∃ cs,w.heap[g]?=some (.cells cs 54 (0,0))):Tab w' base v k F:=by
 obtain ⟨vs,k1,k2⟩:=h
 refine ⟨vs,owns_kept k1 hg h1,fun m hm=>?_⟩
 obtain ⟨u,h3,h4⟩:=k2 m hm
 refine ⟨u,h3,owns_kept h4 hg fun g hu e=>?_⟩
 obtain ⟨cs,hc⟩:=h2 g e
 exact own_row_ne h4 hc (by decide) hu
theorem own_block {w:World} {base:Nat} {e:TypeId} {size:Nat} {v:Value} {n:Nat} {xs:List Value} (h:w.ownsRow base e size v n xs):∀ g,v.ownBlock=some g→base≤g∧g<w.heap.size∧∃ cs,w.heap[g]?=some (.cells cs e (0,0)):=by
 intro g hg
 rcases h.2 with ⟨rfl,_⟩ | ⟨g', cap,cur,rfl,a1,a2,_⟩
 ·simp [Value.ownBlock] at hg
 ·simp [Value.ownBlock] at hg
  subst hg
  exact ⟨a1,blk_lt a2,cur,a2⟩
theorem tab_more {w w' :World} {base:Nat} {v v' u:Value} {k:Nat} {F:Nat→List Nat} {vs:List Value} (hv:w.ownsRow base 54 1 v k vs) (hr:∀ m,m<k→∃ u,vs[m]?=some u∧w.ownsRow 0 3 1 u (F m).length ((ints (F m)).map (Value.int .i64))) (hu:w.ownsRow 0 3 1 u (F k).length ((ints (F k)).map (Value.int .i64))) (hown:w'.ownsRow base 54 1 v' (k+1) (vs++[u])) (hg:w.grownBy w' v.ownBlock):Tab w' base v' (k+1) F:=by
 refine ⟨_,hown,fun m hm=>?_⟩
 have hl:vs.length=k:=by have:=hv.1;omega
 have hk:∀ z n xs,w.ownsRow 0 3 1 z n xs→w'.ownsRow 0 3 1 z n xs:=fun z n xs h=>owns_kept h hg fun g hz e=>own_own_ne hv h (by decide) g e hz
 by_cases e:m=k
 ·subst e
  exact ⟨u,by rw [← hl];simp,hk _ _ _ hu⟩
 ·obtain ⟨z,h1,h2⟩:=hr m (by omega)
  exact ⟨z,by rw [List.getElem?_append_left (by omega)];exact h1,hk _ _ _ h2⟩
structure FS (w0:World) (r:Int) (b off cap:Nat) (ns:List Nd) (t:Tm) (X:Nat→Nat) (L:Nat→List Bool) (v13 v14:Value) (k k' :Nat) (w:World):Prop where
 pb:w.heap[w0.heap.size]?=some (.cells #[.int .i64 r,.slice (some ⟨b,off,none⟩) ns.length cap] 24 (0,0))
 tb:w.heap[w0.heap.size+1]?=some (.cells #[.int .i64 t.op,.int .i64 t.a,.int .i64 t.b] 26 (0,0))
 rb:w.heap[w0.heap.size+2]?=some (.cells #[.slice none 0 0,.slice none 0 0,.slice none 0 0,.slice none 0 0,.slice none 0 0,.slice none 0 0] 41 (0,0))
 kb:w.heap[w0.heap.size+3]?=some (.cells #[.int .i64 ns.length] 3 (0,0))
 blk:∀ i,i<6→w.heap[X i]?=some (.cells ((L i).map Value.bool).toArray 4 (0,0))
 len:∀ i,i<6→(L i).length=ns.length
 inj:∀ i j,i<6→j<6→X i=X j→i=j
 low:∀ i,i<6→w0.heap.size≤X i
 nx:Tab w w0.heap.size v13 k (nxl ns)
 ah:Tab w w0.heap.size v14 k' (ahl ns)
 dj:∀ g,v13.ownBlock=some g→v14.ownBlock≠some g
 bel:Below w0.heap.size w0 w
theorem FS.below {w0:World} {r:Int} {b off cap:Nat} {ns:List Nd} {t:Tm} {X:Nat→Nat} {L:Nat→List Bool} {v13 v14:Value} {k k' :Nat} {w w' :World} (h:FS w0 r b off cap ns t X L v13 v14 k k' w) (hb:Below w.heap.size w w'):FS w0 r b off cap ns t X L v13 v14 k k' w' :=
 ⟨(hb.block _ (blk_lt h.pb)).trans h.pb,(hb.block _ (blk_lt h.tb)).trans h.tb,(hb.block _ (blk_lt h.rb)).trans h.rb,(hb.block _ (blk_lt h.kb)).trans h.kb,fun i hi=>(hb.block _ (blk_lt (h.blk i hi))).trans (h.blk i hi),h.len,h.inj,h.low,h.nx.below hb,h.ah.below hb,h.dj,h.bel.trans (hb.mono h.bel.size)⟩
def putL (L:Nat→List Bool) (i:Nat) (x:List Bool):Nat→List Bool:=fun j=>if j=i then x else L j
theorem putL_same (L:Nat→List Bool) (i:Nat) (x:List Bool):putL L i x i=x:=by simp [putL]
theorem putL_ne {L:Nat→List Bool} {i j:Nat} {x:List Bool} (h:j≠i):putL L i x j=L j:=by simp [putL,h]
theorem putL_putL (L:Nat→List Bool) (i:Nat) (x y:List Bool):putL (putL L i x) i y=putL L i y:=by
 funext j;simp only [putL];split <;> rfl
theorem putL_self (L:Nat→List Bool) (i:Nat):putL L i (L i)=L:=by
 funext j;simp only [putL];split
 ·rename_i e;rw [e]
 ·rfl
theorem FS.set {w0:World} {r:Int} {b off cap:Nat} {ns:List Nd} {t:Tm} {X:Nat→Nat} {L:Nat→List Bool} {v13 v14:Value} {k k' :Nat} {w:World} (h:FS w0 r b off cap ns t X L v13 v14 k k' w) {i:Nat} (hi:i<6) (m:Nat) (v:Bool):FS w0 r b off cap ns t X (putL L i ((L i).set m v)) v13 v14 k k' (w.setCell ⟨X i,m,none⟩ (.bool v)):=by
 have hb:=h.blk i hi
 refine ⟨blk_set_ne _ h.pb (blk_ne h.pb hb (by decide)),blk_set_ne _ h.tb (blk_ne h.tb hb (by decide)),blk_set_ne _ h.rb (blk_ne h.rb hb (by decide)),blk_set_ne _ h.kb (blk_ne h.kb hb (by decide)),fun j hj=>?_,fun j hj=>?_,h.inj,h.low,h.nx.set hb (by decide) (by decide),h.ah.set hb (by decide) (by decide),h.dj,h.bel.setCell (p:=⟨X i,m,none⟩) (h.low i hi) _⟩
 ·by_cases e:j=i
  ·subst e
   rw [putL_same,blk_set _ hb]
   simp only [List.map_set,List.setIfInBounds_toArray]
  ·rw [putL_ne e]
   exact blk_set_ne _ (h.blk j hj) (fun q=>e (h.inj j i hj hi q))
 ·by_cases e:j=i
  ·subst e;rw [putL_same,List.length_set];exact h.len j hj
  ·rw [putL_ne e];exact h.len j hj
theorem FS.cb {w0:World} {r:Int} {b off cap:Nat} {ns:List Nd} {t:Tm} {X:Nat→Nat} {L:Nat→List Bool} {v13 v14:Value} {k k' :Nat} {w:World} (h:FS w0 r b off cap ns t X L v13 v14 k k' w) {i m:Nat} (hi:i<6) (hm:m<ns.length):w.cell? ⟨X i,m,none⟩=some (.bool (bat (L i) m)):=by
 rw [blk_cell (h.blk i hi),List.getElem?_toArray,List.getElem?_map,get_bat (by rw [h.len i hi];exact hm)];rfl
theorem FS.lt {w0:World} {r:Int} {b off cap:Nat} {ns:List Nd} {t:Tm} {X:Nat→Nat} {L:Nat→List Bool} {v13 v14:Value} {k k' :Nat} {w:World} (h:FS w0 r b off cap ns t X L v13 v14 k k' w) {i:Nat} (hi:i<6):X i<w.heap.size:=blk_lt (h.blk i hi)
theorem FS.fr {w0:World} {r:Int} {b off cap:Nat} {ns:List Nd} {t:Tm} {X:Nat→Nat} {L:Nat→List Bool} {v13 v14:Value} {k k' :Nat} {w:World} (h:FS w0 r b off cap ns t X L v13 v14 k k' w) {i:Nat} (hi:i<6) (m:Nat):w.frozen? ⟨X i,m,none⟩=false:=blk_frozen (h.blk i hi) m
theorem FS.c5 {w0:World} {r:Int} {b off cap:Nat} {ns:List Nd} {t:Tm} {X:Nat→Nat} {L:Nat→List Bool} {v13 v14:Value} {k k' :Nat} {w:World} (h:FS w0 r b off cap ns t X L v13 v14 k k' w):w.cell? ⟨w0.heap.size+3,0,none⟩=some (.int .i64 ns.length):=by rw [blk_cell h.kb];rfl
theorem FS.grow1 {w0:World} {r:Int} {b off cap:Nat} {ns:List Nd} {t:Tm} {X:Nat→Nat} {L:Nat→List Bool} {v13 v14 v' u:Value} {k k' :Nat} {w w' :World} {vs:List Value} (h:FS w0 r b off cap ns t X L v13 v14 k k' w) (hv:w.ownsRow w0.heap.size 54 1 v13 k vs) (hr:∀ m,m<k→∃ u,vs[m]?=some u∧w.ownsRow 0 3 1 u (nxl ns m).length ((ints (nxl ns m)).map (Value.int .i64))) (hu:w.ownsRow 0 3 1 u (nxl ns k).length ((ints (nxl ns k)).map (Value.int .i64))) (hown:w'.ownsRow w0.heap.size 54 1 v' (k+1) (vs++[u])) (hg:w.grownBy w' v13.ownBlock) (hat:v'.ownBlock=v13.ownBlock∨v'.ownBlock=some w.heap.size):FS w0 r b off cap ns t X L v' v14 (k+1) k' w' :=by
 have hk:∀ (q:Nat) (cs:Array Value) (ty:TypeId),ty≠54→w.heap[q]?=some (.cells cs ty (0,0))→w'.heap[q]?=some (.cells cs ty (0,0)):=fun q cs ty hty hq=>(hg.block q (blk_lt hq) (fun e=>own_row_ne hv hq hty e.symm)).trans hq
 obtain ⟨vs', hv', _⟩:=h.ah
 refine ⟨hk _ _ _ (by decide) h.pb,hk _ _ _ (by decide) h.tb,hk _ _ _ (by decide) h.rb,hk _ _ _ (by decide) h.kb,fun i hi=>hk _ _ _ (by decide) (h.blk i hi),h.len,h.inj,h.low,tab_more hv hr hu hown hg,h.ah.kept hg (fun g h1 h2=>h.dj g h2 h1) (fun g e=>(own_block hv g e).2.2),fun g hg' =>?_,h.bel.grown hg h.bel.size (fun q e=>(own_block hv q e).1)⟩
 rcases hat with e | e
 ·rw [e] at hg'; exact h.dj g hg'
 ·rw [e] at hg'
  intro q
  have:=(own_block hv' g q).2.1
  simp at hg'
  omega
theorem FS.grow2 {w0:World} {r:Int} {b off cap:Nat} {ns:List Nd} {t:Tm} {X:Nat→Nat} {L:Nat→List Bool} {v13 v14 v' u:Value} {k k' :Nat} {w w' :World} {vs:List Value} (h:FS w0 r b off cap ns t X L v13 v14 k k' w) (hv:w.ownsRow w0.heap.size 54 1 v14 k' vs) (hr:∀ m,m<k' →∃ u,vs[m]?=some u∧w.ownsRow 0 3 1 u (ahl ns m).length ((ints (ahl ns m)).map (Value.int .i64))) (hu:w.ownsRow 0 3 1 u (ahl ns k').length ((ints (ahl ns k')).map (Value.int .i64))) (hown:w'.ownsRow w0.heap.size 54 1 v' (k' +1) (vs++[u])) (hg:w.grownBy w' v14.ownBlock) (hat:v'.ownBlock=v14.ownBlock∨v'.ownBlock=some w.heap.size):FS w0 r b off cap ns t X L v13 v' k (k' +1) w' :=by
 have hk:∀ (q:Nat) (cs:Array Value) (ty:TypeId),ty≠54→w.heap[q]?=some (.cells cs ty (0,0))→w'.heap[q]?=some (.cells cs ty (0,0)):=fun q cs ty hty hq=>(hg.block q (blk_lt hq) (fun e=>own_row_ne hv hq hty e.symm)).trans hq
 obtain ⟨vs', hv', _⟩:=h.nx
 refine ⟨hk _ _ _ (by decide) h.pb,hk _ _ _ (by decide) h.tb,hk _ _ _ (by decide) h.rb,hk _ _ _ (by decide) h.kb,fun i hi=>hk _ _ _ (by decide) (h.blk i hi),h.len,h.inj,h.low,h.nx.kept hg (fun g h1 h2=>h.dj g h1 h2) (fun g e=>(own_block hv g e).2.2),tab_more hv hr hu hown hg,fun g hg' =>?_,h.bel.grown hg h.bel.size (fun q e=>(own_block hv q e).1)⟩
 rcases hat with e | e
 ·rw [e];exact h.dj g hg'
 ·rw [e]
  intro q
  have:=(own_block hv' g hg').2.1
  simp at q
  omega
theorem Tab.row {w:World} {base g c k m:Nat} {F:Nat→List Nat} (h:Tab w base (.slice (some ⟨g,0,none⟩) k c) k F) (hm:m<k):∃ a d,w.cell? ⟨g,m,none⟩=some (.slice a (F m).length d)∧IntsAt w a (ints (F m))∧g<w.heap.size:=by
 obtain ⟨g', c', a,d,e,h1,h2,h3⟩:=h.read hm
 simp at e
 obtain ⟨rfl,rfl⟩:=e
 exact ⟨a,d,h2,h3,h1⟩
theorem Tab.rowT {w:World} {base g c k m:Nat} {F:Nat→List Nat} (h:Tab w base (.slice (some ⟨g,0,none⟩) k c) k F) (hm:m<k):∃ a d,w.cell? ⟨g,m,none⟩=some (.slice a (F m).length d)∧w.ownsRow 0 3 1 (.slice a (F m).length d) (F m).length ((ints (F m)).map (Value.int .i64))∧g<w.heap.size:=by
 obtain ⟨vs,h1,h2⟩:=h
 obtain ⟨u,h3,h4⟩:=h2 m hm
 obtain ⟨a,d,rfl⟩:=owns_slice h4
 rcases h1.2 with ⟨e1,e2⟩ | ⟨g', c', cur,e,_,hg,_,_,_,hc⟩
 ·cases e1
 ·cases e
  refine ⟨a,d,?_,h4,blk_lt hg⟩
  rw [blk_cell hg]
  have:(cur.toList.take (k*1))[m]?=some (.slice a (F m).length d):=by rw [hc];exact h3
  rw [List.getElem?_take_of_lt (by omega)] at this
  simpa using this
theorem row_at {w:World} {a:Option Addr} {l:List Nat} {d q m:Nat} (h:w.ownsRow 0 3 1 (.slice a l.length d) l.length ((ints l).map (Value.int .i64))) (hq:l[q]?=some m):∃ bb oo,a=some ⟨bb,oo,none⟩∧bb<w.heap.size∧w.cell? ⟨bb,oo+q,none⟩=some (.int .i64 (m:Int))∧∃ cs,w.heap[bb]?=some (.cells cs 3 (0,0)):=by
 rcases h.2 with ⟨e1,e2⟩ | ⟨g,c,cur,e,_,hg,_,_,_,hc⟩
 ·rw [List.length_eq_zero_iff.1 e2] at hq;simp at hq
 ·cases e
  refine ⟨g,0,rfl,blk_lt hg,?_,cur,hg⟩
  rw [blk_cell hg,Nat.zero_add]
  have hql:=(List.getElem?_eq_some_iff.1 hq).1
  have:(cur.toList.take (l.length*1))[q]?=some (.int .i64 (m:Int)):=by rw [hc];simp [ints,hq]
  rw [List.getElem?_take_of_lt (by omega)] at this
  simpa using this
theorem bat_set_same {x:List Bool} {n:Nat} {b:Bool} (h:n<x.length):bat (x.set n b) n=b:=by rw [bat_set h,if_pos rfl]
theorem bat_set_self {x:List Bool} {n m:Nat} (h:n<x.length):bat (x.set n true) m=(m==n||bat x m):=by
 rw [bat_set h]
 by_cases e:m=n
 ·simp [e]
 ·simp [e]
def partL (E:List Bool) (n j:Nat):List Bool:=(List.range n).map fun i=>decide (i<j)&&bat E i
theorem partL_zero (E:List Bool) (n:Nat):partL E n 0=nol n:=by
 refine List.ext_getElem (by simp [partL,nol]) fun i h1 h2=>?_
 simp [partL,nol]
theorem partL_succ {E:List Bool} {n j:Nat} (h:j<n):partL E n (j+1)=(partL E n j).set j (bat E j):=by
 refine bat_ext (by simp [partL]) fun i hi=>?_
 have hi' :i<n:=by simpa [partL] using hi
 rw [bat_set (by simp [partL];exact h),partL,partL,bat_map _ hi', bat_map _ hi']
 by_cases e:i=j
 ·subst e;simp
 ·rw [if_neg e,decide_eq_decide.2 (show i<j+1↔i<j by omega)]
theorem partL_all {E:List Bool} {n:Nat} (h:E.length=n):partL E n n=E:=by
 refine bat_ext (by simp [partL,h]) fun i hi=>?_
 have hi' :i<n:=by simpa [partL] using hi
 rw [partL,bat_map _ hi']
 simp [hi']
theorem ints_at {w:World} {a:Option Addr} {l:List Nat} {q m:Nat} (h:IntsAt w a (ints l)) (hq:l[q]?=some m):∃ bb oo,a=some ⟨bb,oo,none⟩∧bb<w.heap.size∧w.cell? ⟨bb,oo+q,none⟩=some (.int .i64 (m:Int)):=by
 rcases h with h | ⟨bb,oo,rfl,h1,h2⟩
 ·cases l with
  | nil=>simp at hq
  | cons _ _=>simp [ints] at h
 ·exact ⟨bb,oo,rfl,h1,h2 q m (by simp [ints,hq])⟩
theorem FS.put {w0:World} {r:Int} {b off cap:Nat} {ns:List Nd} {t:Tm} {X:Nat→Nat} {L:Nat→List Bool} {v13 v14:Value} {k k' :Nat} {w:World} {i:Nat} {x:List Bool} (h:FS w0 r b off cap ns t X (putL L i x) v13 v14 k k' w) (hi:i<6) (m:Nat) (v:Bool):FS w0 r b off cap ns t X (putL L i (x.set m v)) v13 v14 k k' (w.setCell ⟨X i,m,none⟩ (.bool v)):=by
 have:=h.set hi m v
 rwa [putL_same,putL_putL] at this
theorem cell_set_ne {w:World} {b o:Nat} {q:Addr} {v:Value} (h:q.block≠b):(w.setCell ⟨b,o,none⟩ v).cell? q=w.cell? q:=World.cell?_of_block (Below.heap_setCell _ _ _ _ h)
def NC (w0:World) (r:Int) (b off cap n:Nat) (t:Tm) (m:Nat) (x:Nd) (u:World):Prop :=
 u.cell? ⟨w0.heap.size,0,none⟩=some (.int .i64 r)∧u.cell? ⟨w0.heap.size,1,none⟩=some (.slice (some ⟨b,off,none⟩) n cap)∧u.cell? ⟨w0.heap.size+1,0,none⟩=some (.int .i64 t.op)∧u.cell? ⟨w0.heap.size+1,1,none⟩=some (.int .i64 t.a)∧u.cell? ⟨w0.heap.size+1,2,none⟩=some (.int .i64 t.b)∧u.cell? ⟨b,off+m*6,none⟩=some (.int .i64 x.op)∧u.cell? ⟨b,off+m*6+1,none⟩=some (.int .i64 x.d)∧u.cell? ⟨b,off+m*6+2,none⟩=some (.int .i64 x.a)∧u.cell? ⟨b,off+m*6+3,none⟩=some (.int .i64 x.b)∧u.cell? ⟨b,off+m*6+4,none⟩=some (.int .i64 x.t)∧u.cell? ⟨b,off+m*6+5,none⟩=some (.int .i64 x.e)
theorem FS.nc {w0:World} {r:Int} {b off cap:Nat} {ns:List Nd} {t:Tm} {X:Nat→Nat} {L:Nat→List Bool} {v13 v14:Value} {k k' :Nat} {w:World} (h:FS w0 r b off cap ns t X L v13 v14 k k' w) (hN:NodesAt w0 b off ns) {m:Nat} {x:Nd} (hx:ns[m]?=some x):NC w0 r b off cap ns.length t m x w:=by
 have k3:=hN.below h.bel hN.lt
 refine ⟨?_,?_,?_,?_,?_,k3.c0 m x hx,k3.c1 m x hx,k3.c2 m x hx,k3.c3 m x hx,k3.c4 m x hx,k3.c5 m x hx⟩
 ·rw [blk_cell h.pb];rfl
 ·rw [blk_cell h.pb];rfl
 ·rw [blk_cell h.tb];rfl
 ·rw [blk_cell h.tb];rfl
 ·rw [blk_cell h.tb];rfl
theorem NC.set {w0:World} {r:Int} {b off cap n:Nat} {t:Tm} {m:Nat} {x:Nd} {u:World} {z o:Nat} {v:Value} (h:NC w0 r b off cap n t m x u) (h1:z≠w0.heap.size) (h2:z≠w0.heap.size+1) (h3:z≠b):NC w0 r b off cap n t m x (u.setCell ⟨z,o,none⟩ v):=by
 obtain ⟨a1,a2,a3,a4,a5,a6,a7,a8,a9,a10,a11⟩:=h
 refine ⟨?_,?_,?_,?_,?_,?_,?_,?_,?_,?_,?_⟩
 ·rw [cell_set_ne (Ne.symm h1)];exact a1
 ·rw [cell_set_ne (Ne.symm h1)];exact a2
 ·rw [cell_set_ne (Ne.symm h2)];exact a3
 ·rw [cell_set_ne (Ne.symm h2)];exact a4
 ·rw [cell_set_ne (Ne.symm h2)];exact a5
 ·rw [cell_set_ne (Ne.symm h3)];exact a6
 ·rw [cell_set_ne (Ne.symm h3)];exact a7
 ·rw [cell_set_ne (Ne.symm h3)];exact a8
 ·rw [cell_set_ne (Ne.symm h3)];exact a9
 ·rw [cell_set_ne (Ne.symm h3)];exact a10
 ·rw [cell_set_ne (Ne.symm h3)];exact a11
theorem FS.zne {w0:World} {r:Int} {b off cap:Nat} {ns:List Nd} {t:Tm} {X:Nat→Nat} {L:Nat→List Bool} {v13 v14:Value} {k k' :Nat} {w:World} (h:FS w0 r b off cap ns t X L v13 v14 k k' w) (hN:NodesAt w0 b off ns) {i:Nat} (hi:i<6):X i≠w0.heap.size∧X i≠w0.heap.size+1∧X i≠b :=
 ⟨blk_ne (h.blk i hi) h.pb (by decide),blk_ne (h.blk i hi) h.tb (by decide),fun e=>by have:=h.low i hi;have:=hN.lt;omega⟩
theorem yes1_any (n K:Nat) (w:World) (hn:n≤256) (hK:w.heap[K]?=some (.cells #[.int .i64 n] 3 (0,0))) :
 Calls Tryz.prog 53 #[.pointer (some ⟨K,0,none⟩)] w fun e w' =>e=.returned (.slice (some ⟨w.heap.size,0,none⟩) n n)∧w'.heap[w.heap.size]?=some (.cells ((yesl n).map Value.bool).toArray 4 (0,0))∧Below w.heap.size w w' :=by
 have hms:∀ W:World,Sem.run Tryz.prog (Instr.makeSlice 27 (.int .i64 (n:Int)) (.int .i64 (n:Int))) W=.ok (.slice (some ⟨W.heap.size,0,none⟩) n n) (W.alloc (.cells (madeCells #[.bool false] n) 4)):=fun W=>run_make_row' 27 4 _ 1 Tryz.underlying27 info_boolF rfl .i64 .i64 n (by omega) (by omega) W
 have k0:=blk_cell hK 0
 simp at k0
 have kl:=blk_lt hK
 go_enter Tryz.func53,Tryz.ntmps53
 go_wp2_with fail
 have hB0:Below w.heap.size w (w.alloc (.cells (madeCells #[.bool false] n) 4)):=(Below.refl _ w).alloc (Nat.le_refl _) _
 have hX0:(w.alloc (.cells (madeCells #[.bool false] n) 4)).heap[w.heap.size]?=some (.cells ((List.replicate 0 true++List.replicate (n-0) false).map Value.bool).toArray 4 (0,0)):=by
  rw [World.alloc_heap_new,made_boolsF];simp
 generalize (w.alloc (.cells (madeCells #[.bool false] n) 4))=W0 at hB0 hX0 ⊢
 have HX0:=hide hX0
 clear hX0 hms
 go_loopw [3] (fun i wr=>∃ k:Nat,k≤n∧i=.int .i64 k∧wr.heap[w.heap.size]?=some (.cells ((List.replicate k true++List.replicate (n-k) false).map Value.bool).toArray 4 (0,0))∧Below w.heap.size w wr) (fun i _=>n-(intOf i).toNat)
 case atStart=>exact ⟨0,Nat.zero_le _,rfl,HX0.out,hB0⟩
 case round =>
  obtain ⟨k,hk,rfl,hX,hb⟩:=hrel
  have hsz:=hb.size
  have hXl:=blk_lt hX
  have kr:=(hb.cell (p:=⟨K,0,none⟩) kl).trans k0
  have krl:=Nat.lt_of_lt_of_le kl hsz
  by_cases hlt:k<n
  ·have hxc:=blk_cell hX k
   rw [repl_get hlt] at hxc
   have hxf:=blk_frozen hX k
   have hli:(k:Int)<(n:Int):=by omega
   have HX:=hide hX
   have HB:=hide hb
   clear hX hb
   go_wp2
   go_roundw
   case rel =>
    refine ⟨k+1,by omega,by go_num,?_,HB.out.setCell (p:=⟨w.heap.size,k,none⟩) (Nat.le_refl _) _⟩
    rw [blk_set _ HX.out,← repl_set hlt]
    simp only [List.map_set,List.setIfInBounds_toArray]
   case measure=>simp [intOf];omega
  ·have ek:k=n:=by omega
   subst ek
   have hX' :wr.heap[w.heap.size]?=some (.cells ((yesl k).map Value.bool).toArray 4 (0,0)):=by rw [hX];simp [yesl]
   have HX:=hide hX'
   have HB:=hide hb
   clear hX hX' hb
   go_wp2
   go_ret
   exact ⟨rfl,HX.out,HB.out⟩
end Go.Proofs.YtnbdnbcnlgnicaaGreat
namespace Go.Proofs.YtnbdnbcnlgnicaaGreat
open Go
section
variable {P:Program} {ops:Array Oper} {Q:Exit→Act→World→Prop} {md:Region.Mode} {S:World→Prop} {fuel:Nat} {listed:Array Bool} {a:Act} {w:World}
theorem tkn (i:Nat) (oi:Oper) (h:wpAnyH P md ops Q S fuel (listed.setIfInBounds i true) (a.put oi.dst undef) w) (hQ:∀ c a w,Q (.panic c) (a.put oi.dst undef) w→Q (.panic c) a w:=by exact fun _ _ _ h=>h) (hi:ops[i]?=some oi:=by rfl)
 (hs:Region.noSelect ops=true:=by as_aux_lemma=>kernel_rfl) (hf:Region.free md ops listed i=true:=by as_aux_lemma=>kernel_rfl) (hr:(Region.ready md ops listed).contains i=true:=by as_aux_lemma=>kernel_rfl) (hw:Region.wanted oi (yielded ops a.tmps)=false:=by as_aux_lemma=>rfl) (hS:S w:=by assumption):wpAnyH P md ops Q S (fuel+1) listed a w :=
 wpAnyH_take (v:=undef) hi hs hf hr hQ (Or.inr ⟨hw,rfl⟩) hS h
theorem tky (i:Nat) (oi:Oper) {v:Value} (hv:∀ w,S w→(execOp a.eval oi).run P w=.ok (.value v) w) (h:wpAnyH P md ops Q S fuel (listed.setIfInBounds i true) (a.put oi.dst v) w) (hQ:∀ c a w,Q (.panic c) (a.put oi.dst v) w→Q (.panic c) a w:=by exact fun _ _ _ h=>h) (hi:ops[i]?=some oi:=by rfl)
 (hs:Region.noSelect ops=true:=by as_aux_lemma=>kernel_rfl) (hf:Region.free md ops listed i=true:=by as_aux_lemma=>kernel_rfl) (hr:(Region.ready md ops listed).contains i=true:=by as_aux_lemma=>kernel_rfl) (hw:Region.wanted oi (yielded ops a.tmps)=true:=by as_aux_lemma=>rfl) (hS:S w:=by assumption):wpAnyH P md ops Q S (fuel+1) listed a w :=
 wpAnyH_take hi hs hf hr hQ (Or.inl ⟨hw,hv⟩) hS h
end
theorem tW1 {α:Type} (l:List α) (i:Nat) (a:α):l.toArray.setIfInBounds i a=(l.set i a).toArray:=List.setIfInBounds_toArray l i a
theorem tW2 {α:Type} {x a:α} {xs:List α}:(x::xs).set 0 a=a::xs:=rfl
theorem tW3 {α:Type} {x a:α} {i:Nat} {xs:List α}:(x::xs).set (i+1) a=x::xs.set i a:=rfl
theorem cset {w:World} {b b' i j:Nat} {v:Value} (h:b≠b'):(w.setCell ⟨b', j,none⟩ v).cell? ⟨b,i,none⟩=w.cell? ⟨b,i,none⟩:=World.cell?_of_block (by simp [World.setCell,Array.getElem?_modify,Ne.symm h])
section
variable {P:Program} {ops:Array Oper} {Q:Exit→Act→World→Prop} {md:Region.Mode} {S:World→Prop} {fuel:Nat} {listed:Array Bool} {a a' :Act} {w:World} {oi:Oper} {v:Value}
theorem tkw (i:Nat) (h:wpAnyH P md ops Q S fuel (listed.setIfInBounds i true) a' w) (hi:ops[i]?=some oi:=by rfl) (hw:Region.wanted oi (yielded ops a.tmps)=true:=by as_aux_lemma=>rfl)
 (hv:∀ w,S w→(execOp a.eval oi).run P w=.ok (.value v) w:=by intro w hSw;(try dsimp only at hSw);go_simp;all_goals with_reducible rfl) (ha:a.put oi.dst v=a' :=by (try simp only [Act.put,tW1,tW2,tW3]);rfl)
 (hQ:∀ c a w,Q (.panic c) (a.put oi.dst v) w→Q (.panic c) a w:=by first | exact hQp _ _ | exact fun _ _ _ h=>h) (hs:Region.noSelect ops=true:=by as_aux_lemma=>kernel_rfl) (hf:Region.free md ops listed i=true:=by as_aux_lemma=>kernel_rfl) (hr:(Region.ready md ops listed).contains i=true:=by as_aux_lemma=>kernel_rfl) (hS:S w:=by assumption):wpAnyH P md ops Q S (fuel+1) listed a w :=
 wpAnyH_take hi hs hf hr hQ (Or.inl ⟨hw,hv⟩) hS (by rw [ha];exact h)
theorem tkx (i:Nat) (h:wpAnyH P md ops Q S fuel (listed.setIfInBounds i true) a' w) (hi:ops[i]?=some oi:=by rfl) (hw:Region.wanted oi (yielded ops a.tmps)=false:=by as_aux_lemma=>rfl) (ha:a.put oi.dst undef=a' :=by (try simp only [Act.put,tW1,tW2,tW3]);rfl)
 (hQ:∀ c a w,Q (.panic c) (a.put oi.dst undef) w→Q (.panic c) a w:=by first | exact hQp _ _ | exact fun _ _ _ h=>h) (hs:Region.noSelect ops=true:=by as_aux_lemma=>kernel_rfl) (hf:Region.free md ops listed i=true:=by as_aux_lemma=>kernel_rfl) (hr:(Region.ready md ops listed).contains i=true:=by as_aux_lemma=>kernel_rfl) (hS:S w:=by assumption):wpAnyH P md ops Q S (fuel+1) listed a w :=
 wpAnyH_take (v:=undef) hi hs hf hr hQ (Or.inr ⟨hw,rfl⟩) hS (by rw [ha];exact h)
theorem tkv {k:Nat} (h:wpAnyH P md ops Q S fuel ((listed.setIfInBounds k true).setIfInBounds (k+1) true) a' w) (hi:ops[k+1]?=some oi:=by rfl) (hw:Region.wanted oi (yielded ops a.tmps)=true:=by as_aux_lemma=>rfl)
 (hv:∀ w,S w→(execOp a.eval oi).run P w=.ok (.value v) w:=by intro w hSw;(try dsimp only at hSw);go_simp;all_goals with_reducible rfl) (ha:a.put oi.dst v=a' :=by (try simp only [Act.put,tW1,tW2,tW3]);rfl)
 (hQ:∀ c a w,Q (.panic c) (a.put oi.dst v) w→Q (.panic c) a w:=by first | exact hQp _ _ | exact fun _ _ _ h=>h) (hs:Region.noSelect ops=true:=by as_aux_lemma=>kernel_rfl) (hf:Region.free md ops (listed.setIfInBounds k true) (k+1)=true:=by as_aux_lemma=>kernel_rfl) (hr:(Region.ready md ops (listed.setIfInBounds k true)).contains (k+1)=true:=by as_aux_lemma=>kernel_rfl) (hS:S w:=by assumption):wpAnyH P md ops Q S (fuel+1) (listed.setIfInBounds k true) a w :=
 tkw (k+1) h hi hw hv ha hQ hs hf hr hS
theorem tku {k:Nat} (h:wpAnyH P md ops Q S fuel ((listed.setIfInBounds k true).setIfInBounds (k+1) true) a' w) (hi:ops[k+1]?=some oi:=by rfl) (hw:Region.wanted oi (yielded ops a.tmps)=false:=by as_aux_lemma=>rfl) (ha:a.put oi.dst undef=a' :=by (try simp only [Act.put,tW1,tW2,tW3]);rfl)
 (hQ:∀ c a w,Q (.panic c) (a.put oi.dst undef) w→Q (.panic c) a w:=by first | exact hQp _ _ | exact fun _ _ _ h=>h) (hs:Region.noSelect ops=true:=by as_aux_lemma=>kernel_rfl) (hf:Region.free md ops (listed.setIfInBounds k true) (k+1)=true:=by as_aux_lemma=>kernel_rfl) (hr:(Region.ready md ops (listed.setIfInBounds k true)).contains (k+1)=true:=by as_aux_lemma=>kernel_rfl) (hS:S w:=by assumption):wpAnyH P md ops Q S (fuel+1) (listed.setIfInBounds k true) a w :=
 tkx (k+1) h hi hw ha hQ hs hf hr hS
theorem tkr (i:Nat) (h:∀ K' :Act→World→Prop,Go.Shut (∀ a w,S w→(S w→wpAnyH P md ops Q S fuel (listed.setIfInBounds i true) a w)→K' a w)→if Region.wanted oi (yielded ops a.tmps)=true then Oper.wp P oi a w K' Q else K' (a.put oi.dst undef) w) (hi:ops[i]?=some oi:=by rfl) (hr:Region.ready md ops listed=[i]:=by as_aux_lemma=>kernel_rfl):wpAnyH P md ops Q S (fuel+1) listed a w :=
 wpAnyH_ready hr (by simp) (AllReadyH.cons hi h AllReadyH.nil)
end
section
variable {P:Program} {ops:Array Oper} {Q:Exit→Act→World→Prop} {md:Region.Mode} {S:World→Prop} {s:Nat}
def wpAnyL (P:Program) (md:Region.Mode) (ops:Array Oper) (Q:Exit→Act→World→Prop) (S:World→Prop) (s:Nat):Nat→Array Bool→Act→World→Prop
 | 0,listed,a,w=>Region.ready md ops listed=[]∧Q .normal a w
 | fuel+1,listed,a,w=>(Region.ready md ops listed=[]→Q .normal a w)∧∀ i∈Region.ready md ops listed,wpOp P ops Q i (fun a' w' =>((listed.setIfInBounds i true).getD s true=false→S w')∧wpAnyL P md ops Q S s fuel (listed.setIfInBounds i true) a' w') a w
theorem wpAny_of_L:∀ (fuel:Nat) (listed:Array Bool) (a:Act) (w:World),wpAnyL P md ops Q S s fuel listed a w→wpAny P md ops Q fuel listed a w
 | 0,_,_,_,h=>h
 | fuel+1,_,_,_,h=>⟨h.1,fun i hi=>wpOp_mono (fun a' w' h' =>wpAny_of_L fuel _ a' w' h'.2) (h.2 i hi)⟩
def waits (md:Region.Mode) (ops:Array Oper) (s i:Nat):Bool:=s != i&&match ops[s]? with
 | some o=>o.after.any fun e=>Region.binds md e&&e.on==i
 | none=>false
theorem wpAnyL_first {i:Nat} {oi:Oper} {v:Value} (hi:ops[i]?=some oi) (hsel:∀ (j:Nat) (o:Oper) cs b,ops[j]?=some o→o.op≠ .select cs b)
 (hQ:∀ c a w,Q (.panic c) (a.put oi.dst v) w→Q (.panic c) a w) (hw:waits md ops s i=true) :
 ∀ (fuel:Nat) (listed:Array Bool) (a:Act) (w:World),
  (∀ j oj,ops[j]?=some oj→j≠i→listed.getD j true=false→(∀ e∈oj.after,Region.binds md e=true→e.on≠i)→oi.apart ops oj=true) →
  i∈Region.ready md ops listed→YieldsIf P ops S oi v a→S w→listed.getD s true=false →
  wpAnyL P md ops Q S s fuel (listed.setIfInBounds i true) (a.put oi.dst v) w→wpAnyL P md ops Q S s (fuel+1) listed a w:=by
 have hsi:s≠i:=by simp only [waits,Bool.and_eq_true,bne_iff_ne] at hw;exact hw.1
 have hdep:∃ os,ops[s]?=some os∧∃ e∈os.after,Region.binds md e=true∧e.on=i:=by
  simp only [waits,Bool.and_eq_true] at hw
  have h2:=hw.2
  cases ho:ops[s]? with
  | none=>rw [ho] at h2;simp at h2
  | some os =>
   rw [ho] at h2
   simp only [Array.any_eq_true', Bool.and_eq_true,beq_iff_eq] at h2
   obtain ⟨e,he,hb,ho'⟩:=h2
   exact ⟨os,rfl,e,he,hb,ho'⟩
 intro fuel
 induction fuel with
 | zero =>
  intro listed a w _ hr hy hS _ H
  refine ⟨fun h=>(by rw [h] at hr;cases hr),fun j hj=>?_⟩
  by_cases hji:j=i
  ·subst hji;exact hy.wpOp hi hS ⟨fun _=>hS,H⟩
  ·have:=ready_mono hj hji
   rw [H.1] at this
   cases this
 | succ fuel ih =>
  intro listed a w hfree hr hy hS hun H
  refine ⟨fun h=>(by rw [h] at hr;cases hr),fun j hj=>?_⟩
  by_cases hji:j=i
  ·subst hji;exact hy.wpOp hi hS ⟨fun _=>hS,H⟩
  ·have h1:=H.2 j (ready_mono hj hji)
   obtain ⟨hjun,oj,hoj,hall⟩:=mem_ready.1 hj
   have hnot:∀ e∈oj.after,Region.binds md e=true→e.on≠i:=fun e he hb heq=>by
    have h1:=hall e he hb
    have h0:=(mem_ready.1 hr).1
    rw [heq] at h1
    rcases Nat.lt_or_ge i listed.size with h' | h'
    ·simp [h'] at h0 h1;rw [h0] at h1;cases h1
    ·simp [Array.getElem?_eq_none h'] at h1
   have hjs:j≠s:=fun e=>by
    subst e
    obtain ⟨os,ho,e,he,hb,he'⟩:=hdep
    rw [ho] at hoj
    cases hoj
    exact hnot e he hb he'
   have h2:=wpOp_putIf hoj (hfree j oj hoj hji hjun hnot) (fun cs b=>hsel i oi cs b hi) (fun cs b=>hsel j oj cs b hoj) hQ hy h1
   have hfree' :∀ k ok,ops[k]?=some ok→k≠i→(listed.setIfInBounds j true).getD k true=false →
    (∀ e∈ok.after,Region.binds md e=true→e.on≠i)→oi.apart ops ok=true:=fun k ok hk hki hun hno=>by
    refine hfree k ok hk hki ?_ hno
    by_cases hjk:j=k
    ·subst hjk;exact hjun
    ·rw [getD_set_ne true hjk] at hun;exact hun
   have hu1:(listed.setIfInBounds j true).getD s true=false:=by rw [getD_set_ne true hjs];exact hun
   have hu2:((listed.setIfInBounds i true).setIfInBounds j true).getD s true=false:=by rw [getD_set_ne true hjs,getD_set_ne true (Ne.symm hsi)];exact hun
   refine wpOp_mono (fun a' w' h3=>⟨fun _=>h3.2.1 hu2,ih (listed.setIfInBounds j true) a' w' hfree' (ready_mono hr (Ne.symm hji)) h3.1 (h3.2.1 hu2) hu1 ?_⟩) h2
   rw [Array.setIfInBounds_comm _ _ hji]
   exact h3.2.2
theorem wp_region_L (s:Nat) {id:Nat} {a:Act} {w:World} (hm:P.follows .mixedOrders=true) (hS:S w.drew)
 (h:S w.drew→wpAnyL P .any ops Q S s ops.size (Array.replicate ops.size false) a w.drew):(Code.region id ops true).wp P Q a w :=
 wp_region_any hm (wpAny_of_L _ _ _ _ (h hS))
variable {fuel:Nat} {listed:Array Bool} {a a' :Act} {w:World} {oi:Oper} {v:Value}
theorem tlw (i:Nat) (h:wpAnyL P md ops Q S s fuel (listed.setIfInBounds i true) a' w) (hi:ops[i]?=some oi:=by rfl) (hw:Region.wanted oi (yielded ops a.tmps)=true:=by as_aux_lemma=>kernel_rfl)
 (hv:∀ w,S w→(execOp a.eval oi).run P w=.ok (.value v) w:=by intro w hSw;(try dsimp only at hSw);go_simp;all_goals with_reducible rfl) (ha:a.put oi.dst v=a' :=by (try simp only [Act.put,tW1,tW2,tW3]);rfl)
 (hQ:∀ c a w,Q (.panic c) (a.put oi.dst v) w→Q (.panic c) a w:=by first | exact hQp _ _ | exact fun _ _ _ h=>h) (hs:(Region.noSelect ops&&Region.free md ops listed i&&(Region.ready md ops listed).contains i&&waits md ops s i&&!listed.getD s true)=true:=by as_aux_lemma=>kernel_rfl) (hS:S w:=by assumption):wpAnyL P md ops Q S s (fuel+1) listed a w:=by
 simp only [Bool.and_eq_true,Bool.not_eq_true'] at hs
 obtain ⟨⟨⟨⟨h1,h2⟩,h3⟩,h4⟩,h5⟩:=hs
 exact wpAnyL_first hi (Region.noSelect_spec h1) hQ h4 fuel listed a w (Region.free_spec hi h2) (by simpa using h3) (Or.inl ⟨hw,hv⟩) hS h5 (by rw [ha];exact h)
theorem tlx (i:Nat) (h:wpAnyL P md ops Q S s fuel (listed.setIfInBounds i true) a' w) (hi:ops[i]?=some oi:=by rfl) (hw:Region.wanted oi (yielded ops a.tmps)=false:=by as_aux_lemma=>kernel_rfl) (ha:a.put oi.dst undef=a' :=by (try simp only [Act.put,tW1,tW2,tW3]);rfl)
 (hQ:∀ c a w,Q (.panic c) (a.put oi.dst undef) w→Q (.panic c) a w:=by first | exact hQp _ _ | exact fun _ _ _ h=>h) (hs:(Region.noSelect ops&&Region.free md ops listed i&&(Region.ready md ops listed).contains i&&waits md ops s i&&!listed.getD s true)=true:=by as_aux_lemma=>kernel_rfl) (hS:S w:=by assumption):wpAnyL P md ops Q S s (fuel+1) listed a w:=by
 simp only [Bool.and_eq_true,Bool.not_eq_true'] at hs
 obtain ⟨⟨⟨⟨h1,h2⟩,h3⟩,h4⟩,h5⟩:=hs
 exact wpAnyL_first (v:=undef) hi (Region.noSelect_spec h1) hQ h4 fuel listed a w (Region.free_spec hi h2) (by simpa using h3) (Or.inr ⟨hw,rfl⟩) hS h5 (by rw [ha];exact h)
theorem tlv {k:Nat} (h:wpAnyL P md ops Q S s fuel ((listed.setIfInBounds k true).setIfInBounds (k+1) true) a' w) (hi:ops[k+1]?=some oi:=by rfl) (hw:Region.wanted oi (yielded ops a.tmps)=true:=by as_aux_lemma=>kernel_rfl)
 (hv:∀ w,S w→(execOp a.eval oi).run P w=.ok (.value v) w:=by intro w hSw;(try dsimp only at hSw);go_simp;all_goals with_reducible rfl) (ha:a.put oi.dst v=a' :=by (try simp only [Act.put,tW1,tW2,tW3]);rfl)
 (hQ:∀ c a w,Q (.panic c) (a.put oi.dst v) w→Q (.panic c) a w:=by first | exact hQp _ _ | exact fun _ _ _ h=>h) (hs:(Region.noSelect ops&&Region.free md ops (listed.setIfInBounds k true) (k+1)&&(Region.ready md ops (listed.setIfInBounds k true)).contains (k+1)&&waits md ops s (k+1)&&!(listed.setIfInBounds k true).getD s true)=true:=by as_aux_lemma=>kernel_rfl) (hS:S w:=by assumption):wpAnyL P md ops Q S s (fuel+1) (listed.setIfInBounds k true) a w :=
 tlw (k+1) h hi hw hv ha hQ hs hS
theorem tlu {k:Nat} (h:wpAnyL P md ops Q S s fuel ((listed.setIfInBounds k true).setIfInBounds (k+1) true) a' w) (hi:ops[k+1]?=some oi:=by rfl) (hw:Region.wanted oi (yielded ops a.tmps)=false:=by as_aux_lemma=>kernel_rfl) (ha:a.put oi.dst undef=a' :=by (try simp only [Act.put,tW1,tW2,tW3]);rfl)
 (hQ:∀ c a w,Q (.panic c) (a.put oi.dst undef) w→Q (.panic c) a w:=by first | exact hQp _ _ | exact fun _ _ _ h=>h) (hs:(Region.noSelect ops&&Region.free md ops (listed.setIfInBounds k true) (k+1)&&(Region.ready md ops (listed.setIfInBounds k true)).contains (k+1)&&waits md ops s (k+1)&&!(listed.setIfInBounds k true).getD s true)=true:=by as_aux_lemma=>kernel_rfl) (hS:S w:=by assumption):wpAnyL P md ops Q S s (fuel+1) (listed.setIfInBounds k true) a w :=
 tlx (k+1) h hi hw ha hQ hs hS
theorem tlr (i:Nat) (h:∀ K' :Act→World→Prop,Go.Shut (∀ a w,S w→(S w→wpAnyL P md ops Q S s fuel (listed.setIfInBounds i true) a w)→K' a w)→if Region.wanted oi (yielded ops a.tmps)=true then Oper.wp P oi a w K' Q else K' (a.put oi.dst undef) w) (hi:ops[i]?=some oi:=by rfl) (hr:Region.ready md ops listed=[i]:=by as_aux_lemma=>kernel_rfl):wpAnyL P md ops Q S s (fuel+1) listed a w:=by
 refine ⟨fun h0=>(by rw [hr] at h0;cases h0),fun j hj=>?_⟩
 rw [hr,List.mem_singleton] at hj
 subst hj
 exact wpOp_step hi (fun K' hK=>h K' (fun a w hS hW=>hK a w ⟨fun _=>hS,hW hS⟩))
theorem tls (i:Nat) (h:∀ K' :Act→World→Prop,Go.Shut (∀ a w,wpAnyL P md ops Q S i fuel (listed.setIfInBounds i true) a w→K' a w)→if Region.wanted oi (yielded ops a.tmps)=true then Oper.wp P oi a w K' Q else K' (a.put oi.dst undef) w) (hi:ops[i]?=some oi:=by rfl) (hr:Region.ready md ops listed=[i]:=by as_aux_lemma=>kernel_rfl):wpAnyL P md ops Q S i (fuel+1) listed a w:=by
 refine ⟨fun h0=>(by rw [hr] at h0;cases h0),fun j hj=>?_⟩
 rw [hr,List.mem_singleton] at hj
 subst hj
 exact wpOp_step hi (fun K' hK=>h K' (fun a w hW=>hK a w ⟨fun h0=>(by
  rw [Array.getD_eq_getD_getElem?,Array.getElem?_setIfInBounds,if_pos rfl] at h0
  split at h0 <;> cases h0),hW⟩))
theorem wpAnyL_done (hr:Region.ready md ops listed=[]) (h:Q .normal a w):∀ fuel,wpAnyL P md ops Q S s fuel listed a w
 | 0=>⟨hr,h⟩
 | _+1=>⟨fun _=>h,by rw [hr];simp⟩
end
end Go.Proofs.YtnbdnbcnlgnicaaGreat
