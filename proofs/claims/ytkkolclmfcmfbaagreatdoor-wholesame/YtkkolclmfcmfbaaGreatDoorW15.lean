/-
  Of the proof of WholeSame: NE, HH, ZC, ZD, PL, ZF, ZG, ZH, PM, ZE, TY.
-/
import Derived.Test.YtkkolclmfcmfbaaGreatDoorW4
import Derived.Test.YtkkolclmfcmfbaaGreatDoorW5
import Derived.Test.YtkkolclmfcmfbaaGreatDoorW7
import Derived.Test.YtkkolclmfcmfbaaGreatDoorW8
import Derived.Test.YtkkolclmfcmfbaaGreatDoorW9
import Derived.Test.YtkkolclmfcmfbaaGreatDoorW13
import Derived.Test.YtkkolclmfcmfbaaGreatDoorW14
import Derived.ScopeJumps
import Derived.WalkMore
set_option linter.unusedVariables false
set_option linter.unusedSimpArgs false
set_option maxHeartbeats 40000000
namespace Go.Proofs.YtkkolclmfcmfbaaGreatDoor
open Go.RowKit Go.Shelf
theorem cells_setN {w:World} {b k:Nat} (h:k≠b) (o:Nat) (v:Value):(w.setCell ⟨b,o,none⟩ v).heap[k]?=w.heap[k]? :=Below.heap_setCell _ _ _ _ h
theorem clone_fit (b off cap:Nat) (ns:List Nd) (w:World) (hN:NodesAt w b off ns) (hl:1≤ns.length∧ns.length≤512) :
 Calls Tryz.prog 15 #[.slice (some ⟨b,off,none⟩) ns.length cap] w fun e w' =>∃ cb cc,e=.returned (.slice (some ⟨cb,0,none⟩) ns.length cc)∧w'.ownsRow w.heap.size 48 6 (.slice (some ⟨cb,0,none⟩) ns.length cc) ns.length (ns.flatMap encNd)∧Below w.heap.size w w' :=by
 refine (callsIn_wide.1 (clone_in 1 b off cap ns w hN hl)).mono ?_
 rintro e w' ⟨v,rfl,hv,hB⟩
 rcases hv.2 with ⟨_,q⟩ | ⟨g,vc,cur,rfl,_⟩
 ·omega
 ·exact ⟨g,vc,rfl,hv,hB⟩
theorem nodes_own {w:World} {base cb cc:Nat} {e:TypeId} {ns:List Nd} (h:w.ownsRow base e 6 (.slice (some ⟨cb,0,none⟩) ns.length cc) ns.length (ns.flatMap encNd)) (hl:1≤ns.length):NodesAt w cb 0 ns:=by
 obtain ⟨a,c,e,hs⟩:=nodes_of_owns h
 cases e
 obtain ⟨b', o', e,hn⟩:=hs.some hl
 cases e
 exact hn
set_option maxRecDepth 100000 in
theorem layOutL_any (r:Int) (b off cap:Nat) (ns:List Nd) (w:World) (hN:NodesAt w b off ns) (hc:chk r ns=0) :
 Calls Tryz.prog 54 #[.agg #[.int .i64 r,.slice (some ⟨b,off,none⟩) ns.length cap]] w fun e w' =>∃ cb cc rb ab,e=.returned (.agg #[.slice (some ⟨cb,0,none⟩) ns.length cc,.slice (some ⟨rb,0,none⟩) ns.length ns.length,.slice (some ⟨ab,0,none⟩) ns.length ns.length])∧w'.ownsRow w.heap.size 48 6 (.slice (some ⟨cb,0,none⟩) ns.length cc) ns.length (ns.flatMap encNd)∧RowsT w' rb ns.length (nxl ns)∧RowsT w' ab ns.length (ahl ns)∧Below w.heap.size w w' :=by
 have HC:=hide hc
 have HN:=hide hN
 have hl:=(chk_full hc).1
 clear hc hN
 have hbA:Below w.heap.size w ((w.alloc (.cells #[.int .i64 r,.slice (some ⟨b,off,none⟩) ns.length cap] 24)).alloc (.cells #[.slice none 0 0,.slice none 0 0,.slice none 0 0] 107)):=((Below.refl _ w).alloc (Nat.le_refl _) _).alloc (by simp) _
 have hp:((w.alloc (.cells #[.int .i64 r,.slice (some ⟨b,off,none⟩) ns.length cap] 24)).alloc (.cells #[.slice none 0 0,.slice none 0 0,.slice none 0 0] 107)).heap[w.heap.size]?=some (.cells #[.int .i64 r,.slice (some ⟨b,off,none⟩) ns.length cap] 24 (0,0)):=(Below.heap_alloc _ _ _ (by simp)).trans (World.alloc_heap_new w _)
 have hq:((w.alloc (.cells #[.int .i64 r,.slice (some ⟨b,off,none⟩) ns.length cap] 24)).alloc (.cells #[.slice none 0 0,.slice none 0 0,.slice none 0 0] 107)).heap[w.heap.size+1]?=some (.cells #[.slice none 0 0,.slice none 0 0,.slice none 0 0] 107 (0,0)):=by
  have:=World.alloc_heap_new (w.alloc (.cells #[.int .i64 r,.slice (some ⟨b,off,none⟩) ns.length cap] 24)) (.cells #[.slice none 0 0,.slice none 0 0,.slice none 0 0] 107)
  rwa [World.size_alloc] at this
 go_enter Tryz.func54,Tryz.ntmps54
 go_upto_region 1 with fail
 generalize ((w.alloc (.cells #[.int .i64 r,.slice (some ⟨b,off,none⟩) ns.length cap] 24)).alloc (.cells #[.slice none 0 0,.slice none 0 0,.slice none 0 0] 107))=W at hbA hp hq ⊢
 have HH:Hid (∀ u:World,Below W.heap.size W u→u.heap[w.heap.size]?=some (.cells #[.int .i64 r,.slice (some ⟨b,off,none⟩) ns.length cap] 24 (0,0))∧u.heap[w.heap.size+1]?=some (.cells #[.slice none 0 0,.slice none 0 0,.slice none 0 0] 107 (0,0))):=fun u h=>⟨(h.block _ (blk_lt hp)).trans hp,(h.block _ (blk_lt hq)).trans hq⟩
 have HS:Hid (∀ u:World,Below W.heap.size W u→u.cell? ⟨w.heap.size,0,none⟩=some (.int .i64 r)∧u.cell? ⟨w.heap.size,1,none⟩=some (.slice (some ⟨b,off,none⟩) ns.length cap)):=fun u h=>by
  obtain ⟨k1,_⟩:=HH.out u h
  refine ⟨?_,?_⟩
  ·rw [blk_cell k1];rfl
  ·rw [blk_cell k1];rfl
 have HNN:Hid (∀ u:World,Below W.heap.size W u→NodesAt u b off ns):=fun u h=>HN.out.below (hbA.trans (h.mono hbA.size)) HN.out.lt
 have HW:=hide hbA
 have hCC:=HC.out
 clear hp hq hbA
 have XF:Hid (∀ u:World,Below W.heap.size W u→∀ k,k<3→u.cell? ⟨w.heap.size+1,k,none⟩=#[.slice none 0 0,.slice none 0 0,.slice none 0 0][k]?∧u.frozen? ⟨w.heap.size+1,k,none⟩=false):=fun u h k _=>⟨blk_cell (HH.out u h).2 k,blk_frozen (HH.out u h).2 k⟩
 have HSet:Hid (∀ (u:World) (v0 v1 v2:Value),(u.cell? ⟨w.heap.size,0,none⟩=some (.int .i64 r)∧u.cell? ⟨w.heap.size,1,none⟩=some (.slice (some ⟨b,off,none⟩) ns.length cap))→(((u.setCell ⟨w.heap.size+1,0,none⟩ v0).setCell ⟨w.heap.size+1,1,none⟩ v1).setCell ⟨w.heap.size+1,2,none⟩ v2).cell? ⟨w.heap.size,0,none⟩=some (.int .i64 r)∧(((u.setCell ⟨w.heap.size+1,0,none⟩ v0).setCell ⟨w.heap.size+1,1,none⟩ v1).setCell ⟨w.heap.size+1,2,none⟩ v2).cell? ⟨w.heap.size,1,none⟩=some (.slice (some ⟨b,off,none⟩) ns.length cap)):=fun u v0 v1 v2 h=>by
  have e:∀ (B k:Nat),B≠w.heap.size+1→(((u.setCell ⟨w.heap.size+1,0,none⟩ v0).setCell ⟨w.heap.size+1,1,none⟩ v1).setCell ⟨w.heap.size+1,2,none⟩ v2).cell? ⟨B,k,none⟩=u.cell? ⟨B,k,none⟩:=fun B k h=>World.cell?_of_block (by
   show (((u.setCell ⟨w.heap.size+1,0,none⟩ v0).setCell ⟨w.heap.size+1,1,none⟩ v1).setCell ⟨w.heap.size+1,2,none⟩ v2).heap[B]?=u.heap[B]?
   simp only [cells_setN h])
  simp only [e w.heap.size _ (by omega)]
  exact h
 go_region_held3 (fun u=>u.cell? ⟨w.heap.size,0,none⟩=some (.int .i64 r)∧u.cell? ⟨w.heap.size,1,none⟩=some (.slice (some ⟨b,off,none⟩) ns.length cap)) (first
  | (with_reducible refine HSet.out _ _ _ _ ?_;exact HS.out _ hB3)
  | (with_reducible refine HS.out _ ?_;first | with_reducible exact hB3 | with_reducible exact hB2 | with_reducible exact hB1 | with_reducible exact (Below.refl _ W).drew | with_reducible exact (Below.refl _ W))) (first
  | (go_at_call 15;refine (clone_fit b off cap ns _ (by first | exact HNN.out _ (Below.refl _ W).drew | exact HNN.out _ (Below.refl _ W)) (by omega)).mono ?_;rintro e wa ⟨cb,cc,rfl,hV1,hba⟩;have hB1:Below W.heap.size W wa:=(by first | exact (Below.refl _ W).drew.trans hba | exact hba);have hsb:W.heap.size≤wa.heap.size:=hB1.size)
  | (go_at_call 80;refine (linksNext_rows r b off cap ns _ (HNN.out _ hB1) hCC).mono ?_;rintro e wb ⟨rb,rfl,hR1,hbb⟩;have hB2:Below W.heap.size W wb:=hB1.trans (hbb.mono hB1.size))
  | (go_at_call 49;refine (linksAhead_rows r b off cap ns _ (HNN.out _ hB2) hCC).mono ?_;rintro e wcc ⟨ab,rfl,hR2,hbc⟩;have hB3:Below W.heap.size W wcc:=hB2.trans (hbc.mono hB2.size);have x0:=XF.out _ hB3 0 (by decide);have x1:=XF.out _ hB3 1 (by decide);have x2:=XF.out _ hB3 2 (by decide);simp at x0 x1 x2;have xl:=blk_lt (HH.out _ hB3).2;obtain ⟨x00,x01⟩:=x0;obtain ⟨x10,x11⟩:=x1;obtain ⟨x20,x21⟩:=x2))
 all_goals have HV:=hide (ownsRow_base (ownsRow_below (ownsRow_below hV1 hbb (Nat.le_refl _)) hbc (Nat.le_refl _)) (base' :=w.heap.size) (by have:=HW.out.size;simp;omega))
 all_goals have k0:=blk_set (i:=0) (.slice (some ⟨cb,0,none⟩) ns.length cc) (HH.out _ hB3).2
 all_goals have k1:=blk_set (i:=1) (.slice (some ⟨rb,0,none⟩) ns.length ns.length) k0
 all_goals have k2:=blk_set (i:=2) (.slice (some ⟨ab,0,none⟩) ns.length ns.length) k1
 all_goals have T0:=owns_set (o:=2) (u:=.slice (some ⟨ab,0,none⟩) ns.length ns.length) (owns_set (o:=1) (u:=.slice (some ⟨rb,0,none⟩) ns.length ns.length) (owns_set (o:=0) (u:=.slice (some ⟨cb,0,none⟩) ns.length cc) HV.out (HH.out _ hB3).2 (by decide)) k0 (by decide)) k1 (by decide)
 all_goals have T1:=(((hR1.below hbc).set (o:=0) (u:=.slice (some ⟨cb,0,none⟩) ns.length cc) (HH.out _ hB3).2 (by decide) (by decide)).set (o:=1) (u:=.slice (some ⟨rb,0,none⟩) ns.length ns.length) k0 (by decide) (by decide)).set (o:=2) (u:=.slice (some ⟨ab,0,none⟩) ns.length ns.length) k1 (by decide) (by decide)
 all_goals have T2:=((hR2.set (o:=0) (u:=.slice (some ⟨cb,0,none⟩) ns.length cc) (HH.out _ hB3).2 (by decide) (by decide)).set (o:=1) (u:=.slice (some ⟨rb,0,none⟩) ns.length ns.length) k0 (by decide) (by decide)).set (o:=2) (u:=.slice (some ⟨ab,0,none⟩) ns.length ns.length) k1 (by decide) (by decide)
 all_goals have hBf:=(((HW.out.trans (hB3.mono HW.out.size)).setCell (p:=⟨w.heap.size+1,0,none⟩) (by simp) (.slice (some ⟨cb,0,none⟩) ns.length cc)).setCell (p:=⟨w.heap.size+1,1,none⟩) (by simp) (.slice (some ⟨rb,0,none⟩) ns.length ns.length)).setCell (p:=⟨w.heap.size+1,2,none⟩) (by simp) (.slice (some ⟨ab,0,none⟩) ns.length ns.length)
 all_goals clear k0 k1 hR1 hR2 hV1 x00 x01 x10 x11 x20 x21
 all_goals simp only [List.setIfInBounds_toArray,List.set_cons_zero,List.set_cons_succ] at k2
 all_goals go_wp2_with fail
 all_goals generalize (((wcc.setCell ⟨w.heap.size+1,0,none⟩ (.slice (some ⟨cb,0,none⟩) ns.length cc)).setCell ⟨w.heap.size+1,1,none⟩ (.slice (some ⟨rb,0,none⟩) ns.length ns.length)).setCell ⟨w.heap.size+1,2,none⟩ (.slice (some ⟨ab,0,none⟩) ns.length ns.length))=Wf at k2 T0 T1 T2 hBf ⊢
 all_goals have y0:=blk_cell k2 0
 all_goals have y1:=blk_cell k2 1
 all_goals have y2:=blk_cell k2 2
 all_goals simp at y0 y1 y2
 all_goals exact bodyPost_ret (v:=(.agg #[.slice (some ⟨cb,0,none⟩) ns.length cc,.slice (some ⟨rb,0,none⟩) ns.length ns.length,.slice (some ⟨ab,0,none⟩) ns.length ns.length])) (by simp [results,Tryz.results54,go_sem,y0,y1,y2]) rfl ⟨cb,cc,rb,ab,rfl,T0,T1,T2,hBf⟩
theorem PN1 {α:Type} (l:List α) (i:Nat) (a:α):l.toArray.setIfInBounds i a=(l.set i a).toArray:=List.setIfInBounds_toArray l i a
theorem PN2 {α:Type} {x a:α} {xs:List α}:(x::xs).set 0 a=a::xs:=rfl
theorem PN3 {α:Type} {x a:α} {i:Nat} {xs:List α}:(x::xs).set (i+1) a=x::xs.set i a:=rfl
theorem beh_one (L:List (BitVec 64)) (t:Nat):behM L [t]=L.getD t 0#64:=by simp [behM]
theorem die_bits {ns:List Nd} {L:List (BitVec 64)} (h:IsL ns L) {x:Nd} (hd:0≤x.d∧x.d<64) (hw:wi x.op 1 9=true) {t:Nat} (ht:t<ns.length) :
 (((setM x &&& L.getD t 0#64).toNat:Int)==0)=!liveB ns x.d.toNat t:=by
 have hj:x.d.toNat<64:=by omega
 have hb:=h.bit t x.d.toNat ht hj
 have hx:∀ j,j<64→(setM x &&& L.getD t 0#64).getLsbD j=(decide (j=x.d.toNat)&&liveB ns x.d.toNat t):=fun j hj' =>by
  rw [BitVec.getLsbD_and,setM,hw,if_pos rfl,bit_bitM hd hj']
  by_cases e:j=x.d.toNat
  ·subst e;rw [hb];simp;omega
  ·have:(x.d==(j:Int))=false:=by simp;omega
   rw [this];simp [e]
 cases hl:liveB ns x.d.toNat t
 ·have:setM x &&& L.getD t 0#64=0#64:=by
   apply BitVec.eq_of_getLsbD_eq
   intro j hj'
   rw [hx j hj', hl];simp
  rw [this];rfl
 ·have:setM x &&& L.getD t 0#64≠0#64:=fun q=>by
   have:=hx x.d.toNat hj
   rw [q,hl] at this
   simp at this
  have hn:(setM x &&& L.getD t 0#64).toNat≠0:=fun q=>this (BitVec.eq_of_toNat_eq q)
  rw [Bool.not_true,beq_eq_false_iff_ne]
  omega
def opsAt (w:World) (b k:Nat):Nat:=(List.range k).countP fun i=>match w.cell? ⟨b,i*6,none⟩ with | some (.int _ v)=>v != 0 | _=>false
theorem opsAt_of {w:World} {b:Nat} {ms:List Nd} (h:NodesAt w b 0 ms):opsAt w b ms.length=doers ms:=by
 have h0:∀ i,i<ms.length→w.cell? ⟨b,i*6,none⟩=some (.int .i64 (nd ms i).op):=fun i hi=>by
  have:=h.c0 i _ (get_nd hi);rwa [Nat.zero_add] at this
 have key:∀ k,k≤ms.length→(List.range k).countP (fun i=>match w.cell? ⟨b,i*6,none⟩ with | some (.int _ v)=>v != 0 | _=>false)=(ms.take k).countP fun x=>x.op != 0:=by
  intro k
  induction k with
  | zero=>intro _;rfl
  | succ k ih =>
   intro hk
   rw [List.range_succ,List.countP_append,ih (by omega),List.take_add_one,get_nd (show k<ms.length by omega),List.countP_append]
   congr 1
   simp only [List.countP_singleton,Option.toList_some,h0 k (by omega)]
 have:=key ms.length (Nat.le_refl _)
 rw [List.take_length] at this
 exact this
theorem blk_neN {w:World} {b b' :Nat} {cs cs' :Array Value} {t t' :TypeId} (h:w.heap[b]?=some (.cells cs t (0,0))) (h' :w.heap[b']?=some (.cells cs' t' (0,0))) (hne:t≠t'):b≠b' :=by
 rintro rfl
 rw [h] at h'
 cases h'
 exact hne rfl
structure DM (w:World) (r:Int) (b off cap:Nat) (ns:List Nd) (cb cc rb ab WB:Nat) (ms:List Nd) (wr:World):Prop where
 pb:wr.heap[w.heap.size]?=some (.cells #[.int .i64 r,.slice (some ⟨b,off,none⟩) ns.length cap] 24 (0,0))
 res:wr.heap[w.heap.size+1]?=some (.cells #[.int .i64 0,.slice none 0 0] 24 (0,0))
 wb:wr.heap[WB]?=some (.cells #[.slice (some ⟨cb,0,none⟩) ns.length cc,.slice (some ⟨rb,0,none⟩) ns.length ns.length,.slice (some ⟨ab,0,none⟩) ns.length ns.length] 107 (0,0))
 own:wr.ownsRow w.heap.size 48 6 (.slice (some ⟨cb,0,none⟩) ns.length cc) ns.length (ms.flatMap encNd)
 rn:RowsT wr rb ns.length (nxl ns)
 ra:RowsT wr ab ns.length (ahl ns)
 bel:Below w.heap.size w wr
theorem DM.below {w:World} {r:Int} {b off cap:Nat} {ns:List Nd} {cb cc rb ab WB:Nat} {ms:List Nd} {wr wx:World} (h:DM w r b off cap ns cb cc rb ab WB ms wr) (hB:Below wr.heap.size wr wx):DM w r b off cap ns cb cc rb ab WB ms wx :=
 ⟨(hB.block _ (blk_lt h.pb)).trans h.pb,(hB.block _ (blk_lt h.res)).trans h.res,(hB.block _ (blk_lt h.wb)).trans h.wb,ownsRow_below h.own hB (Nat.le_refl _),h.rn.below hB,h.ra.below hB,h.bel.trans (hB.mono h.bel.size)⟩
theorem DM.nodes {w:World} {r:Int} {b off cap:Nat} {ns:List Nd} {cb cc rb ab WB:Nat} {ms:List Nd} {wr:World} (h:DM w r b off cap ns cb cc rb ab WB ms wr) (hl:ms.length=ns.length) (h1:1≤ns.length):NodesAt wr cb 0 ms:=by
 have ho:=h.own
 rw [← hl] at ho
 exact nodes_own ho (by omega)
theorem DM.cur {w:World} {r:Int} {b off cap:Nat} {ns:List Nd} {cb cc rb ab WB:Nat} {ms:List Nd} {wr:World} (h:DM w r b off cap ns cb cc rb ab WB ms wr):∃ cur,wr.heap[cb]?=some (.cells cur 48 (0,0))∧w.heap.size≤cb:=by
 rcases h.own.2 with ⟨q,_⟩ | ⟨g,c,cur,q,a1,a2,_⟩
 ·cases q
 ·cases q;exact ⟨cur,a2,a1⟩
theorem RowsT.sixN {w:World} {rb L cb k:Nat} {F:Nat→List Nat} {cur:Array Value} {y:Nd} (h:RowsT w rb L F) (hb:w.heap[cb]?=some (.cells cur 48 (0,0))):RowsT (sixN w cb k y) rb L F:=by
 unfold Go.Proofs.YtkkolclmfcmfbaaGreatDoor.sixN
 have b1:=blk_set (i:=k*6) (.int .i64 y.op) hb
 have b2:=blk_set (i:=k*6+1) (.int .i64 y.d) b1
 have b3:=blk_set (i:=k*6+2) (.int .i64 y.a) b2
 have b4:=blk_set (i:=k*6+3) (.int .i64 y.b) b3
 have b5:=blk_set (i:=k*6+4) (.int .i64 y.t) b4
 exact (((((h.set hb (by decide) (by decide)).set b1 (by decide) (by decide)).set b2 (by decide) (by decide)).set b3 (by decide) (by decide)).set b4 (by decide) (by decide)).set b5 (by decide) (by decide)
theorem DM.write {w:World} {r:Int} {b off cap:Nat} {ns:List Nd} {cb cc rb ab WB:Nat} {ms:List Nd} {wr:World} (h:DM w r b off cap ns cb cc rb ab WB ms wr) (hl:ms.length=ns.length) {k:Nat} (hk:k<ns.length) (y:Nd):DM w r b off cap ns cb cc rb ab WB (ms.set k y) (sixN wr cb k y):=by
 obtain ⟨cur,hcur,hge⟩:=h.cur
 have n1:w.heap.size≠cb:=blk_neN h.pb hcur (by decide)
 have n2:w.heap.size+1≠cb:=blk_neN h.res hcur (by decide)
 have n3:WB≠cb:=blk_neN h.wb hcur (by decide)
 have ho:=h.own
 rw [← hl] at ho
 have hw:=owns_node (y:=y) ho (j:=k) (by omega)
 rw [List.length_set,hl] at hw
 exact ⟨(six_other n1).trans h.pb,(six_other n2).trans h.res,(six_other n3).trans h.wb,hw,h.rn.sixN hcur,h.ra.sixN hcur,h.bel.trans (six_below wr k y hge)⟩
def dieMu (a:Act) (w:World):Nat:=match a.tmps.getD 5 undef with
 | .pointer (some p)=>match w.cell? ⟨p.block,0,none⟩ with
  | some (.slice (some q) n _)=>opsAt w q.block n
  | _=>0
 | _=>0
def AtL (w:World) (r:Int) (b off cap:Nat) (ns:List Nd) (a:Act) (wr:World):Prop :=
 ∃ (cb cc rb ab WB:Nat) (ms:List Nd) (u6 u7 u8 u9 u10 u11 u12 u13 u14 u15 u16 u17 u18 u19 u20 u21 u22 u23 u24 u25 u26 u27 u28 u29 u30 u31 u32 u33 u34 u35 u36 u37 u38 u39 u40 u41 u42 u43 u44 u45 u46 u47 u48 u49 u50 u51 u52 u53:Value),a=⟨#[.agg #[.int .i64 r,.slice (some ⟨b,off,none⟩) ns.length cap],.pointer (some ⟨w.heap.size,0,none⟩),.pointer (some ⟨w.heap.size+1,0,none⟩),.int .i64 0,.int .i64 0,.pointer (some ⟨WB,0,none⟩),u6,u7,u8,u9,u10,u11,u12,u13,u14,u15,u16,u17,u18,u19,u20,u21,u22,u23,u24,u25,u26,u27,u28,u29,u30,u31,u32,u33,u34,u35,u36,u37,u38,u39,u40,u41,u42,u43,u44,u45,u46,u47,u48,u49,u50,u51,u52,u53],[]⟩∧DeadOf ns ms∧deadN ms=deadN ns∧DM w r b off cap ns cb cc rb ab WB ms wr
set_option maxRecDepth 100000 in
theorem dead_right (r:Int) (b off cap:Nat) (ns:List Nd) (w:World) (hN:NodesAt w b off ns) (hc:chk r ns=0) :
 Calls Tryz.prog 33 #[.agg #[.int .i64 r,.slice (some ⟨b,off,none⟩) ns.length cap]] w fun e w' =>∃ cb cc,e=.returned (.tuple #[.agg #[.int .i64 r,.slice (some ⟨cb,0,none⟩) ns.length cc],.int .i64 0])∧w'.ownsRow w.heap.size 48 6 (.slice (some ⟨cb,0,none⟩) ns.length cc) ns.length ((deadN ns).flatMap encNd)∧Below w.heap.size w w' :=by
 have hl:=(chk_full hc).1
 have HN:=hide hN
 have HC:=hide hc
 have hck:=fun W (h:Below w.heap.size w W)=>check_any r (some ⟨b,off,none⟩) cap ns W (Or.inr ⟨b,off,rfl,hN.below h hN.lt⟩)
 rw [hc] at hck
 have HCK:=hide hck
 have HLO:=hide (fun W (h:Below w.heap.size w W)=>layOutL_any r b off cap ns W (hN.below h hN.lt) hc)
 have hb0:Below w.heap.size w ((w.alloc (.cells #[.int .i64 r,.slice (some ⟨b,off,none⟩) ns.length cap] 24)).alloc (.cells #[.int .i64 0,.slice none 0 0] 24)):=((Below.refl _ w).alloc (Nat.le_refl _) _).alloc (by simp) _
 have hp0:((w.alloc (.cells #[.int .i64 r,.slice (some ⟨b,off,none⟩) ns.length cap] 24)).alloc (.cells #[.int .i64 0,.slice none 0 0] 24)).heap[w.heap.size]?=some (.cells #[.int .i64 r,.slice (some ⟨b,off,none⟩) ns.length cap] 24 (0,0)):=(Below.heap_alloc _ _ _ (by simp)).trans (World.alloc_heap_new w _)
 have hz0:((w.alloc (.cells #[.int .i64 r,.slice (some ⟨b,off,none⟩) ns.length cap] 24)).alloc (.cells #[.int .i64 0,.slice none 0 0] 24)).heap[w.heap.size+1]?=some (.cells #[.int .i64 0,.slice none 0 0] 24 (0,0)):=by
  have:=World.alloc_heap_new (w.alloc (.cells #[.int .i64 r,.slice (some ⟨b,off,none⟩) ns.length cap] 24)) (.cells #[.int .i64 0,.slice none 0 0] 24)
  rwa [World.size_alloc] at this
 clear hN hc hck
 go_enter Tryz.func33,Tryz.ntmps33
 go_wp2_with fail
 generalize ((w.alloc (.cells #[.int .i64 r,.slice (some ⟨b,off,none⟩) ns.length cap] 24)).alloc (.cells #[.int .i64 0,.slice none 0 0] 24))=W0 at hb0 hp0 hz0 ⊢
 have HB0:=hide hb0
 have HP0:=hide hp0
 have HZ0:=hide hz0
 clear hb0 hp0 hz0
 have key:∀ {c X:Code} {a:Act} {w0:World} {Q:Exit→Act→World→Prop},findLabel c 0=some (Code.skip.seq X)→(∀ a wr,AtL w r b off cap ns a wr→X.wp Tryz.prog (Exit.jump 0 (fun a' w' =>AtL w r b off cap ns a' w' ∧dieMu a' w' <dieMu a wr) Q) a wr)→((∀ a wr,AtL w r b off cap ns a wr→X.wp Tryz.prog (Exit.jump 0 (AtL w r b off cap ns) Q) a wr)→c.wp Tryz.prog (Exit.jump 0 (AtL w r b off cap ns) Q) a w0)→(Code.scope c).wp Tryz.prog Q a w0:=fun hf pass first =>
  wp_scope_jumps 0 (AtL w r b off cap ns) dieMu hf (first fun a wr h=>Code.wp_mono (fun e a w' q=>by
   cases e <;> simp only [Exit.jump] at q ⊢ <;> first | exact q | exact ⟨q.1,q.2.1⟩) (pass a wr h)) (fun a wr h=>wp_seq (wp_skip (pass a wr h)))
 refine key rfl ?pass ?first
 case first =>
  intro HP
  have p0:=blk_cell HP0.out 0
  have p1:=blk_cell HP0.out 1
  simp at p0 p1
  have pl:=blk_lt HP0.out
  go_upto_region 2 with (go_at_call 11;refine (HCK.out _ HB0.out).mono ?_;rintro e w1 ⟨rfl,hb1⟩)
  have HB1:=hide (HB0.out.trans (hb1.mono HB0.out.size))
  have HP1:=hide ((hb1.block _ pl).trans HP0.out)
  have HZ1:=hide ((hb1.block _ (blk_lt HZ0.out)).trans HZ0.out)
  clear p0 p1 pl hb1
  have p0:=blk_cell HP1.out 0
  have p1:=blk_cell HP1.out 1
  simp at p0 p1
  have pl:=blk_lt HP1.out
  go_upto_region 4 with fail
  go_wp2_with (go_at_call 54;refine (HLO.out _ HB1.out).mono ?_;rintro e w2 ⟨cb,cc,rb,ab,rfl,hV,hR,hA,hb2⟩)
  go_step3
  rename_i hK
  refine hK _ _ (HP _ _ ?_)
  have hx:Below w2.heap.size w2 (w2.alloc (.cells #[.slice (some ⟨cb,0,none⟩) ns.length cc,.slice (some ⟨rb,0,none⟩) ns.length ns.length,.slice (some ⟨ab,0,none⟩) ns.length ns.length] 107)):=(Below.refl _ w2).alloc (Nat.le_refl _) _
  have hB3:=hb2.trans (hx.mono hb2.size)
  refine ⟨cb,cc,rb,ab,w2.heap.size,ns,_,_,_,_,_,_,_,_,_,_,_,_,_,_,_,_,_,_,_,_,_,_,_,_,_,_,_,_,_,_,_,_,_,_,_,_,_,_,_,_,_,_,_,_,_,_,_,_,rfl,DeadOf.refl ns,rfl,⟨(hB3.block _ (blk_lt HP1.out)).trans HP1.out,(hB3.block _ (blk_lt HZ1.out)).trans HZ1.out,World.alloc_heap_new w2 _,(ownsRow_base hV HB1.out.size).alloc _,hR.below hx,hA.below hx,HB1.out.trans (hB3.mono HB1.out.size)⟩⟩
 case pass =>
  rintro a wo ⟨cb,cc,rb,ab,WB,ms,u6,u7,u8,u9,u10,u11,u12,u13,u14,u15,u16,u17,u18,u19,u20,u21,u22,u23,u24,u25,u26,u27,u28,u29,u30,u31,u32,u33,u34,u35,u36,u37,u38,u39,u40,u41,u42,u43,u44,u45,u46,u47,u48,u49,u50,u51,u52,u53,rfl,hD,hS,hM⟩
  clear key
  have hml:=hD.len
  have hlv:=live_any r ms cb 0 cc rb ab
  have hcm:=hD.chk HC.out
  have e1:nxl ms=nxl ns:=funext hD.nxl
  have e2:ahl ms=ahl ns:=funext hD.ahl
  rw [hml,e1,e2] at hlv
  have HLV:=hide (hlv wo (hM.nodes hml hl.1) hcm hM.rn.read hM.ra.read)
  have q0:=blk_cell hM.wb 0
  have q1:=blk_cell hM.wb 1
  have q2:=blk_cell hM.wb 2
  simp at q0 q1 q2
  have ql:=blk_lt hM.wb
  have HM:=hide hM
  have HD:=hide hD
  have HS:=hide hS
  have HCM:=hide hcm
  have HML:=hide hml
  have HE1:=hide e1
  clear hM hD hS hcm hml e1 e2 hlv
  go_upto_region 7 with (go_at_call 55;refine HLV.out.mono ?_;rintro e w2 ⟨lb,L,rfl,hlb,hIL,hM2,hb2⟩)
  have HM2:=hide (HM.out.below hb2)
  have HLB:=hide hM2
  have HIL:=hide hIL
  have HMU:=hide (opsAt_of (HM.out.nodes HML.out hl.1))
  clear q0 q1 q2 ql hM2 hIL hb2 hlb HLV
  have q0:=blk_cell HM2.out.wb 0
  simp at q0
  have ql:=blk_lt HM2.out.wb
  go_wp2_with fail
  go_loopw [6,23] (fun c i wx=>∃ k:Nat,k≤ns.length∧i=.int .i64 k∧c=.bool (anyTo ms k)∧DM w r b off cap ns cb cc rb ab WB (deadTo ms k) wx∧wx.heap[lb]?=some (.cells (maskC L) 113 (0,0))) (fun _ i _=>ns.length-(intOf i).toNat)
  case atStart=>exact ⟨0,Nat.zero_le _,rfl,rfl,by rw [deadTo_zero];exact HM2.out,HLB.out⟩
  case round =>
   obtain ⟨k,hk,rfl,rfl,hM3,hL3⟩:=hrel
   by_cases hlt:k<ns.length
   ·obtain ⟨cur,hcur,hge⟩:=hM3.cur
    have hkm:k<ms.length:=by rw [HML.out];exact hlt
    have hNd:=hM3.nodes (by rw [deadTo_len,HML.out]) hl.1
    have hgn:(deadTo ms k)[k]?=some (nd ms k):=by rw [get_nd (by rw [deadTo_len];exact hkm),nd_deadTo_at hkm]
    have HF:=hide (chk_at HCM.out hkm)
    have HT:=hide (deadTo_succ hkm)
    have HA:=hide (anyTo_succ ms k)
    have HDI:Hid (dies ms k=(wi (nd ms k).op 1 8&&!liveB ms (nd ms k).d.toNat (nd ms k).t.toNat)):=rfl
    have HNX:=hide (fun h1 h2=>nxl_one HCM.out hkm h1 h2)
    rw [HE1.out] at HNX
    generalize hxx:nd ms k=x at hgn HF HT HDI HNX
    clear hxx
    have d0:=hNd.c0 k x hgn
    have d1:=hNd.c1 k x hgn
    have d2:=hNd.c2 k x hgn
    have d3:=hNd.c3 k x hgn
    have d4:=hNd.c4 k x hgn
    have d5:=hNd.c5 k x hgn
    simp only [Nat.zero_add] at d0 d1 d2 d3 d4 d5
    have dl:=hNd.lt
    have hki:(k:Int)<(ns.length:Int):=by omega
    have q0:=blk_cell hM3.wb 0
    simp at q0
    have ql:=blk_lt hM3.wb
    have hbX:Below wr.heap.size wr (wr.alloc (.cells #[.int .i64 x.op,.int .i64 x.d,.int .i64 x.a,.int .i64 x.b,.int .i64 x.t,.int .i64 x.e] 48)):=(Below.refl _ wr).alloc (Nat.le_refl _) _
    have hxn:(wr.alloc (.cells #[.int .i64 x.op,.int .i64 x.d,.int .i64 x.a,.int .i64 x.b,.int .i64 x.t,.int .i64 x.e] 48)).heap[wr.heap.size]?=some (.cells #[.int .i64 x.op,.int .i64 x.d,.int .i64 x.a,.int .i64 x.b,.int .i64 x.t,.int .i64 x.e] 48 (0,0)):=World.alloc_heap_new wr _
    have HM3:=hide hM3
    have HL3:=hide hL3
    clear hM3 hL3 hNd hgn hcur
    go_upto_region 10 with fail
    have HM4:=hide (HM3.out.below hbX)
    have HL4:=hide ((hbX.block _ (blk_lt HL3.out)).trans HL3.out)
    generalize (wr.alloc (.cells #[.int .i64 x.op,.int .i64 x.d,.int .i64 x.a,.int .i64 x.b,.int .i64 x.t,.int .i64 x.e] 48))=Wx at hxn HM4 HL4 ⊢
    generalize wr.heap.size=X at hxn ⊢
    have HNB:=hide hxn
    have HXW:=hide HM4.out.wb
    have HPS:=hide (fun (u:World) (hB:Below Wx.heap.size Wx u)=>(show u.cell? ⟨X,0,none⟩=some (.int .i64 x.op)∧u.cell? ⟨X,1,none⟩=some (.int .i64 x.d)∧u.cell? ⟨X,2,none⟩=some (.int .i64 x.a)∧u.cell? ⟨X,3,none⟩=some (.int .i64 x.b)∧u.cell? ⟨X,4,none⟩=some (.int .i64 x.t)∧u.cell? ⟨X,5,none⟩=some (.int .i64 x.e)∧u.cell? ⟨WB,0,none⟩=some (.slice (some ⟨cb,0,none⟩) ns.length cc)∧u.cell? ⟨WB,1,none⟩=some (.slice (some ⟨rb,0,none⟩) ns.length ns.length)∧u.cell? ⟨WB,2,none⟩=some (.slice (some ⟨ab,0,none⟩) ns.length ns.length) from ⟨cell_ofN HNB.out hB 0 rfl,cell_ofN HNB.out hB 1 rfl,cell_ofN HNB.out hB 2 rfl,cell_ofN HNB.out hB 3 rfl,cell_ofN HNB.out hB 4 rfl,cell_ofN HNB.out hB 5 rfl,cell_ofN HXW.out hB 0 rfl,cell_ofN HXW.out hB 1 rfl,cell_ofN HXW.out hB 2 rfl⟩))
    clear hxn d0 d1 d2 d3 d4 d5 dl q0 ql hbX HM3 HL3
    go_cut [39] from 28 to 38 (fun v39 wy=>v39=.bool (dies ms k)∧Below Wx.heap.size Wx wy)
    case first =>
     cases hop:wi x.op 1 8
     ·have HOP:=hide hop
      clear hop
      refine wp_region_held_drew (S:=(fun u=>u.cell? ⟨X,0,none⟩=some (.int .i64 x.op)∧u.cell? ⟨X,1,none⟩=some (.int .i64 x.d)∧u.cell? ⟨X,2,none⟩=some (.int .i64 x.a)∧u.cell? ⟨X,3,none⟩=some (.int .i64 x.b)∧u.cell? ⟨X,4,none⟩=some (.int .i64 x.t)∧u.cell? ⟨X,5,none⟩=some (.int .i64 x.e)∧u.cell? ⟨WB,0,none⟩=some (.slice (some ⟨cb,0,none⟩) ns.length cc)∧u.cell? ⟨WB,1,none⟩=some (.slice (some ⟨rb,0,none⟩) ns.length ns.length)∧u.cell? ⟨WB,2,none⟩=some (.slice (some ⟨ab,0,none⟩) ns.length ns.length))) (by as_aux_lemma=>kernel_rfl) (by (try dsimp only);first | (with_reducible exact HPS.out _ hB3) | (with_reducible exact HPS.out _ hB2) | (with_reducible exact HPS.out _ hB1) | exact HPS.out _ (Below.refl _ Wx).drew | exact HPS.out _ (Below.refl _ Wx)) (fun hHeld=>?_)
      refine wpAnyH_take (i:=0) (oi:=⟨some 28,.load 48 (.tmp 9),48, "live.go:35", #[],none⟩) (v:=?_) rfl (by as_aux_lemma=>kernel_rfl) (by as_aux_lemma=>kernel_rfl) (by as_aux_lemma=>kernel_rfl) (fun _ _ _ h=>h) (Or.inl ⟨by as_aux_lemma=>rfl,?_⟩) (by assumption) ?_
      rotate_left 1
      ·intro w hSw;(try dsimp only at hSw);go_simp;all_goals with_reducible rfl
      (try simp only [Act.put,PN1,PN2,PN3])
      refine wpAnyH_ready (rs:=[1]) (by as_aux_lemma=>kernel_rfl) (by simp) (AllReadyH.cons (o:=⟨some 29,.call { callee:=.value (.func 56),args:=#[.tmp 28],argTypes:=#[48] },4, "live.go:35", #[⟨0,.data⟩],none⟩) rfl (fun K hK=>?_) AllReadyH.nil)
      go_simp
      go_at_call 56;refine (mayDie_any x _).mono ?_;rintro e wa ⟨rfl,hba⟩;have hB1:Below Wx.heap.size Wx wa:=(by first | exact (Below.refl _ Wx).drew.trans hba | exact hba);rw [HOP.out];(try go_wp2_with fail)
      refine hK.out _ _ (by (try dsimp only);first | (with_reducible exact HPS.out _ hB3) | (with_reducible exact HPS.out _ hB2) | (with_reducible exact HPS.out _ hB1) | exact HPS.out _ (Below.refl _ Wx).drew | exact HPS.out _ (Below.refl _ Wx)) (fun hHeld=>?_)
      clear hK K
      (try simp only [Act.put,PN1,PN2,PN3])
      refine wpAnyH_take (i:=2) (oi:=⟨some 30,.move (.tmp 29),4, "live.go:35", #[⟨1,.data⟩,⟨1,.chain⟩],none⟩) (v:=?_) rfl (by as_aux_lemma=>kernel_rfl) (by as_aux_lemma=>kernel_rfl) (by as_aux_lemma=>kernel_rfl) (fun _ _ _ h=>h) (Or.inl ⟨by as_aux_lemma=>rfl,?_⟩) (by assumption) ?_
      rotate_left 1
      ·intro w hSw;(try dsimp only at hSw);go_simp;all_goals with_reducible rfl
      (try simp only [Act.put,PN1,PN2,PN3])
      refine wpAnyH_take (i:=3) (oi:=⟨some 31,.load 48 (.tmp 9),48, "live.go:35", #[⟨2,.guard⟩],some (2,true)⟩) (v:=undef) rfl (by as_aux_lemma=>kernel_rfl) (by as_aux_lemma=>kernel_rfl) (by as_aux_lemma=>kernel_rfl) (fun _ _ _ h=>h) (Or.inr ⟨by as_aux_lemma=>rfl,rfl⟩) (by assumption) ?_
      (try simp only [Act.put,PN1,PN2,PN3])
      refine wpAnyH_take (i:=4) (oi:=⟨some 32,.call { callee:=.value (.func 57),args:=#[.tmp 31],argTypes:=#[48] },113, "live.go:35", #[⟨3,.data⟩,⟨2,.chain⟩,⟨2,.guard⟩],some (2,true)⟩) (v:=undef) rfl (by as_aux_lemma=>kernel_rfl) (by as_aux_lemma=>kernel_rfl) (by as_aux_lemma=>kernel_rfl) (fun _ _ _ h=>h) (Or.inr ⟨by as_aux_lemma=>rfl,rfl⟩) (by assumption) ?_
      (try simp only [Act.put,PN1,PN2,PN3])
      refine wpAnyH_take (i:=5) (oi:=⟨some 33,.load 107 (.tmp 5),107, "live.go:35", #[⟨2,.guard⟩],some (2,true)⟩) (v:=undef) rfl (by as_aux_lemma=>kernel_rfl) (by as_aux_lemma=>kernel_rfl) (by as_aux_lemma=>kernel_rfl) (fun _ _ _ h=>h) (Or.inr ⟨by as_aux_lemma=>rfl,rfl⟩) (by assumption) ?_
      (try simp only [Act.put,PN1,PN2,PN3])
      refine wpAnyH_take (i:=6) (oi:=⟨some 34,.move (.tmp 8),3, "live.go:35", #[⟨2,.guard⟩],some (2,true)⟩) (v:=undef) rfl (by as_aux_lemma=>kernel_rfl) (by as_aux_lemma=>kernel_rfl) (by as_aux_lemma=>kernel_rfl) (fun _ _ _ h=>h) (Or.inr ⟨by as_aux_lemma=>rfl,rfl⟩) (by assumption) ?_
      (try simp only [Act.put,PN1,PN2,PN3])
      refine wpAnyH_take (i:=7) (oi:=⟨some 35,.move (.tmp 7),109, "live.go:35", #[⟨2,.guard⟩],some (2,true)⟩) (v:=undef) rfl (by as_aux_lemma=>kernel_rfl) (by as_aux_lemma=>kernel_rfl) (by as_aux_lemma=>kernel_rfl) (fun _ _ _ h=>h) (Or.inr ⟨by as_aux_lemma=>rfl,rfl⟩) (by assumption) ?_
      (try simp only [Act.put,PN1,PN2,PN3])
      refine wpAnyH_take (i:=8) (oi:=⟨some 36,.call { callee:=.value (.func 58),args:=#[.tmp 33,.tmp 34,.tmp 35],argTypes:=#[107,3,109] },113, "live.go:35", #[⟨5,.data⟩,⟨6,.data⟩,⟨7,.data⟩,⟨4,.chain⟩,⟨2,.guard⟩],some (2,true)⟩) (v:=undef) rfl (by as_aux_lemma=>kernel_rfl) (by as_aux_lemma=>kernel_rfl) (by as_aux_lemma=>kernel_rfl) (fun _ _ _ h=>h) (Or.inr ⟨by as_aux_lemma=>rfl,rfl⟩) (by assumption) ?_
      (try simp only [Act.put,PN1,PN2,PN3])
      refine wpAnyH_take (i:=9) (oi:=⟨some 37,.binOp Go.BinOp.and 113 (.tmp 32) (.tmp 36) 113,113, "live.go:35", #[⟨4,.data⟩,⟨8,.data⟩,⟨2,.guard⟩],some (2,true)⟩) (v:=undef) rfl (by as_aux_lemma=>kernel_rfl) (by as_aux_lemma=>kernel_rfl) (by as_aux_lemma=>kernel_rfl) (fun _ _ _ h=>h) (Or.inr ⟨by as_aux_lemma=>rfl,rfl⟩) (by assumption) ?_
      (try simp only [Act.put,PN1,PN2,PN3])
      refine wpAnyH_take (i:=10) (oi:=⟨some 38,.binOp Go.BinOp.eql 113 (.tmp 37) (.const (Go.Value.int Go.IntKind.u64 0)) 113,4, "live.go:35", #[⟨9,.data⟩,⟨2,.guard⟩],some (2,true)⟩) (v:=undef) rfl (by as_aux_lemma=>kernel_rfl) (by as_aux_lemma=>kernel_rfl) (by as_aux_lemma=>kernel_rfl) (fun _ _ _ h=>h) (Or.inr ⟨by as_aux_lemma=>rfl,rfl⟩) (by assumption) ?_
      (try simp only [Act.put,PN1,PN2,PN3])
      refine wpAnyH_take (i:=11) (oi:=⟨some 39,.pick (.tmp 30) (.tmp 38) (.const (Go.Value.bool false)),4, "live.go:35", #[⟨2,.data⟩,⟨10,.data⟩],none⟩) (v:=?_) rfl (by as_aux_lemma=>kernel_rfl) (by as_aux_lemma=>kernel_rfl) (by as_aux_lemma=>kernel_rfl) (fun _ _ _ h=>h) (Or.inl ⟨by as_aux_lemma=>rfl,?_⟩) (by assumption) ?_
      rotate_left 1
      ·intro w hSw;(try dsimp only at hSw);go_simp;all_goals with_reducible rfl
      (try simp only [Act.put,PN1,PN2,PN3])
      refine wpAnyH_done (by as_aux_lemma=>kernel_rfl) ?_ _
      all_goals go_wp2
      all_goals go_meet
      all_goals exact ⟨by rw [HDI.out,HOP.out];rfl,hB1⟩
     ·have hop' :=wi_iff.1 hop
      have hr:=(chk_full HC.out).2.1.2
      have hn1:=HNX.out (by omega) (by omega)
      have ht:=HF.out.t (by omega)
      rw [HML.out] at ht
      have hdb:=die_bits HIL.out (x:=x) (full_set HF.out hr (wi_iff.2 (by omega))) (wi_iff.2 (by omega)) (t:=x.t.toNat) (by rw [HML.out];omega)
      have hbb:=bits_and (setM x) (behM L (nxl ns k))
      rw [hn1,beh_one] at hbb
      rw [← hbb] at hdb
      have e3:(!liveB ms x.d.toNat x.t.toNat)=dies ms k:=by rw [HDI.out,hop,Bool.true_and]
      rw [e3] at hdb
      have HDB:=hide hdb
      have HOP:=hide hop
      have HN1:=hide hn1
      have HLN:=hide HIL.out.len
      rw [HML.out] at HLN
      clear hop hop' hn1 ht hdb hbb e3
      go_region_held3 (fun u=>u.cell? ⟨X,0,none⟩=some (.int .i64 x.op)∧u.cell? ⟨X,1,none⟩=some (.int .i64 x.d)∧u.cell? ⟨X,2,none⟩=some (.int .i64 x.a)∧u.cell? ⟨X,3,none⟩=some (.int .i64 x.b)∧u.cell? ⟨X,4,none⟩=some (.int .i64 x.t)∧u.cell? ⟨X,5,none⟩=some (.int .i64 x.e)∧u.cell? ⟨WB,0,none⟩=some (.slice (some ⟨cb,0,none⟩) ns.length cc)∧u.cell? ⟨WB,1,none⟩=some (.slice (some ⟨rb,0,none⟩) ns.length ns.length)∧u.cell? ⟨WB,2,none⟩=some (.slice (some ⟨ab,0,none⟩) ns.length ns.length)) (first | (with_reducible exact HPS.out _ hB3) | (with_reducible exact HPS.out _ hB2) | (with_reducible exact HPS.out _ hB1) | exact HPS.out _ (Below.refl _ Wx).drew | exact HPS.out _ (Below.refl _ Wx)) (first
       | (go_at_call 58;refine (behind_any ns L (some ⟨cb,0,none⟩) ns.length cc ab k rb lb (nxl ns) _ ((HM4.out.rn.below hB2).read) ((masksAt_of HL4.out).below hB2) HLN.out hlt hl.2 (fun m hm=>(mem_nxl.1 hm).1) (Nat.le_trans (nxl_few ns k) hl.2)).mono ?_;rintro e wcc ⟨rfl,hbc⟩;have hB3:Below Wx.heap.size Wx wcc:=hB2.trans (hbc.mono hB2.size);rw [HN1.out,beh_one])
       | (go_at_call 57;refine (lsets_any x _ (full_set HF.out hr)).mono ?_;rintro e wb ⟨rfl,hbb⟩;have hB2:Below Wx.heap.size Wx wb:=hB1.trans (hbb.mono hB1.size))
       | (go_at_call 56;refine (mayDie_any x _).mono ?_;rintro e wa ⟨rfl,hba⟩;have hB1:Below Wx.heap.size Wx wa:=(by first | exact (Below.refl _ Wx).drew.trans hba | exact hba);rw [HOP.out]))
      all_goals go_wp2
      all_goals go_meet
      all_goals exact ⟨by first | rw [HDB.out] | (rw [← HDB.out];rfl),hB3⟩
    case rest =>
     obtain ⟨rfl,hBc⟩:=hcut
     have HM5:=hide (HM4.out.below hBc)
     have HL5:=hide ((hBc.block _ (blk_lt HL4.out)).trans HL4.out)
     have hx5:=(hBc.block _ (blk_lt HNB.out)).trans HNB.out
     clear HM4 HL4 HPS HNB HXW hBc
     cases hd:dies ms k
     ·rw [hd] at HT HA
      have HT' :=hide HT.out
      clear hd hx5
      go_wp2_with fail
      go_roundw
      case rel=>exact ⟨k+1,by omega,by go_num,by rw [HA.out];simp,by rw [HT'.out];exact HM5.out,HL5.out⟩
      case measure=>simp [intOf];omega
     ·rw [hd] at HT HA
      have y4:=blk_cell hx5 4
      simp at y4
      have yl:=blk_lt hx5
      have q0:=blk_cell HM5.out.wb 0
      simp at q0
      have ql:=blk_lt HM5.out.wb
      obtain ⟨cur5,hcur5,hge5⟩:=HM5.out.cur
      have hNd:=HM5.out.nodes (by rw [deadTo_len,HML.out]) hl.1
      have hgn:=get_nd (ns:=deadTo ms k) (n:=k) (by rw [deadTo_len];exact hkm)
      have d0:=hNd.c0 k _ hgn
      have d1:=hNd.c1 k _ hgn
      have d2:=hNd.c2 k _ hgn
      have d3:=hNd.c3 k _ hgn
      have d4:=hNd.c4 k _ hgn
      have d5:=hNd.c5 k _ hgn
      simp only [Nat.zero_add] at d0 d1 d2 d3 d4 d5
      have dl:=hNd.lt
      have g0:=blk_frozen hcur5 (k*6)
      have g1:=blk_frozen hcur5 (k*6+1)
      have g2:=blk_frozen hcur5 (k*6+2)
      have g3:=blk_frozen hcur5 (k*6+3)
      have g4:=blk_frozen hcur5 (k*6+4)
      have g5:=blk_frozen hcur5 (k*6+5)
      generalize nd (deadTo ms k) k=z at d0 d1 d2 d3 d4 d5
      have HW:=hide (HM5.out.write (by rw [deadTo_len,HML.out]) hlt (skp x.t))
      have HLW:=hide ((six_other (y:=skp x.t) (j:=k) (blk_neN HL5.out hcur5 (by decide))).trans HL5.out)
      clear hd hx5 hNd hgn hcur5
      go_wp2_with fail
      go_roundw
      case rel=>exact ⟨k+1,by omega,by go_num,by rw [HA.out];simp,by rw [HT.out];exact HW.out,HLW.out⟩
      case measure=>simp [intOf];omega
   ·have ek:k=ns.length:=by omega
    subst ek
    have q0:=blk_cell hM3.wb 0
    simp at q0
    have ql:=blk_lt hM3.wb
    have p0:=blk_cell hM3.pb 0
    simp at p0
    have pl:=blk_lt hM3.pb
    have z0:=blk_cell hM3.res 0
    have z1:=blk_cell hM3.res 1
    simp at z0 z1
    have zl:=blk_lt hM3.res
    have zf0:=blk_frozen hM3.res 0
    have zf1:=blk_frozen hM3.res 1
    have HM3:=hide hM3
    clear hM3 hL3
    cases ha:anyTo ms ns.length
    ·have HAF:=hide ha
     clear ha
     go_wp2_with fail
     simp only [Exit.jump]
     have k0:=blk_set (i:=0) (.int .i64 r) HM3.out.res
     have k1:=blk_set (i:=1) (.slice (some ⟨cb,0,none⟩) ns.length cc) k0
     have T0:=owns_set (o:=1) (u:=.slice (some ⟨cb,0,none⟩) ns.length cc) (owns_set (o:=0) (u:=.int .i64 r) HM3.out.own HM3.out.res (by decide)) k0 (by decide)
     have hBf:=(HM3.out.bel.setCell (p:=⟨w.heap.size+1,0,none⟩) (by simp) (.int .i64 r)).setCell (p:=⟨w.heap.size+1,1,none⟩) (by simp) (.slice (some ⟨cb,0,none⟩) ns.length cc)
     simp only [List.setIfInBounds_toArray,List.set_cons_zero,List.set_cons_succ] at k1
     generalize ((wr.setCell ⟨w.heap.size+1,0,none⟩ (.int .i64 r)).setCell ⟨w.heap.size+1,1,none⟩ (.slice (some ⟨cb,0,none⟩) ns.length cc))=Wf at k1 T0 hBf ⊢
     have y0:=blk_cell k1 0
     have y1:=blk_cell k1 1
     simp at y0 y1
     have hfix:deadTo ms ns.length=deadN ns:=by
      have h1:=HAF.out
      rw [← HML.out] at h1 ⊢
      rw [← HS.out,deadN_fix h1]
      exact deadR_same h1
     rw [hfix] at T0
     exact bodyPost_ret (v:=.tuple #[.agg #[.int .i64 r,.slice (some ⟨cb,0,none⟩) ns.length cc],.int .i64 0]) (by simp [results,Tryz.results33,go_sem,y0,y1]) rfl ⟨cb,cc,rfl,T0,hBf⟩
    ·have HAT:=hide ha
     clear ha
     go_wp2_with fail
     go_step3
     refine ⟨rfl,⟨cb,cc,rb,ab,WB,deadTo ms ns.length,_,_,_,_,_,_,_,_,_,_,_,_,_,_,_,_,_,_,_,_,_,_,_,_,_,_,_,_,_,_,_,_,_,_,_,_,_,_,_,_,_,_,_,_,_,_,_,_,rfl,HD.out.trans (DeadOf.to ms _),?_,HM3.out⟩,?_⟩
     ·rw [← HS.out,← HML.out];exact deadN_round ms
     ·have h1:=HAT.out
      rw [← HML.out] at h1
      have hlt:=doers_less h1
      have e1:deadTo ms ns.length=deadR ms:=by rw [← HML.out];rfl
      have e2:=opsAt_of (HM3.out.nodes (by rw [deadTo_len,HML.out]) hl.1)
      rw [deadTo_len,HML.out,e1] at e2
      have e3:=HMU.out
      rw [HML.out] at e3
      have c1:=blk_cell HM3.out.wb 0
      have c2:=blk_cell HM.out.wb 0
      simp at c1 c2
      simp only [dieMu]
      simp [c1,c2]
      omega
end Go.Proofs.YtkkolclmfcmfbaaGreatDoor
namespace Go.Proofs.YtkkolclmfcmfbaaGreatDoor
def Fewer (ns:List Nd) (r:Nat) (ms:List Nd) (r' :Nat):Prop :=
 ∀ (inp:List Int) (n m:Nat),(runN ns n (st0 r inp)).ended=true→(runN ms m (st0 r' inp)).ended=true→∀ t,cnt (runN ms m (st0 r' inp)).cts t≤cnt (runN ns n (st0 r inp)).cts t
theorem Sims.ends {ns ms:List Nd} {r r' :Nat} (h:Sims ns r ms r') (inp:List Int) {n:Nat} (he:(runN ns n (st0 r inp)).ended=true):(runN ms (n*ms.length) (st0 r' inp)).ended=true:=by
 obtain ⟨f,sil,rk,M,R,hS,h0⟩:=h inp
 obtain ⟨m,m1,m2⟩:=hS.fwd h0 n
 have hm:(runN ms m (st0 r' inp)).ended=true:=by rw [(hS.obs _ _ m2).2.1];exact he
 rw [runN_stays m1 hm];exact hm
theorem Fewer.trans {ns ms ls:List Nd} {r r' r'' :Nat} (hS:Sims ns r ms r') (h:Fewer ns r ms r') (h' :Fewer ms r' ls r''):Fewer ns r ls r'' :=fun inp n m h1 h2 t =>
 Int.le_trans (h' inp _ m (hS.ends inp h1) h2 t) (h inp n _ h1 (hS.ends inp h1) t)
theorem Fewer.refl (ns:List Nd) (r:Nat):Fewer ns r ns r:=fun inp n m h1 h2 t=>by rw [both_ended h2 h1];exact Int.le_refl _
theorem trim_fewer {r:Int} {ns:List Nd} (hc:chk r ns=0) (k:Nat):Fewer ns k (trimN ns) k:=fun inp n m h1 h2 t=>by
 have e:(runN (trimN ns) n (st0 k inp)).ended=true:=by rw [trim_same hc];exact h1
 rw [both_ended h2 e,trim_same hc]
 exact Int.le_refl _
theorem split_fewer {r:Int} {ns:List Nd} (hc:chk r ns=0) (k:Nat):Fewer ns k (splitN ns) k:=fun inp n m h1 h2 t=>by
 obtain ⟨j,_,j2,j3⟩:=split_run hc k inp h1
 rw [both_ended h2 j2,j3]
 exact Int.le_refl _
theorem one_fewer {r:Int} {ns:List Nd} {t:Tm} (h:OneOk r ns t):Fewer ns r.toNat (oneN ns t r) (oneR ns t r).toNat:=fun inp n m h1 h2 t' =>by
 have hr:=(chk_full h.ck).2.1
 have er:((r.toNat:Nat):Int)=r:=by omega
 obtain ⟨a,b,c⟩:=one_saves (r:=r.toNat) (by rw [er];exact h.ck) (t:=t) (by rw [er];exact h.tm) h.len inp h1 (M:=n*(oneN ns t (r.toNat:Int)).length) (Nat.le_refl _)
 rw [er] at a b c
 rw [both_ended h2 a]
 by_cases e:t' =t
 ·rw [e];exact b
 ·rw [c t' e];exact Int.le_refl _
theorem dead_fewer {r:Int} {ns:List Nd} (hc:chk r ns=0) (k:Nat):Fewer ns k (deadN ns) k:=fun inp n m h1 h2 t=>by
 have h:=dead_same hc n k inp
 have e:(runN (deadN ns) n (st0 k inp)).ended=true:=by rw [h.ended];exact h1
 rw [both_ended h2 e]
 exact h.ct t
theorem dead1_sims {r:Int} {ns:List Nd} (hc:chk r ns=0) (k:Nat):Sims ns k (deadR ns) k:=fun inp=>by
 have hlen:(deadR ns).length=ns.length:=(DeadOf.round ns).len
 refine ⟨id,fun _=>false,fun _=>0,0,fun s u=>DR ns s u∧s.pc<ns.length,⟨?_,?_,?_,?_,fun _=>Nat.le_refl _⟩,DR.start hc k inp,(chk_full hc).1.1⟩
 ·rintro s u ⟨h,hp⟩;exact ⟨h.pc.symm,hp,by rw [h.pc,hlen];exact hp⟩
 ·rintro s u ⟨h,_⟩;exact ⟨h.out,h.ended,h.ret⟩
 ·intro s u _ _ q;cases q
 ·rintro s u ⟨h,hp⟩ _ _;exact ⟨h.step hc,run1_in hc hp⟩
theorem dead_sims {r:Int} (k:Nat):∀ (d:Nat) {ns:List Nd},chk r ns=0→Sims ns k (deadI d ns) k
 | 0,_,hc=>Sims.refl hc k
 | d+1,ns,hc=>(dead1_sims hc k).trans (dead_sims k d ((DeadOf.round ns).chk hc))
theorem all_fewer {r:Int} {ns:List Nd} (hc:chk r ns=0):∀ (ts:List Tm) {x:Int × Int × List Nd},AllOk r ns x→Fewer ns r.toNat x.2.2 x.2.1.toNat→x.1=0→(ts.foldl allS x).1=0→Fewer ns r.toNat (ts.foldl allS x).2.2 (ts.foldl allS x).2.1.toNat
 | [],_,_,h,_,_=>h
 | t::ts,x,hA,h,h0,he=>by
  rw [List.foldl_cons] at he ⊢
  by_cases h1:oneE x.2.1 x.2.2 t=0
  ·have e:allS x t=(0,oneR x.2.2 t x.2.1,oneN x.2.2 t x.2.1):=by unfold allS;rw [if_neg (by simp [h0]),if_pos h1]
   rw [e] at he ⊢
   have ho:=oneE_ok h1
   have:=hA.le
   have:=oneR_le x.2.2 t x.2.1
   exact all_fewer hc ts ⟨ho.next,by show r≤oneR x.2.2 t x.2.1;omega,hA.sims.trans ho.sims⟩ (h.trans hA.sims (one_fewer ho)) rfl he
  ·have e:allS x t=(oneE x.2.1 x.2.2 t,0,[]):=by unfold allS;rw [if_neg (by simp [h0]),if_neg h1]
   rw [e,fold_err ts (by exact h1)] at he
   exact absurd he h1
theorem allF_fewer {r:Int} {ns:List Nd} (hc:chk r ns=0) {ts:List Tm} (he:(allF r ns ts).1=0):Fewer ns r.toNat (allF r ns ts).2.2 (allF r ns ts).2.1.toNat :=
 all_fewer hc ts (x:=(0,r,ns)) ⟨hc,Int.le_refl _,Sims.refl hc _⟩ (Fewer.refl _ _) rfl he
def sumC (l:List Ct):Int:=(l.map (·.n)).foldr (·+·) 0
theorem sumC_cons (c:Ct) (l:List Ct):sumC (c::l)=c.n+sumC l:=rfl
theorem cnt_cons (c:Ct) (l:List Ct) (t:Tm):cnt (c::l) t=if c.t=t then c.n else cnt l t:=by
 unfold cnt
 rw [ctOf_cons]
 by_cases h:c.t=t <;> simp [h]
theorem cnt_nil (t:Tm):cnt [] t=0:=rfl
theorem cnt_above {c:Ct} {l:List Ct} (h:Srt (c::l)):cnt l c.t=0:=by
 unfold Srt at h
 rw [List.pairwise_cons] at h
 have h1:=h.1
 clear h
 induction l with
 | nil=>rfl
 | cons d l ih =>
  rw [cnt_cons,if_neg,ih fun a ha=>h1 a (by simp [ha])]
  intro e
  have:=h1 d (by simp)
  rw [e,abv_irrefl] at this
  cases this
theorem srt_tail {c:Ct} {l:List Ct} (h:Srt (c::l)):Srt l:=(List.pairwise_cons.1 h).2
def without (l:List Ct) (t:Tm):List Ct:=l.filter fun c=>decide (c.t≠t)
theorem cnt_without (l:List Ct) (t u:Tm):cnt (without l t) u=if u=t then 0 else cnt l u:=by
 induction l with
 | nil=>simp [without,cnt_nil]
 | cons c l ih =>
  unfold without at *
  by_cases h:c.t=t
  ·rw [List.filter_cons_of_neg (by simp [h]),ih,cnt_cons]
   by_cases e:u=t
   ·simp [e]
   ·rw [if_neg e,if_neg e,if_neg (by rw [h];exact fun q=>e q.symm)]
  ·rw [List.filter_cons_of_pos (by simp [h]),cnt_cons,ih,cnt_cons]
   by_cases e:c.t=u
   ·rw [if_pos e,if_pos e,if_neg (by rw [← e];exact h)]
   ·rw [if_neg e,if_neg e]
theorem sum_without {l:List Ct} (h:Srt l) (t:Tm):sumC l=cnt l t+sumC (without l t):=by
 induction l with
 | nil=>rfl
 | cons c l ih =>
  have ih:=ih (srt_tail h)
  unfold without at *
  rw [sumC_cons,cnt_cons]
  by_cases e:c.t=t
  ·rw [List.filter_cons_of_neg (by simp [e]),if_pos e]
   have:=cnt_above h
   rw [e] at this
   omega
  ·rw [List.filter_cons_of_pos (by simp [e]),if_neg e,sumC_cons]
   omega
theorem srt_without {l:List Ct} (h:Srt l) (t:Tm):Srt (without l t):=List.Pairwise.filter _ h
theorem sum_le_of:∀ (k:List Ct) {l:List Ct},Srt k→Srt l→(∀ t,0≤cnt l t)→(∀ c∈l,0≤c.n)→(∀ t,cnt k t≤cnt l t)→sumC k≤sumC l
 | [],l,_,_,_,hp,_=>by
  show (0:Int)≤sumC l
  induction l with
  | nil=>exact Int.le_refl _
  | cons c l ih =>
   rw [sumC_cons]
   have:=hp c (by simp)
   rename_i h1 h2 h3
   have:0≤sumC l:=by
    clear ih h1 h2 h3
    have hp' :∀ d∈l,0≤d.n:=fun d hd=>hp d (by simp [hd])
    clear hp this
    induction l with
    | nil=>exact Int.le_refl _
    | cons d l ih =>
     rw [sumC_cons]
     have:=hp' d (by simp)
     have:=ih fun d hd=>hp' d (by simp [hd])
     omega
   omega
 | c::k,l,hk,hl,h0,hp,h=>by
  rw [sumC_cons,sum_without hl c.t]
  have h1:=h c.t
  rw [cnt_cons,if_pos rfl] at h1
  have:=sum_le_of k (srt_tail hk) (srt_without hl c.t) (fun t=>by
   rw [cnt_without];split
   ·exact Int.le_refl _
   ·exact h0 t) (fun d hd=>hp d (List.mem_filter.1 hd).1) (fun t=>by
   rw [cnt_without]
   split
   ·rename_i e;rw [e,cnt_above hk];exact Int.le_refl _
   ·rename_i e
    have:=h t
    rw [cnt_cons,if_neg (fun q=>e q.symm)] at this
    exact this)
  omega
end Go.Proofs.YtkkolclmfcmfbaaGreatDoor
namespace Go.Proofs.YtkkolclmfcmfbaaGreatDoor
open Go.RowKit Go.Shelf
def passF (k r:Int) (ns:List Nd):Int × Int × List Nd :=
 if k=4 then (0,r,trimN ns) else if k=3 then (0,r,deadN ns) else if k=2 then allF r ns (tms ns ns.length) else if (splitN ns).length≤256 then (0,r,splitN ns) else (2,0,[])
def passN (k:Int):Nat:=if k=4 then 34 else if k=3 then 33 else if k=2 then 32 else 31
theorem passV_fn {k:Int} (h:isPass k=true):passV k=fnV (passN k):=by
 unfold passV passN
 by_cases e4:k=4
 ·simp [e4]
 by_cases e3:k=3
 ·simp [e3]
 by_cases e2:k=2
 ·simp [e2]
 by_cases e1:k=1
 ·simp [e1]
 simp [isPass,e4,e3,e2,e1] at h
theorem passN_enters (k:Int):∀ args w,(callFunc (passN k) args).run Tryz.prog w=.ok (.enter (passN k) args) w:=by
 unfold passN
 split
 ·exact enters_of Tryz.func34 (by kernel_rfl) rfl
 split
 ·exact enters_of Tryz.func33 (by kernel_rfl) rfl
 split
 ·exact enters_of Tryz.func32 (by kernel_rfl) rfl
 ·exact enters_of Tryz.func31 (by kernel_rfl) rfl
def PassSays (x:Int × Int × List Nd) (w:World) (e:Ending) (w' :World):Prop :=
 (x.1≠0∧e=.returned (.tuple #[.agg #[.int .i64 0,.slice none 0 0],.int .i64 x.1]) ∨
  x.1=0∧∃ gb gq gc,e=.returned (.tuple #[.agg #[.int .i64 x.2.1,.slice (some ⟨gb,gq,none⟩) x.2.2.length gc],.int .i64 0])∧NodesAt w' gb gq x.2.2∧w.heap.size≤gb)∧Below w.heap.size w w'
theorem own_nodes {w:World} {base:Nat} {v:Value} {ms:List Nd} (h:w.ownsRow base 48 6 v ms.length (ms.flatMap encNd)) (hl:1≤ms.length):∃ gb gc,v=.slice (some ⟨gb,0,none⟩) ms.length gc∧NodesAt w gb 0 ms∧base≤gb:=by
 obtain ⟨gb,gc,rfl,hb,_⟩:=h.form (by omega)
 exact ⟨gb,gc,rfl,nodes_ownM h hl,hb⟩
theorem pass_any (k r:Int) (b off cap:Nat) (ns:List Nd) (w:World) (hN:NodesAt w b off ns) (hc:chk r ns=0) :
 Calls Tryz.prog (passN k) #[.agg #[.int .i64 r,.slice (some ⟨b,off,none⟩) ns.length cap]] w (PassSays (passF k r ns) w):=by
 unfold passN passF
 by_cases e4:k=4
 ·rw [if_pos e4,if_pos e4]
  refine (callsIn_wide.1 (trim_ok r b off cap ns w hN hc)).mono ?_
  rintro e w' ⟨v,rfl,hv,hB⟩
  obtain ⟨gb,gc,rfl,hn,hb⟩:=own_nodes hv (chk_zero (trim_chk hc)).1.1
  exact ⟨Or.inr ⟨rfl,gb,0,gc,rfl,hn,hb⟩,hB⟩
 rw [if_neg e4,if_neg e4]
 by_cases e3:k=3
 ·rw [if_pos e3,if_pos e3]
  refine (dead_right r b off cap ns w hN hc).mono ?_
  rintro e w' ⟨cb,cc,rfl,hv,hB⟩
  have hl:(deadN ns).length=ns.length:=(DeadOf.all ns).len
  rw [← hl] at hv
  obtain ⟨gb,gc,e,hn,hb⟩:=own_nodes hv (by rw [hl];exact (chk_zero hc).1.1)
  cases e
  exact ⟨Or.inr ⟨rfl,cb,0,cc,by rw [hl],hn,hb⟩,hB⟩
 rw [if_neg e3,if_neg e3]
 by_cases e2:k=2
 ·rw [if_pos e2,if_pos e2]
  refine (all_right r b off cap ns w hN hc).mono ?_
  rintro e w' ⟨h,hB⟩
  rcases h with h | ⟨h0,gb,gc,rfl,hn,hb⟩
  ·exact ⟨Or.inl h,hB⟩
  ·exact ⟨Or.inr ⟨h0,gb,0,gc,rfl,hn,hb⟩,hB⟩
 rw [if_neg e2,if_neg e2]
 refine (callsIn_wide.1 (split_ok r b off cap ns w hN hc)).mono ?_
 rintro e w' ⟨v1,v2,er,rfl,h,hB⟩
 rcases h with ⟨hl,rfl,rfl,hv⟩ | ⟨hl,rfl,rfl,rfl⟩
 ·rw [if_pos hl]
  obtain ⟨gb,gc,rfl,hn,hb⟩:=own_nodes hv (chk_zero (split_chk hc hl)).1.1
  exact ⟨Or.inr ⟨rfl,gb,0,gc,rfl,hn,hb⟩,hB⟩
 ·rw [if_neg (by omega)]
  exact ⟨Or.inl ⟨by decide,rfl⟩,hB⟩
structure GoodP (r:Int) (ns:List Nd) (q:Int) (ms:List Nd):Prop where
 ck:chk q ms=0
 sims:Sims ns r.toNat ms q.toNat
 few:Fewer ns r.toNat ms q.toNat
theorem GoodP.refl {r:Int} {ns:List Nd} (hc:chk r ns=0):GoodP r ns r ns:=⟨hc,Sims.refl hc _,Fewer.refl _ _⟩
theorem GoodP.trans {r q s:Int} {ns ms ls:List Nd} (h:GoodP r ns q ms) (h' :GoodP q ms s ls):GoodP r ns s ls:=⟨h'.ck,h.sims.trans h'.sims,h.few.trans h.sims h'.few⟩
theorem passF_good {k r:Int} {ns:List Nd} (hc:chk r ns=0) (h0:(passF k r ns).1=0):GoodP r ns (passF k r ns).2.1 (passF k r ns).2.2:=by
 unfold passF at h0 ⊢
 by_cases e4:k=4
 ·rw [if_pos e4];exact ⟨trim_chk hc,trim_sims hc _,trim_fewer hc _⟩
 rw [if_neg e4] at h0 ⊢
 by_cases e3:k=3
 ·rw [if_pos e3];exact ⟨(DeadOf.all ns).chk hc,dead_sims _ _ hc,dead_fewer hc _⟩
 rw [if_neg e3] at h0 ⊢
 by_cases e2:k=2
 ·rw [if_pos e2] at h0 ⊢
  have h:=allF_all hc h0
  exact ⟨h.ck,h.sims,allF_fewer hc h0⟩
 rw [if_neg e2] at h0 ⊢
 by_cases hl:(splitN ns).length≤256
 ·rw [if_pos hl];exact ⟨split_chk hc hl,split_sims hc _,split_fewer hc _⟩
 ·rw [if_neg hl] at h0;exact absurd h0 (by decide)
def passS (x:Int × Int × List Nd) (k:Int):Int × Int × List Nd:=if x.1=0 then passF k x.2.1 x.2.2 else x
def passesF (r:Int) (ns:List Nd) (l:List Int):Int × Int × List Nd:=l.foldl passS (0,r,ns)
theorem passesF_snoc (r:Int) (ns:List Nd) (l:List Int) (k:Int):passesF r ns (l++[k])=passS (passesF r ns l) k:=by simp [passesF,List.foldl_append]
theorem passS_err {x:Int × Int × List Nd} (h:x.1≠0):∀ l:List Int,l.foldl passS x=x
 | []=>rfl
 | k::l=>by rw [List.foldl_cons,passS,if_neg h];exact passS_err h l
theorem passes_good {r:Int} {ns:List Nd} (hc:chk r ns=0):∀ (l:List Int) {x:Int × Int × List Nd},x.1=0→GoodP r ns x.2.1 x.2.2→(l.foldl passS x).1=0→GoodP r ns (l.foldl passS x).2.1 (l.foldl passS x).2.2
 | [],_,_,h,_=>h
 | k::l,x,h0,h,he=>by
  rw [List.foldl_cons] at he ⊢
  have e:passS x k=passF k x.2.1 x.2.2:=by rw [passS,if_pos h0]
  by_cases h1:(passS x k).1=0
  ·refine passes_good hc l h1 ?_ he
   rw [e] at h1 ⊢
   exact h.trans (passF_good h.ck h1)
  ·rw [passS_err h1] at he;exact absurd he h1
theorem passesF_good {r:Int} {ns:List Nd} (hc:chk r ns=0) {l:List Int} (he:(passesF r ns l).1=0):GoodP r ns (passesF r ns l).2.1 (passesF r ns l).2.2:=passes_good hc l rfl (GoodP.refl hc) he
theorem boxZ (w:World) (o0 o1:Obj):∃ W,Hid ((w.alloc o0).alloc o1=W)∧Below w.heap.size w W∧W.heap[w.heap.size]?=some o0∧W.heap[w.heap.size+1]?=some o1:=by
 refine ⟨_,rfl,((Below.refl _ w).alloc (Nat.le_refl _) _).alloc (by simp) _,(Below.heap_alloc _ _ _ (by simp)).trans (World.alloc_heap_new w _),?_⟩
 have:=World.alloc_heap_new (w.alloc o0) o1
 rwa [World.size_alloc] at this
theorem map_below {w w' :World} {b n:Nat} (h:w.ownsMap Tryz.prog 3 asIs b n passD) (hb:Below w.heap.size w w'):w'.ownsMap Tryz.prog 3 asIs b n passD:=by
 have hl:=h.lt
 obtain ⟨es,clock,k,F,hs,hD⟩:=h
 exact ⟨es,clock,(hb.block _ hl).trans k,F,hs,hD⟩
theorem map_set {w:World} {b n c o:Nat} {v:Value} (h:w.ownsMap Tryz.prog 3 asIs b n passD) (hne:b≠c):(w.setCell ⟨c,o,none⟩ v).ownsMap Tryz.prog 3 asIs b n passD:=by
 obtain ⟨es,clock,k,F,hs,hD⟩:=h
 exact ⟨es,clock,(Below.heap_setCell _ _ _ _ hne).trans k,F,hs,hD⟩
def passE (r:Int) (ns:List Nd) (l:List Int):Int:=if chk r ns=0 then (if l.length≤16 then (if l.all isPass=true then (passesF r ns l).1 else 4) else 2) else chk r ns
def PassesSays (r:Int) (ns:List Nd) (l:List Int) (w:World) (e:Ending) (w' :World):Prop :=
 (passE r ns l≠0∧e=.returned (.tuple #[.agg #[.int .i64 0,.slice none 0 0],.int .i64 (passE r ns l)]) ∨
  passE r ns l=0∧∃ gb gq gc,e=.returned (.tuple #[.agg #[.int .i64 (passesF r ns l).2.1,.slice (some ⟨gb,gq,none⟩) (passesF r ns l).2.2.length gc],.int .i64 0])∧NodesAt w' gb gq (passesF r ns l).2.2∧w.heap.size≤gb)∧Below w.heap.size w w'
set_option maxRecDepth 100000 in
theorem passes_any (r:Int) (a:Option Addr) (cap:Nat) (ns:List Nd) (la:Option Addr) (lc:Nat) (l:List Int) (w:World) (hN:SlN w a ns) (hL:IntsAt w la l) (hwf:∀ z∈l,(Lit.int .i64 z).wf=true) :
 Calls Tryz.prog 4 #[.agg #[.int .i64 r,.slice a ns.length cap],.slice la l.length lc] w (PassesSays r ns l w):=by
 obtain ⟨W,HW,hbA,p0,p1⟩:=boxZ w (.cells #[.int .i64 r,.slice a ns.length cap] 24) (.cells #[.int .i64 0,.slice none 0 0] 24)
 have HCK:=hide (check_any r a cap ns W (hN.below hbA))
 have q0:=blk_cell p0 0
 have q1:=blk_cell p0 1
 simp at q0 q1
 have pl:=blk_lt p0
 have HB:=hide hbA
 have HP:=hide p0
 have HR:=hide p1
 clear hbA p0 p1
 unfold PassesSays
 generalize hE:passE r ns l=E
 have HE:=hide hE
 clear hE
 go_enter Tryz.func4,Tryz.ntmps4
 go_upto_region 1 with fail
 rw [HW.out]
 clear HW
 go_wp2_with fail
 refine HCK.out.mono ?_
 rintro e w1 ⟨rfl,hb1⟩
 have HB1:=hide (HB.out.trans (hb1.mono HB.out.size))
 have hR:=(hb1.block _ (blk_lt HR.out)).trans HR.out
 have HP1:=hide ((hb1.block _ (blk_lt HP.out)).trans HP.out)
 have k0:=blk_cell hR 0
 have k1:=blk_cell hR 1
 simp at k0 k1
 have f0:=blk_frozen hR 0
 have f1:=blk_frozen hR 1
 have kl:=blk_lt hR
 have HR1:=hide hR
 have hk:=blk_set2 (v0:=.int .i64 0) (v1:=.slice none 0 0) hR
 have hBf:=below_set2 (v0:=.int .i64 0) (v1:=.slice none 0 0) HB1.out (B:=w.heap.size+1) (by omega)
 clear q0 q1 pl hb1 HCK HB HP HR hR
 by_cases hc:chk r ns=0
 ·obtain ⟨b,off,rfl,hNb⟩:=hN.some (chk_zero hc).1.1
  have hl:=(chk_zero hc).1
  have HC:=hide hc
  rw [hc]
  have HN:=hide hNb
  clear hN hNb hc
  by_cases hm:l.length≤16
  ·have hmi:¬ ((l.length:Int)>16):=by omega
   have hmb:(decide ((l.length:Int)>16))=false:=by simp;omega
   clear hk hBf
   go_upto_region 6 with fail
   go_wp2_with fail
   refine (byNumber_any _).mono ?_
   rintro e w2 ⟨rfl,hm2,hb2⟩
   obtain ⟨w3,hw3⟩:∃ w3,Hid (w2.alloc (.cells #[.map (some w1.heap.size)] 41)=w3):=⟨_,rfl⟩
   have hx3:Below w2.heap.size w2 w3:=by rw [← hw3.out];exact (Below.refl _ w2).alloc (Nat.le_refl _) _
   have hk3:w3.heap[w2.heap.size]?=some (.cells #[.map (some w1.heap.size)] 41 (0,0)):=by rw [← hw3.out];exact World.alloc_heap_new w2 _
   have hb3:Below w1.heap.size w1 w3:=hb2.trans (hx3.mono hb2.size)
   have hm3:w3.ownsMap Tryz.prog 3 asIs w1.heap.size 4 passD:=map_below hm2 hx3
   have HB3:=hide (HB1.out.trans (hb3.mono HB1.out.size))
   have HR3:=hide ((hb3.block _ (blk_lt HR1.out)).trans HR1.out)
   have HP3:=hide ((hb3.block _ (blk_lt HP1.out)).trans HP1.out)
   have HM3:=hide hm3
   have HK3:=hide hk3
   go_upto_region 8 with fail
   rw [hw3.out]
   have HEV:=hide (everyInt_any isPass 13 #[.pointer (some ⟨w2.heap.size,0,none⟩)] la lc l w3 (hL.below HB3.out) (by omega) (enters_of Tryz.func13 (by kernel_rfl) rfl) (fun z hz V hV=>(passes1_any z w2.heap.size w1.heap.size 4 V (by rw [blk_cell ((hV.block _ (blk_lt hk3)).trans hk3)];rfl) (blk_lt ((hV.block _ (blk_lt hk3)).trans hk3)) (map_below hm3 hV) (hwf z hz)).mono fun e w' h=>⟨h.1,by rw [h.2];exact Below.refl _ _⟩))
   have hmn:w1.heap.size<w2.heap.size:=hm2.lt
   clear hm2 hb2 hw3 hx3 hk3 hb3 hm3 HB1 HR1 HP1 k0 k1 f0 f1 kl
   go_wp2_with fail
   refine HEV.out.mono ?_
   rintro e w4 ⟨rfl,hb4⟩
   have HB4:=hide (HB3.out.trans (hb4.mono HB3.out.size))
   have HR4:=hide ((hb4.block _ (blk_lt HR3.out)).trans HR3.out)
   have HP4:=hide ((hb4.block _ (blk_lt HP3.out)).trans HP3.out)
   have HM4:=hide (map_below HM3.out hb4)
   have HK4:=hide ((hb4.block _ (blk_lt HK3.out)).trans HK3.out)
   clear hb4 HB3 HR3 HP3 HM3 HK3 HEV
   cases ha:l.all isPass
   ·have e1:E=4:=by rw [← HE.out];unfold passE;rw [if_pos HC.out,if_pos hm,ha,if_neg (by decide)]
    have HE1:=hide e1
    clear e1 hm HE ha
    have hR:=HR4.out
    have k0:=blk_cell hR 0
    have k1:=blk_cell hR 1
    simp at k0 k1
    have f0:=blk_frozen hR 0
    have f1:=blk_frozen hR 1
    have kl:=blk_lt hR
    have hk:=blk_set2 (v0:=.int .i64 0) (v1:=.slice none 0 0) hR
    have hBf:=below_set2 (v0:=.int .i64 0) (v1:=.slice none 0 0) HB4.out (B:=w.heap.size+1) (by omega)
    clear hR
    go_wp2_with fail
    clear k0 k1 f0 f1 kl
    generalize ((w4.setCell ⟨w.heap.size+1,0,none⟩ (.int .i64 0)).setCell ⟨w.heap.size+1,1,none⟩ (.slice none 0 0))=Wf at hk hBf ⊢
    have k0:=blk_cell hk 0
    have k1:=blk_cell hk 1
    simp at k0 k1
    exact bodyPost_ret (v:=.tuple #[.agg #[.int .i64 0,.slice none 0 0],.int .i64 4]) (by simp [results,Tryz.results4,go_sem,k0,k1]) rfl ⟨Or.inl ⟨by rw [HE1.out];decide,by rw [HE1.out]⟩,hBf⟩
   ·have e1:E=(passesF r ns l).1:=by rw [← HE.out];unfold passE;rw [if_pos HC.out,if_pos hm,ha,if_pos rfl]
    have HE1:=hide e1
    have HA:=hide ha
    clear e1 HE ha
    go_upto_region 10 with fail
    have HS:Hid (∀ u:World,Below w4.heap.size w4 u→u.cell? ⟨w.heap.size,0,none⟩=some (.int .i64 r)∧u.cell? ⟨w.heap.size,1,none⟩=some (.slice (some ⟨b,off,none⟩) ns.length cap)):=fun u h=>by
     have k1:=(h.block _ (blk_lt HP4.out)).trans HP4.out
     refine ⟨?_,?_⟩
     ·rw [blk_cell k1];rfl
     ·rw [blk_cell k1];rfl
    have pl:w.heap.size<w4.heap.size:=blk_lt HP4.out
    have rl:w.heap.size+1<w4.heap.size:=blk_lt HR4.out
    have ml:w2.heap.size<w4.heap.size:=blk_lt HK4.out
    go_cut [9] from 30 to 35 (fun v wx=>∃ QB gb gc,v=.pointer (some ⟨QB,0,none⟩)∧w4.heap.size≤QB∧wx.heap[QB]?=some (.cells #[.int .i64 r,.slice (some ⟨gb,0,none⟩) ns.length gc] 24 (0,0))∧NodesAt wx gb 0 ns∧gb≠QB∧w4.heap.size≤gb∧Below w4.heap.size w4 wx)
    case first =>
     go_region_held3 (fun u=>u.cell? ⟨w.heap.size,0,none⟩=some (.int .i64 r)∧u.cell? ⟨w.heap.size,1,none⟩=some (.slice (some ⟨b,off,none⟩) ns.length cap)) (first
      | (with_reducible refine HS.out _ ?_;first | with_reducible exact hB7 | with_reducible exact hB7.alloc hB7.size _ | with_reducible exact (Below.refl _ w4).drew | with_reducible exact (Below.refl _ w4) | with_reducible exact ((Below.refl _ w4).alloc (Nat.le_refl _) _).drew | with_reducible exact (Below.refl _ w4).drew.alloc (by simp) _ | with_reducible exact (Below.refl _ w4).alloc (Nat.le_refl _) _)
      | (with_reducible refine HS.out _ ?_;exact below_set2 hB7 (Nat.le_refl _))) (first
      | (go_at_call 15;refine (clone_at2M b off cap ns w4 (HN.out.below HB4.out HN.out.lt) (by omega)).mono ?_;rintro e w7 ⟨gb,gc,rfl,hN7,hg7,hk7,hB7⟩;have z0:=blk_cell hk7 0;have z1:=blk_cell hk7 1;simp at z0 z1;have f0:=blk_frozen hk7 0;have f1:=blk_frozen hk7 1;have zl:=blk_lt hk7;have HX:=hide (And.intro hN7 hk7);clear hN7 hk7)
      | (go_at_call 15;refine (clone_at1M b off cap ns w4 (HN.out.below HB4.out HN.out.lt) (by omega)).mono ?_;rintro e w7 ⟨gb,gc,rfl,hN7,hg7,hB7⟩;have HX:=hide hN7;clear hN7))
     all_goals (go_wp2;go_meet)
     all_goals first
      | exact ⟨w4.heap.size,gb,gc,rfl,Nat.le_refl _,blk_set2 HX.out.2,(HX.out.1.setM (by omega)).setM (by omega),by omega,by omega,below_set2 hB7 (Nat.le_refl _)⟩
      | exact ⟨w7.heap.size,gb,gc,rfl,hB7.size,blk_new rfl,HX.out.below ((Below.refl _ w7).alloc (Nat.le_refl _) _) HX.out.lt,Nat.ne_of_lt HX.out.lt,hg7,hB7.alloc hB7.size _⟩
    case rest =>
     obtain ⟨QB,gb,gc,rfl,hQ,hK,hNg,hne,hgb,hBc⟩:=hcut
     have HK:=hide hK
     have HNg:=hide hNg
     have HBc:=hide hBc
     have hneR:w.heap.size+1≠QB:=by omega
     have hneM:w1.heap.size≠QB:=by omega
     have hneB:w2.heap.size≠QB:=by omega
     clear hK hNg hBc HS HP4 HN
     generalize hW:wc=V at *
     clear hW
     go_wp2_with fail
     go_loopw [38] (fun i wr=>∃ (k gb gq gc:Nat),k≤l.length∧i=.int .i64 k∧(passesF r ns (l.take k)).1=0∧wr.heap[QB]?=some (.cells #[.int .i64 (passesF r ns (l.take k)).2.1,.slice (some ⟨gb,gq,none⟩) (passesF r ns (l.take k)).2.2.length gc] 24 (0,0))∧NodesAt wr gb gq (passesF r ns (l.take k)).2.2∧gb≠QB∧w4.heap.size≤gb∧wr.ownsMap Tryz.prog 3 asIs w1.heap.size 4 passD∧Below w4.heap.size w4 wr) (fun i _=>l.length-(intOf i).toNat)
     case atStart=>exact ⟨0,gb,0,gc,Nat.zero_le _,rfl,rfl,HK.out,HNg.out,hne,hgb,map_below HM4.out HBc.out,HBc.out⟩
     case round =>
      obtain ⟨k,gb,gq,gc,hk,rfl,h0,hK,hN,hne,hgb,hM,hb⟩:=hrel
      have hgd:=passesF_good HC.out h0
      obtain ⟨⟨e0,q,ms⟩,hX⟩:∃ X,passesF r ns (l.take k)=X:=⟨_,rfl⟩
      rw [hX] at h0 hK hN hgd
      simp only at h0 hK hN hgd
      subst h0
      have HX:=hide hX
      have HR:=hide ((hb.block _ rl).trans HR4.out)
      have HKB:=hide ((hb.block _ ml).trans HK4.out)
      have HBw:=hide (HB4.out.trans (hb.mono HB4.out.size))
      have hwr:w4.heap.size≤wr.heap.size:=hb.size
      clear hX
      by_cases hlt:k<l.length
      ·obtain ⟨z,hz⟩:=get_lt hlt
       obtain ⟨lb,lo,rfl,ll,hlv⟩:=hL.at hlt
       have hki:(k:Int)<(l.length:Int):=by omega
       have hzm:=List.mem_of_getElem? hz
       have hpz:isPass z=true:=List.all_eq_true.1 HA.out z hzm
       have c0:=(HBw.out.cell (p:=⟨lb,lo+k,none⟩) ll).trans (hlv k z hz)
       have ll' :lb<wr.heap.size:=Nat.lt_of_lt_of_le ll HBw.out.size
       have hlook:=pass_look hM (hwf z hzm)
       rw [passV_fn hpz] at hlook
       unfold fnV at hlook
       have eg:=passN_enters z
       have hpass:=fun (W:World) (h:NodesAt W gb gq ms)=>pass_any z q gb gq gc ms W h hgd.ck
       have HTK:=hide (show l.take (k+1)=l.take k++[z] by rw [List.take_add_one,hz];rfl)
       have HPS:=hide hpass
       have HM:=hide hM
       have HNn:=hide hN
       have q0:=blk_cell hK 0
       have q1:=blk_cell hK 1
       have m0:=blk_cell HKB.out 0
       simp at q0 q1 m0
       have ql:=blk_lt hK
       have qlw:=blk_lt hK
       have mll:=blk_lt HKB.out
       have HKq:=hide hK
       have HBb:=hide hb
       generalize passN z=n at hlook eg HPS
       clear hz hzm hpz hlv hpass hM hN hK hb
       go_wp2_with fail
       refine (HPS.out wr HNn.out).mono ?_
       rintro e w5 ⟨h,hb5⟩
       have hQ5:=(hb5.block _ ql).trans HKq.out
       have hR5:=(hb5.block _ (blk_lt HR.out)).trans HR.out
       have HB5:=hide (HBb.out.trans (hb5.mono hwr))
       have HBw5:=hide (HBw.out.trans (hb5.mono HBw.out.size))
       have HM5:=hide (map_below HM.out hb5)
       have hl5:=hb5.size
       have hss:=HBw.out.size
       clear q0 q1 m0 mll ql HKq HR HNn HBb HBw HPS hb5 c0 hlook eg HKB
       have q0:=blk_cell hQ5 0
       have q1:=blk_cell hQ5 1
       simp at q0 q1
       have f0:=blk_frozen hQ5 0
       have f1:=blk_frozen hQ5 1
       have ql5:=blk_lt hQ5
       have hS1:passesF r ns (l.take (k+1))=passF z q ms:=by rw [HTK.out,passesF_snoc,HX.out,passS,if_pos rfl]
       generalize passF z q ms=Y at h hS1
       obtain ⟨C,q', ms'⟩:=Y
       simp only at h
       rcases h with ⟨hne0,rfl⟩ | ⟨rfl,nb,nq,nc,rfl,hV,hnb⟩
       ·have hCb:(C==0)=false:=by simp [hne0]
        have hCn:(C != 0)=true:=by simp [hne0]
        have hF:(passesF r ns l).1=C:=by
         have e2:l=l.take (k+1)++l.drop (k+1):=(List.take_append_drop _ _).symm
         rw [e2,passesF,List.foldl_append]
         change (List.foldl passS (passesF r ns (l.take (k+1))) _).1=C
         rw [hS1,passS_err (by exact hne0)]
        have HF:=hide hF
        have HNE:=hide hne0
        clear hF hne0 hS1
        have HR6:Hid (((w5.setCell ⟨QB,0,none⟩ (.int .i64 0)).setCell ⟨QB,1,none⟩ (.slice none 0 0)).heap[w.heap.size+1]?=some (.cells #[.int .i64 0,.slice none 0 0] 24 (0,0))):=(cells_setP hneR _ _).trans ((cells_setP hneR _ _).trans hR5)
        have HBw6:=hide (below_set2 (v0:=.int .i64 0) (v1:=.slice none 0 0) HBw5.out (B:=QB) (by omega))
        clear hQ5 hR5
        go_upto_region 16 with fail
        clear q0 q1 f0 f1 ql5
        generalize ((w5.setCell ⟨QB,0,none⟩ (.int .i64 0)).setCell ⟨QB,1,none⟩ (.slice none 0 0))=U2 at HR6 HBw6 ⊢
        have hR:=HR6.out
        have k0:=blk_cell hR 0
        have k1:=blk_cell hR 1
        simp at k0 k1
        have f0:=blk_frozen hR 0
        have f1:=blk_frozen hR 1
        have kl:=blk_lt hR
        have hk:=blk_set2 (v0:=.int .i64 0) (v1:=.slice none 0 0) hR
        have hBf:=below_set2 (v0:=.int .i64 0) (v1:=.slice none 0 0) HBw6.out (B:=w.heap.size+1) (by omega)
        clear hR
        go_wp2_with fail
        clear k0 k1 f0 f1 kl
        generalize ((U2.setCell ⟨w.heap.size+1,0,none⟩ (.int .i64 0)).setCell ⟨w.heap.size+1,1,none⟩ (.slice none 0 0))=Wf at hk hBf ⊢
        have k0:=blk_cell hk 0
        have k1:=blk_cell hk 1
        simp at k0 k1
        exact bodyPost_ret (v:=.tuple #[.agg #[.int .i64 0,.slice none 0 0],.int .i64 C]) (by simp [results,Tryz.results4,go_sem,k0,k1]) rfl ⟨Or.inl ⟨by rw [HE1.out,HF.out];exact HNE.out,by rw [HE1.out,HF.out]⟩,hBf⟩
       ·have hnq:nb≠QB:=Ne.symm (Nat.ne_of_lt (Nat.lt_of_lt_of_le qlw hnb))
        have HN6:Hid (NodesAt ((w5.setCell ⟨QB,0,none⟩ (.int .i64 q')).setCell ⟨QB,1,none⟩ (.slice (some ⟨nb,nq,none⟩) ms'.length nc)) nb nq ms'):=(hV.setM hnq).setM hnq
        have HK6:Hid (((w5.setCell ⟨QB,0,none⟩ (.int .i64 q')).setCell ⟨QB,1,none⟩ (.slice (some ⟨nb,nq,none⟩) ms'.length nc)).heap[QB]?=some (.cells #[.int .i64 q', .slice (some ⟨nb,nq,none⟩) ms'.length nc] 24 (0,0))):=blk_set2 hQ5
        have HB6:=hide (below_set2 (v0:=.int .i64 q') (v1:=.slice (some ⟨nb,nq,none⟩) ms'.length nc) HB5.out (B:=QB) (by omega))
        have HM6:=hide (map_set (o:=1) (v:=.slice (some ⟨nb,nq,none⟩) ms'.length nc) (map_set (o:=0) (v:=.int .i64 q') HM5.out hneM) hneM)
        have HS1:=hide hS1
        clear hV hQ5 hR5 hS1
        go_upto_region 16 with fail
        clear q0 q1 f0 f1 ql5
        generalize ((w5.setCell ⟨QB,0,none⟩ (.int .i64 q')).setCell ⟨QB,1,none⟩ (.slice (some ⟨nb,nq,none⟩) ms'.length nc))=U2 at HN6 HK6 HB6 HM6 ⊢
        go_wp2_with fail
        go_roundw
        case rel=>exact ⟨k+1,nb,nq,nc,by omega,by go_num,by rw [HS1.out],by rw [HS1.out];exact HK6.out,by rw [HS1.out];exact HN6.out,hnq,by omega,HM6.out,HB6.out⟩
        case measure=>simp [intOf];omega
      ·have ek:l.take k=l:=List.take_of_length_le (by omega)
       rw [ek] at HX
       have hki:¬ (k:Int)<(l.length:Int):=by omega
       have q0:=blk_cell hK 0
       have q1:=blk_cell hK 1
       simp at q0 q1
       have ql:=blk_lt hK
       have hR:=HR.out
       have k0:=blk_cell hR 0
       have k1:=blk_cell hR 1
       simp at k0 k1
       have f0:=blk_frozen hR 0
       have f1:=blk_frozen hR 1
       have kl:=blk_lt hR
       have hk2:=blk_set2 (v0:=.int .i64 q) (v1:=.slice (some ⟨gb,gq,none⟩) ms.length gc) hR
       have hBf:=below_set2 (v0:=.int .i64 q) (v1:=.slice (some ⟨gb,gq,none⟩) ms.length gc) HBw.out (B:=w.heap.size+1) (by omega)
       have hgR:gb≠w.heap.size+1:=by omega
       have HN6:Hid (NodesAt ((wr.setCell ⟨w.heap.size+1,0,none⟩ (.int .i64 q)).setCell ⟨w.heap.size+1,1,none⟩ (.slice (some ⟨gb,gq,none⟩) ms.length gc)) gb gq ms):=(hN.setM hgR).setM hgR
       clear hR hK hN hM hb
       go_wp2_with fail
       clear k0 k1 f0 f1 kl
       generalize ((wr.setCell ⟨w.heap.size+1,0,none⟩ (.int .i64 q)).setCell ⟨w.heap.size+1,1,none⟩ (.slice (some ⟨gb,gq,none⟩) ms.length gc))=Wf at hk2 hBf HN6 ⊢
       have k0:=blk_cell hk2 0
       have k1:=blk_cell hk2 1
       simp at k0 k1
       exact bodyPost_ret (v:=.tuple #[.agg #[.int .i64 q,.slice (some ⟨gb,gq,none⟩) ms.length gc],.int .i64 0]) (by simp [results,Tryz.results4,go_sem,k0,k1]) rfl ⟨Or.inr ⟨by rw [HE1.out,HX.out],gb,gq,⟨gc,by rw [HX.out]⟩,by rw [HX.out];exact HN6.out,by omega⟩,hBf⟩
  ·have hmi:(l.length:Int)>16:=by omega
   have hmb:(decide ((l.length:Int)>16))=true:=by simp;omega
   have e1:E=2:=by rw [← HE.out];unfold passE;rw [if_pos HC.out,if_neg hm]
   have HE1:=hide e1
   clear e1 hm HE
   go_wp2_with fail
   clear k0 k1 f0 f1 kl
   generalize ((w1.setCell ⟨w.heap.size+1,0,none⟩ (.int .i64 0)).setCell ⟨w.heap.size+1,1,none⟩ (.slice none 0 0))=Wf at hk hBf ⊢
   have k0:=blk_cell hk 0
   have k1:=blk_cell hk 1
   simp at k0 k1
   exact bodyPost_ret (v:=.tuple #[.agg #[.int .i64 0,.slice none 0 0],.int .i64 2]) (by simp [results,Tryz.results4,go_sem,k0,k1]) rfl ⟨Or.inl ⟨by rw [HE1.out];decide,by rw [HE1.out]⟩,hBf⟩
 ·have hCb:(chk r ns==0)=false:=by simp [hc]
  have hCn:(chk r ns != 0)=true:=by simp [hc]
  have e1:E=chk r ns:=by rw [← HE.out];unfold passE;rw [if_neg hc]
  have HE1:=hide e1
  have HNE:=hide hc
  clear hc e1 HE
  generalize chk r ns=C at *
  go_wp2_with fail
  clear k0 k1 f0 f1 kl
  generalize ((w1.setCell ⟨w.heap.size+1,0,none⟩ (.int .i64 0)).setCell ⟨w.heap.size+1,1,none⟩ (.slice none 0 0))=Wf at hk hBf ⊢
  have k0:=blk_cell hk 0
  have k1:=blk_cell hk 1
  simp at k0 k1
  exact bodyPost_ret (v:=.tuple #[.agg #[.int .i64 0,.slice none 0 0],.int .i64 C]) (by simp [results,Tryz.results4,go_sem,k0,k1]) rfl ⟨Or.inl ⟨by rw [HE1.out];exact HNE.out,by rw [HE1.out]⟩,hBf⟩
def smT:Tm:=⟨3,0,1⟩
def smQ:List Nd:=[⟨9,0,0,0,1,0⟩,⟨9,1,0,0,2,0⟩,⟨11,0,0,0,3,7⟩,⟨3,2,0,1,4,0⟩,⟨10,0,2,0,8,0⟩,⟨3,2,0,1,6,0⟩,⟨12,0,2,0,0,0⟩,⟨0,0,0,0,5,0⟩,⟨0,0,0,0,5,0⟩]
def smM:List Nd:=[⟨9,0,0,0,1,0⟩,⟨9,1,0,0,2,0⟩,⟨11,0,0,0,3,7⟩,⟨3,3,0,1,9,0⟩,⟨10,0,2,0,8,0⟩,⟨2,2,3,0,6,0⟩,⟨12,0,2,0,0,0⟩,⟨3,3,0,1,10,0⟩,⟨0,0,0,0,5,0⟩,⟨2,2,3,0,4,0⟩,⟨0,0,0,0,5,0⟩]
theorem sm_trim:trimN smallN=smallN:=by kernel_rfl
theorem sm_split:splitN smallN=smQ:=by kernel_rfl
theorem sm_one:oneQ smallN=smQ:=by unfold oneQ;rw [sm_trim,sm_split]
theorem sm_down:downL smQ smT=[false,false,true,true,true,true,false,true,true]:=by kernel_rfl
theorem sm_up:upL smQ smT=[false,false,false,false,true,false,true,false,true]:=by kernel_rfl
theorem sm_early:earlyL smQ smT=[false,false,true,false,false,false,false,false,false]:=by unfold earlyL;rw [sm_down,sm_up];kernel_rfl
theorem sm_delay:delayL smQ smT=[false,false,true,true,false,false,false,true,false]:=by unfold delayL delayW;rw [sm_early];kernel_rfl
theorem sm_late:lateL smQ smT=[false,false,false,true,false,false,false,true,false]:=by unfold lateL;rw [sm_delay];kernel_rfl
theorem sm_alone:aloneL smQ smT=[true,true,true,false,false,true,true,false,false]:=by unfold aloneL aloneW;rw [sm_late];kernel_rfl
theorem sm_put:lazyPut smQ smT=[false,false,false,true,false,false,false,true,false]:=by unfold lazyPut;rw [sm_late,sm_alone];kernel_rfl
theorem sm_take:lazyTake smQ smT=[false,false,false,true,false,true,false,false,false]:=by unfold lazyTake;rw [sm_late,sm_alone];kernel_rfl
theorem sm_B:oneB smallN smT=true:=by unfold oneB;rw [sm_one,sm_put];rfl
theorem sm_N:oneN smallN smT 3=smM:=by unfold oneN;rw [sm_B,if_pos rfl,sm_one,sm_put,sm_take];kernel_rfl
theorem sm_R:oneR smallN smT 3=4:=by unfold oneR;rw [sm_B];rfl
theorem sm_chk:chk 3 smallN=0:=by kernel_rfl
theorem sm_E:oneE 3 smallN smT=0:=by
 unfold oneE
 rw [sm_chk,sm_one,sm_B,sm_N]
 rfl
theorem sm_r0:(fin 4 smM [4,5] 99).out=[9]:=by kernel_rfl
theorem sm_r1:(fin 4 smM [4,5] 99).ret=9:=by kernel_rfl
theorem sm_r2:(fin 4 smM [4,5] 99).ended=true:=by kernel_rfl
theorem sm_r3:(fin 4 smM [4,5] 99).steps=9:=by kernel_rfl
theorem sm_r4:(fin 4 smM [4,5] 99).cts=[⟨⟨3,0,1⟩,1⟩]:=by kernel_rfl
theorem sm_rE:rerr 4 smM 2 99=0:=by kernel_rfl
theorem sm_tms:tms smallN smallN.length=[smT]:=by kernel_rfl
theorem sm_all:allF 3 smallN (tms smallN smallN.length)=(0,4,smM):=by
 rw [sm_tms]
 show allS (0,3,smallN) smT=_
 unfold allS
 rw [if_neg (by simp),sm_E,if_pos rfl,sm_R,sm_N]
theorem sm_dead:deadN smM=smM:=by kernel_rfl
theorem sm_trm:trimN smM=smM:=by kernel_rfl
theorem sm_passes:passesF 3 smallN [2,3,4]=(0,4,smM):=by
 have e2:passS (0,3,smallN) 2=(0,4,smM):=by
  unfold passS passF
  rw [if_pos rfl,if_neg (by decide),if_neg (by decide),if_pos rfl]
  exact sm_all
 have e3:passS (0,4,smM) 3=(0,4,smM):=by
  unfold passS passF
  rw [if_pos rfl,if_neg (by decide),if_pos rfl,sm_dead]
 have e4:passS (0,4,smM) 4=(0,4,smM):=by
  unfold passS passF
  rw [if_pos rfl,if_pos rfl,sm_trm]
 show passS (passS (passS (0,3,smallN) 2) 3) 4=_
 rw [e2,e3,e4]
theorem sm_passE:passE 3 smallN [2,3,4]=0:=by
 unfold passE
 rw [sm_chk,if_pos rfl,if_pos (by decide),if_pos (by decide),sm_passes]
theorem passes_small (b off c lb:Nat) (w:World) (hN:NodesAt w b off smallN) (hI:IntsAt w (some ⟨lb,0,none⟩) [2,3,4]) :
 Calls Tryz.prog 4 #[.agg #[.int .i64 3,.slice (some ⟨b,off,none⟩) 7 c],.slice (some ⟨lb,0,none⟩) 3 3] w fun e w' =>∃ gb gq gc,e=.returned (.tuple #[.agg #[.int .i64 4,.slice (some ⟨gb,gq,none⟩) 11 gc],.int .i64 0])∧NodesAt w' gb gq smM∧w.heap.size≤gb∧Below w.heap.size w w' :=by
 refine (passes_any 3 (some ⟨b,off,none⟩) c smallN (some ⟨lb,0,none⟩) 3 [2,3,4] w (Or.inr ⟨b,off,rfl,hN⟩) hI (by decide)).mono ?_
 rintro e w' ⟨h,hB⟩
 rw [sm_passE,sm_passes] at h
 rcases h with ⟨q,_⟩ | ⟨_,gb,gq,gc,rfl,hn,hg⟩
 ·exact absurd rfl q
 ·exact ⟨gb,gq,gc,rfl,hn,hg,hB⟩
def smS:List UInt8:=showB 3 smallN
def smT4:List UInt8:=showB 4 smM
theorem smS_len:smS.length≤140737488355328:=of_decide_eq_true (by kernel_rfl)
theorem smT4_len:smT4.length≤140737488355328:=of_decide_eq_true (by kernel_rfl)
theorem sm_ab:∀ x∈smallN,-9223372036854775808≤x.a∧x.a≤9223372036854775807:=by decide
theorem smM_ab:∀ x∈smM,-9223372036854775808≤x.a∧x.a≤9223372036854775807:=by decide
theorem smM_chk:chk 4 smM=0:=by kernel_rfl
theorem smS_read:readB smS=some (3,smallN):=readB_show sm_chk sm_ab
theorem smT4_read:readB smT4=some (4,smM):=readB_show smM_chk smM_ab
theorem read_smS (w:World) (hE:Env w):Calls Tryz.prog 19 #[.string (ba smS)] w fun e w' =>∃ b off c,e=.returned (.tuple #[.agg #[.int .i64 3,.slice (some ⟨b,off,none⟩) 7 c],.int .i64 0])∧NodesAt w' b off smallN∧Below w.heap.size w w' :=by
 refine (read_any smS w hE smS_len).mono ?_
 rintro e w' ⟨h,hB⟩
 rw [smS_read] at h
 obtain ⟨a,c,rfl,hs⟩:=h
 obtain ⟨b,off,rfl,hn⟩:=hs.some (by decide)
 exact ⟨b,off,c,rfl,hn,hB⟩
theorem read_smT4 (w:World) (hE:Env w):Calls Tryz.prog 19 #[.string (ba smT4)] w fun e w' =>∃ b off c,e=.returned (.tuple #[.agg #[.int .i64 4,.slice (some ⟨b,off,none⟩) 11 c],.int .i64 0])∧NodesAt w' b off smM∧Below w.heap.size w w' :=by
 refine (read_any smT4 w hE smT4_len).mono ?_
 rintro e w' ⟨h,hB⟩
 rw [smT4_read] at h
 obtain ⟨a,c,rfl,hs⟩:=h
 obtain ⟨b,off,rfl,hn⟩:=hs.some (by decide)
 exact ⟨b,off,c,rfl,hn,hB⟩
theorem show_smS (b c:Nat) (w:World) (hN:NodesAt w b 0 smallN) (hE:Env w):Calls Tryz.prog 16 #[.agg #[.int .i64 3,.slice (some ⟨b,0,none⟩) 7 c]] w fun e w' =>e=.returned (.tuple #[.string (ba smS),.int .i64 0])∧Below w.heap.size w w' :=
 show_ok 3 (some ⟨b,0,none⟩) c smallN w (Or.inr ⟨b,0,rfl,hN⟩) hE sm_ab sm_chk
theorem show_smT4 (b off c:Nat) (w:World) (hN:NodesAt w b off smM) (hE:Env w):Calls Tryz.prog 16 #[.agg #[.int .i64 4,.slice (some ⟨b,off,none⟩) 11 c]] w fun e w' =>e=.returned (.tuple #[.string (ba smT4),.int .i64 0])∧Below w.heap.size w w' :=
 show_ok 4 (some ⟨b,off,none⟩) c smM w (Or.inr ⟨b,off,rfl,hN⟩) hE smM_ab smM_chk
set_option maxRecDepth 100000 in
theorem optimise_small (lb:Nat) (w:World) (hE:Env w) (hI:IntsAt w (some ⟨lb,0,none⟩) [2,3,4]) :
 Calls Tryz.prog 18 #[.string (ba smS),.slice (some ⟨lb,0,none⟩) 3 3] w fun e w' =>e=.returned (.tuple #[.string (ba smT4),.int .i64 0])∧Below w.heap.size w w' :=by
 have HRD:=hide (read_smS w hE)
 have HSH:=hide (fun (W:World) (b off c:Nat) (hN:NodesAt W b off smM) (hB:Below w.heap.size w W)=>show_smT4 b off c W hN (hE.below hB))
 have HPS:=hide (fun (W:World) (b off c:Nat) (hN:NodesAt W b off smallN) (hB:Below w.heap.size w W)=>passes_small b off c lb W hN (hI.below hB))
 clear hE hI
 generalize ba smS=S1 at *
 generalize ba smT4=S2 at *
 go_enter Tryz.func18,Tryz.ntmps18
 go_wp2_with fail
 refine HRD.out.mono ?_
 rintro e w1 ⟨b,off,c,rfl,hN1,hb1⟩
 obtain ⟨w2,hw2⟩:∃ w2,Hid (w1.alloc (.cells #[.int .i64 3,.slice (some ⟨b,off,none⟩) 7 c] 24)=w2):=⟨_,rfl⟩
 have hx:Below w1.heap.size w1 w2:=by rw [← hw2.out];exact (Below.refl _ w1).alloc (Nat.le_refl _) _
 have hk:w2.heap[w1.heap.size]?=some (.cells #[.int .i64 3,.slice (some ⟨b,off,none⟩) 7 c] 24 (0,0)):=by rw [← hw2.out];exact World.alloc_heap_new w1 _
 have HB2:=hide (hb1.trans (hx.mono hb1.size))
 have HN2:=hide (hN1.below hx hN1.lt)
 go_upto_region 2 with fail
 rw [hw2.out]
 have hPBw:w.heap.size≤w1.heap.size:=hb1.size
 generalize w1.heap.size=PB at hk hPBw ⊢
 have p0:=blk_cell hk 0
 have p1:=blk_cell hk 1
 simp at p0 p1
 have pl:=blk_lt hk
 have HK:=hide hk
 clear hk hx hw2 hb1 hN1
 go_wp2_with fail
 refine (HPS.out _ b off c HN2.out HB2.out).mono ?_
 rintro e w3 ⟨gb,gq,gc,rfl,hN3,hg3,hb3⟩
 have hk3:=(hb3.block _ pl).trans HK.out
 have r0:=blk_cell hk3 0
 have r1:=blk_cell hk3 1
 simp at r0 r1
 have f0:=blk_frozen hk3 0
 have f1:=blk_frozen hk3 1
 have rl:=blk_lt hk3
 have hne:gb≠PB:=Ne.symm (Nat.ne_of_lt (Nat.lt_of_lt_of_le pl hg3))
 have hPB:w.heap.size≤PB:=hPBw
 have k4:=blk_set2 (v0:=.int .i64 4) (v1:=.slice (some ⟨gb,gq,none⟩) 11 gc) hk3
 have HN4:Hid (NodesAt ((w3.setCell ⟨PB,0,none⟩ (.int .i64 4)).setCell ⟨PB,1,none⟩ (.slice (some ⟨gb,gq,none⟩) 11 gc)) gb gq smM):=(hN3.setM hne).setM hne
 have HB4:=hide (below_set2 (v0:=.int .i64 4) (v1:=.slice (some ⟨gb,gq,none⟩) 11 gc) (HB2.out.trans (hb3.mono HB2.out.size)) (B:=PB) hPB)
 clear p0 p1 hN3 hb3 hk3 HPS HRD HK pl
 go_upto_region 5 with fail
 generalize ((w3.setCell ⟨PB,0,none⟩ (.int .i64 4)).setCell ⟨PB,1,none⟩ (.slice (some ⟨gb,gq,none⟩) 11 gc))=w4 at k4 HN4 HB4 ⊢
 clear r0 r1 f0 f1 rl
 have r0:=blk_cell k4 0
 have r1:=blk_cell k4 1
 simp at r0 r1
 have rl:=blk_lt k4
 clear k4
 go_wp2_with fail
 refine (HSH.out _ gb gq gc HN4.out HB4.out).mono ?_
 rintro e w5 ⟨rfl,hb5⟩
 go_wp2
 exact bodyPost_ret (v:=.tuple #[.string S2,.int .i64 0]) (by simp [results,Tryz.results18,go_sem]) rfl ⟨rfl,HB4.out.trans (hb5.mono HB4.out.size)⟩
theorem run_smM (b off c bi:Nat) (w:World) (hN:NodesAt w b off smM) (hb:bi<w.heap.size) (h0:w.cell? ⟨bi,0,none⟩=some (.int .i64 4)) (h1:w.cell? ⟨bi,1,none⟩=some (.int .i64 5)) :
 Calls Tryz.prog 7 #[.agg #[.int .i64 4,.slice (some ⟨b,off,none⟩) 11 c],.slice (some ⟨bi,0,none⟩) 2 2,.int .i64 99] w fun e w' =>∃ ao co ac cc,e=.returned (.tuple #[.agg #[.slice ao 1 co,.int .i64 9,.bool true,.int .i64 9,.slice ac 1 cc],.int .i64 0])∧IntsAt w' ao [9]∧CtsAt w' ac [⟨⟨3,0,1⟩,1⟩]∧Below w.heap.size w w' :=by
 refine (run_fit 4 b off c smM _ 2 [4,5] 99 w hN (in_two hb h0 h1) (by simp) sm_rE).mono ?_
 rintro e w' ⟨ao,co,ac,cc,rfl,hI,hC,hb', _,_⟩
 rw [sm_r4] at hC
 rw [sm_r0] at hI
 exact ⟨ao,co,ac,cc,by rw [sm_r0,sm_r1,sm_r2,sm_r3,sm_r4];rfl,hI,hC,hb'⟩
theorem ints_three (w:World):IntsAt (w.alloc (.cells #[.int .i64 2,.int .i64 3,.int .i64 4] 3)) (some ⟨w.heap.size,0,none⟩) [2,3,4]:=by
 have h:=World.alloc_heap_new w (.cells #[.int .i64 2,.int .i64 3,.int .i64 4] 3)
 refine Or.inr ⟨_,_,rfl,blk_lt h,?_⟩
 intro j z hz
 rw [blk_cell h]
 match j,hz with
 | 0,hz=>simp at hz;subst hz;rfl
 | 1,hz=>simp at hz;subst hz;rfl
 | 2,hz=>simp at hz;subst hz;rfl
 | j+3,hz=>simp at hz
set_option maxRecDepth 100000 in
theorem wholeBegun_any (w:World) (hE:Env w) :
 Calls Tryz.prog 5 #[] w fun e w' =>e=.returned (.bool true)∧Below w.heap.size w w' :=by
 have HE:=hide hE
 clear hE
 go_enter Tryz.func5,Tryz.ntmps5
 go_wp2_with fail
 refine (small_any _).mono ?_
 rintro e w1 ⟨rfl,hN1,hb1⟩
 have HSH:=hide (show_smS (w.heap.size+1) 7 w1 hN1 (HE.out.below hb1))
 have HOP:=hide (fun (W:World) (h:Below w.heap.size w W)=>optimise_small W.heap.size (W.alloc (.cells #[.int .i64 2,.int .i64 3,.int .i64 4] 3)) (HE.out.below (h.alloc h.size _)) (ints_three W))
 have HRD:=hide (fun (W:World) (h:Below w.heap.size w W)=>read_smT4 W (HE.out.below h))
 generalize ba smS=S1 at *
 generalize ba smT4=S2 at *
 clear hN1
 go_wp2_with fail
 refine HSH.out.mono ?_
 rintro e w2 ⟨rfl,hb2⟩
 have hB2:=hb1.trans (hb2.mono hb1.size)
 clear hb1 hb2 HSH
 go_wp2_with fail
 refine (HOP.out _ hB2).mono ?_
 rintro e w3 ⟨rfl,hb3⟩
 have hB3:=(hB2.alloc hB2.size (.cells #[.int .i64 2,.int .i64 3,.int .i64 4] 3)).trans (hb3.mono (by have:=hB2.size;simp;omega))
 clear hB2 hb3 HOP
 go_wp2_with fail
 refine (HRD.out _ hB3).mono ?_
 rintro e w4 ⟨b,off,c,rfl,hN4,hb4⟩
 obtain ⟨w5,hw5⟩:∃ w5,Hid (w4.alloc (.cells #[.int .i64 4,.slice (some ⟨b,off,none⟩) 11 c] 24)=w5):=⟨_,rfl⟩
 have hx:Below w4.heap.size w4 w5:=by rw [← hw5.out];exact (Below.refl _ w4).alloc (Nat.le_refl _) _
 have hk:w5.heap[w4.heap.size]?=some (.cells #[.int .i64 4,.slice (some ⟨b,off,none⟩) 11 c] 24 (0,0)):=by rw [← hw5.out];exact World.alloc_heap_new w4 _
 have hB4:=hB3.trans (hb4.mono hB3.size)
 have HB5:=hide (hB4.trans (hx.mono hB4.size))
 have HN5:=hide (hN4.below hx hN4.lt)
 go_upto_region 4 with fail
 rw [hw5.out]
 generalize w4.heap.size=PB at hk ⊢
 have p0:=blk_cell hk 0
 have p1:=blk_cell hk 1
 simp at p0 p1
 have pl:=blk_lt hk
 clear hk hx hw5 hb4 hN4 hB3 hB4 HRD HE
 have hba:Below w5.heap.size w5 (w5.alloc (.cells #[.int .i64 4,.int .i64 5] 3)):=(Below.refl _ w5).alloc (Nat.le_refl _) _
 go_wp2_with fail
 refine (run_smM b off c _ _ (HN5.out.below hba HN5.out.lt) (by simp) (by simp) (by simp)).mono ?_
 rintro e w6 ⟨ao,co,ac,cc,rfl,hI6,hC6,hb6⟩
 obtain ⟨w7,hw7⟩:∃ w7,Hid (w6.alloc (.cells #[.slice ao 1 co,.int .i64 9,.bool true,.int .i64 9,.slice ac 1 cc] 33)=w7):=⟨_,rfl⟩
 have hx:Below w6.heap.size w6 w7:=by rw [← hw7.out];exact (Below.refl _ w6).alloc (Nat.le_refl _) _
 have hk:w7.heap[w6.heap.size]?=some (.cells #[.slice ao 1 co,.int .i64 9,.bool true,.int .i64 9,.slice ac 1 cc] 33 (0,0)):=by rw [← hw7.out];exact World.alloc_heap_new w6 _
 have hb6' :=hba.trans (hb6.mono hba.size)
 have hb7:=hb6'.trans (hx.mono hb6'.size)
 have HB7:=hide (HB5.out.trans (hb7.mono HB5.out.size))
 have HI7:=hide (hI6.below hx)
 have HC7:=hide (hC6.below hx)
 go_upto_region 5 with fail
 rw [hw7.out]
 generalize w6.heap.size=RB at hk ⊢
 have r0:=blk_cell hk 0
 have r1:=blk_cell hk 1
 have r2:=blk_cell hk 2
 have r3:=blk_cell hk 3
 have r4:=blk_cell hk 4
 simp at r0 r1 r2 r3 r4
 have rl:=blk_lt hk
 clear hk hx hw7 hb6 hb6' hb7 hI6 hC6 hba HN5 HB5 p0 p1 pl
 refine wp_region_L 35 (S:=fun u=>∀ p:Addr,p.block<w7.heap.size→u.cell? p=w7.cell? p) (by kernel_rfl) (fun p hp=>rfl) (fun hHeld=>?_)
 refine tlw 0 ?_
 iterate 25 (refine tlv ?_)
 refine tlr 26 (fun K hK=>?_)
 go_simp
 refine hK.out _ _ (fun p hp=>((Below.refl w7.heap.size w7.drew).alloc (Nat.le_refl _) _).cell hp) (fun hHeld=>?_)
 clear hK K
 refine tlr 27 (fun K hK=>?_)
 go_simp
 refine (same_one ao co 9 w7.drew HI7.out (Below.refl w7.heap.size w7).drew).mono ?_
 rintro e w8 ⟨rfl,hb8⟩
 refine hK.out _ _ (fun p hp=>hb8.cell hp) (fun hHeld=>?_)
 clear hK K
 iterate 3 (refine tlv ?_)
 refine tlr 31 (fun K hK=>?_)
 go_simp
 refine (sum_any _).mono ?_
 rintro e w9 ⟨rfl,hb9⟩
 have hb9' :=hb8.trans (hb9.mono hb8.size)
 refine hK.out _ _ (fun p hp=>hb9'.cell hp) (fun hHeld=>?_)
 clear hK K
 refine tlr 32 (fun K hK=>?_)
 go_simp
 refine (times_lit _ _ _ _ ac cc 1 w9 HC7.out hb9').mono ?_
 rintro e w10 ⟨rfl,hb10⟩
 refine hK.out _ _ (fun p hp=>hb10.cell hp) (fun hHeld=>?_)
 clear hK K
 iterate 2 (refine tlv ?_)
 refine tls 35 (fun K hK=>?_)
 go_simp
 refine hK.out _ _ ?_
 refine wpAnyL_done (by kernel_rfl) ?_ _
 clear hK K hHeld
 go_wp2
 go_ret
 exact ⟨rfl,HB7.out.trans (hb10.mono HB7.out.size)⟩
structure OkDo (r:Int) (ns:List Nd) (q:Int) (ms:List Nd):Prop where
 c0:chk r ns=0
 c1:chk q ms=0
 sims:Sims ns r.toNat ms q.toNat
theorem doesD_any (r q:Int) (a g:Option Addr) (ca cg:Nat) (ns ms:List Nd) (ia:Option Addr) (ic:Nat) (jn:List Int) (n:Int) (w:World) (h:OkDo r ns q ms) (hN:SlN w a ns) (hM:SlN w g ms) (hI:IntsAt w ia jn) (hic:jn.length≤ic) (hil:jn.length≤256) (hn0:0≤n) (hn1:n<400) :
 Calls Tryz.prog 10 #[.agg #[.int .i64 r,.slice a ns.length ca],.agg #[.int .i64 q,.slice g ms.length cg],.slice ia jn.length ic,.int .i64 n] w fun e w' =>e=.returned (.bool true)∧Below w.heap.size w w' :=by
 have hm:=(chk_full h.c1).1.2
 have hK0:0≤n*((ms.length:Int)+1):=Int.mul_nonneg hn0 (by omega)
 have hK1:n*((ms.length:Int)+1)≤400*257:=Int.le_trans (Int.mul_le_mul_of_nonneg_right (by omega) (by omega)) (Int.mul_le_mul_of_nonneg_left (by omega) (by omega))
 have h1:rerr r ns jn.length n=0:=rerr_ok h.c0 hil hn0 (by omega)
 have h2:rerr q ms jn.length n=0:=rerr_ok h.c1 hil hn0 (by omega)
 have h3:rerr q ms jn.length (n*((ms.length:Int)+1)+ms.length)=0:=rerr_ok h.c1 hil (by omega) (by omega)
 exact does_any r q a g ca cg ns ms ia ic jn n w hN hM hI hic (by omega) hn0 hn1 hm h1 h2 h3 (doing_of (h.sims.does jn n.toNat) hn0 h1 h2 h3)
theorem sumC_snoc:∀ (l:List Ct) (c:Ct),sumC (l++[c])=sumC l+c.n
 | [],c=>by simp [sumC]
 | d::l,c=>by rw [List.cons_append,sumC_cons,sumC_snoc l c,sumC_cons];omega
theorem sumC_take {l:List Ct} {k:Nat} {c:Ct} (h:l[k]?=some c):sumC (l.take (k+1))=sumC (l.take k)+c.n:=by
 rw [List.take_add_one,h];exact sumC_snoc _ _
theorem sumC_bound:∀ {l:List Ct},(∀ c∈l,0≤c.n∧c.n≤131072)→0≤sumC l∧sumC l≤131072*l.length
 | [],_=>⟨Int.le_refl _,by simp [sumC]⟩
 | c::l,h=>by
  have h1:=h c (by simp)
  have h2:=sumC_bound (l:=l) fun d hd=>h d (by simp [hd])
  rw [sumC_cons,List.length_cons]
  omega
theorem stp_cn {x:Nd} {s:St} {k:Int} (hk:0≤k) (h:∀ c∈s.cts,0≤c.n∧c.n≤k):∀ c∈(stp x s).cts,0≤c.n∧c.n≤k+1:=by
 have h' :∀ c∈s.cts,0≤c.n∧c.n≤k+1:=fun c hc=>⟨(h c hc).1,by have:=(h c hc).2;omega⟩
 unfold stp
 repeat' split
 all_goals first | exact h' | exact omore_le hk h
theorem runN_cn {ns:List Nd}:∀ (n:Nat) (s:St) (k:Int),0≤k→(∀ c∈s.cts,0≤c.n∧c.n≤k)→∀ c∈(runN ns n s).cts,0≤c.n∧c.n≤k+n
 | 0,s,k,_,h=>fun c hc=>⟨(h c hc).1,by have:=(h c hc).2;omega⟩
 | n+1,s,k,hk,h=>fun c hc=>by
  unfold runN at hc
  split at hc
  ·have:=h c hc;omega
  ·split at hc
   ·have:=runN_cn n (stp _ s) (k+1) (by omega) (stp_cn hk h) c hc
    omega
   ·have:=h c hc;omega
set_option maxRecDepth 100000 in
theorem reckoned_any (v0 v1 v2 v3:Value) (a:Option Addr) (cap:Nat) (l:List Ct) (w:World) (hC:CtsAt w a l) (hl:l.length≤131072) (hb:∀ c∈l,0≤c.n∧c.n≤131072) :
 Calls Tryz.prog 9 #[.agg #[v0,v1,v2,v3,.slice a l.length cap]] w fun e w' =>e=.returned (.int .i64 (sumC l))∧Below w.heap.size w w' :=by
 have hB0:Below w.heap.size w (w.alloc (.cells #[v0,v1,v2,v3,.slice a l.length cap] 33)):=(Below.refl _ w).alloc (Nat.le_refl _) _
 have p0:(w.alloc (.cells #[v0,v1,v2,v3,.slice a l.length cap] 33)).heap[w.heap.size]?=some (.cells #[v0,v1,v2,v3,.slice a l.length cap] 33 (0,0)):=World.alloc_heap_new w _
 have HC:=hide (hC.below hB0)
 have HBD:=hide hb
 clear hb hC
 go_enter Tryz.func9,Tryz.ntmps9
 go_upto_region 1 with fail
 generalize (w.alloc (.cells #[v0,v1,v2,v3,.slice a l.length cap] 33))=W at hB0 p0 HC ⊢
 have c4:=blk_cell p0 4
 simp at c4
 have pl:=blk_lt p0
 clear p0
 go_wp2
 go_loopw [3,4] (fun v i wr=>∃ k:Nat,k≤l.length∧i=.int .i64 k∧v=.int .i64 (sumC (l.take k))∧wr=W) (fun _ i _=>l.length-(intOf i).toNat)
 case atStart=>exact ⟨0,Nat.zero_le _,rfl,rfl,rfl⟩
 case round =>
  obtain ⟨k,hk,rfl,rfl,rfl⟩:=hrel
  by_cases hlt:k<l.length
  ·obtain ⟨c,hc⟩:=get_lt hlt
   obtain ⟨b,off,rfl,hlb,d0,d1,d2,d3⟩:=HC.out.at hc
   have hki:(k:Int)<(l.length:Int):=by omega
   have hcb:=HBD.out c (List.mem_of_getElem? hc)
   have hsb:=sumC_bound (l:=l.take k) fun d hd=>HBD.out d (List.mem_of_mem_take hd)
   have HT:=hide (sumC_take hc)
   rw [List.length_take,Nat.min_eq_left hk] at hsb
   clear hc
   generalize sumC (l.take k)=S at *
   generalize c.n=N at *
   go_wp2
   go_roundw
   case rel=>exact ⟨k+1,by omega,by go_num,by rw [HT.out],trivial⟩
   case measure=>simp [intOf];omega
  ·have ek:l.take k=l:=List.take_of_length_le (by omega)
   have hki:¬ (k:Int)<(l.length:Int):=by omega
   rw [ek]
   go_wp2
   go_ret
   exact ⟨rfl,hB0⟩
end Go.Proofs.YtkkolclmfcmfbaaGreatDoor
namespace Go.Proofs.YtkkolclmfcmfbaaGreatDoor
open Go
section
variable {P:Program} {ops:Array Oper} {Q:Exit→Act→World→Prop} {md:Region.Mode} {S:World→Prop} {fuel:Nat} {listed:Array Bool} {a a' :Act} {w:World} {oi:Oper} {v:Value}
theorem thw (i:Nat) (h:wpAnyH P md ops Q S fuel (listed.setIfInBounds i true) a' w) (hi:ops[i]?=some oi:=by rfl) (hw:Region.wanted oi (yielded ops a.tmps)=true:=by as_aux_lemma=>kernel_rfl)
 (hv:∀ w,S w→(execOp a.eval oi).run P w=.ok (.value v) w:=by intro w hSw;(try dsimp only at hSw);go_simp;all_goals with_reducible rfl) (ha:a.put oi.dst v=a' :=by (try simp only [Act.put,List.getElem_toArray,List.getElem_cons_zero,List.getElem_cons_succ,tW1,tW2,tW3]);rfl)
 (hQ:∀ c a w,Q (.panic c) (a.put oi.dst v) w→Q (.panic c) a w:=by first | exact hQp _ _ | exact fun _ _ _ h=>h) (hs:Region.noSelect ops=true:=by as_aux_lemma=>kernel_rfl) (hf:Region.free md ops listed i=true:=by as_aux_lemma=>kernel_rfl) (hr:(Region.ready md ops listed).contains i=true:=by as_aux_lemma=>kernel_rfl) (hS:S w:=by assumption):wpAnyH P md ops Q S (fuel+1) listed a w :=
 wpAnyH_take hi hs hf hr hQ (Or.inl ⟨hw,hv⟩) hS (by rw [ha];exact h)
theorem thx (i:Nat) (h:wpAnyH P md ops Q S fuel (listed.setIfInBounds i true) a' w) (hi:ops[i]?=some oi:=by rfl) (hw:Region.wanted oi (yielded ops a.tmps)=false:=by as_aux_lemma=>kernel_rfl) (ha:a.put oi.dst undef=a' :=by (try simp only [Act.put,List.getElem_toArray,List.getElem_cons_zero,List.getElem_cons_succ,tW1,tW2,tW3]);rfl)
 (hQ:∀ c a w,Q (.panic c) (a.put oi.dst undef) w→Q (.panic c) a w:=by first | exact hQp _ _ | exact fun _ _ _ h=>h) (hs:Region.noSelect ops=true:=by as_aux_lemma=>kernel_rfl) (hf:Region.free md ops listed i=true:=by as_aux_lemma=>kernel_rfl) (hr:(Region.ready md ops listed).contains i=true:=by as_aux_lemma=>kernel_rfl) (hS:S w:=by assumption):wpAnyH P md ops Q S (fuel+1) listed a w :=
 wpAnyH_take (v:=undef) hi hs hf hr hQ (Or.inr ⟨hw,rfl⟩) hS (by rw [ha];exact h)
theorem thv {k:Nat} (h:wpAnyH P md ops Q S fuel ((listed.setIfInBounds k true).setIfInBounds (k+1) true) a' w) (hi:ops[k+1]?=some oi:=by rfl) (hw:Region.wanted oi (yielded ops a.tmps)=true:=by as_aux_lemma=>kernel_rfl)
 (hv:∀ w,S w→(execOp a.eval oi).run P w=.ok (.value v) w:=by intro w hSw;(try dsimp only at hSw);go_simp;all_goals with_reducible rfl) (ha:a.put oi.dst v=a' :=by (try simp only [Act.put,List.getElem_toArray,List.getElem_cons_zero,List.getElem_cons_succ,tW1,tW2,tW3]);rfl)
 (hQ:∀ c a w,Q (.panic c) (a.put oi.dst v) w→Q (.panic c) a w:=by first | exact hQp _ _ | exact fun _ _ _ h=>h) (hs:Region.noSelect ops=true:=by as_aux_lemma=>kernel_rfl) (hf:Region.free md ops (listed.setIfInBounds k true) (k+1)=true:=by as_aux_lemma=>kernel_rfl) (hr:(Region.ready md ops (listed.setIfInBounds k true)).contains (k+1)=true:=by as_aux_lemma=>kernel_rfl) (hS:S w:=by assumption):wpAnyH P md ops Q S (fuel+1) (listed.setIfInBounds k true) a w :=
 thw (k+1) h hi hw hv ha hQ hs hf hr hS
theorem thu {k:Nat} (h:wpAnyH P md ops Q S fuel ((listed.setIfInBounds k true).setIfInBounds (k+1) true) a' w) (hi:ops[k+1]?=some oi:=by rfl) (hw:Region.wanted oi (yielded ops a.tmps)=false:=by as_aux_lemma=>kernel_rfl) (ha:a.put oi.dst undef=a' :=by (try simp only [Act.put,List.getElem_toArray,List.getElem_cons_zero,List.getElem_cons_succ,tW1,tW2,tW3]);rfl)
 (hQ:∀ c a w,Q (.panic c) (a.put oi.dst undef) w→Q (.panic c) a w:=by first | exact hQp _ _ | exact fun _ _ _ h=>h) (hs:Region.noSelect ops=true:=by as_aux_lemma=>kernel_rfl) (hf:Region.free md ops (listed.setIfInBounds k true) (k+1)=true:=by as_aux_lemma=>kernel_rfl) (hr:(Region.ready md ops (listed.setIfInBounds k true)).contains (k+1)=true:=by as_aux_lemma=>kernel_rfl) (hS:S w:=by assumption):wpAnyH P md ops Q S (fuel+1) (listed.setIfInBounds k true) a w :=
 thx (k+1) h hi hw ha hQ hs hf hr hS
end
end Go.Proofs.YtkkolclmfcmfbaaGreatDoor
