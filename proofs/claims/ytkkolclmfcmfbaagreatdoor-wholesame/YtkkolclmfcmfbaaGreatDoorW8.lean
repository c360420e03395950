/-
  Of the proof of WholeSame: LN, GraphSame, ZJ, ZA, ZB, GC, HA, GH, GP.
-/
import Derived.Test.YtkkolclmfcmfbaaGreatDoorW1
import Derived.Test.YtkkolclmfcmfbaaGreatDoorW2
import Derived.Test.YtkkolclmfcmfbaaGreatDoorW4
import Derived.Test.YtkkolclmfcmfbaaGreatDoorW5
import Derived.Test.YtkkolclmfcmfbaaGreatDoorW7
import Derived.ProofKit
import Derived.OpenShut
import Derived.Lib.SmallJoins
import Derived.Deep.Slices
import Derived.Maps.OwnSet
import Derived.Deep.DeepCutAuto
import Derived.Sort.CutIn
set_option linter.unusedVariables false
set_option linter.unusedSimpArgs false
set_option maxHeartbeats 40000000
namespace Go.Proofs.YtkkolclmfcmfbaaGreatDoor
open Go.RowKit Go.Shelf
def anewL (x:List Bool) (L k:Nat):List Int:=(List.range L).map fun j=>((anewTo x k j:Nat):Int)
theorem anewL_zero (x:List Bool) (L:Nat):anewL x L 0=List.replicate L 0:=by
 apply List.ext_getElem?
 intro j
 by_cases h:j<L
 ·simp [anewL,anewTo,h]
 ·simp [anewL,h]
theorem anewL_no {x:List Bool} {L k:Nat} (h:bat x k=false):anewL x L (k+1)=anewL x L k:=by
 refine List.map_congr_left fun j _=>?_
 congr 1
 unfold anewTo
 by_cases e:j=k
 ·subst e;simp [anewAt,h]
 ·by_cases q:j<k
  ·rw [if_pos q,if_pos (by omega)]
  ·rw [if_neg q,if_neg (by omega)]
theorem anewL_yes {x:List Bool} {L k:Nat} (h:bat x k=true) (hk:k<L):anewL x L (k+1)=(anewL x L k).set k ((keptI x k).length:Nat):=by
 apply List.ext_getElem?
 intro j
 rw [List.getElem?_set]
 by_cases hj:j<L
 ·by_cases e:k=j
  ·subst e
   simp [anewL,anewTo,anewAt,h,hk]
  ·rw [if_neg e]
   simp only [anewL,List.getElem?_map,List.getElem?_range hj,Option.map_some]
   congr 2
   unfold anewTo
   by_cases q:j<k
   ·rw [if_pos q,if_pos (by omega)]
   ·rw [if_neg q,if_neg (by omega)]
 ·have:¬ k=j:=by omega
  simp [anewL,hj,this]
theorem anewL_at {x:List Bool} {L j:Nat} (hj:j<L):(anewL x L L)[j]?=some ((anewAt x j:Nat):Int):=by
 simp [anewL,anewTo,hj]
def keptN (ns:List Nd) (x:List Bool) (k:Nat):List Nd:=(keptI x k).map (nd ns)
def turnedN (x:List Bool) (l:List Nd) (j:Nat):List Nd:=(l.take j).map (ren x)++l.drop j
theorem turnedN_len (x:List Bool) (l:List Nd) (j:Nat):(turnedN x l j).length=l.length:=by
 simp [turnedN];omega
theorem turnedN_zero (x:List Bool) (l:List Nd):turnedN x l 0=l:=by simp [turnedN]
theorem turnedN_at {x:List Bool} {l:List Nd} {j:Nat} {y:Nd} (h:l[j]?=some y):(turnedN x l j)[j]?=some y:=by
 have hj:=(List.getElem?_eq_some_iff.1 h).1
 simp only [turnedN]
 rw [List.getElem?_append_right (by simp;omega)]
 simp [Nat.min_eq_left (Nat.le_of_lt hj),h]
theorem turnedN_succ {x:List Bool} {l:List Nd} {j:Nat} {y:Nd} (h:l[j]?=some y):turnedN x l (j+1)=(turnedN x l j).set j (ren x y):=by
 have hj:=(List.getElem?_eq_some_iff.1 h).1
 have e:=(List.getElem?_eq_some_iff.1 h).2
 simp only [turnedN]
 rw [List.set_append_right _ _ (by simp;omega)]
 simp only [List.length_map,List.length_take,Nat.min_eq_left (Nat.le_of_lt hj),Nat.sub_self]
 have hd:l.drop j=y::l.drop (j+1):=by rw [List.drop_eq_getElem_cons hj,e]
 rw [take_succ_get h,List.map_append,List.append_assoc,hd]
 simp
theorem turnedN_all {x:List Bool} {l:List Nd}:turnedN x l l.length=l.map (ren x):=by simp [turnedN]
set_option maxRecDepth 100000 in
theorem trim_ok (r:Int) (b off cap:Nat) (ns:List Nd) (w:World) (hN:NodesAt w b off ns) (hc:chk r ns=0) :
 CallsIn Fence.wide 1 Tryz.prog 34 #[.agg #[.int .i64 r,.slice (some ⟨b,off,none⟩) ns.length cap]] w fun e w' =>∃ v,e=.returned (.tuple #[.agg #[.int .i64 r,v],.int .i64 0])∧w'.ownsRow w.heap.size 48 6 v (trimN ns).length ((trimN ns).flatMap encNd)∧Below w.heap.size w w' :=by
 have hl:=(chk_zero hc).1
 obtain ⟨i0,hi0,hz0,hz1,hz2⟩:=info_parts info_node
 have hms:∀ W:World,Sem.run Tryz.prog (Instr.makeSlice 25 (.int .i64 (ns.length:Int)) (.int .i64 (ns.length:Int))) W=.ok (.slice (some ⟨W.heap.size,0,none⟩) ns.length ns.length) (W.alloc (.cells (madeCells #[.int .i64 0] ns.length) 3)):=fun W=>run_make_row' 25 3 _ 8 Tryz.underlying25 info_int rfl .i64 .i64 ns.length (by omega) (by omega) W
 refine callsIn_of_wp Tryz.func34 rfl trivial ?_ rfl
 simp only [Tryz.ntmps34,List.size_toArray,List.length_cons,List.length_nil,Nat.reduceAdd,Nat.reduceSub,Array.replicate_succ,Array.replicate_zero,List.push_toArray,List.append_toArray,List.nil_append,List.cons_append]
 have hb0:Below w.heap.size w ((w.alloc (.cells #[.int .i64 r,.slice (some ⟨b,off,none⟩) ns.length cap] 24)).alloc (.cells #[.int .i64 0,.slice none 0 0] 24)):=((Below.refl _ w).alloc (Nat.le_refl _) _).alloc (by simp) _
 have p0:((w.alloc (.cells #[.int .i64 r,.slice (some ⟨b,off,none⟩) ns.length cap] 24)).alloc (.cells #[.int .i64 0,.slice none 0 0] 24)).heap[w.heap.size]?=some (.cells #[.int .i64 r,.slice (some ⟨b,off,none⟩) ns.length cap] 24 (0,0)):=(Below.heap_alloc _ _ _ (by simp)).trans (World.alloc_heap_new w _)
 have p1:((w.alloc (.cells #[.int .i64 r,.slice (some ⟨b,off,none⟩) ns.length cap] 24)).alloc (.cells #[.int .i64 0,.slice none 0 0] 24)).heap[w.heap.size+1]?=some (.cells #[.int .i64 0,.slice none 0 0] 24 (0,0)):=by
  have:=World.alloc_heap_new (w.alloc (.cells #[.int .i64 r,.slice (some ⟨b,off,none⟩) ns.length cap] 24)) (.cells #[.int .i64 0,.slice none 0 0] 24)
  rwa [World.size_alloc] at this
 have hre:=reach_any r b off cap ns _ (hN.below hb0 hN.lt) hc
 have HRE:=hide' hre
 clear hre
 have h11:1≤1:=by decide
 gi_wp2_with (refine ⟨trivial,?_⟩;gi_at_call 59;refine (callsIn_wide.2 HRE.out).mono ?_)
 rintro e w1 ⟨v1,rfl,hrr,hb1⟩
 obtain ⟨rb,rcap,rfl,hrbase,hrlt⟩:=hrr.form (by omega)
 have hs1:=hb1.size
 replace p0:=(hb1.block w.heap.size (by simp;omega)).trans p0
 replace p1:=(hb1.block (w.heap.size+1) (by simp)).trans p1
 simp only [World.size_alloc] at hs1 hb1 hrbase
 have hB1:Below w.heap.size w w1:=hb0.trans (hb1.mono (by omega))
 have hlt1:=blk_lt p0
 have hlt2:=blk_lt p1
 have q1:=blk_cell p0 1
 simp at q1
 clear hb1 hb0
 gi_upto_region 6 with fail
 have hA0:(w1.alloc (.cells (madeCells #[.int .i64 0] ns.length) 3)).heap[w1.heap.size]?=some (.cells ((anewL (rchL ns) ns.length 0).map (Value.int .i64)).toArray 3 (0,0)):=by
  rw [World.alloc_heap_new,made_ints,anewL_zero]
 have hBA:Below w1.heap.size w1 (w1.alloc (.cells (madeCells #[.int .i64 0] ns.length) 3)):=(Below.refl _ w1).alloc (Nat.le_refl _) _
 have hsA:w1.heap.size+1≤(w1.alloc (.cells (madeCells #[.int .i64 0] ns.length) 3)).heap.size:=by simp
 generalize w1.alloc (.cells (madeCells #[.int .i64 0] ns.length) 3)=WA at hA0 hBA hsA ⊢
 have qA:=(hBA.cell (p:=⟨w.heap.size,1,none⟩) hlt1).trans q1
 have hltA:w.heap.size<WA.heap.size:=by omega
 gi_wp2
 gi_loopw [7,28] (fun v i wr=>∃ k:Nat,k≤ns.length∧i=.int .i64 k∧wr.heap[w1.heap.size]?=some (.cells ((anewL (rchL ns) ns.length k).map (Value.int .i64)).toArray 3 (0,0))∧wr.ownsRow (w1.heap.size+1) 48 6 v (keptN ns (rchL ns) k).length ((keptN ns (rchL ns) k).flatMap encNd)∧Below w1.heap.size w1 wr) (fun _ i _=>ns.length-(intOf i).toNat)
 case atStart=>exact ⟨0,Nat.zero_le _,rfl,hA0,World.ownsRow_nil _ _ _ _,hBA⟩
 case round =>
  obtain ⟨k,hk,rfl,hA,hK,hB⟩:=hrel
  have hs:=hB.size
  have hal:=blk_lt hA
  have hkl:(keptN ns (rchL ns) k).length≤k:=by simp only [keptN,List.length_map];exact keptI_len _ _
  obtain ⟨ka,kc,hkv⟩:=owns_slice hK
  subst hkv
  by_cases hlt:k<ns.length
  ·obtain ⟨y,hy⟩:=get_lt hlt
   have hki:(k:Int)<(ns.length:Int):=by omega
   have hN1:=hN.below (hB1.trans (hB.mono (by omega))) hN.lt
   have c0:=hN1.c0 k y hy
   have c1:=hN1.c1 k y hy
   have c2:=hN1.c2 k y hy
   have c3:=hN1.c3 k y hy
   have c4:=hN1.c4 k y hy
   have c5:=hN1.c5 k y hy
   have hblt:=hN1.lt
   have xk:wr.cell? ⟨rb,k,none⟩=some (.bool (bat (rchL ns) k)):=by
    rw [hB.cell (p:=⟨rb,k,none⟩) hrlt]
    have:=hrr.cells (g:=rb) rfl k (.bool (bat (rchL ns) k)) (by rw [List.getElem?_map,get_bat (by rw [rchL_len];exact hlt)];rfl)
    have e:(⟨rb,0,none⟩:Addr).add k=⟨rb,k,none⟩:=by cases k <;> simp [Addr.add]
    rw [e] at this;exact this
   have hrl2:rb<wr.heap.size:=by omega
   have HA:=hide' hA
   have HK:=hide' hK
   have HYD:=hide' (nd_get hy)
   clear hN1 hy hA hK
   cases hxk:bat (rchL ns) k
   ·rw [hxk] at xk
    have HAN:=hide' (anewL_no (L:=ns.length) hxk)
    have HKN:=hide' (show keptN ns (rchL ns) (k+1)=keptN ns (rchL ns) k by rw [keptN,keptN,keptI_no hxk])
    clear hxk
    gi_wp2
    go_roundw
    case rel=>exact ⟨k+1,by omega,by go_num,by rw [HAN.out];exact (Below.heap_alloc _ _ _ hal).trans HA.out,by rw [HKN.out];exact HK.out.alloc _,hB.alloc hB.size _⟩
    case measure=>simp [intOf];omega
   ·rw [hxk] at xk
    have HAN:=hide' (anewL_yes hxk hlt)
    have HKN:=hide' (show keptN ns (rchL ns) (k+1)=keptN ns (rchL ns) k++[y] by rw [keptN,keptN,keptI_yes hxk,List.map_append,List.map_singleton,HYD.out])
    have hkN:(keptN ns (rchL ns) k).length=(keptI (rchL ns) k).length:=by simp [keptN]
    have HKL:=hide' hkN
    have hAc:=blk_cell HA.out k
    have hAf:=blk_frozen HA.out k
    have hAk:((anewL (rchL ns) ns.length k).map (Value.int .i64)).toArray[k]?=some (.int .i64 ((anewTo (rchL ns) k k:Nat):Int)):=by
     rw [List.getElem?_toArray,List.getElem?_map]
     simp [anewL,hlt]
    rw [hAk] at hAc
    clear hxk hkN hAk
    gi_upto_region 11 with fail
    have hA2:((wr.setCell ⟨w1.heap.size,k,none⟩ (.int .i64 ((keptN ns (rchL ns) k).length:Int))).alloc (.cells #[.int .i64 y.op,.int .i64 y.d,.int .i64 y.a,.int .i64 y.b,.int .i64 y.t,.int .i64 y.e] 48)).heap[w1.heap.size]?=some (.cells ((anewL (rchL ns) ns.length (k+1)).map (Value.int .i64)).toArray 3 (0,0)):=by
     refine (Below.heap_alloc _ _ _ (by simpa using hal)).trans ?_
     rw [blk_set _ HA.out,HAN.out,← HKL.out]
     simp only [List.map_set,List.setIfInBounds_toArray]
    have hK2:((wr.setCell ⟨w1.heap.size,k,none⟩ (.int .i64 ((keptN ns (rchL ns) k).length:Int))).alloc (.cells #[.int .i64 y.op,.int .i64 y.d,.int .i64 y.a,.int .i64 y.b,.int .i64 y.t,.int .i64 y.e] 48)).ownsRow (w1.heap.size+1) 48 6 (.slice ka (keptN ns (rchL ns) k).length kc) (keptN ns (rchL ns) k).length ((keptN ns (rchL ns) k).flatMap encNd):=(owns_set HK.out HA.out (by decide)).alloc _
    have hB2:Below w1.heap.size w1 ((wr.setCell ⟨w1.heap.size,k,none⟩ (.int .i64 ((keptN ns (rchL ns) k).length:Int))).alloc (.cells #[.int .i64 y.op,.int .i64 y.d,.int .i64 y.a,.int .i64 y.b,.int .i64 y.t,.int .i64 y.e] 48)):=(hB.setCell (p:=⟨w1.heap.size,k,none⟩) (Nat.le_refl _) _).alloc (by simp;omega) _
    have hnb:NodeBox ((wr.setCell ⟨w1.heap.size,k,none⟩ (.int .i64 ((keptN ns (rchL ns) k).length:Int))).alloc (.cells #[.int .i64 y.op,.int .i64 y.d,.int .i64 y.a,.int .i64 y.b,.int .i64 y.t,.int .i64 y.e] 48)) wr.heap.size y:=by
     have:=nodeBox_new (wr.setCell ⟨w1.heap.size,k,none⟩ (.int .i64 ((keptN ns (rchL ns) k).length:Int))) y
     simpa using this
    clear hAc hAf xk c0 c1 c2 c3 c4 c5
    generalize ((wr.setCell ⟨w1.heap.size,k,none⟩ (.int .i64 ((keptN ns (rchL ns) k).length:Int))).alloc (.cells #[.int .i64 y.op,.int .i64 y.d,.int .i64 y.a,.int .i64 y.b,.int .i64 y.t,.int .i64 y.e] 48))=W2 at hA2 hK2 hB2 hnb ⊢
    have hs2:=hB2.size
    have hnl:=hnb.lt
    have n0:=blk_cell hnb 0
    have n1:=blk_cell hnb 1
    have n2:=blk_cell hnb 2
    have n3:=blk_cell hnb 3
    have n4:=blk_cell hnb 4
    have n5:=blk_cell hnb 5
    simp at n0 n1 n2 n3 n4 n5
    gi_wp2_with (gi_at_builtin;refine wpListIn_append_own _ rfl _ _ 22 rfl (w1.heap.size+1) 48 i0 _ 6 48 Tryz.underlying22 hi0 hz0 hz1 hz2 rfl (by decide) _ _ _ rfl (hK2.alloc _) ⟨W2.heap.size,0,none⟩ 1 1 (encNd y) rfl rfl ?cells (by simp [encNd,Value.oneCell']) (by unfold maxLen;omega) (by omega) (by simp;omega) ?_)
    case cells =>
     intro j u hj
     have e:(⟨W2.heap.size,0,none⟩:Addr).add j=⟨W2.heap.size,j,none⟩:=by cases j <;> simp [Addr.add]
     rw [e,World.cell?_alloc_at _ _ _ _ rfl]
     simpa [encNd] using hj
    intro v' w5 hown' hgrow _
    obtain ⟨g', cap', rfl⟩:=ownsRow_succ hown'
    have hg2:(W2.alloc (.cells #[.int .i64 y.op,.int .i64 y.d,.int .i64 y.a,.int .i64 y.b,.int .i64 y.t,.int .i64 y.e] 48)).grownBy w5 (Value.slice ka (keptN ns (rchL ns) k).length kc).ownBlock:=hgrow
    have hA5:w5.heap[w1.heap.size]?=_:=(hg2.block _ (by have:=blk_lt hA2;simp;omega) (owns_ne_ty hK2 hA2 (by decide))).trans ((Below.heap_alloc _ _ _ (blk_lt hA2)).trans hA2)
    have hB5:Below w1.heap.size w1 w5:=(hB2.alloc hB2.size (.cells #[.int .i64 y.op,.int .i64 y.d,.int .i64 y.a,.int .i64 y.b,.int .i64 y.t,.int .i64 y.e] 48)).grown hg2 (by have:=hB2.size;simp;omega) (fun j ej=>by have:=(hK2.lt j ej).1;omega)
    have hK5:w5.ownsRow (w1.heap.size+1) 48 6 (.slice (some ⟨g', 0,none⟩) ((keptN ns (rchL ns) k).length+1) cap') (keptN ns (rchL ns) (k+1)).length ((keptN ns (rchL ns) (k+1)).flatMap encNd):=by
     rw [HKN.out,List.length_append,List.flatMap_append]
     simpa using hown'
    clear hgrow hg2 hown' hK2 hA2 hB2
    gi_wp2
    go_roundw
    case rel=>exact ⟨k+1,by omega,by go_num,hA5,hK5,hB5⟩
    case measure=>simp [intOf];omega
  ·have ek:k=ns.length:=by omega
   subst ek
   have hmem:∀ (j:Nat) (y:Nd),(keptN ns (rchL ns) ns.length)[j]?=some y→Full r ns.length y:=by
    intro j y hj
    obtain ⟨i,hi,rfl⟩:=List.mem_map.1 (List.mem_of_getElem? hj)
    exact chk_at hc (keptI_mem.1 hi).1
   have hK1:=hK
   have hkpos:0<(keptN ns (rchL ns) ns.length).length:=by
    have:=trimN_pos (ns:=ns) (by omega)
    rw [trimN_len] at this
    simpa [keptN] using this
   have hA1:=hA
   obtain ⟨g,gc,hgv,hgb,hgl⟩:=hK1.form hkpos
   cases hgv
   have hkl2:(keptN ns (rchL ns) ns.length).length≤256:=by omega
   have HA1:=hide' hA1
   have hB' :=hB
   have hK1' :wr.ownsRow (w1.heap.size+1) 48 6 (.slice (some ⟨g,0,none⟩) (keptN ns (rchL ns) ns.length).length kc) (keptN ns (rchL ns) ns.length).length ((turnedN (rchL ns) (keptN ns (rchL ns) ns.length) 0).flatMap encNd):=by rw [turnedN_zero];exact hK1
   have HKT:=hide' (show trimN ns=(keptN ns (rchL ns) ns.length).map (ren (rchL ns)) by simp [trimN,keptN])
   have hnA:(w1.heap.size:Nat)≠g:=by omega
   clear hK1 hA1 hK hA
   generalize keptN ns (rchL ns) ns.length=l at hmem hkpos hkl2 hK1' HKT ⊢
   gi_wp2
   gi_loopw [49] (fun i wv=>∃ j:Nat,j≤l.length∧i=.int .i64 j∧wv.heap[w1.heap.size]?=some (.cells ((anewL (rchL ns) ns.length ns.length).map (Value.int .i64)).toArray 3 (0,0))∧wv.ownsRow (w1.heap.size+1) 48 6 (.slice (some ⟨g,0,none⟩) l.length kc) l.length ((turnedN (rchL ns) l j).flatMap encNd)∧Below w1.heap.size w1 wv) (fun i _=>l.length-(intOf i).toNat)
   case atStart=>exact ⟨0,Nat.zero_le _,rfl,HA1.out,hK1', hB'⟩
   case round =>
    obtain ⟨j,hj,rfl,hA,hK,hB⟩:=hrel
    have hs:=hB.size
    have hal:=blk_lt hA
    have hgl2:g<wr.heap.size:=(hK.lt g rfl).2
    by_cases hlt:j<l.length
    ·obtain ⟨y,hy⟩:=get_lt hlt
     have hji:(j:Int)<(l.length:Int):=by omega
     have hF:=hmem j y hy
     have hbd:=full_bounds hF hl.1
     have hyt:=turnedN_at (x:=rchL ns) hy
     have cell:∀ (i:Nat) (u:Value),i<6→(encNd y)[i]?=some u→wr.cell? ⟨g,j*6+i,none⟩=some u:=by
      intro i u hi hu
      have:=hK.cells (g:=g) rfl (j*6+i) u (by rw [flatK 6 encNd encNd_len _ j i y hyt hi];exact hu)
      have e:(⟨g,0,none⟩:Addr).add (j*6+i)=⟨g,j*6+i,none⟩:=by
       cases h:j*6+i <;> simp [Addr.add]
      rw [e] at this;exact this
     have c0:=cell 0 _ (by decide) rfl
     have c1:=cell 1 _ (by decide) rfl
     have c2:=cell 2 _ (by decide) rfl
     have c3:=cell 3 _ (by decide) rfl
     have c4:=cell 4 _ (by decide) rfl
     have c5:=cell 5 _ (by decide) rfl
     rw [Nat.add_zero] at c0
     clear cell
     obtain ⟨yop,yd,ya,yb,yt,ye⟩:=y
     simp only at hbd c0 c1 c2 c3 c4 c5
     obtain ⟨tn,rfl⟩:=Int.eq_ofNat_of_zero_le hbd.1
     obtain ⟨en,rfl⟩:=Int.eq_ofNat_of_zero_le hbd.2.2.1
     have htl:tn<ns.length:=by omega
     have hel:en<ns.length:=by omega
     have hti:(tn:Int)<(ns.length:Int):=by omega
     have hei:(en:Int)<(ns.length:Int):=by omega
     have at1:wr.cell? ⟨w1.heap.size,tn,none⟩=some (.int .i64 ((anewAt (rchL ns) tn:Nat):Int)):=by
      rw [blk_cell hA,List.getElem?_toArray,List.getElem?_map,anewL_at htl];rfl
     have at2:wr.cell? ⟨w1.heap.size,en,none⟩=some (.int .i64 ((anewAt (rchL ns) en:Nat):Int)):=by
      rw [blk_cell hA,List.getElem?_toArray,List.getElem?_map,anewL_at hel];rfl
     have hHA:=hide' hA
     have hHK:=hide' hK
     have HY:=hide' hy
     have HYT:=hide' hyt
     have hne1:g≠wr.heap.size:=by omega
     have hne2:w1.heap.size≠g:=by omega
     clear hA hK hy hyt hF
     gi_upto_region 16 with fail
     have hBW:Below wr.heap.size wr (wr.alloc (.cells #[.int .i64 yop,.int .i64 yd,.int .i64 ya,.int .i64 yb,.int .i64 (tn:Int),.int .i64 (en:Int)] 48)):=(Below.refl _ wr).alloc (Nat.le_refl _) _
     have hnb:(wr.alloc (.cells #[.int .i64 yop,.int .i64 yd,.int .i64 ya,.int .i64 yb,.int .i64 (tn:Int),.int .i64 (en:Int)] 48)).heap[wr.heap.size]?=some (.cells #[.int .i64 yop,.int .i64 yd,.int .i64 ya,.int .i64 yb,.int .i64 (tn:Int),.int .i64 (en:Int)] 48 (0,0)):=World.alloc_heap_new wr _
     generalize wr.alloc (.cells #[.int .i64 yop,.int .i64 yd,.int .i64 ya,.int .i64 yb,.int .i64 (tn:Int),.int .i64 (en:Int)] 48)=W at hBW hnb ⊢
     have hKW:=ownsRow_below hHK.out hBW (Nat.le_refl _)
     have hAW:W.heap[w1.heap.size]?=_:=(hBW.block _ hal).trans hHA.out
     have b4:=blk_cell hnb 4
     have b5:=blk_cell hnb 5
     simp at b4 b5
     replace at1:=(hBW.cell (p:=⟨w1.heap.size,tn,none⟩) hal).trans at1
     replace at2:=(hBW.cell (p:=⟨w1.heap.size,en,none⟩) hal).trans at2
     replace c4:=(hBW.cell (p:=⟨g,j*6+4,none⟩) hgl2).trans c4
     replace c5:=(hBW.cell (p:=⟨g,j*6+5,none⟩) hgl2).trans c5
     obtain ⟨cur,hgc⟩:∃ cur,W.heap[g]?=some (.cells cur 48 (0,0)):=by
      rcases hKW.2 with ⟨q,_⟩ | ⟨g', cap', cur,q,_,a2,_⟩
      ·cases q
      ·cases q;exact ⟨cur,a2⟩
     have f4:=blk_frozen hgc (j*6+4)
     have f5:=blk_frozen hgc (j*6+5)
     have HKW:=hide' hKW
     have HAW:=hide' hAW
     have HBW:=hide' hBW
     clear c0 c1 c2 c3 hKW hAW hBW hgc hnb
     refine wpIn_wide.2 ?_
     refine wp_region_held_drew (S:=fun u=>u.cell? ⟨wr.heap.size,4,none⟩=some (.int .i64 (tn:Int))∧u.cell? ⟨wr.heap.size,5,none⟩=some (.int .i64 (en:Int))∧u.cell? ⟨w1.heap.size,tn,none⟩=some (.int .i64 ((anewAt (rchL ns) tn:Nat):Int))∧u.cell? ⟨w1.heap.size,en,none⟩=some (.int .i64 ((anewAt (rchL ns) en:Nat):Int))) (by kernel_rfl) ⟨b4,b5,at1,at2⟩ (fun hHeld=>?_)
     refine tkw 0 ?_
     iterate 15 (first | refine tkv ?_ | refine tku ?_)
     refine tkr 16 (fun K hK=>?_)
     go_simp
     refine hK.out _ _ ⟨(cset hne1.symm).trans b4,(cset hne1.symm).trans b5,(cset hne2).trans at1,(cset hne2).trans at2⟩ (fun hHeld=>?_)
     clear hK K
     iterate 2 (first | refine tkv ?_ | refine tku ?_)
     refine tkr 19 (fun K hK=>?_)
     go_simp
     refine hK.out _ _ ⟨(cset hne1.symm).trans ((cset hne1.symm).trans b4),(cset hne1.symm).trans ((cset hne1.symm).trans b5),(cset hne2).trans ((cset hne2).trans at1),(cset hne2).trans ((cset hne2).trans at2)⟩ (fun hHeld=>?_)
     clear hK K
     refine wpAnyH_done (by kernel_rfl) ?_ _
     have k1:=owns_write (u:=.int .i64 ((anewAt (rchL ns) tn:Nat):Int)) HKW.out (i:=j*6+4) (by omega)
     have k2:=owns_write (u:=.int .i64 ((anewAt (rchL ns) en:Nat):Int)) k1 (i:=j*6+5) (by omega)
     rw [flat_set 6 encNd encNd_len (turnedN (rchL ns) l j) j 4 _ ⟨yop,yd,ya,yb,((anewAt (rchL ns) tn:Nat):Int),(en:Int)⟩ _ HYT.out (by decide) rfl] at k2
     rw [flat_set 6 encNd encNd_len _ j 5 ⟨yop,yd,ya,yb,((anewAt (rchL ns) tn:Nat):Int),(en:Int)⟩ ⟨yop,yd,ya,yb,((anewAt (rchL ns) tn:Nat):Int),((anewAt (rchL ns) en:Nat):Int)⟩ _ (by rw [List.getElem?_set_self (by rw [turnedN_len];exact hlt)]) (by decide) rfl,List.set_set] at k2
     have e1:(turnedN (rchL ns) l j).set j ⟨yop,yd,ya,yb,((anewAt (rchL ns) tn:Nat):Int),((anewAt (rchL ns) en:Nat):Int)⟩=turnedN (rchL ns) l (j+1):=by
      rw [turnedN_succ HY.out];simp [ren]
     rw [e1] at k2
     have k3:((W.setCell ⟨g,j*6+4,none⟩ (.int .i64 ((anewAt (rchL ns) tn:Nat):Int))).setCell ⟨g,j*6+5,none⟩ (.int .i64 ((anewAt (rchL ns) en:Nat):Int))).drew.ownsRow (w1.heap.size+1) 48 6 (.slice (some ⟨g,0,none⟩) l.length kc) l.length ((turnedN (rchL ns) l (j+1)).flatMap encNd):=k2
     have k4:((W.setCell ⟨g,j*6+4,none⟩ (.int .i64 ((anewAt (rchL ns) tn:Nat):Int))).setCell ⟨g,j*6+5,none⟩ (.int .i64 ((anewAt (rchL ns) en:Nat):Int))).drew.heap[w1.heap.size]?=some (.cells ((anewL (rchL ns) ns.length ns.length).map (Value.int .i64)).toArray 3 (0,0)):=(Below.heap_setCell _ _ _ _ hne2).trans ((Below.heap_setCell _ _ _ _ hne2).trans HAW.out)
     have k5:Below w1.heap.size w1 ((W.setCell ⟨g,j*6+4,none⟩ (.int .i64 ((anewAt (rchL ns) tn:Nat):Int))).setCell ⟨g,j*6+5,none⟩ (.int .i64 ((anewAt (rchL ns) en:Nat):Int))).drew:=((((hB.trans (HBW.out.mono hs))).setCell (p:=⟨g,j*6+4,none⟩) (by simp;omega) _).setCell (p:=⟨g,j*6+5,none⟩) (by simp;omega) _).drew
     generalize ((W.setCell ⟨g,j*6+4,none⟩ (.int .i64 ((anewAt (rchL ns) tn:Nat):Int))).setCell ⟨g,j*6+5,none⟩ (.int .i64 ((anewAt (rchL ns) en:Nat):Int))).drew=Wf at k3 k4 k5 ⊢
     gi_wp2
     go_roundw
     case rel=>exact ⟨j+1,by omega,by go_num,k4,k3,k5⟩
     case measure=>simp [intOf];omega
    ·have ej:j=l.length:=by omega
     subst ej
     rw [turnedN_all,← HKT.out] at hK
     have hll:(trimN ns).length=l.length:=by rw [HKT.out];simp
     have P0:=(hB.block _ hlt1).trans p0
     have P1:=(hB.block _ hlt2).trans p1
     have q0:=blk_cell P0 0
     simp at q0
     have r0:=blk_cell P1 0
     have r1:=blk_cell P1 1
     have f0:=blk_frozen P1 0
     have f1:=blk_frozen P1 1
     simp at r0 r1
     have hltr:w.heap.size<wr.heap.size:=by omega
     have hltr2:w.heap.size+1<wr.heap.size:=by omega
     have HK2:=hide' hK
     have HP1:=hide' P1
     clear hK P0 P1 hA
     gi_wp2
     have hk2:((wr.setCell ⟨w.heap.size+1,0,none⟩ (.int .i64 r)).setCell ⟨w.heap.size+1,1,none⟩ (.slice (some ⟨g,0,none⟩) l.length kc)).heap[w.heap.size+1]?=some (.cells #[.int .i64 r,.slice (some ⟨g,0,none⟩) l.length kc] 24 (0,0)):=by
      rw [blk_set _ (blk_set _ HP1.out)];simp
     have y0:=blk_cell hk2 0
     have y1:=blk_cell hk2 1
     simp at y0 y1
     refine bodyPost_ret (v:=.tuple #[.agg #[.int .i64 r,.slice (some ⟨g,0,none⟩) l.length kc],.int .i64 0]) (by simp [results,Tryz.results34,go_sem,y0,y1]) rfl ⟨_,rfl,?_,(((hB1.trans (hB.mono (by omega))).setCell (p:=⟨w.heap.size+1,0,none⟩) (by simp) _).setCell (p:=⟨w.heap.size+1,1,none⟩) (by simp) _)⟩
     have o1:=owns_set (o:=1) (u:=.slice (some ⟨g,0,none⟩) l.length kc) (owns_set (o:=0) (u:=.int .i64 r) HK2.out HP1.out (by decide)) (blk_set _ HP1.out) (by decide)
     rw [hll]
     exact ownsRow_base o1 (by omega)
end Go.Proofs.YtkkolclmfcmfbaaGreatDoor
namespace Go.Proofs.YtkkolclmfcmfbaaGreatDoor
open Go.ChangeShapes Go.WideShapes Go.ChangeAt Go.RowKit Go.Joins Go.Deep
theorem own:ownKnob Tryz.prog.godebug=none:=by kernel_rfl
theorem laidOut:laidOutB Tryz.prog=true:=by kernel_rfl
theorem cells_node:Tryz.prog.cellsOf 48=6:=by kernel_rfl
theorem cells_int:Tryz.prog.cellsOf 3=1:=by kernel_rfl
theorem cells_prog:Tryz.prog.cellsOf 24=2:=by kernel_rfl
theorem list6 {α:Type} {l:List α} (h:l.length=6):∃ a b c d e f,l=[a,b,c,d,e,f]:=by
 match l,h with
 | [a,b,c,d,e,f],_=>exact ⟨a,b,c,d,e,f,rfl⟩
set_option maxRecDepth 100000 in
theorem node_at {H:Type} {enc:TypeId × Value→H} {W:World} {sp:Nat→Bool} {a:Addr} {n:Nat} {cs:List Value} {y:DataW H × List MemPlace} (hc:W.cells? 0 a 6=some cs)
 (ht:DataW.trod enc Tryz.prog W 0 sp true n 48 cs=some y) :
 ∃ x:Nd,W.cell? (a.add 0)=some (.int .i64 x.op)∧W.cell? (a.add 1)=some (.int .i64 x.d)∧W.cell? (a.add 2)=some (.int .i64 x.a)∧W.cell? (a.add 3)=some (.int .i64 x.b)∧W.cell? (a.add 4)=some (.int .i64 x.t)∧W.cell? (a.add 5)=some (.int .i64 x.e):=by
 obtain ⟨_,hl,hcell⟩:=World.cells?_some hc
 obtain ⟨c0,c1,c2,c3,c4,c5,rfl⟩:=list6 hl
 obtain ⟨xs,m,_,_,_,hxs,hf⟩:=DataW.trod_struct Tryz.underlying48 ht
 obtain ⟨x0,x1,x2,x3,x4,x5,rfl⟩:=list6 (l:=xs) hxs
 have f0:=hf 0 _ rfl
 have f1:=hf 1 _ rfl
 have f2:=hf 2 _ rfl
 have f3:=hf 3 _ rfl
 have f4:=hf 4 _ rfl
 have f5:=hf 5 _ rfl
 simp only [List.getElem?_cons_zero,List.getElem?_cons_succ] at f0 f1 f2 f3 f4 f5
 obtain ⟨z0,e0,_⟩:=DataW.trod_int Tryz.underlying3 f0
 obtain ⟨z1,e1,_⟩:=DataW.trod_int Tryz.underlying3 f1
 obtain ⟨z2,e2,_⟩:=DataW.trod_int Tryz.underlying3 f2
 obtain ⟨z3,e3,_⟩:=DataW.trod_int Tryz.underlying3 f3
 obtain ⟨z4,e4,_⟩:=DataW.trod_int Tryz.underlying3 f4
 obtain ⟨z5,e5,_⟩:=DataW.trod_int Tryz.underlying3 f5
 cases e0;cases e1;cases e2;cases e3;cases e4;cases e5
 exact ⟨⟨z0,z1,z2,z3,z4,z5⟩,hcell 0 (by omega),hcell 1 (by omega),hcell 2 (by omega),hcell 3 (by omega),hcell 4 (by omega),hcell 5 (by omega)⟩
theorem add_lit' (b off i:Nat):(⟨b,off,none⟩:Addr).add i=⟨b,off+i,none⟩:=by cases i <;> simp [Addr.add]
set_option maxRecDepth 100000 in
theorem nodes_of {H:Type} {enc:TypeId × Value→H} {W:World} {sp:Nat→Bool} {fuel:Nat} {v:Value} {y:DataW H × List MemPlace}
 (h:DataW.trod enc Tryz.prog W 0 sp true fuel 22 [v]=some y):∃ a cap ns,v=.slice a (List.length ns) cap∧SlN W a ns∧ns.length≤9223372036854775807:=by
 rcases open_slice Tryz.underlying22 h with ⟨hcs,_⟩ | ⟨a,len,cap,m,n,D,Pl,hcs,_,hl,hm,hmm,_,hx⟩
 ·simp at hcs
  exact ⟨none,0,[],by simpa using hcs,Or.inl rfl,by simp⟩
 ·simp at hcs
  subst hcs
  have hlm:len≤m:=by rw [hmm];split <;> omega
  obtain ⟨F,hF⟩:=choose_lt (α:=Nd) (n:=len) (p:=fun i x=>W.cell? ((a.add (i*6)).add 0)=some (.int .i64 x.op)∧W.cell? ((a.add (i*6)).add 1)=some (.int .i64 x.d)∧W.cell? ((a.add (i*6)).add 2)=some (.int .i64 x.a)∧W.cell? ((a.add (i*6)).add 3)=some (.int .i64 x.b)∧W.cell? ((a.add (i*6)).add 4)=some (.int .i64 x.t)∧W.cell? ((a.add (i*6)).add 5)=some (.int .i64 x.e)) (fun i hi=>by
   obtain ⟨cs', h1,h2⟩:=hx i (by omega)
   rw [cells_node] at h1
   exact node_at h1 h2)
  refine ⟨some a,cap,(List.range len).map F,by simp,?_,by simp;unfold maxLen at hm;omega⟩
  by_cases h0:len=0
  ·subst h0;exact Or.inl rfl
  obtain ⟨b,off,spot⟩:=a
  have hc0:=(hF 0 (by omega)).1
  have hspot:spot=none:=by simpa [Addr.add] using World.cell?_spot hc0
  subst hspot
  have hblt:b<W.heap.size:=by simpa [Addr.add] using block_lt_of_cell hc0
  have key:∀ (i:Nat) (x:Nd),((List.range len).map F)[i]?=some x→i<len∧F i=x:=by
   intro i x hi
   rw [List.getElem?_map,Option.map_eq_some_iff] at hi
   obtain ⟨j,hj,rfl⟩:=hi
   have hlt:i<len:=by have:=(List.getElem?_eq_some_iff.1 hj).1;simpa using this
   rw [List.getElem?_range hlt] at hj
   cases hj
   exact ⟨hlt,rfl⟩
  refine Or.inr ⟨b,off,rfl,hblt,?_,?_,?_,?_,?_,?_⟩
  all_goals
   intro i x hi
   obtain ⟨hlt,rfl⟩:=key i x hi
   have:=hF i hlt
   simp only [add_lit'] at this
   obtain ⟨k0,k1,k2,k3,k4,k5⟩:=this
   assumption
set_option maxRecDepth 100000 in
theorem open_prog {H:Type} {enc:TypeId × Value→H} {W:World} {sp:Nat→Bool} {base:Nat} {v:Value} {d:DataW H} {p:List MemPlace}
 (hv:Value.okWide Tryz.prog W .any base 24 v) (h:DataW.Trod enc Tryz.prog W 0 sp true 24 v d p) :
 ∃ r a cap ns,v=.agg #[.int .i64 r,.slice a (List.length ns) cap]∧SlN W a ns∧ns.length≤9223372036854775807:=by
 obtain ⟨c0,c1,y0,y1,m,rfl,_,_,hy0,hy1⟩:=open_agg2 Tryz.underlying24 (by kernel_rfl) cells_prog hv h
 obtain ⟨r,e0,_,_⟩:=DataW.trod_int Tryz.underlying3 hy0
 obtain ⟨a,cap,ns,rfl,hN,hl⟩:=nodes_of hy1
 simp at e0
 subst e0
 exact ⟨r,a,cap,ns,rfl,hN,hl⟩
theorem wf_range {n:Int} (h:(Lit.int .i64 n).wf=true): -9223372036854775808≤n∧n≤9223372036854775807:=by
 simp [Lit.wf,IntKind.min,IntKind.max,IntKind.signed,IntKind.bits] at h
 omega
end Go.Proofs.YtkkolclmfcmfbaaGreatDoor
namespace Go.Proofs.YtkkolclmfcmfbaaGreatDoor
open Go.RowKit Go.Shelf
theorem trim_fit (r:Int) (b off cap:Nat) (ns:List Nd) (w:World) (hN:NodesAt w b off ns) (hc:chk r ns=0) :
 Calls Tryz.prog 34 #[.agg #[.int .i64 r,.slice (some ⟨b,off,none⟩) ns.length cap]] w fun e w' =>∃ tb tq tc,e=.returned (.tuple #[.agg #[.int .i64 r,.slice (some ⟨tb,tq,none⟩) (trimN ns).length tc],.int .i64 0])∧NodesAt w' tb tq (trimN ns)∧Below w.heap.size w w' :=by
 refine (callsIn_wide.1 (trim_ok r b off cap ns w hN hc)).mono ?_
 rintro e w' ⟨v,rfl,hv,hB⟩
 obtain ⟨ta,tc,rfl,hs⟩:=nodes_of_owns hv
 obtain ⟨tb,tq,rfl,hn⟩:=hs.some (chk_zero (trim_chk hc)).1.1
 exact ⟨tb,tq,tc,rfl,hn,hB⟩
theorem split_long (r:Int) (b off cap:Nat) (ns:List Nd) (w:World) (hN:NodesAt w b off ns) (hc:chk r ns=0) (hl:256<(splitN ns).length) :
 Calls Tryz.prog 31 #[.agg #[.int .i64 r,.slice (some ⟨b,off,none⟩) ns.length cap]] w fun e w' =>e=.returned (.tuple #[.agg #[.int .i64 0,.slice none 0 0],.int .i64 2])∧Below w.heap.size w w' :=by
 refine (callsIn_wide.1 (split_ok r b off cap ns w hN hc)).mono ?_
 rintro e w' ⟨v1,v2,er,rfl,h,hB⟩
 rcases h with ⟨h,_⟩ | ⟨_,rfl,rfl,rfl⟩
 ·omega
 ·exact ⟨rfl,hB⟩
theorem rerr_ok {r:Int} {ns:List Nd} {il:Nat} {n:Int} (hc:chk r ns=0) (hi:il≤256) (h0:0≤n) (h1:n≤131072):rerr r ns il n=0:=by
 unfold rerr
 rw [if_pos hc,if_neg (by omega),if_neg (by omega)]
theorem res_fin {r:Int} {ns:List Nd} {inp:List Int} {n:Int} (h:rerr r ns inp.length n=0):res r ns inp n=runN ns n.toNat (st0 r.toNat inp):=by
 unfold res
 rw [if_pos h];rfl
theorem doing_of {r r' :Int} {ns ms:List Nd} {jn:List Int} {n:Int} (h:Does ns ms (st0 r.toNat jn) (st0 r'.toNat jn) n.toNat) (hn:0≤n) (h1:rerr r ns jn.length n=0) (h2:rerr r' ms jn.length n=0) (h3:rerr r' ms jn.length (n*((ms.length:Int)+1)+ms.length)=0) :
 Doing (res r ns jn n) (res r' ms jn n) (res r' ms jn (n*((ms.length:Int)+1)+ms.length)):=by
 have e:(n*((ms.length:Int)+1)+ms.length).toNat=n.toNat*(ms.length+1)+ms.length:=by
  obtain ⟨k,rfl⟩:=Int.eq_ofNat_of_zero_le hn
  rw [← Int.natCast_one,← Int.natCast_add,← Int.natCast_mul,← Int.natCast_add,Int.toNat_natCast,Int.toNat_natCast]
 rw [res_fin h1,res_fin h2,res_fin h3,e]
 exact ⟨h.b1,h.b2,h.c1,h.c2⟩
end Go.Proofs.YtkkolclmfcmfbaaGreatDoor
namespace Go.Proofs.YtkkolclmfcmfbaaGreatDoor
open Go.ChangeShapes Go.WideShapes Go.ChangeAt Go.RowKit Go.Joins Go.Deep
set_option maxRecDepth 100000 in
theorem open_intsW {H:Type} {enc:TypeId × Value→H} {W:World} {sp:Nat→Bool} {base:Nat} {v:Value} {d:DataW H} {p:List MemPlace}
 (hv:Value.okWide Tryz.prog W .any base 25 v) (h:DataW.Trod enc Tryz.prog W 0 sp true 25 v d p) :
 ∃ a cap l,v=.slice a (List.length l) cap∧IntsAt W a l∧l.length≤9223372036854775807∧l.length≤cap∧∀ z∈l,(Lit.int .i64 z).wf=true:=by
 obtain ⟨a,len,cap,rfl⟩:=okWide_slice Tryz.underlying25 hv
 obtain ⟨fuel,hf0⟩:=h
 have hf:DataW.trod enc Tryz.prog W 0 sp true fuel 25 [.slice a len cap]=some (d,p):=hf0
 rcases open_slice Tryz.underlying25 hf with ⟨hcs,_⟩ | ⟨a,len,cap,m,n,D,Pl,hcs,_,hl,hm,hmm,_,hx⟩
 ·simp at hcs
  obtain ⟨rfl,rfl,rfl⟩:=hcs
  exact ⟨none,0,[],by simp,Or.inl rfl,by simp,by simp,by simp⟩
 ·simp at hcs
  obtain ⟨rfl,rfl,rfl⟩:=hcs
  have hlm:len≤m:=by rw [hmm];split <;> omega
  obtain ⟨F,hF⟩:=choose_lt (α:=Int) (n:=len) (p:=fun i x=>W.cell? ((a.add (i*1)).add 0)=some (.int .i64 x)∧(Lit.int .i64 x).wf=true) (fun i hi=>by
   obtain ⟨cs', h1,h2⟩:=hx i (by omega)
   rw [cells_int] at h1
   obtain ⟨_,hl1,hcell⟩:=World.cells?_some h1
   obtain ⟨z,e,_,w2⟩:=DataW.trod_int Tryz.underlying3 h2
   subst e
   exact ⟨z,hcell 0 (by omega),w2⟩)
  refine ⟨some a,cap,(List.range len).map F,by simp,?_,by simp;unfold maxLen at hm;omega,by simp;omega,fun z hz=>by
   obtain ⟨i,hi,rfl⟩:=List.mem_map.1 hz
   exact (hF i (List.mem_range.1 hi)).2⟩
  by_cases h0:len=0
  ·subst h0;exact Or.inl rfl
  obtain ⟨b,off,spot⟩:=a
  have hc0:=(hF 0 (by omega)).1
  have hspot:spot=none:=by simpa [Addr.add] using World.cell?_spot hc0
  subst hspot
  have hblt:b<W.heap.size:=by simpa [Addr.add] using block_lt_of_cell hc0
  refine Or.inr ⟨b,off,rfl,hblt,?_⟩
  intro i x hi
  rw [List.getElem?_map,Option.map_eq_some_iff] at hi
  obtain ⟨j,hj,rfl⟩:=hi
  have hlt:i<len:=by have:=(List.getElem?_eq_some_iff.1 hj).1;simpa using this
  rw [List.getElem?_range hlt] at hj
  cases hj
  have:=(hF i hlt).1
  simpa only [add_lit', Nat.mul_one,Nat.add_zero] using this
end Go.Proofs.YtkkolclmfcmfbaaGreatDoor
namespace Go.Proofs.YtkkolclmfcmfbaaGreatDoor
open Go.RowKit Go.Shelf Go.Maps
theorem wpList_insertZ {H:Type} {P:Program} (w:World) {ops:Array Oper} {rest:List Oper} {o:Oper} {a:Act} {Q:Exit→Act→World→Prop}
 (hg:o.guard=none) (m x v:Operand) (t:TypeId) (hop:o.op=Op.insert t m x v)
 (k e:TypeId) (K:Keyed P k) (ht:P.underlying t=some (.map k e)) (R:Value→Option (DataW H × List MemPlace)) (b n:Nat) (D:DataW H)
 (hm:a.eval m=.map (some b)) (hown:w.ownsMap P k R b n D) (hn:n<maxLen) (key val:Value) (kl:Lit) (hx:a.eval x=key) (hv:a.eval v=val) (hkey:keyOf P k key=some kl)
 (d:DataW H) (ps:List MemPlace) (hval:R val=some (d,ps))
 (hK:∀ w', w'.ownsMap P k R b (n+1) (D.put kl d)→w.grownBy w' (some b)→wpList P ops Q rest (a.put o.dst undef) w') :
 wpList P ops Q (o::rest) a w:=by
 refine wpList_plain hg fun K' hK' =>?_
 obtain ⟨w', hrun,r1,r2⟩:=hown.update K ht hn hkey hval
 unfold Oper.wp
 simp [execOp,hop,hm,hx,hv,hrun,Result.andThen]
 exact hK' _ _ (hK w' r1 r2)
def asIs (v:Value):Option (DataW Value × List MemPlace):=some (.held v,[])
def fnV (n:Nat):Value:=.func (.func n) #[] #[]
def passD:DataW Value:=((((DataW.map []).put (.int .i64 1) (.held (fnV 31))).put (.int .i64 2) (.held (fnV 32))).put (.int .i64 3) (.held (fnV 33))).put (.int .i64 4) (.held (fnV 34))
set_option maxRecDepth 100000 in
theorem byNumber_any (w:World):Calls Tryz.prog 12 #[] w fun e w' =>e=.returned (.map (some w.heap.size))∧w'.ownsMap Tryz.prog 3 asIs w.heap.size 4 passD∧Below w.heap.size w w' :=by
 have KK:Keyed Tryz.prog 3:=int_keyed Tryz.underlying3
 have hown:=World.ownsMap_made (H:=Value) w Tryz.prog 3 asIs
 have hB:Below w.heap.size w (w.alloc (.map #[] 0)):=(Below.refl _ _).alloc (Nat.le_refl _) _
 have hmk:∀ W:World,Sem.run Tryz.prog (Instr.makeMap 41 none) W=.ok (.map (some W.heap.size)) (W.alloc (.map #[] 0)):=fun W=>rfl
 have hml:13<maxLen:=by decide
 go_enter Tryz.func12,Tryz.ntmps12
 go_wp2_with (refine wpList_insertZ _ rfl _ _ _ 41 rfl 3 43 KK Tryz.underlying41 _ w.heap.size _ _ rfl hown (by omega) _ _ _ rfl rfl (keyOf_int_mk Tryz.underlying3 (by decide)) _ [] rfl ?_;have hlt:=hown.lt;clear hown;intro w1 hown hg1;replace hB:=hB.grown hg1 (by omega) (fun k hk=>by have:=Option.some.inj hk;omega);clear hg1 hlt)
 go_ret
 refine ⟨rfl,hown,hB⟩
def passV (k:Int):Value:=if k=4 then fnV 34 else if k=3 then fnV 33 else if k=2 then fnV 32 else if k=1 then fnV 31 else .nilFunc
theorem put_at {D:DataW Value} (hD:IsMap D) (j k:Int) (d z:DataW Value):(D.put (.int .i64 j) d).atKey (.int .i64 k) z=if k=j then d else D.atKey (.int .i64 k) z:=by
 by_cases e:k=j
 ·rw [if_pos e,e];exact atKey_put_same hD (by trivial) _ _
 ·rw [if_neg e];exact atKey_put_other (by intro h;cases h;exact e rfl) _ _
theorem passD_at (k:Int):passD.atKey (.int .i64 k) (.held .nilFunc)=.held (passV k):=by
 unfold passD
 have h0:IsMap (DataW.map []:DataW Value):=isMap_empty
 have h1:=h0.put (.int .i64 1) (.held (fnV 31))
 have h2:=h1.put (.int .i64 2) (.held (fnV 32))
 have h3:=h2.put (.int .i64 3) (.held (fnV 33))
 rw [put_at h3,put_at h2,put_at h1,put_at h0]
 unfold passV
 by_cases e4:k=4
 ·simp [e4]
 by_cases e3:k=3
 ·simp [e3]
 by_cases e2:k=2
 ·simp [e2]
 by_cases e1:k=1
 ·simp [e1]
 simp [e4,e3,e2,e1]
 rfl
theorem pass_look {w:World} {mb n:Nat} (h:w.ownsMap Tryz.prog 3 asIs mb n passD) {k:Int} (hk:(Lit.int .i64 k).wf=true):(Instr.lookup 41 (.map (some mb)) (.int .i64 k) false).run Tryz.prog w=.ok (passV k) w:=by
 obtain ⟨v,ps,hr,hv⟩:=h.lookup (e:=43) (int_keyed Tryz.underlying3) Tryz.underlying41 (z:=.nilFunc) (by kernel_rfl) (zd:=.held .nilFunc) (zp:=[]) rfl (keyOf_int_mk Tryz.underlying3 hk)
 rw [passD_at] at hv
 have e:v=passV k:=by
  have:=(Option.some.inj hv)
  exact DataW.held.inj (Prod.mk.inj this).1
 rw [e] at hr
 exact hr
def isPass (k:Int):Bool:=k==1||k==2||k==3||k==4
theorem passes1_any (k:Int) (B mb n:Nat) (w:World) (hB:w.cell? ⟨B,0,none⟩=some (.map (some mb))) (hBl:B<w.heap.size) (hm:w.ownsMap Tryz.prog 3 asIs mb n passD) (hk:(Lit.int .i64 k).wf=true) :
 Calls Tryz.prog 13 #[.int .i64 k,.pointer (some ⟨B,0,none⟩)] w fun e w' =>e=.returned (.bool (isPass k))∧w' =w:=by
 have hl:=pass_look hm hk
 clear hm hk
 have hne:∀ W,Sem.run Tryz.prog (binOp .neq 43 (passV k) .nilFunc) W=.ok (.bool (isPass k)) W∧Sem.run Tryz.prog (eqGuard .neq 43 (.tmp 6) (.const .nilFunc) (passV k) .nilFunc) W=.ok () W:=fun W=>by
  unfold passV isPass
  by_cases e4:k=4
  ·subst e4;exact ⟨by kernel_rfl,by kernel_rfl⟩
  by_cases e3:k=3
  ·subst e3;exact ⟨by kernel_rfl,by kernel_rfl⟩
  by_cases e2:k=2
  ·subst e2;exact ⟨by kernel_rfl,by kernel_rfl⟩
  by_cases e1:k=1
  ·subst e1;exact ⟨by kernel_rfl,by kernel_rfl⟩
  rw [if_neg e4,if_neg e3,if_neg e2,if_neg e1,show (k==1||k==2||k==3||k==4)=false by simp [e4,e3,e2,e1]]
  exact ⟨by kernel_rfl,by kernel_rfl⟩
 have he1:=fun W=>(hne W).1
 have he2:=fun W=>(hne W).2
 clear hne
 generalize passV k=V at hl he1 he2
 generalize isPass k=I at he1 ⊢
 go_enter Tryz.func13,Tryz.ntmps13
 go_wp2
 go_ret
 exact ⟨rfl,rfl⟩
end Go.Proofs.YtkkolclmfcmfbaaGreatDoor
namespace Go.Proofs.YtkkolclmfcmfbaaGreatDoor
def rcB (t:Tm) (x:Nd):Bool:=x.op==t.op&&x.a==t.a&&x.b==t.b
def kpB (t:Tm) (x:Nd):Bool:=!wi x.op 1 9||(x.d != t.a&&x.d != t.b)
def rcl (ns:List Nd) (t:Tm):List Bool:=ns.map (rcB t)
def kpl (ns:List Nd) (t:Tm):List Bool:=ns.map (kpB t)
def yesl (k:Nat):List Bool:=List.replicate k true
def nol (k:Nat):List Bool:=List.replicate k false
def bothl (ns:List Nd) (t:Tm):List Bool:=ns.map fun x=>kpB t x&&rcB t x
def nrcl (ns:List Nd) (t:Tm):List Bool:=ns.map fun x=>!rcB t x
theorem bat_mapn {ns:List Nd} {f:Nd→Bool} {n:Nat} {x:Nd} (h:ns[n]?=some x):bat (ns.map f) n=f x:=by simp [bat,h]
def downW (ns:List Nd) (t:Tm):Flw:=⟨true,false,rcl ns t,kpl ns t,nol ns.length,yesl ns.length⟩
def upW (ns:List Nd) (t:Tm):Flw:=⟨false,false,nol ns.length,yesl ns.length,bothl ns t,kpl ns t⟩
def downL (ns:List Nd) (t:Tm):List Bool:=solve ns (downW ns t)
def upL (ns:List Nd) (t:Tm):List Bool:=solve ns (upW ns t)
def earlyL (ns:List Nd) (t:Tm):List Bool:=(List.range ns.length).map fun n=>bat (downL ns t) n&&((ahl ns n).isEmpty||!(ahl ns n).all fun m=>bat (kpl ns t) m&&(bat (downL ns t) m||bat (upL ns t) m))
def delayW (ns:List Nd) (t:Tm):Flw:=⟨false,false,earlyL ns t,yesl ns.length,nol ns.length,nrcl ns t⟩
def delayL (ns:List Nd) (t:Tm):List Bool:=solve ns (delayW ns t)
def lateL (ns:List Nd) (t:Tm):List Bool:=(List.range ns.length).map fun n=>bat (delayL ns t) n&&(bat (rcl ns t) n||!(nxl ns n).all fun m=>bat (delayL ns t) m)
def aloneW (ns:List Nd) (t:Tm):Flw:=⟨true,true,nol ns.length,yesl ns.length,lateL ns t,nrcl ns t⟩
def aloneL (ns:List Nd) (t:Tm):List Bool:=solve ns (aloneW ns t)
theorem solve_len (ns:List Nd) (f:Flw):(solve ns f).length=ns.length:=(gr_isG (sayF_mono ns f) ns.length).len
def lazyPut (ns:List Nd) (t:Tm):List Bool:=(List.range ns.length).map fun n=>bat (lateL ns t) n&&!bat (aloneL ns t) n
def lazyTake (ns:List Nd) (t:Tm):List Bool:=(List.range ns.length).map fun n=>bat (rcl ns t) n&&!(bat (lateL ns t) n&&bat (aloneL ns t) n)
structure Safe (ns:List Nd) (t:Tm) (P T A:Nat→Bool):Prop where
 zero:A 0=false
 edge:∀ n m,m<ns.length→n∈ahl ns m→A m=true→(P n=true∨A n=true)∧kpB t (nd ns n)=true
 take:∀ n,n<ns.length→T n=true→(P n=true∨A n=true)∧rcB t (nd ns n)=true
theorem say_back (ns:List Nd) (e:Bool) (g pa pl le:List Bool) (x:Nat→Bool) (n:Nat):sayF ns ⟨true,e,g,pa,pl,le⟩ x n=(bat g n||(bat pa n&&allOr e (nxl ns n) fun m=>bat pl m||(bat le m&&x m))):=rfl
theorem bat_yesN {k n:Nat} (h:n<k):bat (yesl k) n=true:=by simp [yesl,bat,h]
theorem bat_noN (k n:Nat):bat (nol k) n=false:=by
 by_cases h:n<k <;> simp [nol,bat,h]
theorem bat_kpl {ns:List Nd} {t:Tm} {n:Nat} (h:n<ns.length):bat (kpl ns t) n=kpB t (nd ns n):=by
 rw [kpl,bat_mapn (get_nd h)]
theorem bat_rcl {ns:List Nd} {t:Tm} {n:Nat} (h:n<ns.length):bat (rcl ns t) n=rcB t (nd ns n):=by
 rw [rcl,bat_mapn (get_nd h)]
theorem bat_both {ns:List Nd} {t:Tm} {n:Nat} (h:n<ns.length):bat (bothl ns t) n=(kpB t (nd ns n)&&rcB t (nd ns n)):=by
 rw [bothl,bat_mapn (get_nd h)]
theorem bat_nrc {ns:List Nd} {t:Tm} {n:Nat} (h:n<ns.length):bat (nrcl ns t) n=!rcB t (nd ns n):=by
 rw [nrcl,bat_mapn (get_nd h)]
theorem allOr_no {l:List Nat} {p:Nat→Bool}:allOr false l p=true↔l≠[]∧∀ m∈l,p m=true:=by
 cases l with
 | nil=>simp [allOr]
 | cons a l=>simp [allOr]
theorem allOr_yes {l:List Nat} {p:Nat→Bool}:allOr true l p=true↔∀ m∈l,p m=true:=by
 cases l with
 | nil=>simp [allOr]
 | cons a l=>simp [allOr]
theorem ahl_ltN {ns:List Nd} {n m:Nat} (h:m∈ahl ns n):m<ns.length:=(mem_ahl.1 h).1
theorem nxl_ltN {ns:List Nd} {n m:Nat} (h:m∈nxl ns n):m<ns.length:=(mem_nxl.1 h).1
theorem ahl_nxl {ns:List Nd} {n m:Nat} (hm:m<ns.length) (h:n∈ahl ns m):m∈nxl ns n:=mem_nxl.2 ⟨hm,(mem_ahl.1 h).2⟩
theorem ahl_zero {r:Int} {ns:List Nd} (hc:chk r ns=0):ahl ns 0=[]:=by
 cases h:ahl ns 0 with
 | nil=>rfl
 | cons a l =>
  have ha:a∈ahl ns 0:=by rw [h];simp
  obtain ⟨h1,h2⟩:=ahB_iff.1 (mem_ahl.1 ha).2
  have hF:=chk_at hc h1
  rcases h2 with ⟨q1,q2⟩ | ⟨q1,q2⟩
  ·have:=hF.t q1;omega
  ·have:=hF.e q1;omega
theorem solve_fix (ns:List Nd) (f:Flw) {n:Nat} (h:n<ns.length):bat (solve ns f) n=sayF ns f (bat (solve ns f)) n:=(gr_isG (sayF_mono ns f) ns.length).fix n h
theorem solve_top (ns:List Nd) (f:Flw) (y:Nat→Bool) (h1:∀ n,ns.length≤n→y n=false) (h2:∀ n,n<ns.length→y n=true→sayF ns f y n=true) {n:Nat} (h:y n=true):bat (solve ns f) n=true:=(gr_isG (sayF_mono ns f) ns.length).top y h1 h2 n h
def fromAll (ns:List Nd) (t:Tm) (E:Nat→Bool) (n:Nat):Bool:=allOr false (ahl ns n) fun m=>kpB t (nd ns m)&&E m
theorem safe_of {r:Int} {ns:List Nd} (hc:chk r ns=0) {t:Tm} {P T E:Nat→Bool} (hE:∀ n,n<ns.length→E n=true→P n=true∨fromAll ns t E n=true) (hT:∀ n,n<ns.length→T n=true→E n=true∧rcB t (nd ns n)=true):Safe ns t P T (fromAll ns t E):=by
 refine ⟨?_,fun n m hm hn h=>?_,fun n hn h=>?_⟩
 ·simp [fromAll,ahl_zero hc,allOr]
 ·have h1:=(allOr_no.1 h).2 n hn
  simp only [Bool.and_eq_true] at h1
  exact ⟨hE n (ahl_ltN hn) h1.2,h1.1⟩
 ·exact ⟨hE n hn (hT n hn h).1,(hT n hn h).2⟩
theorem down_fix {ns:List Nd} {t:Tm} {n:Nat} (h:n<ns.length):bat (downL ns t) n=(rcB t (nd ns n)||(kpB t (nd ns n)&&allOr false (nxl ns n) (bat (downL ns t)))):=by
 have e:=solve_fix ns (downW ns t) h
 rw [downL,e,downW,say_back,bat_rcl h,bat_kpl h]
 congr 1
 congr 1
 unfold allOr
 split
 ·rfl
 ·have hl:∀ m∈nxl ns n,(bat (nol ns.length) m||(bat (yesl ns.length) m&&bat (solve ns (downW ns t)) m))=bat (solve ns (downW ns t)) m:=fun m hm=>by
   rw [bat_noN,bat_yesN (nxl_ltN hm)];simp
  generalize nxl ns n=l at hl
  induction l with
  | nil=>rfl
  | cons a l ih =>
   rw [List.all_cons,List.all_cons]
   have h1:=hl a (by simp)
   have h2:=ih fun m hm=>hl m (by simp [hm])
   simp only [downW] at h1 h2 ⊢
   rw [h1,h2]
theorem up_fix {ns:List Nd} {t:Tm} {n:Nat} (h:n<ns.length):bat (upL ns t) n=true↔ahl ns n≠[]∧∀ m∈ahl ns n,kpB t (nd ns m)=true∧(rcB t (nd ns m)=true∨bat (upL ns t) m=true):=by
 have e:=solve_fix ns (upW ns t) h
 have:bat (upL ns t) n=allOr false (ahl ns n) fun m=>bat (bothl ns t) m||(bat (kpl ns t) m&&bat (upL ns t) m):=by
  show bat (solve ns (upW ns t)) n=_
  rw [e]
  show (bat (nol ns.length) n||(bat (yesl ns.length) n&&allOr false (ahl ns n) fun m=>bat (bothl ns t) m||(bat (kpl ns t) m&&bat (solve ns (upW ns t)) m)))=_
  rw [bat_noN,bat_yesN h];rfl
 rw [this,allOr_no]
 refine and_congr_right fun _=>forall_congr' fun m=>imp_congr_right fun hm=>?_
 rw [bat_both (ahl_ltN hm),bat_kpl (ahl_ltN hm)]
 cases kpB t (nd ns m) <;> cases rcB t (nd ns m) <;> simp
theorem rc_down {ns:List Nd} {t:Tm} {n:Nat} (h:n<ns.length) (hr:rcB t (nd ns n)=true):bat (downL ns t) n=true:=by
 rw [down_fix h,hr];rfl
theorem early_eq {ns:List Nd} {t:Tm} {n:Nat} (h:n<ns.length):bat (earlyL ns t) n=(bat (downL ns t) n&&((ahl ns n).isEmpty||!(ahl ns n).all fun m=>bat (kpl ns t) m&&(bat (downL ns t) m||bat (upL ns t) m))):=by
 unfold earlyL
 rw [bat_map _ h]
def known (ns:List Nd) (t:Tm) (n:Nat):Bool:=bat (downL ns t) n||bat (upL ns t) n
theorem known_from {ns:List Nd} {t:Tm} {n:Nat} (hn:n<ns.length) (h:known ns t n=true) (he:bat (earlyL ns t) n=false):ahl ns n≠[]∧∀ m∈ahl ns n,kpB t (nd ns m)=true∧known ns t m=true:=by
 unfold known at h
 simp only [Bool.or_eq_true] at h
 by_cases hd:bat (downL ns t) n=true
 ·rw [early_eq hn,hd] at he
  simp only [Bool.true_and,Bool.or_eq_false_iff,Bool.not_eq_false'] at he
  refine ⟨fun q=>by rw [q] at he;simp at he,fun m hm=>?_⟩
  have:=List.all_eq_true.1 he.2 m hm
  rw [bat_kpl (ahl_ltN hm)] at this
  simp only [Bool.and_eq_true] at this
  exact ⟨this.1,this.2⟩
 ·have hu:bat (upL ns t) n=true:=by
   rcases h with h | h
   ·exact absurd h hd
   ·exact h
  obtain ⟨h1,h2⟩:=(up_fix hn).1 hu
  refine ⟨h1,fun m hm=>⟨(h2 m hm).1,?_⟩⟩
  unfold known
  rcases (h2 m hm).2 with q | q
  ·rw [rc_down (ahl_ltN hm) q];rfl
  ·rw [q];simp
theorem from_of {ns:List Nd} {t:Tm} {E:Nat→Bool} {n:Nat} (h1:ahl ns n≠[]) (h2:∀ m∈ahl ns n,kpB t (nd ns m)=true∧E m=true):fromAll ns t E n=true :=
 allOr_no.2 ⟨h1,fun m hm=>by rw [(h2 m hm).1,(h2 m hm).2];rfl⟩
theorem delay_fix {ns:List Nd} {t:Tm} {n:Nat} (h:n<ns.length):bat (delayL ns t) n=true↔bat (earlyL ns t) n=true∨(ahl ns n≠[]∧∀ m∈ahl ns n,rcB t (nd ns m)=false∧bat (delayL ns t) m=true):=by
 have e:=solve_fix ns (delayW ns t) h
 have:bat (delayL ns t) n=(bat (earlyL ns t) n||allOr false (ahl ns n) fun m=>bat (nrcl ns t) m&&bat (delayL ns t) m):=by
  show bat (solve ns (delayW ns t)) n=_
  rw [e]
  show (bat (earlyL ns t) n||(bat (yesl ns.length) n&&allOr false (ahl ns n) fun m=>bat (nol ns.length) m||(bat (nrcl ns t) m&&bat (solve ns (delayW ns t)) m)))=_
  rw [bat_yesN h]
  simp only [bat_noN,Bool.false_or,Bool.true_and];rfl
 rw [this,Bool.or_eq_true,allOr_no]
 refine or_congr_right (and_congr_right fun _=>forall_congr' fun m=>imp_congr_right fun hm=>?_)
 rw [bat_nrc (ahl_ltN hm)]
 cases rcB t (nd ns m) <;> simp
theorem late_eq {ns:List Nd} {t:Tm} {n:Nat} (h:n<ns.length):bat (lateL ns t) n=(bat (delayL ns t) n&&(bat (rcl ns t) n||!(nxl ns n).all fun m=>bat (delayL ns t) m)):=by
 unfold lateL
 rw [bat_map _ h]
theorem alone_fix {ns:List Nd} {t:Tm} {n:Nat} (h:n<ns.length):bat (aloneL ns t) n=true↔∀ m∈nxl ns n,bat (lateL ns t) m=true∨(rcB t (nd ns m)=false∧bat (aloneL ns t) m=true):=by
 have e:=solve_fix ns (aloneW ns t) h
 have:bat (aloneL ns t) n=allOr true (nxl ns n) fun m=>bat (lateL ns t) m||(bat (nrcl ns t) m&&bat (aloneL ns t) m):=by
  show bat (solve ns (aloneW ns t)) n=_
  rw [e]
  show (bat (nol ns.length) n||(bat (yesl ns.length) n&&allOr true (nxl ns n) fun m=>bat (lateL ns t) m||(bat (nrcl ns t) m&&bat (solve ns (aloneW ns t)) m)))=_
  rw [bat_noN,bat_yesN h];rfl
 rw [this,allOr_yes]
 refine forall_congr' fun m=>imp_congr_right fun hm=>?_
 rw [bat_nrc (nxl_ltN hm)]
 cases rcB t (nd ns m) <;> simp
def lazyE (ns:List Nd) (t:Tm) (n:Nat):Bool :=
 known ns t n&&(if bat (delayL ns t) n then bat (lateL ns t) n&&!bat (aloneL ns t) n else rcB t (nd ns n)||!bat (aloneL ns t) n)
theorem late_delay {ns:List Nd} {t:Tm} {n:Nat} (h:n<ns.length) (hl:bat (lateL ns t) n=true):bat (delayL ns t) n=true:=by
 rw [late_eq h] at hl
 simp only [Bool.and_eq_true] at hl
 exact hl.1
theorem lazy_safe {r:Int} {ns:List Nd} (hc:chk r ns=0) (t:Tm):Safe ns t (bat (lazyPut ns t)) (bat (lazyTake ns t)) (fromAll ns t (lazyE ns t)):=by
 refine safe_of hc (fun n hn h=>?_) (fun n hn h=>?_)
 ·unfold lazyE at h
  rw [Bool.and_eq_true] at h
  obtain ⟨hk,h⟩:=h
  have hp:bat (lazyPut ns t) n=(bat (lateL ns t) n&&!bat (aloneL ns t) n):=by unfold lazyPut;rw [bat_map _ hn]
  rw [hp]
  by_cases hd:bat (delayL ns t) n=true
  ·rw [if_pos hd] at h
   exact Or.inl h
  ·rw [if_neg hd] at h
   right
   have he:bat (earlyL ns t) n=false:=by
    cases q:bat (earlyL ns t) n
    ·rfl
    ·exact absurd ((delay_fix hn).2 (Or.inl q)) hd
   obtain ⟨h1,h2⟩:=known_from hn hk he
   refine from_of h1 fun m hm=>⟨(h2 m hm).1,?_⟩
   have hml:=ahl_ltN hm
   have hnx:=ahl_nxl hn hm
   have hna:bat (aloneL ns t) m=false:=by
    cases q:bat (aloneL ns t) m
    ·rfl
    ·exfalso
     rcases (alone_fix hml).1 q n hnx with a | ⟨a1,a2⟩
     ·exact hd (late_delay hn a)
     ·rw [a1,a2] at h;simp at h
   unfold lazyE
   rw [(h2 m hm).2,hna,Bool.true_and]
   split
   ·rename_i hdm
    have:bat (lateL ns t) m=true:=by
     rw [late_eq hml,hdm,Bool.true_and,Bool.or_eq_true]
     right
     cases q:(nxl ns m).all fun m=>bat (delayL ns t) m
     ·rfl
     ·exact absurd (List.all_eq_true.1 q n hnx) hd
    rw [this];rfl
   ·simp
 ·have ht:bat (lazyTake ns t) n=(bat (rcl ns t) n&&!(bat (lateL ns t) n&&bat (aloneL ns t) n)):=by unfold lazyTake;rw [bat_map _ hn]
  rw [ht,bat_rcl hn] at h
  simp only [Bool.and_eq_true,Bool.not_eq_true'] at h
  obtain ⟨hr,hla⟩:=h
  refine ⟨?_,hr⟩
  unfold lazyE
  rw [show known ns t n=true by unfold known;rw [rc_down hn hr];rfl,Bool.true_and]
  split
  ·rename_i hdm
   have hl:bat (lateL ns t) n=true:=by rw [late_eq hn,hdm,bat_rcl hn,hr];rfl
   rw [hl,Bool.true_and] at hla
   rw [hl,hla];rfl
  ·rw [hr];rfl
structure Stk (F:(Nat→Bool)→Nat→Bool) (k:Nat) (x:List Bool) (wk:List Nat):Prop where
 on:Onway F k x
 lt:∀ n∈wk,n<k
 bad:∀ n,n<k→bat x n=true→F (bat x) n=false→n∈wk
 few:wk.length+yeses x*(k+1)≤k+k*(k+1)
structure Asks (F:(Nat→Bool)→Nat→Bool) (k:Nat) (ask:Nat→List Nat):Prop where
 lt:∀ n m,m∈ask n→m<k
 len:∀ n,(ask n).length≤k
 dep:∀ (x y:Nat→Bool) n m,(∀ j,j≠n→x j=y j)→F x m=true→F y m=false→m<k→m∈ask n
theorem yeses_yes (k:Nat):yeses (List.replicate k true)=k:=by simp [yeses]
theorem Stk.start (F:(Nat→Bool)→Nat→Bool) (k:Nat):Stk F k (List.replicate k true) (List.range k) :=
 ⟨Onway.start F k,fun n hn=>by simpa using hn,fun n hn _ _=>by simpa using hn,by rw [yeses_yes];simp⟩
theorem Stk.pop {F:(Nat→Bool)→Nat→Bool} {k:Nat} {x:List Bool} {wk:List Nat} {n:Nat} (h:Stk F k x (wk++[n])) (hn:bat x n=false∨F (bat x) n=true):Stk F k x wk:=by
 refine ⟨h.on,fun m hm=>h.lt m (by simp [hm]),fun m hm h1 h2=>?_,by have:=h.few;simp at this;omega⟩
 have:=h.bad m hm h1 h2
 simp only [List.mem_append,List.mem_singleton] at this
 rcases this with q | rfl
 ·exact q
 ·rcases hn with q | q
  ·rw [q] at h1;cases h1
  ·rw [q] at h2;cases h2
theorem Stk.turn {F:(Nat→Bool)→Nat→Bool} {k:Nat} {x:List Bool} {wk:List Nat} {n:Nat} {ask:Nat→List Nat} (hF:Mono F) (hA:Asks F k ask) (h:Stk F k x (wk++[n])) (h1:bat x n=true) (h2:F (bat x) n=false):Stk F k (x.set n false) (wk++ask n):=by
 have hn:n<k:=h.lt n (by simp)
 have hl:n<x.length:=by rw [h.on.len];exact hn
 refine ⟨h.on.set hF hn h2,fun m hm=>?_,fun m hm h3 h4=>?_,?_⟩
 ·rcases List.mem_append.1 hm with q | q
  ·exact h.lt m (by simp [q])
  ·exact hA.lt n m q
 ·have hb:bat x m=true:=by
   rw [bat_set hl] at h3;split at h3
   ·cases h3
   ·exact h3
  have hne:m≠n:=by
   rintro rfl;rw [bat_set hl] at h3;simp at h3
  cases e:F (bat x) m
  ·have:=h.bad m hm hb e
   simp only [List.mem_append,List.mem_singleton] at this
   rcases this with q | q
   ·exact List.mem_append.2 (Or.inl q)
   ·exact absurd q hne
  ·exact List.mem_append.2 (Or.inr (hA.dep (bat x) (bat (x.set n false)) n m (fun j hj=>by rw [bat_set hl,if_neg hj]) e h4 hm))
 ·have h5:=yeses_set hl h1
  have h6:=h.few
  have h7:=hA.len n
  simp only [List.length_append,List.length_singleton] at h6 ⊢
  have h8:(yeses (x.set n false)+1)*(k+1)=yeses (x.set n false)*(k+1)+(k+1):=Nat.succ_mul _ _
  rw [← h5,h8] at h6
  omega
theorem Stk.less {F:(Nat→Bool)→Nat→Bool} {k:Nat} {x:List Bool} {wk:List Nat} {n:Nat} {ask:Nat→List Nat} (hA:Asks F k ask) (h:Stk F k x (wk++[n])) (h1:bat x n=true):(wk++ask n).length+yeses (x.set n false)*(k+1)<(wk++[n]).length+yeses x*(k+1):=by
 have hl:n<x.length:=by rw [h.on.len];exact h.lt n (by simp)
 have h5:=yeses_set hl h1
 have h7:=hA.len n
 simp only [List.length_append,List.length_singleton]
 have h8:(yeses (x.set n false)+1)*(k+1)=yeses (x.set n false)*(k+1)+(k+1):=Nat.succ_mul _ _
 rw [← h5,h8]
 omega
theorem Stk.done {F:(Nat→Bool)→Nat→Bool} {k:Nat} {x:List Bool} (h:Stk F k x []):IsG F k x :=
 h.on.done fun n hn h1=>by
  cases e:F (bat x) n
  ·have:=h.bad n hn h1 e;cases this
  ·rfl
theorem nxl_len (ns:List Nd) (n:Nat):(nxl ns n).length≤ns.length:=by
 have:=List.length_filter_le (fun m=>ahB ns m n) (List.range ns.length)
 simpa [nxl] using this
theorem ahl_len (ns:List Nd) (n:Nat):(ahl ns n).length≤ns.length:=by
 have:=List.length_filter_le (fun m=>ahB ns n m) (List.range ns.length)
 simpa [ahl] using this
def ask (ns:List Nd) (f:Flw) (n:Nat):List Nat:=if f.back then ahl ns n else nxl ns n
theorem all_else {l:List Nat} {p q:Nat→Bool} (hp:l.all p=true) (hq:l.all q=false):∃ m∈l,p m≠q m:=by
 rw [List.all_eq_false] at hq
 obtain ⟨m,hm,h⟩:=hq
 rw [List.all_eq_true] at hp
 exact ⟨m,hm,fun e=>h (by rw [← e];exact hp m hm)⟩
theorem allOr_else {e:Bool} {l:List Nat} {p q:Nat→Bool} (hp:allOr e l p=true) (hq:allOr e l q=false):∃ m∈l,p m≠q m:=by
 unfold allOr at hp hq
 split at hp
 ·rename_i hl;rw [if_pos hl] at hq;rw [hp] at hq;cases hq
 ·rename_i hl;rw [if_neg hl] at hq;exact all_else hp hq
theorem asks_of (ns:List Nd) (f:Flw):Asks (sayF ns f) ns.length (ask ns f):=by
 refine ⟨fun n m hm=>?_,fun n=>?_,fun x y n m hxy h1 h2 hm=>?_⟩
 ·unfold ask at hm
  split at hm
  ·exact (mem_ahl.1 hm).1
  ·exact (mem_nxl.1 hm).1
 ·unfold ask
  split
  ·exact ahl_len ns n
  ·exact nxl_len ns n
 ·simp only [sayF,Bool.or_eq_true,Bool.and_eq_true,Bool.or_eq_false_iff,Bool.and_eq_false_iff] at h1 h2
  obtain ⟨h3,h4⟩:=h2
  rcases h1 with h1 | ⟨h5,h6⟩
  ·rw [h1] at h3;cases h3
  ·rcases h4 with h4 | h4
   ·rw [h5] at h4;cases h4
   ·obtain ⟨j,hj,hne⟩:=allOr_else h6 h4
    have ej:j=n:=Classical.byContradiction fun q=>hne (by rw [hxy j q])
    subst ej
    unfold nbs at hj
    unfold ask
    split at hj
    ·rename_i hb;rw [if_pos hb]
     exact mem_ahl.2 ⟨hm,(mem_nxl.1 hj).2⟩
    ·rename_i hb;rw [if_neg hb]
     exact mem_nxl.2 ⟨hm,(mem_ahl.1 hj).2⟩
def usA (x:Nd):Bool:=x.op==2||wi x.op 3 8||wi x.op 10 12
def usB (x:Nd):Bool:=wi x.op 3 8
def useT (x:Nd) (j:Nat):Bool:=(usA x&&x.a==(j:Int))||(usB x&&x.b==(j:Int))
def setT (x:Nd) (j:Nat):Bool:=wi x.op 1 9&&x.d==(j:Int)
def nlF (ns:List Nd) (j:Nat) (y:Nat→Bool) (n:Nat):Bool:=!useT (nd ns n) j&&(setT (nd ns n) j||(nxl ns n).all y)
theorem nlF_mono (ns:List Nd) (j:Nat):Mono (nlF ns j):=by
 intro x y h n hx
 simp only [nlF,Bool.and_eq_true,Bool.or_eq_true] at hx ⊢
 refine ⟨hx.1,?_⟩
 rcases hx.2 with q | q
 ·exact Or.inl q
 ·exact Or.inr (all_mono h q)
def liveB (ns:List Nd) (j n:Nat):Bool:=!bat (gr (nlF ns j) ns.length) n
theorem live_eq (ns:List Nd) (j:Nat) {n:Nat} (hn:n<ns.length):liveB ns j n=(useT (nd ns n) j||(!setT (nd ns n) j&&(nxl ns n).any (liveB ns j))):=by
 have hG:=gr_isG (nlF_mono ns j) ns.length
 have e:=hG.fix n hn
 unfold liveB
 rw [e]
 simp only [nlF,Bool.not_and,Bool.not_not,Bool.not_or]
 congr 1
 congr 1
 generalize nxl ns n=l
 induction l with
 | nil=>rfl
 | cons a l ih=>simp only [List.all_cons,List.any_cons,Bool.not_and,ih]
def bitM (a:Int):BitVec 64:=1#64 <<< a.toNat
def useM (x:Nd):BitVec 64:=(if usA x then bitM x.a else 0#64) ||| (if usB x then bitM x.b else 0#64)
def setM (x:Nd):BitVec 64:=if wi x.op 1 9 then bitM x.d else 0#64
def behM (L:List (BitVec 64)) (l:List Nat):BitVec 64:=l.foldl (fun s m=>s ||| L.getD m 0#64) 0#64
def eqM (ns:List Nd) (L:List (BitVec 64)) (n:Nat):BitVec 64:=useM (nd ns n) ||| (behM L (nxl ns n) &&& ~~~setM (nd ns n))
def nlb (j:Nat) (L:List (BitVec 64)):List Bool:=L.map fun m=>!m.getLsbD j
theorem bit_bitM {a:Int} (h:0≤a∧a<64) {j:Nat} (hj:j<64):(bitM a).getLsbD j=(a==(j:Int)):=by
 simp only [bitM,BitVec.getLsbD_shiftLeft,BitVec.getLsbD_one]
 by_cases e:a=j
 ·subst e;simp [hj]
 ·have h2:¬ j=a.toNat:=by omega
  by_cases h3:j<a.toNat
  ·simp [hj,h3,e]
  ·have:¬ (j-a.toNat=0):=by omega
   simp [hj,h3,e,this]
theorem bit_useM {r:Int} {len:Nat} {x:Nd} (hF:Full r len x) (hr:r≤64) {j:Nat} (hj:j<64):(useM x).getLsbD j=useT x j:=by
 unfold useM useT
 rw [BitVec.getLsbD_or]
 congr 1
 ·cases h:usA x
  ·simp
  ·simp only [if_true,Bool.true_and]
   refine bit_bitM ?_ hj
   simp only [usA,Bool.or_eq_true,beq_iff_eq] at h
   have:=hF.a (by rcases h with (h | h) | h
                  ·omega
                  ·have:=wi_iff.1 h;omega
                  ·have:=wi_iff.1 h;omega) (by rcases h with (h | h) | h
                                               ·omega
                                               ·have:=wi_iff.1 h;omega
                                               ·have:=wi_iff.1 h;omega) (by rcases h with (h | h) | h
                                                                            ·omega
                                                                            ·have:=wi_iff.1 h;omega
                                                                            ·have:=wi_iff.1 h;omega)
   omega
 ·cases h:usB x
  ·simp
  ·simp only [if_true,Bool.true_and]
   refine bit_bitM ?_ hj
   have h:=wi_iff.1 h
   have:=hF.b h.1 h.2
   omega
theorem bit_setM {r:Int} {len:Nat} {x:Nd} (hF:Full r len x) (hr:r≤64) {j:Nat} (hj:j<64):(setM x).getLsbD j=setT x j:=by
 unfold setM setT
 cases h:wi x.op 1 9
 ·simp
 ·simp only [if_true,Bool.true_and]
  refine bit_bitM ?_ hj
  have h:=wi_iff.1 h
  have:=hF.d h.1 h.2
  omega
theorem bit_behM (L:List (BitVec 64)) (l:List Nat) (j:Nat):(behM L l).getLsbD j=l.any fun m=>(L.getD m 0#64).getLsbD j:=by
 have:∀ (l:List Nat) (s:BitVec 64),(l.foldl (fun s m=>s ||| L.getD m 0#64) s).getLsbD j=(s.getLsbD j||l.any fun m=>(L.getD m 0#64).getLsbD j):=by
  intro l
  induction l with
  | nil=>intro s;simp
  | cons a l ih=>intro s;rw [List.foldl_cons,ih,BitVec.getLsbD_or,List.any_cons,Bool.or_assoc]
 unfold behM
 rw [this];simp
theorem bat_nlb {L:List (BitVec 64)} {n j:Nat} (h:n<L.length):bat (nlb j L) n=!(L.getD n 0#64).getLsbD j:=by
 simp [bat,nlb,h]
theorem bit_eqM {r:Int} {ns:List Nd} (hc:chk r ns=0) {L:List (BitVec 64)} (hl:L.length=ns.length) {n j:Nat} (hn:n<ns.length) (hj:j<64):(eqM ns L n).getLsbD j=!nlF ns j (bat (nlb j L)) n:=by
 have hF:=chk_at hc hn
 have hr:=(chk_full hc).2.1.2
 unfold eqM nlF
 rw [BitVec.getLsbD_or,BitVec.getLsbD_and,BitVec.getLsbD_not,bit_useM hF hr hj,bit_setM hF hr hj,bit_behM]
 have:((nxl ns n).any fun m=>(L.getD m 0#64).getLsbD j)=!(nxl ns n).all (bat (nlb j L)):=by
  have hm:∀ m∈nxl ns n,m<L.length:=fun m hm=>by rw [hl];exact (mem_nxl.1 hm).1
  generalize nxl ns n=l at hm
  induction l with
  | nil=>rfl
  | cons a l ih =>
   rw [List.any_cons,List.all_cons,ih fun m q=>hm m (by simp [q]),bat_nlb (hm a (by simp))]
   simp [Bool.not_and]
 rw [this]
 cases useT (nd ns n) j <;> cases setT (nd ns n) j <;> simp [hj]
structure LS (ns:List Nd) (L:List (BitVec 64)) (wk:List Nat):Prop where
 len:L.length=ns.length
 on:∀ j,j<64→Onway (nlF ns j) ns.length (nlb j L)
 st:∀ n,n<ns.length→n∉wk→L.getD n 0#64=eqM ns L n
 wl:∀ n∈wk,n<ns.length
theorem LS.start (ns:List Nd):LS ns (List.replicate ns.length 0#64) (List.range ns.length):=by
 refine ⟨by simp,fun j hj=>?_,fun n hn h=>absurd (List.mem_range.2 hn) h,fun n h=>List.mem_range.1 h⟩
 have:nlb j (List.replicate ns.length 0#64)=List.replicate ns.length true:=by simp [nlb]
 rw [this];exact Onway.start _ _
theorem LS.pop {ns:List Nd} {L:List (BitVec 64)} {wk:List Nat} {n:Nat} (h:LS ns L (wk++[n])) (he:eqM ns L n=L.getD n 0#64):LS ns L wk:=by
 refine ⟨h.len,h.on,fun m hm hw=>?_,fun m hm=>h.wl m (by simp [hm])⟩
 by_cases e:m=n
 ·subst e;exact he.symm
 ·exact h.st m hm (by simp [hw,e])
theorem getD_set {L:List (BitVec 64)} {n m:Nat} {v:BitVec 64} (h:n<L.length):(L.set n v).getD m 0#64=if m=n then v else L.getD m 0#64:=by
 simp only [List.getD_eq_getElem?_getD,List.getElem?_set]
 by_cases e:n=m
 ·subst e;simp [h]
 ·simp [e,Ne.symm e]
theorem behM_set {L:List (BitVec 64)} {n:Nat} {v:BitVec 64} (h:n<L.length) {l:List Nat} (hl:n∉l):behM (L.set n v) l=behM L l:=by
 have:∀ (l:List Nat) (s:BitVec 64),n∉l→l.foldl (fun s m=>s ||| (L.set n v).getD m 0#64) s=l.foldl (fun s m=>s ||| L.getD m 0#64) s:=by
  intro l
  induction l with
  | nil=>intro s _;rfl
  | cons a l ih =>
   intro s hn
   have h1:a≠n:=fun e=>hn (by simp [e])
   rw [List.foldl_cons,List.foldl_cons,getD_set h,if_neg h1]
   exact ih _ fun q=>hn (by simp [q])
 exact this l _ hl
theorem LS.turn {r:Int} {ns:List Nd} (hc:chk r ns=0) {L:List (BitVec 64)} {wk:List Nat} {n:Nat} (h:LS ns L (wk++[n])):LS ns (L.set n (eqM ns L n)) (wk++ahl ns n):=by
 have hn:n<ns.length:=h.wl n (by simp)
 have hnL:n<L.length:=by rw [h.len];exact hn
 refine ⟨by simp [h.len],fun j hj=>?_,fun m hm hw=>?_,fun m hm=>?_⟩
 ·have e:nlb j (L.set n (eqM ns L n))=(nlb j L).set n (nlF ns j (bat (nlb j L)) n):=by
   unfold nlb
   rw [List.map_set,bit_eqM hc h.len hn hj]
   simp [nlb]
  rw [e];exact (h.on j hj).put (nlF_mono ns j) hn
 ·have hnx:n∉nxl ns m:=fun q=>by
   have:=(mem_nxl.1 q).2
   exact hw (List.mem_append_right _ (mem_ahl.2 ⟨hm,this⟩))
  unfold eqM
  rw [behM_set hnL hnx,getD_set hnL]
  by_cases e:m=n
  ·subst e;rw [if_pos rfl]
  ·rw [if_neg e]
   refine h.st m hm ?_
   intro q
   rcases List.mem_append.1 q with q | q
   ·exact hw (List.mem_append_left _ q)
   ·simp at q;exact e q
 ·rcases List.mem_append.1 hm with q | q
  ·exact h.wl m (by simp [q])
  ·exact (mem_ahl.1 q).1
def left (L:List (BitVec 64)):Nat:=((List.range 64).map fun j=>yeses (nlb j L)).sum
theorem sum_le {l:List Nat} {f g:Nat→Nat} (h:∀ j∈l,f j≤g j):(l.map f).sum≤(l.map g).sum:=by
 induction l with
 | nil=>simp
 | cons a l ih =>
  have:=h a (by simp)
  have:=ih fun j hj=>h j (by simp [hj])
  simp;omega
theorem sum_lt {l:List Nat} {f g:Nat→Nat} (h:∀ j∈l,f j≤g j) {i:Nat} (hi:i∈l) (hlt:f i<g i):(l.map f).sum<(l.map g).sum:=by
 induction l with
 | nil=>cases hi
 | cons a l ih =>
  have h1:=h a (by simp)
  have h2:(l.map f).sum≤(l.map g).sum:=sum_le fun j hj=>h j (List.mem_cons_of_mem _ hj)
  rcases List.mem_cons.1 hi with rfl | hi
  ·simp;omega
  ·have:=ih (fun j hj=>h j (by simp [hj])) hi
   simp;omega
theorem left_less {r:Int} {ns:List Nd} (hc:chk r ns=0) {L:List (BitVec 64)} {wk:List Nat} {n:Nat} (h:LS ns L (wk++[n])) (he:eqM ns L n≠L.getD n 0#64):left (L.set n (eqM ns L n))<left L:=by
 have hn:n<ns.length:=h.wl n (by simp)
 have e:∀ j,j<64→nlb j (L.set n (eqM ns L n))=(nlb j L).set n (nlF ns j (bat (nlb j L)) n):=fun j hj=>by
  unfold nlb
  rw [List.map_set,bit_eqM hc h.len hn hj]
  simp [nlb]
 have hex:∃ j,j<64∧(eqM ns L n).getLsbD j≠(L.getD n 0#64).getLsbD j:=by
  refine Classical.byContradiction fun q=>he ?_
  apply BitVec.eq_of_getLsbD_eq
  intro j hj
  exact Classical.byContradiction fun p=>q ⟨j,hj,p⟩
 obtain ⟨i,hi,hne⟩:=hex
 refine sum_lt (i:=i) (fun j hj=>?_) (List.mem_range.2 hi) ?_
 ·have hj:=List.mem_range.1 hj
  rw [e j hj]
  rcases put_yeses (h.on j hj) hn with q | q
  ·rw [q];exact Nat.le_refl _
  ·exact Nat.le_of_lt q
 ·rw [e i hi]
  rcases put_yeses (h.on i hi) hn with q | q
  ·exfalso
   apply hne
   have hb:bat ((nlb i L).set n (nlF ns i (bat (nlb i L)) n)) n=nlF ns i (bat (nlb i L)) n:=by
    rw [bat_set (by simp [nlb,h.len,hn]),if_pos rfl]
   rw [q,bat_nlb (by rw [h.len];exact hn)] at hb
   rw [bit_eqM hc h.len hn hi,← hb,Bool.not_not]
  ·exact q
theorem left_le (L:List (BitVec 64)):left L≤64*L.length:=by
 have:∀ l:List Nat,(l.map fun j=>yeses (nlb j L)).sum≤l.length*L.length:=by
  intro l
  induction l with
  | nil=>simp
  | cons a l ih =>
   have h1:=yeses_le (nlb a L)
   simp only [nlb,List.length_map] at h1
   simp only [List.map_cons,List.sum_cons,List.length_cons,Nat.succ_mul]
   simp only [nlb] at ih ⊢
   omega
 have:=this (List.range 64)
 simpa [left] using this
structure IsL (ns:List Nd) (L:List (BitVec 64)):Prop where
 len:L.length=ns.length
 bit:∀ n j,n<ns.length→j<64→(L.getD n 0#64).getLsbD j=liveB ns j n
theorem LS.done {r:Int} {ns:List Nd} (hc:chk r ns=0) {L:List (BitVec 64)} (h:LS ns L []):IsL ns L:=by
 refine ⟨h.len,fun n j hn hj=>?_⟩
 have hG:IsG (nlF ns j) ns.length (nlb j L):=(h.on j hj).done fun m hm hb=>by
  have e:=h.st m hm (by simp)
  have b:=bit_eqM hc h.len hm hj
  rw [← e] at b
  rw [bat_nlb (by rw [h.len];exact hm),b,Bool.not_not] at hb
  exact hb
 have:=hG.eq_gr (nlF_mono ns j)
 unfold liveB
 rw [← this,bat_nlb (by rw [h.len];exact hn),Bool.not_not]
def dies (ns:List Nd) (n:Nat):Bool:=wi (nd ns n).op 1 8&&!liveB ns (nd ns n).d.toNat (nd ns n).t.toNat
def deadTo (ns:List Nd) (k:Nat):List Nd:=(List.range ns.length).map fun n=>if n<k∧dies ns n=true then skp (nd ns n).t else nd ns n
def deadR (ns:List Nd):List Nd:=deadTo ns ns.length
theorem deadTo_len (ns:List Nd) (k:Nat):(deadTo ns k).length=ns.length:=by simp [deadTo]
theorem nd_deadTo {ns:List Nd} {k n:Nat} (h:n<ns.length):nd (deadTo ns k) n=if n<k∧dies ns n=true then skp (nd ns n).t else nd ns n:=by
 simp [nd,deadTo,h]
theorem nd_deadR {ns:List Nd} {n:Nat} (h:n<ns.length):nd (deadR ns) n=if dies ns n=true then skp (nd ns n).t else nd ns n:=by
 unfold deadR
 rw [nd_deadTo h]
 simp [h]
theorem nd_ext {l m:List Nd} (hl:l.length=m.length) (h:∀ n,n<l.length→nd l n=nd m n):l=m:=by
 apply List.ext_getElem?
 intro n
 by_cases hn:n<l.length
 ·rw [get_nd hn,get_nd (by omega),h n hn]
 ·rw [List.getElem?_eq_none (by omega),List.getElem?_eq_none (by omega)]
theorem deadTo_zero (ns:List Nd):deadTo ns 0=ns:=by
 refine nd_ext (deadTo_len ns 0) fun n hn=>?_
 rw [deadTo_len] at hn
 rw [nd_deadTo hn,if_neg (by omega)]
theorem deadTo_succ {ns:List Nd} {k:Nat} (h:k<ns.length):deadTo ns (k+1)=if dies ns k=true then (deadTo ns k).set k (skp (nd ns k).t) else deadTo ns k:=by
 refine nd_ext (by split <;> simp [deadTo_len]) fun n hn=>?_
 rw [deadTo_len] at hn
 rw [nd_deadTo hn]
 by_cases hd:dies ns k=true
 ·rw [if_pos hd (c:=dies ns k=true),nd_set _ (by rw [deadTo_len];exact h),nd_deadTo hn]
  by_cases e:n=k
  ·subst e;simp [hd]
  ·rw [if_neg e]
   by_cases q:n<k
   ·simp [q,show n<k+1 by omega]
   ·simp [q,show ¬ n<k+1 by omega]
 ·rw [if_neg hd (c:=dies ns k=true),nd_deadTo hn]
  by_cases e:n=k
  ·subst e;simp [hd]
  ·by_cases q:n<k
   ·simp [q,show n<k+1 by omega]
   ·simp [q,show ¬ n<k+1 by omega]
theorem nd_deadTo_at {ns:List Nd} {k:Nat} (h:k<ns.length):nd (deadTo ns k) k=nd ns k:=by
 rw [nd_deadTo h,if_neg (by omega)]
def anyTo (ns:List Nd) (k:Nat):Bool:=(List.range k).any (dies ns)
theorem anyTo_succ (ns:List Nd) (k:Nat):anyTo ns (k+1)=(anyTo ns k||dies ns k):=by
 simp [anyTo,List.range_succ,List.any_append]
theorem dies_op {ns:List Nd} {n:Nat} (h:dies ns n=true):1≤(nd ns n).op∧(nd ns n).op≤8:=by
 simp only [dies,Bool.and_eq_true] at h
 exact wi_iff.1 h.1
theorem ahB_dead {ns ms:List Nd} (hl:ms.length=ns.length) (h:∀ n,n<ns.length→nd ms n=nd ns n∨1≤(nd ns n).op∧(nd ns n).op≤8∧nd ms n=skp (nd ns n).t) (m n:Nat):ahB ms m n=ahB ns m n:=by
 have key:ahB ms m n=true↔ahB ns m n=true:=by
  rw [ahB_iff,ahB_iff,hl]
  constructor
  ·rintro ⟨hn,q⟩
   refine ⟨hn,?_⟩
   rcases h n hn with e | ⟨h1,h2,e⟩
   ·rw [e] at q;exact q
   ·rw [e] at q
    simp only [skp] at q
    left;exact ⟨by omega,by omega⟩
  ·rintro ⟨hn,q⟩
   refine ⟨hn,?_⟩
   rcases h n hn with e | ⟨h1,h2,e⟩
   ·rw [e];exact q
   ·rw [e]
    simp only [skp]
    left;exact ⟨by omega,by omega⟩
 cases ha:ahB ms m n <;> cases hb:ahB ns m n
 ·rfl
 ·rw [key.2 hb] at ha;cases ha
 ·rw [key.1 ha] at hb;cases hb
 ·rfl
theorem nxl_dead {ns ms:List Nd} (hl:ms.length=ns.length) (h:∀ n,n<ns.length→nd ms n=nd ns n∨1≤(nd ns n).op∧(nd ns n).op≤8∧nd ms n=skp (nd ns n).t) (n:Nat):nxl ms n=nxl ns n:=by
 unfold nxl;rw [hl];congr 1;funext m;exact ahB_dead hl h m n
theorem ahl_dead {ns ms:List Nd} (hl:ms.length=ns.length) (h:∀ n,n<ns.length→nd ms n=nd ns n∨1≤(nd ns n).op∧(nd ns n).op≤8∧nd ms n=skp (nd ns n).t) (n:Nat):ahl ms n=ahl ns n:=by
 unfold ahl;rw [hl];congr 1;funext m;exact ahB_dead hl h n m
structure DeadOf (ns ms:List Nd):Prop where
 len:ms.length=ns.length
 at_:∀ n,n<ns.length→nd ms n=nd ns n∨1≤(nd ns n).op∧(nd ns n).op≤8∧nd ms n=skp (nd ns n).t
theorem DeadOf.refl (ns:List Nd):DeadOf ns ns:=⟨rfl,fun _ _=>Or.inl rfl⟩
theorem DeadOf.to (ns:List Nd) (k:Nat):DeadOf ns (deadTo ns k):=⟨deadTo_len ns k,fun n hn=>by
 rw [nd_deadTo hn]
 split
 ·rename_i h;have:=dies_op h.2;exact Or.inr ⟨this.1,this.2,rfl⟩
 ·exact Or.inl rfl⟩
theorem DeadOf.round (ns:List Nd):DeadOf ns (deadR ns):=DeadOf.to ns ns.length
theorem DeadOf.trans {ns ms ls:List Nd} (h:DeadOf ns ms) (h' :DeadOf ms ls):DeadOf ns ls:=⟨h'.len.trans h.len,fun n hn=>by
 rcases h'.at_ n (by rw [h.len];exact hn) with e | ⟨a,b,e⟩
 ·rw [e];exact h.at_ n hn
 ·rcases h.at_ n hn with e' | ⟨_,_,e'⟩
  ·rw [e'] at a b e;exact Or.inr ⟨a,b,e⟩
  ·rw [e'] at a;simp [skp] at a⟩
theorem DeadOf.nxl {ns ms:List Nd} (h:DeadOf ns ms) (n:Nat):nxl ms n=nxl ns n:=nxl_dead h.len h.at_ n
theorem DeadOf.ahl {ns ms:List Nd} (h:DeadOf ns ms) (n:Nat):ahl ms n=ahl ns n:=ahl_dead h.len h.at_ n
theorem DeadOf.chk {r:Int} {ns ms:List Nd} (h:DeadOf ns ms) (hc:chk r ns=0):chk r ms=0:=by
 have hf:=chk_full hc
 refine chk_mk (by rw [h.len];exact hf.1) hf.2.1 fun y hy=>?_
 obtain ⟨n,hn⟩:=List.getElem?_of_mem hy
 have hlt:=(List.getElem?_eq_some_iff.1 hn).1
 have hy:y=nd ms n:=(nd_get hn).symm
 subst hy
 rw [h.len] at hlt ⊢
 have hF:=chk_at hc hlt
 rcases h.at_ n hlt with e | ⟨a,b,e⟩
 ·rw [e];exact hF
 ·rw [e]
  have:=hF.t (by omega)
  refine ⟨by simp [skp],by simp [skp],by simp [skp],by simp [skp],by simp [skp],by simp [skp],by simp [skp],?_,by simp [skp],by simp [skp],by simp [skp]⟩
  intro _
  exact this
def doers (ns:List Nd):Nat:=ns.countP fun x=>x.op != 0
theorem countP_le {p:Nd→Bool}:∀ {l m:List Nd},l.length=m.length→(∀ n,n<l.length→p (nd l n)=true→p (nd m n)=true)→l.countP p≤m.countP p
 | [],[],_,_=>Nat.le_refl _
 | a::l,b::m,hl,h=>by
  have ih:=countP_le (l:=l) (m:=m) (p:=p) (by simpa using hl) fun n hn q=>h (n+1) (by simpa using hn) q
  have h0:=h 0 (by simp)
  simp only [nd,List.getD_cons_zero] at h0
  simp only [List.countP_cons]
  split <;> split <;> first | omega | (rename_i q1 q2;exact absurd (h0 q1) q2)
 | [],_::_,hl,_=>by simp at hl
 | _::_,[],hl,_=>by simp at hl
theorem countP_lt {p:Nd→Bool}:∀ {l m:List Nd},l.length=m.length→(∀ n,n<l.length→p (nd l n)=true→p (nd m n)=true)→∀ k,k<l.length→p (nd l k)=false→p (nd m k)=true→l.countP p<m.countP p
 | [],[],_,_,k,hk,_,_=>by simp at hk
 | a::l,b::m,hl,h,k,hk,q1,q2=>by
  have h0:=h 0 (by simp)
  simp only [nd,List.getD_cons_zero] at h0
  have hle:=countP_le (l:=l) (m:=m) (p:=p) (by simpa using hl) fun n hn q=>h (n+1) (by simpa using hn) q
  simp only [List.countP_cons]
  cases k with
  | zero =>
   have q1:p a=false:=q1
   have q2:p b=true:=q2
   simp [q1,q2];omega
  | succ k =>
   have ih:=countP_lt (l:=l) (m:=m) (p:=p) (by simpa using hl) (fun n hn q=>h (n+1) (by simpa using hn) q) k (by simpa using hk) q1 q2
   split <;> split <;> first | omega | (rename_i q1 q2;exact absurd (h0 q1) q2)
 | [],_::_,hl,_,_,_,_,_=>by simp at hl
 | _::_,[],hl,_,_,_,_,_=>by simp at hl
theorem doers_less {ns:List Nd} (h:anyTo ns ns.length=true):doers (deadR ns)<doers ns:=by
 obtain ⟨k,hk,hd⟩:=List.any_eq_true.1 h
 have hk:=List.mem_range.1 hk
 refine countP_lt (deadTo_len ns _) (fun n hn q=>?_) k (by rw [deadR,deadTo_len];exact hk) ?_ ?_
 ·rw [deadR,deadTo_len] at hn
  rw [nd_deadR hn] at q
  split at q
  ·simp [skp] at q
  ·exact q
 ·rw [nd_deadR hk,if_pos hd];simp [skp]
 ·have:=dies_op hd
  simp;omega
theorem deadR_same {ns:List Nd} (h:anyTo ns ns.length=false):deadR ns=ns:=by
 refine nd_ext (deadTo_len ns _) fun n hn=>?_
 rw [deadR,deadTo_len] at hn
 rw [nd_deadR hn]
 have:dies ns n=false:=by
  cases q:dies ns n
  ·rfl
  ·have:=List.any_eq_true.2 ⟨n,List.mem_range.2 hn,q⟩
   unfold anyTo at h;rw [this] at h;cases h
 rw [this];rfl
def deadI:Nat→List Nd→List Nd
 | 0,ns=>ns
 | k+1,ns=>deadI k (deadR ns)
def deadN (ns:List Nd):List Nd:=deadI (doers ns) ns
theorem deadI_fix {ns:List Nd} (h:deadR ns=ns):∀ k,deadI k ns=ns
 | 0=>rfl
 | k+1=>by rw [deadI,h,deadI_fix h k]
theorem deadI_enough:∀ (k:Nat) (ns:List Nd),doers ns≤k→deadI k ns=deadN ns
 | 0,ns,h=>by
  unfold deadN
  rw [show doers ns=0 by omega]
 | k+1,ns,h=>by
  cases ha:anyTo ns ns.length
  ·have:=deadR_same ha
   unfold deadN
   rw [deadI_fix this,deadI_fix this]
  ·have hl:=doers_less ha
   rw [deadI,deadI_enough k _ (by omega)]
   unfold deadN
   obtain ⟨d,hd⟩:∃ d,doers ns=d+1:=⟨doers ns-1,by omega⟩
   rw [hd,deadI]
   exact (deadI_enough d _ (by omega)).symm
theorem deadN_round (ns:List Nd):deadN (deadR ns)=deadN ns:=by
 cases ha:anyTo ns ns.length
 ·rw [deadR_same ha]
 ·have hl:=doers_less ha
  unfold deadN
  obtain ⟨d,hd⟩:∃ d,doers ns=d+1:=⟨doers ns-1,by omega⟩
  rw [hd,deadI]
  exact (deadI_enough d _ (by omega)).symm
theorem deadN_fix {ns:List Nd} (h:anyTo ns ns.length=false):deadN ns=ns:=deadI_fix (deadR_same h) _
theorem DeadOf.iter:∀ (k:Nat) (ns:List Nd),DeadOf ns (deadI k ns)
 | 0,ns=>DeadOf.refl ns
 | k+1,ns=>(DeadOf.round ns).trans (DeadOf.iter k _)
theorem DeadOf.all (ns:List Nd):DeadOf ns (deadN ns):=DeadOf.iter _ ns
theorem nxl_one {r:Int} {ns:List Nd} (hc:chk r ns=0) {n:Nat} (hn:n<ns.length) (h1:(nd ns n).op≠11) (h2:(nd ns n).op≠12):nxl ns n=[(nd ns n).t.toNat]:=by
 have ht:=(chk_at hc hn).t h2
 have hlt:(nd ns n).t.toNat<ns.length:=by omega
 have:∀ m,ahB ns m n=decide (m=(nd ns n).t.toNat):=fun m=>by
  have key:ahB ns m n=true↔m=(nd ns n).t.toNat:=by
   rw [ahB_iff]
   constructor
   ·rintro ⟨_,⟨_,q⟩ | ⟨q,_⟩⟩
    ·omega
    ·exact absurd q h1
   ·intro e;exact ⟨hn,Or.inl ⟨h2,by omega⟩⟩
  by_cases e:m=(nd ns n).t.toNat
  ·rw [key.2 e];simp [e]
  ·cases q:ahB ns m n
   ·simp [e]
   ·exact absurd (key.1 q) e
 unfold nxl
 generalize (nd ns n).t.toNat=t at this hlt
 have e:(fun m=>ahB ns m n)=fun m=>decide (m=t):=funext this
 rw [e]
 have:∀ k,t<k→(List.range k).filter (fun m=>decide (m=t))=[t]:=by
  intro k
  induction k with
  | zero=>intro h;omega
  | succ k ih =>
   intro h
   rw [List.range_succ,List.filter_append]
   by_cases q:t<k
   ·rw [ih q];simp;omega
   ·have:k=t:=by omega
    subst this
    have:(List.range k).filter (fun m=>decide (m=k))=[]:=by
     rw [List.filter_eq_nil_iff];intro a ha;have:=List.mem_range.1 ha;simp;omega
    rw [this];simp
 exact this _ hlt
def cnt (l:List Ct) (t:Tm):Int:=(ctOf l t).getD 0
theorem cnt_more {l:List Ct} (h:Srt l) (t u:Tm):cnt (omore l t) u=cnt l u+if u=t then 1 else 0:=by
 unfold cnt
 rw [omore_ct h]
 by_cases e:u=t
 ·subst e;simp
 ·simp [e]
def Agree (ns:List Nd) (pc:Nat) (l m:List Int):Prop:=m.length=l.length∧∀ j,liveB ns j pc=true→m.getD j 0=l.getD j 0
theorem getD_setR (l:List Int) (d v:Int) (j:Nat):(setR l d v).getD j 0=if j=d.toNat∧j<l.length then v else l.getD j 0:=by
 unfold setR
 simp only [List.getD_eq_getElem?_getD,List.getElem?_set]
 by_cases e:d.toNat=j
 ·subst e
  by_cases h:d.toNat<l.length
  ·simp [h]
  ·simp [h]
 ·simp [e,Ne.symm e]
theorem live_back {ns:List Nd} {n m j:Nat} (hn:n<ns.length) (hm:m∈nxl ns n) (hs:setT (nd ns n) j=false) (hl:liveB ns j m=true):liveB ns j n=true:=by
 rw [live_eq ns j hn,hs]
 have:(nxl ns n).any (liveB ns j)=true:=List.any_eq_true.2 ⟨m,hm,hl⟩
 simp [this]
theorem live_use {ns:List Nd} {n j:Nat} (hn:n<ns.length) (h:useT (nd ns n) j=true):liveB ns j n=true:=by
 rw [live_eq ns j hn,h];rfl
theorem Agree.next {ns:List Nd} {n m:Nat} {l k:List Int} (h:Agree ns n l k) (hn:n<ns.length) (hm:m∈nxl ns n) (hs:∀ j,setT (nd ns n) j=false):Agree ns m l k :=
 ⟨h.1,fun j hj=>h.2 j (live_back hn hm (hs j) hj)⟩
theorem Agree.set {ns:List Nd} {n m:Nat} {l k:List Int} (h:Agree ns n l k) (hn:n<ns.length) (hm:m∈nxl ns n) (h0:0≤(nd ns n).d) (v:Int):Agree ns m (setR l (nd ns n).d v) (setR k (nd ns n).d v):=by
 refine ⟨by simp [setR,h.1],fun j hj=>?_⟩
 rw [getD_setR,getD_setR,h.1]
 split
 ·rfl
 ·rename_i q
  by_cases e:j=(nd ns n).d.toNat
  ·have:¬ j<l.length:=fun p=>q ⟨e,p⟩
   simp [List.getD_eq_getElem?_getD,show l.length≤j by omega,show k.length≤j by rw [h.1];omega]
  ·refine h.2 j (live_back hn hm ?_ hj)
   have:((nd ns n).d==(j:Int))=false:=by simp;omega
   simp [setT,this]
theorem Agree.dead {ns:List Nd} {n m:Nat} {l k:List Int} (h:Agree ns n l k) (hn:n<ns.length) (hm:m∈nxl ns n) (h0:0≤(nd ns n).d) (hd:liveB ns (nd ns n).d.toNat m=false) (v:Int):Agree ns m (setR l (nd ns n).d v) k:=by
 refine ⟨by simp [setR,h.1],fun j hj=>?_⟩
 have e:j≠(nd ns n).d.toNat:=fun e=>by rw [e,hd] at hj;cases hj
 rw [getD_setR,if_neg (fun q=>e q.1)]
 refine h.2 j (live_back hn hm ?_ hj)
 have:((nd ns n).d==(j:Int))=false:=by simp;omega
 simp [setT,this]
theorem Agree.get {ns:List Nd} {n:Nat} {l k:List Int} (h:Agree ns n l k) (hn:n<ns.length) {a:Int} (hu:useT (nd ns n) a.toNat=true):getR k a=getR l a:=h.2 a.toNat (live_use hn hu)
theorem mem_then {ns:List Nd} {n:Nat} {r:Int} (hc:chk r ns=0) (hn:n<ns.length) (h:(nd ns n).op≠12):(nd ns n).t.toNat∈nxl ns n:=by
 have:=(chk_at hc hn).t h
 exact mem_nxl.2 ⟨by omega,ahB_iff.2 ⟨hn,Or.inl ⟨h,by omega⟩⟩⟩
theorem mem_else {ns:List Nd} {n:Nat} {r:Int} (hc:chk r ns=0) (hn:n<ns.length) (h:(nd ns n).op=11):(nd ns n).e.toNat∈nxl ns n:=by
 have:=(chk_at hc hn).e h
 exact mem_nxl.2 ⟨by omega,ahB_iff.2 ⟨hn,Or.inr ⟨h,by omega⟩⟩⟩
theorem stp_agree {r:Int} {ns:List Nd} (hc:chk r ns=0) {n:Nat} (hn:n<ns.length) {s u:St} (hi:u.inp=s.inp) (ho:u.out=s.out) (hr:u.ret=s.ret) (he:u.ended=s.ended) (hA:Agree ns n s.regs u.regs) :
 (stp (nd ns n) u).inp=(stp (nd ns n) s).inp∧(stp (nd ns n) u).out=(stp (nd ns n) s).out∧(stp (nd ns n) u).ret=(stp (nd ns n) s).ret∧(stp (nd ns n) u).ended=(stp (nd ns n) s).ended∧(stp (nd ns n) u).pc=(stp (nd ns n) s).pc ∧
 ((stp (nd ns n) u).cts=u.cts∧(stp (nd ns n) s).cts=s.cts∨(stp (nd ns n) u).cts=omore u.cts (tmOf (nd ns n))∧(stp (nd ns n) s).cts=omore s.cts (tmOf (nd ns n))) ∧
 ((nd ns n).op=12∧(stp (nd ns n) s).ended=true∨(stp (nd ns n) s).pc∈nxl ns n∧Agree ns (stp (nd ns n) s).pc (stp (nd ns n) s).regs (stp (nd ns n) u).regs):=by
 have hF:=chk_at hc hn
 have hop:=hF.op
 unfold stp
 by_cases h0:(nd ns n).op=0
 ·rw [if_pos h0,if_pos h0]
  refine ⟨hi,ho,hr,he,rfl,Or.inl ⟨rfl,rfl⟩,Or.inr ⟨mem_then hc hn (by omega),hA.next hn (mem_then hc hn (by omega)) fun j=>?_⟩⟩
  have:wi (nd ns n).op 1 9=false:=by rw [h0];decide
  simp [setT,this]
 rw [if_neg h0,if_neg h0]
 by_cases h1:(nd ns n).op=1
 ·rw [if_pos h1,if_pos h1]
  exact ⟨hi,ho,hr,he,rfl,Or.inl ⟨rfl,rfl⟩,Or.inr ⟨mem_then hc hn (by omega),hA.set hn (mem_then hc hn (by omega)) (hF.d (by omega) (by omega)).1 _⟩⟩
 rw [if_neg h1,if_neg h1]
 by_cases h2:(nd ns n).op=2
 ·rw [if_pos h2,if_pos h2]
  have ha:=hF.a (by omega) (by omega) (by omega)
  have e:getR u.regs (nd ns n).a=getR s.regs (nd ns n).a:=hA.get hn (by simp [useT,usA,h2];omega)
  rw [e]
  exact ⟨hi,ho,hr,he,rfl,Or.inl ⟨rfl,rfl⟩,Or.inr ⟨mem_then hc hn (by omega),hA.set hn (mem_then hc hn (by omega)) (hF.d (by omega) (by omega)).1 _⟩⟩
 rw [if_neg h2,if_neg h2]
 by_cases h9:(nd ns n).op=9
 ·rw [if_pos h9,if_pos h9,hi]
  exact ⟨rfl,ho,hr,he,rfl,Or.inl ⟨rfl,rfl⟩,Or.inr ⟨mem_then hc hn (by omega),hA.set hn (mem_then hc hn (by omega)) (hF.d (by omega) (by omega)).1 _⟩⟩
 rw [if_neg h9,if_neg h9]
 by_cases h10:(nd ns n).op=10
 ·rw [if_pos h10,if_pos h10]
  have ha:=hF.a (by omega) (by omega) (by omega)
  have e:getR u.regs (nd ns n).a=getR s.regs (nd ns n).a:=hA.get hn (by simp [useT,usA,h10,wi];omega)
  rw [e,ho]
  refine ⟨hi,rfl,hr,he,rfl,Or.inl ⟨rfl,rfl⟩,Or.inr ⟨mem_then hc hn (by omega),hA.next hn (mem_then hc hn (by omega)) fun j=>?_⟩⟩
  have:wi (nd ns n).op 1 9=false:=by rw [h10];decide
  simp [setT,this]
 rw [if_neg h10,if_neg h10]
 by_cases h11:(nd ns n).op=11
 ·rw [if_pos h11,if_pos h11]
  have ha:=hF.a (by omega) (by omega) (by omega)
  have e:getR u.regs (nd ns n).a=getR s.regs (nd ns n).a:=hA.get hn (by simp [useT,usA,h11,wi];omega)
  have hs:∀ j,setT (nd ns n) j=false:=fun j=>by
   have:wi (nd ns n).op 1 9=false:=by rw [h11];decide
   simp [setT,this]
  rw [e]
  refine ⟨hi,ho,hr,he,rfl,Or.inl ⟨rfl,rfl⟩,Or.inr ?_⟩
  simp only
  split
  ·exact ⟨mem_else hc hn h11,hA.next hn (mem_else hc hn h11) hs⟩
  ·exact ⟨mem_then hc hn (by omega),hA.next hn (mem_then hc hn (by omega)) hs⟩
 rw [if_neg h11,if_neg h11]
 by_cases h12:(nd ns n).op=12
 ·rw [if_pos h12,if_pos h12]
  have ha:=hF.a (by omega) (by omega) (by omega)
  have e:getR u.regs (nd ns n).a=getR s.regs (nd ns n).a:=hA.get hn (by simp [useT,usA,h12,wi];omega)
  rw [e]
  exact ⟨hi,ho,rfl,rfl,rfl,Or.inl ⟨rfl,rfl⟩,Or.inl ⟨h12,rfl⟩⟩
 rw [if_neg h12,if_neg h12]
 have ha:=hF.a (by omega) (by omega) (by omega)
 have hb:=hF.b (by omega) (by omega)
 have hw:wi (nd ns n).op 3 8=true:=wi_iff.2 (by omega)
 have e:getR u.regs (nd ns n).a=getR s.regs (nd ns n).a:=hA.get hn (by simp [useT,usA,hw];omega)
 have e' :getR u.regs (nd ns n).b=getR s.regs (nd ns n).b:=hA.get hn (by simp [useT,usB,hw];omega)
 rw [e,e']
 exact ⟨hi,ho,hr,he,rfl,Or.inr ⟨rfl,rfl⟩,Or.inr ⟨mem_then hc hn (by omega),hA.set hn (mem_then hc hn (by omega)) (hF.d (by omega) (by omega)).1 _⟩⟩
structure DR (ns:List Nd) (s u:St):Prop where
 pc:u.pc=s.pc
 inp:u.inp=s.inp
 out:u.out=s.out
 ret:u.ret=s.ret
 ended:u.ended=s.ended
 steps:u.steps=s.steps
 ss:Srt s.cts
 su:Srt u.cts
 ct:∀ t,cnt u.cts t≤cnt s.cts t
 go:s.ended=false→s.pc<ns.length∧Agree ns s.pc s.regs u.regs
theorem DR.step {r:Int} {ns:List Nd} (hc:chk r ns=0) {s u:St} (h:DR ns s u):DR ns (run1 ns s) (run1 (deadR ns) u):=by
 cases he:s.ended
 ·have heu:u.ended=false:=by rw [h.ended];exact he
  obtain ⟨hn,hA⟩:=h.go he
  have hnd:u.pc<(deadR ns).length:=by rw [h.pc,deadR,deadTo_len];exact hn
  rw [run1_at he (get_nd hn),run1_at heu (get_nd hnd),h.pc,nd_deadR hn]
  by_cases hd:dies ns s.pc=true
  ·rw [if_pos hd]
   have hop:=dies_op hd
   have hF:=chk_at hc hn
   have hlv:liveB ns (nd ns s.pc).d.toNat (nd ns s.pc).t.toNat=false:=by
    simp only [dies,Bool.and_eq_true,Bool.not_eq_true'] at hd;exact hd.2
   have hd0:=(hF.d (by omega) (by omega)).1
   have hm:=mem_then hc hn (show (nd ns s.pc).op≠12 by omega)
   have hml:=(mem_nxl.1 hm).1
   have eu:stp (skp (nd ns s.pc).t) u={ u with pc:=(nd ns s.pc).t.toNat,steps:=u.steps+1 }:=by simp [stp,skp]
   have es:∃ v l,stp (nd ns s.pc) s={ s with pc:=(nd ns s.pc).t.toNat,steps:=s.steps+1,regs:=setR s.regs (nd ns s.pc).d v,cts:=l }∧(l=s.cts∨l=omore s.cts (tmOf (nd ns s.pc))):=by
    unfold stp
    rw [if_neg (by omega)]
    by_cases h1:(nd ns s.pc).op=1
    ·rw [if_pos h1];exact ⟨_,_,rfl,Or.inl rfl⟩
    rw [if_neg h1]
    by_cases h2:(nd ns s.pc).op=2
    ·rw [if_pos h2];exact ⟨_,_,rfl,Or.inl rfl⟩
    rw [if_neg h2,if_neg (by omega),if_neg (by omega),if_neg (by omega),if_neg (by omega)]
    exact ⟨_,_,rfl,Or.inr rfl⟩
   obtain ⟨v,l,es,hl⟩:=es
   rw [eu,es]
   have hsl:Srt l:=by
    rcases hl with rfl | rfl
    ·exact h.ss
    ·exact omore_srt h.ss _
   refine ⟨rfl,h.inp,h.out,h.ret,h.ended,by simp [h.steps],hsl,h.su,fun t=>?_,fun _=>⟨hml,hA.dead hn hm hd0 hlv v⟩⟩
   rcases hl with rfl | rfl
   ·exact h.ct t
   ·have:=h.ct t
    simp only
    rw [cnt_more h.ss]
    split <;> omega
  ·rw [if_neg hd]
   obtain ⟨a1,a2,a3,a4,a5,a6,a7⟩:=stp_agree hc hn h.inp h.out h.ret h.ended hA
   refine ⟨a5,a1,a2,a3,a4,by rw [stp_steps,stp_steps,h.steps],?_,?_,fun t=>?_,fun q=>?_⟩
   ·rcases a6 with ⟨_,e⟩ | ⟨_,e⟩
    ·rw [e];exact h.ss
    ·rw [e];exact omore_srt h.ss _
   ·rcases a6 with ⟨e,_⟩ | ⟨e,_⟩
    ·rw [e];exact h.su
    ·rw [e];exact omore_srt h.su _
   ·have:=h.ct t
    rcases a6 with ⟨e,e'⟩ | ⟨e,e'⟩
    ·rw [e,e'];exact this
    ·rw [e,e', cnt_more h.ss,cnt_more h.su];omega
   ·rcases a7 with ⟨_,q'⟩ | ⟨b1,b2⟩
    ·rw [q] at q'; cases q'
    ·exact ⟨(mem_nxl.1 b1).1,b2⟩
 ·have heu:u.ended=true:=by rw [h.ended];exact he
  rw [run1_ended he,run1_ended heu];exact h
theorem DR.run {r:Int} {ns:List Nd} (hc:chk r ns=0):∀ (n:Nat) {s u:St},DR ns s u→DR ns (runN ns n s) (runN (deadR ns) n u)
 | 0,_,_,h=>h
 | n+1,s,u,h=>by rw [runS_succ,runS_succ];exact DR.run hc n (h.step hc)
theorem DR.start {r:Int} {ns:List Nd} (hc:chk r ns=0) (k:Nat) (inp:List Int):DR ns (st0 k inp) (st0 k inp) :=
 ⟨rfl,rfl,rfl,rfl,rfl,rfl,List.Pairwise.nil,List.Pairwise.nil,fun _=>Int.le_refl _,fun _=>⟨(chk_full hc).1.1,rfl,fun _ _=>rfl⟩⟩
structure Seen (s u:St):Prop where
 out:u.out=s.out
 ret:u.ret=s.ret
 ended:u.ended=s.ended
 steps:u.steps=s.steps
 ct:∀ t,cnt u.cts t≤cnt s.cts t
theorem dead_iter {r:Int} (n k:Nat) (inp:List Int):∀ (d:Nat) {ns:List Nd},chk r ns=0→Seen (runN ns n (st0 k inp)) (runN (deadI d ns) n (st0 k inp))
 | 0,_,_=>⟨rfl,rfl,rfl,rfl,fun _=>Int.le_refl _⟩
 | d+1,ns,hc=>by
  have h1:=DR.run hc n (DR.start hc k inp)
  have h2:=dead_iter n k inp d ((DeadOf.round ns).chk hc)
  exact ⟨h2.out.trans h1.out,h2.ret.trans h1.ret,h2.ended.trans h1.ended,h2.steps.trans h1.steps,fun t=>Int.le_trans (h2.ct t) (h1.ct t)⟩
theorem dead_same {r:Int} {ns:List Nd} (hc:chk r ns=0) (n k:Nat) (inp:List Int):Seen (runN ns n (st0 k inp)) (runN (deadN ns) n (st0 k inp)):=dead_iter n k inp _ hc
end Go.Proofs.YtkkolclmfcmfbaaGreatDoor
