/-
  Of the proof of MovePlaces: LN, GraphSame, PI, HD, HG, PJ, PL.
-/
import Derived.Test.YtnbdnbcnlgnicaaGreatP1
import Derived.Test.YtnbdnbcnlgnicaaGreatP2
import Derived.Test.YtnbdnbcnlgnicaaGreatP3
import Derived.Test.YtnbdnbcnlgnicaaGreatP4
import Derived.Test.YtnbdnbcnlgnicaaGreatP7
import Derived.Test.YtnbdnbcnlgnicaaGreatP8
import Derived.Test.YtnbdnbcnlgnicaaGreatP9
import Derived.Test.YtnbdnbcnlgnicaaGreatP10
import Derived.ProofKit
import Derived.OpenShut
import Derived.Lib.SmallJoins
import Derived.Deep.Slices
import Derived.Deep.DeepCutAuto
import Derived.Sort.CutIn
set_option linter.unusedVariables false
set_option linter.unusedSimpArgs false
set_option maxHeartbeats 40000000
namespace Go.Proofs.YtnbdnbcnlgnicaaGreat
open Go.RowKit Go.Shelf
def anewL (x:List Bool) (L k:Nat):List Int:=(List.range L).map fun j=>((anewTo x k j:Nat):Int)
theorem anewL_zero (x:List Bool) (L:Nat):anewL x L 0=List.replicate L 0:=by
 apply List.ext_getElem?
 intro j
 by_cases h:j<L
 ·simp [anewL,anewTo,h]
 ·simp [anewL,h]
theorem anewL_no {x:List Bool} {L k:Nat} (h:bat x k=false):anewL x L (k+1)=anewL x L k:=by
 refine List.map_congr_left fun j _=>?_
 congr 1
 unfold anewTo
 by_cases e:j=k
 ·subst e;simp [anewAt,h]
 ·by_cases q:j<k
  ·rw [if_pos q,if_pos (by omega)]
  ·rw [if_neg q,if_neg (by omega)]
theorem anewL_yes {x:List Bool} {L k:Nat} (h:bat x k=true) (hk:k<L):anewL x L (k+1)=(anewL x L k).set k ((keptI x k).length:Nat):=by
 apply List.ext_getElem?
 intro j
 rw [List.getElem?_set]
 by_cases hj:j<L
 ·by_cases e:k=j
  ·subst e
   simp [anewL,anewTo,anewAt,h,hk]
  ·rw [if_neg e]
   simp only [anewL,List.getElem?_map,List.getElem?_range hj,Option.map_some]
   congr 2
   unfold anewTo
   by_cases q:j<k
   ·rw [if_pos q,if_pos (by omega)]
   ·rw [if_neg q,if_neg (by omega)]
 ·have:¬ k=j:=by omega
  simp [anewL,hj,this]
theorem anewL_at {x:List Bool} {L j:Nat} (hj:j<L):(anewL x L L)[j]?=some ((anewAt x j:Nat):Int):=by
 simp [anewL,anewTo,hj]
def keptN (ns:List Nd) (x:List Bool) (k:Nat):List Nd:=(keptI x k).map (nd ns)
def turnedN (x:List Bool) (l:List Nd) (j:Nat):List Nd:=(l.take j).map (ren x)++l.drop j
theorem turnedN_len (x:List Bool) (l:List Nd) (j:Nat):(turnedN x l j).length=l.length:=by
 simp [turnedN];omega
theorem turnedN_zero (x:List Bool) (l:List Nd):turnedN x l 0=l:=by simp [turnedN]
theorem turnedN_at {x:List Bool} {l:List Nd} {j:Nat} {y:Nd} (h:l[j]?=some y):(turnedN x l j)[j]?=some y:=by
 have hj:=(List.getElem?_eq_some_iff.1 h).1
 simp only [turnedN]
 rw [List.getElem?_append_right (by simp;omega)]
 simp [Nat.min_eq_left (Nat.le_of_lt hj),h]
theorem turnedN_succ {x:List Bool} {l:List Nd} {j:Nat} {y:Nd} (h:l[j]?=some y):turnedN x l (j+1)=(turnedN x l j).set j (ren x y):=by
 have hj:=(List.getElem?_eq_some_iff.1 h).1
 have e:=(List.getElem?_eq_some_iff.1 h).2
 simp only [turnedN]
 rw [List.set_append_right _ _ (by simp;omega)]
 simp only [List.length_map,List.length_take,Nat.min_eq_left (Nat.le_of_lt hj),Nat.sub_self]
 have hd:l.drop j=y::l.drop (j+1):=by rw [List.drop_eq_getElem_cons hj,e]
 rw [take_succ_get h,List.map_append,List.append_assoc,hd]
 simp
theorem turnedN_all {x:List Bool} {l:List Nd}:turnedN x l l.length=l.map (ren x):=by simp [turnedN]
set_option maxRecDepth 100000 in
theorem trim_ok (r:Int) (b off cap:Nat) (ns:List Nd) (w:World) (hN:NodesAt w b off ns) (hc:chk r ns=0) :
 CallsIn Fence.wide 1 Tryz.prog 56 #[.agg #[.int .i64 r,.slice (some ⟨b,off,none⟩) ns.length cap]] w fun e w' =>∃ v,e=.returned (.tuple #[.agg #[.int .i64 r,v],.int .i64 0])∧w'.ownsRow w.heap.size 47 6 v (trimN ns).length ((trimN ns).flatMap encNd)∧Below w.heap.size w w' :=by
 have hl:=(chk_zero hc).1
 obtain ⟨i0,hi0,hz0,hz1,hz2⟩:=info_parts info_node
 have hms:∀ W:World,Sem.run Tryz.prog (Instr.makeSlice 54 (.int .i64 (ns.length:Int)) (.int .i64 (ns.length:Int))) W=.ok (.slice (some ⟨W.heap.size,0,none⟩) ns.length ns.length) (W.alloc (.cells (madeCells #[.int .i64 0] ns.length) 3)):=fun W=>run_make_row' 54 3 _ 8 Tryz.underlying54 info_int rfl .i64 .i64 ns.length (by omega) (by omega) W
 refine callsIn_of_wp Tryz.func56 rfl trivial ?_ rfl
 simp only [Tryz.ntmps56,List.size_toArray,List.length_cons,List.length_nil,Nat.reduceAdd,Nat.reduceSub,Array.replicate_succ,Array.replicate_zero,List.push_toArray,List.append_toArray,List.nil_append,List.cons_append]
 have hb0:Below w.heap.size w ((w.alloc (.cells #[.int .i64 r,.slice (some ⟨b,off,none⟩) ns.length cap] 24)).alloc (.cells #[.int .i64 0,.slice none 0 0] 24)):=((Below.refl _ w).alloc (Nat.le_refl _) _).alloc (by simp) _
 have p0:((w.alloc (.cells #[.int .i64 r,.slice (some ⟨b,off,none⟩) ns.length cap] 24)).alloc (.cells #[.int .i64 0,.slice none 0 0] 24)).heap[w.heap.size]?=some (.cells #[.int .i64 r,.slice (some ⟨b,off,none⟩) ns.length cap] 24 (0,0)):=(Below.heap_alloc _ _ _ (by simp)).trans (World.alloc_heap_new w _)
 have p1:((w.alloc (.cells #[.int .i64 r,.slice (some ⟨b,off,none⟩) ns.length cap] 24)).alloc (.cells #[.int .i64 0,.slice none 0 0] 24)).heap[w.heap.size+1]?=some (.cells #[.int .i64 0,.slice none 0 0] 24 (0,0)):=by
  have:=World.alloc_heap_new (w.alloc (.cells #[.int .i64 r,.slice (some ⟨b,off,none⟩) ns.length cap] 24)) (.cells #[.int .i64 0,.slice none 0 0] 24)
  rwa [World.size_alloc] at this
 have hre:=reach_any r b off cap ns _ (hN.below hb0 hN.lt) hc
 have HRE:=hide' hre
 clear hre
 have h11:1≤1:=by decide
 gi_wp2_with (refine ⟨trivial,?_⟩;gi_at_call 84;refine (callsIn_wide.2 HRE.out).mono ?_)
 rintro e w1 ⟨v1,rfl,hrr,hb1⟩
 obtain ⟨rb,rcap,rfl,hrbase,hrlt⟩:=hrr.form (by omega)
 have hs1:=hb1.size
 replace p0:=(hb1.block w.heap.size (by simp;omega)).trans p0
 replace p1:=(hb1.block (w.heap.size+1) (by simp)).trans p1
 simp only [World.size_alloc] at hs1 hb1 hrbase
 have hB1:Below w.heap.size w w1:=hb0.trans (hb1.mono (by omega))
 have hlt1:=blk_lt p0
 have hlt2:=blk_lt p1
 have q1:=blk_cell p0 1
 simp at q1
 clear hb1 hb0
 gi_upto_region 6 with fail
 have hA0:(w1.alloc (.cells (madeCells #[.int .i64 0] ns.length) 3)).heap[w1.heap.size]?=some (.cells ((anewL (rchL ns) ns.length 0).map (Value.int .i64)).toArray 3 (0,0)):=by
  rw [World.alloc_heap_new,made_ints,anewL_zero]
 have hBA:Below w1.heap.size w1 (w1.alloc (.cells (madeCells #[.int .i64 0] ns.length) 3)):=(Below.refl _ w1).alloc (Nat.le_refl _) _
 have hsA:w1.heap.size+1≤(w1.alloc (.cells (madeCells #[.int .i64 0] ns.length) 3)).heap.size:=by simp
 generalize w1.alloc (.cells (madeCells #[.int .i64 0] ns.length) 3)=WA at hA0 hBA hsA ⊢
 have qA:=(hBA.cell (p:=⟨w.heap.size,1,none⟩) hlt1).trans q1
 have hltA:w.heap.size<WA.heap.size:=by omega
 gi_wp2
 gi_loopw [7,28] (fun v i wr=>∃ k:Nat,k≤ns.length∧i=.int .i64 k∧wr.heap[w1.heap.size]?=some (.cells ((anewL (rchL ns) ns.length k).map (Value.int .i64)).toArray 3 (0,0))∧wr.ownsRow (w1.heap.size+1) 47 6 v (keptN ns (rchL ns) k).length ((keptN ns (rchL ns) k).flatMap encNd)∧Below w1.heap.size w1 wr) (fun _ i _=>ns.length-(intOf i).toNat)
 case atStart=>exact ⟨0,Nat.zero_le _,rfl,hA0,World.ownsRow_nil _ _ _ _,hBA⟩
 case round =>
  obtain ⟨k,hk,rfl,hA,hK,hB⟩:=hrel
  have hs:=hB.size
  have hal:=blk_lt hA
  have hkl:(keptN ns (rchL ns) k).length≤k:=by simp only [keptN,List.length_map];exact keptI_len _ _
  obtain ⟨ka,kc,hkv⟩:=owns_slice hK
  subst hkv
  by_cases hlt:k<ns.length
  ·obtain ⟨y,hy⟩:=get_lt hlt
   have hki:(k:Int)<(ns.length:Int):=by omega
   have hN1:=hN.below (hB1.trans (hB.mono (by omega))) hN.lt
   have c0:=hN1.c0 k y hy
   have c1:=hN1.c1 k y hy
   have c2:=hN1.c2 k y hy
   have c3:=hN1.c3 k y hy
   have c4:=hN1.c4 k y hy
   have c5:=hN1.c5 k y hy
   have hblt:=hN1.lt
   have xk:wr.cell? ⟨rb,k,none⟩=some (.bool (bat (rchL ns) k)):=by
    rw [hB.cell (p:=⟨rb,k,none⟩) hrlt]
    have:=hrr.cells (g:=rb) rfl k (.bool (bat (rchL ns) k)) (by rw [List.getElem?_map,get_bat (by rw [rchL_len];exact hlt)];rfl)
    have e:(⟨rb,0,none⟩:Addr).add k=⟨rb,k,none⟩:=by cases k <;> simp [Addr.add]
    rw [e] at this;exact this
   have hrl2:rb<wr.heap.size:=by omega
   have HA:=hide' hA
   have HK:=hide' hK
   have HYD:=hide' (nd_get hy)
   clear hN1 hy hA hK
   cases hxk:bat (rchL ns) k
   ·rw [hxk] at xk
    have HAN:=hide' (anewL_no (L:=ns.length) hxk)
    have HKN:=hide' (show keptN ns (rchL ns) (k+1)=keptN ns (rchL ns) k by rw [keptN,keptN,keptI_no hxk])
    clear hxk
    gi_wp2
    go_roundw
    case rel=>exact ⟨k+1,by omega,by go_num,by rw [HAN.out];exact (Below.heap_alloc _ _ _ hal).trans HA.out,by rw [HKN.out];exact HK.out.alloc _,hB.alloc hB.size _⟩
    case measure=>simp [intOf];omega
   ·rw [hxk] at xk
    have HAN:=hide' (anewL_yes hxk hlt)
    have HKN:=hide' (show keptN ns (rchL ns) (k+1)=keptN ns (rchL ns) k++[y] by rw [keptN,keptN,keptI_yes hxk,List.map_append,List.map_singleton,HYD.out])
    have hkN:(keptN ns (rchL ns) k).length=(keptI (rchL ns) k).length:=by simp [keptN]
    have HKL:=hide' hkN
    have hAc:=blk_cell HA.out k
    have hAf:=blk_frozen HA.out k
    have hAk:((anewL (rchL ns) ns.length k).map (Value.int .i64)).toArray[k]?=some (.int .i64 ((anewTo (rchL ns) k k:Nat):Int)):=by
     rw [List.getElem?_toArray,List.getElem?_map]
     simp [anewL,hlt]
    rw [hAk] at hAc
    clear hxk hkN hAk
    gi_upto_region 11 with fail
    have hA2:((wr.setCell ⟨w1.heap.size,k,none⟩ (.int .i64 ((keptN ns (rchL ns) k).length:Int))).alloc (.cells #[.int .i64 y.op,.int .i64 y.d,.int .i64 y.a,.int .i64 y.b,.int .i64 y.t,.int .i64 y.e] 47)).heap[w1.heap.size]?=some (.cells ((anewL (rchL ns) ns.length (k+1)).map (Value.int .i64)).toArray 3 (0,0)):=by
     refine (Below.heap_alloc _ _ _ (by simpa using hal)).trans ?_
     rw [blk_set _ HA.out,HAN.out,← HKL.out]
     simp only [List.map_set,List.setIfInBounds_toArray]
    have hK2:((wr.setCell ⟨w1.heap.size,k,none⟩ (.int .i64 ((keptN ns (rchL ns) k).length:Int))).alloc (.cells #[.int .i64 y.op,.int .i64 y.d,.int .i64 y.a,.int .i64 y.b,.int .i64 y.t,.int .i64 y.e] 47)).ownsRow (w1.heap.size+1) 47 6 (.slice ka (keptN ns (rchL ns) k).length kc) (keptN ns (rchL ns) k).length ((keptN ns (rchL ns) k).flatMap encNd):=(owns_set HK.out HA.out (by decide)).alloc _
    have hB2:Below w1.heap.size w1 ((wr.setCell ⟨w1.heap.size,k,none⟩ (.int .i64 ((keptN ns (rchL ns) k).length:Int))).alloc (.cells #[.int .i64 y.op,.int .i64 y.d,.int .i64 y.a,.int .i64 y.b,.int .i64 y.t,.int .i64 y.e] 47)):=(hB.setCell (p:=⟨w1.heap.size,k,none⟩) (Nat.le_refl _) _).alloc (by simp;omega) _
    have hnb:NodeBox ((wr.setCell ⟨w1.heap.size,k,none⟩ (.int .i64 ((keptN ns (rchL ns) k).length:Int))).alloc (.cells #[.int .i64 y.op,.int .i64 y.d,.int .i64 y.a,.int .i64 y.b,.int .i64 y.t,.int .i64 y.e] 47)) wr.heap.size y:=by
     have:=nodeBox_new (wr.setCell ⟨w1.heap.size,k,none⟩ (.int .i64 ((keptN ns (rchL ns) k).length:Int))) y
     simpa using this
    clear hAc hAf xk c0 c1 c2 c3 c4 c5
    generalize ((wr.setCell ⟨w1.heap.size,k,none⟩ (.int .i64 ((keptN ns (rchL ns) k).length:Int))).alloc (.cells #[.int .i64 y.op,.int .i64 y.d,.int .i64 y.a,.int .i64 y.b,.int .i64 y.t,.int .i64 y.e] 47))=W2 at hA2 hK2 hB2 hnb ⊢
    have hs2:=hB2.size
    have hnl:=hnb.lt
    have n0:=blk_cell hnb 0
    have n1:=blk_cell hnb 1
    have n2:=blk_cell hnb 2
    have n3:=blk_cell hnb 3
    have n4:=blk_cell hnb 4
    have n5:=blk_cell hnb 5
    simp at n0 n1 n2 n3 n4 n5
    gi_wp2_with (gi_at_builtin;refine wpListIn_append_own _ rfl _ _ 22 rfl (w1.heap.size+1) 47 i0 _ 6 48 Tryz.underlying22 hi0 hz0 hz1 hz2 rfl (by decide) _ _ _ rfl (hK2.alloc _) ⟨W2.heap.size,0,none⟩ 1 1 (encNd y) rfl rfl ?cells (by simp [encNd,Value.oneCell']) (by unfold maxLen;omega) (by omega) (by simp;omega) ?_)
    case cells =>
     intro j u hj
     have e:(⟨W2.heap.size,0,none⟩:Addr).add j=⟨W2.heap.size,j,none⟩:=by cases j <;> simp [Addr.add]
     rw [e,World.cell?_alloc_at _ _ _ _ rfl]
     simpa [encNd] using hj
    intro v' w5 hown' hgrow _
    obtain ⟨g', cap', rfl⟩:=ownsRow_succ hown'
    have hg2:(W2.alloc (.cells #[.int .i64 y.op,.int .i64 y.d,.int .i64 y.a,.int .i64 y.b,.int .i64 y.t,.int .i64 y.e] 47)).grownBy w5 (Value.slice ka (keptN ns (rchL ns) k).length kc).ownBlock:=hgrow
    have hA5:w5.heap[w1.heap.size]?=_:=(hg2.block _ (by have:=blk_lt hA2;simp;omega) (owns_ne_ty hK2 hA2 (by decide))).trans ((Below.heap_alloc _ _ _ (blk_lt hA2)).trans hA2)
    have hB5:Below w1.heap.size w1 w5:=(hB2.alloc hB2.size (.cells #[.int .i64 y.op,.int .i64 y.d,.int .i64 y.a,.int .i64 y.b,.int .i64 y.t,.int .i64 y.e] 47)).grown hg2 (by have:=hB2.size;simp;omega) (fun j ej=>by have:=(hK2.lt j ej).1;omega)
    have hK5:w5.ownsRow (w1.heap.size+1) 47 6 (.slice (some ⟨g', 0,none⟩) ((keptN ns (rchL ns) k).length+1) cap') (keptN ns (rchL ns) (k+1)).length ((keptN ns (rchL ns) (k+1)).flatMap encNd):=by
     rw [HKN.out,List.length_append,List.flatMap_append]
     simpa using hown'
    clear hgrow hg2 hown' hK2 hA2 hB2
    gi_wp2
    go_roundw
    case rel=>exact ⟨k+1,by omega,by go_num,hA5,hK5,hB5⟩
    case measure=>simp [intOf];omega
  ·have ek:k=ns.length:=by omega
   subst ek
   have hmem:∀ (j:Nat) (y:Nd),(keptN ns (rchL ns) ns.length)[j]?=some y→Full r ns.length y:=by
    intro j y hj
    obtain ⟨i,hi,rfl⟩:=List.mem_map.1 (List.mem_of_getElem? hj)
    exact chk_at hc (keptI_mem.1 hi).1
   have hK1:=hK
   have hkpos:0<(keptN ns (rchL ns) ns.length).length:=by
    have:=trimN_pos (ns:=ns) (by omega)
    rw [trimN_len] at this
    simpa [keptN] using this
   have hA1:=hA
   obtain ⟨g,gc,hgv,hgb,hgl⟩:=hK1.form hkpos
   cases hgv
   have hkl2:(keptN ns (rchL ns) ns.length).length≤256:=by omega
   have HA1:=hide' hA1
   have hB' :=hB
   have hK1' :wr.ownsRow (w1.heap.size+1) 47 6 (.slice (some ⟨g,0,none⟩) (keptN ns (rchL ns) ns.length).length kc) (keptN ns (rchL ns) ns.length).length ((turnedN (rchL ns) (keptN ns (rchL ns) ns.length) 0).flatMap encNd):=by rw [turnedN_zero];exact hK1
   have HKT:=hide' (show trimN ns=(keptN ns (rchL ns) ns.length).map (ren (rchL ns)) by simp [trimN,keptN])
   have hnA:(w1.heap.size:Nat)≠g:=by omega
   clear hK1 hA1 hK hA
   generalize keptN ns (rchL ns) ns.length=l at hmem hkpos hkl2 hK1' HKT ⊢
   gi_wp2
   gi_loopw [49] (fun i wv=>∃ j:Nat,j≤l.length∧i=.int .i64 j∧wv.heap[w1.heap.size]?=some (.cells ((anewL (rchL ns) ns.length ns.length).map (Value.int .i64)).toArray 3 (0,0))∧wv.ownsRow (w1.heap.size+1) 47 6 (.slice (some ⟨g,0,none⟩) l.length kc) l.length ((turnedN (rchL ns) l j).flatMap encNd)∧Below w1.heap.size w1 wv) (fun i _=>l.length-(intOf i).toNat)
   case atStart=>exact ⟨0,Nat.zero_le _,rfl,HA1.out,hK1', hB'⟩
   case round =>
    obtain ⟨j,hj,rfl,hA,hK,hB⟩:=hrel
    have hs:=hB.size
    have hal:=blk_lt hA
    have hgl2:g<wr.heap.size:=(hK.lt g rfl).2
    by_cases hlt:j<l.length
    ·obtain ⟨y,hy⟩:=get_lt hlt
     have hji:(j:Int)<(l.length:Int):=by omega
     have hF:=hmem j y hy
     have hbd:=full_bounds hF hl.1
     have hyt:=turnedN_at (x:=rchL ns) hy
     have cell:∀ (i:Nat) (u:Value),i<6→(encNd y)[i]?=some u→wr.cell? ⟨g,j*6+i,none⟩=some u:=by
      intro i u hi hu
      have:=hK.cells (g:=g) rfl (j*6+i) u (by rw [flatK 6 encNd encNd_len _ j i y hyt hi];exact hu)
      have e:(⟨g,0,none⟩:Addr).add (j*6+i)=⟨g,j*6+i,none⟩:=by
       cases h:j*6+i <;> simp [Addr.add]
      rw [e] at this;exact this
     have c0:=cell 0 _ (by decide) rfl
     have c1:=cell 1 _ (by decide) rfl
     have c2:=cell 2 _ (by decide) rfl
     have c3:=cell 3 _ (by decide) rfl
     have c4:=cell 4 _ (by decide) rfl
     have c5:=cell 5 _ (by decide) rfl
     rw [Nat.add_zero] at c0
     clear cell
     obtain ⟨yop,yd,ya,yb,yt,ye⟩:=y
     simp only at hbd c0 c1 c2 c3 c4 c5
     obtain ⟨tn,rfl⟩:=Int.eq_ofNat_of_zero_le hbd.1
     obtain ⟨en,rfl⟩:=Int.eq_ofNat_of_zero_le hbd.2.2.1
     have htl:tn<ns.length:=by omega
     have hel:en<ns.length:=by omega
     have hti:(tn:Int)<(ns.length:Int):=by omega
     have hei:(en:Int)<(ns.length:Int):=by omega
     have at1:wr.cell? ⟨w1.heap.size,tn,none⟩=some (.int .i64 ((anewAt (rchL ns) tn:Nat):Int)):=by
      rw [blk_cell hA,List.getElem?_toArray,List.getElem?_map,anewL_at htl];rfl
     have at2:wr.cell? ⟨w1.heap.size,en,none⟩=some (.int .i64 ((anewAt (rchL ns) en:Nat):Int)):=by
      rw [blk_cell hA,List.getElem?_toArray,List.getElem?_map,anewL_at hel];rfl
     have hHA:=hide' hA
     have hHK:=hide' hK
     have HY:=hide' hy
     have HYT:=hide' hyt
     have hne1:g≠wr.heap.size:=by omega
     have hne2:w1.heap.size≠g:=by omega
     clear hA hK hy hyt hF
     gi_upto_region 16 with fail
     have hBW:Below wr.heap.size wr (wr.alloc (.cells #[.int .i64 yop,.int .i64 yd,.int .i64 ya,.int .i64 yb,.int .i64 (tn:Int),.int .i64 (en:Int)] 47)):=(Below.refl _ wr).alloc (Nat.le_refl _) _
     have hnb:(wr.alloc (.cells #[.int .i64 yop,.int .i64 yd,.int .i64 ya,.int .i64 yb,.int .i64 (tn:Int),.int .i64 (en:Int)] 47)).heap[wr.heap.size]?=some (.cells #[.int .i64 yop,.int .i64 yd,.int .i64 ya,.int .i64 yb,.int .i64 (tn:Int),.int .i64 (en:Int)] 47 (0,0)):=World.alloc_heap_new wr _
     generalize wr.alloc (.cells #[.int .i64 yop,.int .i64 yd,.int .i64 ya,.int .i64 yb,.int .i64 (tn:Int),.int .i64 (en:Int)] 47)=W at hBW hnb ⊢
     have hKW:=ownsRow_below hHK.out hBW (Nat.le_refl _)
     have hAW:W.heap[w1.heap.size]?=_:=(hBW.block _ hal).trans hHA.out
     have b4:=blk_cell hnb 4
     have b5:=blk_cell hnb 5
     simp at b4 b5
     replace at1:=(hBW.cell (p:=⟨w1.heap.size,tn,none⟩) hal).trans at1
     replace at2:=(hBW.cell (p:=⟨w1.heap.size,en,none⟩) hal).trans at2
     replace c4:=(hBW.cell (p:=⟨g,j*6+4,none⟩) hgl2).trans c4
     replace c5:=(hBW.cell (p:=⟨g,j*6+5,none⟩) hgl2).trans c5
     obtain ⟨cur,hgc⟩:∃ cur,W.heap[g]?=some (.cells cur 47 (0,0)):=by
      rcases hKW.2 with ⟨q,_⟩ | ⟨g', cap', cur,q,_,a2,_⟩
      ·cases q
      ·cases q;exact ⟨cur,a2⟩
     have f4:=blk_frozen hgc (j*6+4)
     have f5:=blk_frozen hgc (j*6+5)
     have HKW:=hide' hKW
     have HAW:=hide' hAW
     have HBW:=hide' hBW
     clear c0 c1 c2 c3 hKW hAW hBW hgc hnb
     refine wpIn_wide.2 ?_
     refine wp_region_held_drew (S:=fun u=>u.cell? ⟨wr.heap.size,4,none⟩=some (.int .i64 (tn:Int))∧u.cell? ⟨wr.heap.size,5,none⟩=some (.int .i64 (en:Int))∧u.cell? ⟨w1.heap.size,tn,none⟩=some (.int .i64 ((anewAt (rchL ns) tn:Nat):Int))∧u.cell? ⟨w1.heap.size,en,none⟩=some (.int .i64 ((anewAt (rchL ns) en:Nat):Int))) (by kernel_rfl) ⟨b4,b5,at1,at2⟩ (fun hHeld=>?_)
     refine tkw 0 ?_
     iterate 15 (first | refine tkv ?_ | refine tku ?_)
     refine tkr 16 (fun K hK=>?_)
     go_simp
     refine hK.out _ _ ⟨(cset hne1.symm).trans b4,(cset hne1.symm).trans b5,(cset hne2).trans at1,(cset hne2).trans at2⟩ (fun hHeld=>?_)
     clear hK K
     iterate 2 (first | refine tkv ?_ | refine tku ?_)
     refine tkr 19 (fun K hK=>?_)
     go_simp
     refine hK.out _ _ ⟨(cset hne1.symm).trans ((cset hne1.symm).trans b4),(cset hne1.symm).trans ((cset hne1.symm).trans b5),(cset hne2).trans ((cset hne2).trans at1),(cset hne2).trans ((cset hne2).trans at2)⟩ (fun hHeld=>?_)
     clear hK K
     refine wpAnyH_done (by kernel_rfl) ?_ _
     have k1:=owns_write (u:=.int .i64 ((anewAt (rchL ns) tn:Nat):Int)) HKW.out (i:=j*6+4) (by omega)
     have k2:=owns_write (u:=.int .i64 ((anewAt (rchL ns) en:Nat):Int)) k1 (i:=j*6+5) (by omega)
     rw [flat_set 6 encNd encNd_len (turnedN (rchL ns) l j) j 4 _ ⟨yop,yd,ya,yb,((anewAt (rchL ns) tn:Nat):Int),(en:Int)⟩ _ HYT.out (by decide) rfl] at k2
     rw [flat_set 6 encNd encNd_len _ j 5 ⟨yop,yd,ya,yb,((anewAt (rchL ns) tn:Nat):Int),(en:Int)⟩ ⟨yop,yd,ya,yb,((anewAt (rchL ns) tn:Nat):Int),((anewAt (rchL ns) en:Nat):Int)⟩ _ (by rw [List.getElem?_set_self (by rw [turnedN_len];exact hlt)]) (by decide) rfl,List.set_set] at k2
     have e1:(turnedN (rchL ns) l j).set j ⟨yop,yd,ya,yb,((anewAt (rchL ns) tn:Nat):Int),((anewAt (rchL ns) en:Nat):Int)⟩=turnedN (rchL ns) l (j+1):=by
      rw [turnedN_succ HY.out];simp [ren]
     rw [e1] at k2
     have k3:((W.setCell ⟨g,j*6+4,none⟩ (.int .i64 ((anewAt (rchL ns) tn:Nat):Int))).setCell ⟨g,j*6+5,none⟩ (.int .i64 ((anewAt (rchL ns) en:Nat):Int))).drew.ownsRow (w1.heap.size+1) 47 6 (.slice (some ⟨g,0,none⟩) l.length kc) l.length ((turnedN (rchL ns) l (j+1)).flatMap encNd):=k2
     have k4:((W.setCell ⟨g,j*6+4,none⟩ (.int .i64 ((anewAt (rchL ns) tn:Nat):Int))).setCell ⟨g,j*6+5,none⟩ (.int .i64 ((anewAt (rchL ns) en:Nat):Int))).drew.heap[w1.heap.size]?=some (.cells ((anewL (rchL ns) ns.length ns.length).map (Value.int .i64)).toArray 3 (0,0)):=(Below.heap_setCell _ _ _ _ hne2).trans ((Below.heap_setCell _ _ _ _ hne2).trans HAW.out)
     have k5:Below w1.heap.size w1 ((W.setCell ⟨g,j*6+4,none⟩ (.int .i64 ((anewAt (rchL ns) tn:Nat):Int))).setCell ⟨g,j*6+5,none⟩ (.int .i64 ((anewAt (rchL ns) en:Nat):Int))).drew:=((((hB.trans (HBW.out.mono hs))).setCell (p:=⟨g,j*6+4,none⟩) (by simp;omega) _).setCell (p:=⟨g,j*6+5,none⟩) (by simp;omega) _).drew
     generalize ((W.setCell ⟨g,j*6+4,none⟩ (.int .i64 ((anewAt (rchL ns) tn:Nat):Int))).setCell ⟨g,j*6+5,none⟩ (.int .i64 ((anewAt (rchL ns) en:Nat):Int))).drew=Wf at k3 k4 k5 ⊢
     gi_wp2
     go_roundw
     case rel=>exact ⟨j+1,by omega,by go_num,k4,k3,k5⟩
     case measure=>simp [intOf];omega
    ·have ej:j=l.length:=by omega
     subst ej
     rw [turnedN_all,← HKT.out] at hK
     have hll:(trimN ns).length=l.length:=by rw [HKT.out];simp
     have P0:=(hB.block _ hlt1).trans p0
     have P1:=(hB.block _ hlt2).trans p1
     have q0:=blk_cell P0 0
     simp at q0
     have r0:=blk_cell P1 0
     have r1:=blk_cell P1 1
     have f0:=blk_frozen P1 0
     have f1:=blk_frozen P1 1
     simp at r0 r1
     have hltr:w.heap.size<wr.heap.size:=by omega
     have hltr2:w.heap.size+1<wr.heap.size:=by omega
     have HK2:=hide' hK
     have HP1:=hide' P1
     clear hK P0 P1 hA
     gi_wp2
     have hk2:((wr.setCell ⟨w.heap.size+1,0,none⟩ (.int .i64 r)).setCell ⟨w.heap.size+1,1,none⟩ (.slice (some ⟨g,0,none⟩) l.length kc)).heap[w.heap.size+1]?=some (.cells #[.int .i64 r,.slice (some ⟨g,0,none⟩) l.length kc] 24 (0,0)):=by
      rw [blk_set _ (blk_set _ HP1.out)];simp
     have y0:=blk_cell hk2 0
     have y1:=blk_cell hk2 1
     simp at y0 y1
     refine bodyPost_ret (v:=.tuple #[.agg #[.int .i64 r,.slice (some ⟨g,0,none⟩) l.length kc],.int .i64 0]) (by simp [results,Tryz.results56,go_sem,y0,y1]) rfl ⟨_,rfl,?_,(((hB1.trans (hB.mono (by omega))).setCell (p:=⟨w.heap.size+1,0,none⟩) (by simp) _).setCell (p:=⟨w.heap.size+1,1,none⟩) (by simp) _)⟩
     have o1:=owns_set (o:=1) (u:=.slice (some ⟨g,0,none⟩) l.length kc) (owns_set (o:=0) (u:=.int .i64 r) HK2.out HP1.out (by decide)) (blk_set _ HP1.out) (by decide)
     rw [hll]
     exact ownsRow_base o1 (by omega)
end Go.Proofs.YtnbdnbcnlgnicaaGreat
namespace Go.Proofs.YtnbdnbcnlgnicaaGreat
open Go.ChangeShapes Go.WideShapes Go.ChangeAt Go.RowKit Go.Joins Go.Deep
theorem own:ownKnob Tryz.prog.godebug=none:=by kernel_rfl
theorem laidOut:laidOutB Tryz.prog=true:=by kernel_rfl
theorem cells_node:Tryz.prog.cellsOf 47=6:=by kernel_rfl
theorem cells_prog:Tryz.prog.cellsOf 24=2:=by kernel_rfl
theorem list6 {α:Type} {l:List α} (h:l.length=6):∃ a b c d e f,l=[a,b,c,d,e,f]:=by
 match l,h with
 | [a,b,c,d,e,f],_=>exact ⟨a,b,c,d,e,f,rfl⟩
set_option maxRecDepth 100000 in
theorem node_at {H:Type} {enc:TypeId × Value→H} {W:World} {sp:Nat→Bool} {a:Addr} {n:Nat} {cs:List Value} {y:DataW H × List MemPlace} (hc:W.cells? 0 a 6=some cs)
 (ht:DataW.trod enc Tryz.prog W 0 sp true n 47 cs=some y) :
 ∃ x:Nd,W.cell? (a.add 0)=some (.int .i64 x.op)∧W.cell? (a.add 1)=some (.int .i64 x.d)∧W.cell? (a.add 2)=some (.int .i64 x.a)∧W.cell? (a.add 3)=some (.int .i64 x.b)∧W.cell? (a.add 4)=some (.int .i64 x.t)∧W.cell? (a.add 5)=some (.int .i64 x.e):=by
 obtain ⟨_,hl,hcell⟩:=World.cells?_some hc
 obtain ⟨c0,c1,c2,c3,c4,c5,rfl⟩:=list6 hl
 obtain ⟨xs,m,_,_,_,hxs,hf⟩:=DataW.trod_struct Tryz.underlying47 ht
 obtain ⟨x0,x1,x2,x3,x4,x5,rfl⟩:=list6 (l:=xs) hxs
 have f0:=hf 0 _ rfl
 have f1:=hf 1 _ rfl
 have f2:=hf 2 _ rfl
 have f3:=hf 3 _ rfl
 have f4:=hf 4 _ rfl
 have f5:=hf 5 _ rfl
 simp only [List.getElem?_cons_zero,List.getElem?_cons_succ] at f0 f1 f2 f3 f4 f5
 obtain ⟨z0,e0,_⟩:=DataW.trod_int Tryz.underlying3 f0
 obtain ⟨z1,e1,_⟩:=DataW.trod_int Tryz.underlying3 f1
 obtain ⟨z2,e2,_⟩:=DataW.trod_int Tryz.underlying3 f2
 obtain ⟨z3,e3,_⟩:=DataW.trod_int Tryz.underlying3 f3
 obtain ⟨z4,e4,_⟩:=DataW.trod_int Tryz.underlying3 f4
 obtain ⟨z5,e5,_⟩:=DataW.trod_int Tryz.underlying3 f5
 cases e0;cases e1;cases e2;cases e3;cases e4;cases e5
 exact ⟨⟨z0,z1,z2,z3,z4,z5⟩,hcell 0 (by omega),hcell 1 (by omega),hcell 2 (by omega),hcell 3 (by omega),hcell 4 (by omega),hcell 5 (by omega)⟩
theorem add_lit' (b off i:Nat):(⟨b,off,none⟩:Addr).add i=⟨b,off+i,none⟩:=by cases i <;> simp [Addr.add]
set_option maxRecDepth 100000 in
theorem nodes_of {H:Type} {enc:TypeId × Value→H} {W:World} {sp:Nat→Bool} {fuel:Nat} {v:Value} {y:DataW H × List MemPlace}
 (h:DataW.trod enc Tryz.prog W 0 sp true fuel 22 [v]=some y):∃ a cap ns,v=.slice a (List.length ns) cap∧SlN W a ns∧ns.length≤9223372036854775807:=by
 rcases open_slice Tryz.underlying22 h with ⟨hcs,_⟩ | ⟨a,len,cap,m,n,D,Pl,hcs,_,hl,hm,hmm,_,hx⟩
 ·simp at hcs
  exact ⟨none,0,[],by simpa using hcs,Or.inl rfl,by simp⟩
 ·simp at hcs
  subst hcs
  have hlm:len≤m:=by rw [hmm];split <;> omega
  obtain ⟨F,hF⟩:=choose_lt (α:=Nd) (n:=len) (p:=fun i x=>W.cell? ((a.add (i*6)).add 0)=some (.int .i64 x.op)∧W.cell? ((a.add (i*6)).add 1)=some (.int .i64 x.d)∧W.cell? ((a.add (i*6)).add 2)=some (.int .i64 x.a)∧W.cell? ((a.add (i*6)).add 3)=some (.int .i64 x.b)∧W.cell? ((a.add (i*6)).add 4)=some (.int .i64 x.t)∧W.cell? ((a.add (i*6)).add 5)=some (.int .i64 x.e)) (fun i hi=>by
   obtain ⟨cs', h1,h2⟩:=hx i (by omega)
   rw [cells_node] at h1
   exact node_at h1 h2)
  refine ⟨some a,cap,(List.range len).map F,by simp,?_,by simp;unfold maxLen at hm;omega⟩
  by_cases h0:len=0
  ·subst h0;exact Or.inl rfl
  obtain ⟨b,off,spot⟩:=a
  have hc0:=(hF 0 (by omega)).1
  have hspot:spot=none:=by simpa [Addr.add] using World.cell?_spot hc0
  subst hspot
  have hblt:b<W.heap.size:=by simpa [Addr.add] using block_lt_of_cell hc0
  have key:∀ (i:Nat) (x:Nd),((List.range len).map F)[i]?=some x→i<len∧F i=x:=by
   intro i x hi
   rw [List.getElem?_map,Option.map_eq_some_iff] at hi
   obtain ⟨j,hj,rfl⟩:=hi
   have hlt:i<len:=by have:=(List.getElem?_eq_some_iff.1 hj).1;simpa using this
   rw [List.getElem?_range hlt] at hj
   cases hj
   exact ⟨hlt,rfl⟩
  refine Or.inr ⟨b,off,rfl,hblt,?_,?_,?_,?_,?_,?_⟩
  all_goals
   intro i x hi
   obtain ⟨hlt,rfl⟩:=key i x hi
   have:=hF i hlt
   simp only [add_lit'] at this
   obtain ⟨k0,k1,k2,k3,k4,k5⟩:=this
   assumption
set_option maxRecDepth 100000 in
theorem open_prog {H:Type} {enc:TypeId × Value→H} {W:World} {sp:Nat→Bool} {base:Nat} {v:Value} {d:DataW H} {p:List MemPlace}
 (hv:Value.okWide Tryz.prog W .any base 24 v) (h:DataW.Trod enc Tryz.prog W 0 sp true 24 v d p) :
 ∃ r a cap ns,v=.agg #[.int .i64 r,.slice a (List.length ns) cap]∧SlN W a ns∧ns.length≤9223372036854775807:=by
 obtain ⟨c0,c1,y0,y1,m,rfl,_,_,hy0,hy1⟩:=open_agg2 Tryz.underlying24 (by kernel_rfl) cells_prog hv h
 obtain ⟨r,e0,_,_⟩:=DataW.trod_int Tryz.underlying3 hy0
 obtain ⟨a,cap,ns,rfl,hN,hl⟩:=nodes_of hy1
 simp at e0
 subst e0
 exact ⟨r,a,cap,ns,rfl,hN,hl⟩
theorem cells_term:Tryz.prog.cellsOf 26=3:=by kernel_rfl
theorem cells_bool:Tryz.prog.cellsOf 4=1:=by kernel_rfl
theorem list3 {α:Type} {l:List α} (h:l.length=3):∃ a b c,l=[a,b,c]:=by
 match l,h with
 | [a,b,c],_=>exact ⟨a,b,c,rfl⟩
set_option maxRecDepth 100000 in
theorem term_trod {H:Type} {enc:TypeId × Value→H} {W:World} {sp:Nat→Bool} {n:Nat} {c0 c1 c2:Value} {y:DataW H × List MemPlace}
 (ht:DataW.trod enc Tryz.prog W 0 sp true n 26 [c0,c1,c2]=some y):∃ t:Tm,c0=.int .i64 t.op∧c1=.int .i64 t.a∧c2=.int .i64 t.b:=by
 obtain ⟨xs,m,_,_,_,hxs,hf⟩:=DataW.trod_struct Tryz.underlying26 ht
 obtain ⟨x0,x1,x2,rfl⟩:=list3 (l:=xs) hxs
 have f0:=hf 0 _ rfl
 have f1:=hf 1 _ rfl
 have f2:=hf 2 _ rfl
 simp only [List.getElem?_cons_zero,List.getElem?_cons_succ] at f0 f1 f2
 obtain ⟨z0,e0,_⟩:=DataW.trod_int Tryz.underlying3 f0
 obtain ⟨z1,e1,_⟩:=DataW.trod_int Tryz.underlying3 f1
 obtain ⟨z2,e2,_⟩:=DataW.trod_int Tryz.underlying3 f2
 cases e0;cases e1;cases e2
 exact ⟨⟨z0,z1,z2⟩,rfl,rfl,rfl⟩
set_option maxRecDepth 100000 in
theorem open_term {H:Type} {enc:TypeId × Value→H} {W:World} {sp:Nat→Bool} {base:Nat} {v:Value} {d:DataW H} {p:List MemPlace}
 (hv:Value.okWide Tryz.prog W .any base 26 v) (h:DataW.Trod enc Tryz.prog W 0 sp true 26 v d p) :
 ∃ t:Tm,v=.agg #[.int .i64 t.op,.int .i64 t.a,.int .i64 t.b]:=by
 obtain ⟨cs,rfl,hsz⟩:=okWide_struct Tryz.underlying26 hv
 rw [cells_term] at hsz
 obtain ⟨l⟩:=cs
 obtain ⟨c0,c1,c2,rfl⟩:=list3 (l:=l) (by simpa using hsz)
 obtain ⟨fuel,hf⟩:=h
 obtain ⟨t,rfl,rfl,rfl⟩:=term_trod hf
 exact ⟨t,rfl⟩
end Go.Proofs.YtnbdnbcnlgnicaaGreat
namespace Go.Proofs.YtnbdnbcnlgnicaaGreat
open Go.RowKit Go.Shelf
theorem trim_fit (r:Int) (b off cap:Nat) (ns:List Nd) (w:World) (hN:NodesAt w b off ns) (hc:chk r ns=0) :
 Calls Tryz.prog 56 #[.agg #[.int .i64 r,.slice (some ⟨b,off,none⟩) ns.length cap]] w fun e w' =>∃ tb tq tc,e=.returned (.tuple #[.agg #[.int .i64 r,.slice (some ⟨tb,tq,none⟩) (trimN ns).length tc],.int .i64 0])∧NodesAt w' tb tq (trimN ns)∧Below w.heap.size w w' :=by
 refine (callsIn_wide.1 (trim_ok r b off cap ns w hN hc)).mono ?_
 rintro e w' ⟨v,rfl,hv,hB⟩
 obtain ⟨ta,tc,rfl,hs⟩:=nodes_of_owns hv
 obtain ⟨tb,tq,rfl,hn⟩:=hs.some (chk_zero (trim_chk hc)).1.1
 exact ⟨tb,tq,tc,rfl,hn,hB⟩
theorem split_long (r:Int) (b off cap:Nat) (ns:List Nd) (w:World) (hN:NodesAt w b off ns) (hc:chk r ns=0) (hl:256<(splitN ns).length) :
 Calls Tryz.prog 57 #[.agg #[.int .i64 r,.slice (some ⟨b,off,none⟩) ns.length cap]] w fun e w' =>e=.returned (.tuple #[.agg #[.int .i64 0,.slice none 0 0],.int .i64 2])∧Below w.heap.size w w' :=by
 refine (callsIn_wide.1 (split_ok r b off cap ns w hN hc)).mono ?_
 rintro e w' ⟨v1,v2,er,rfl,h,hB⟩
 rcases h with ⟨h,_⟩ | ⟨_,rfl,rfl,rfl⟩
 ·omega
 ·exact ⟨rfl,hB⟩
theorem NodesAt.setM {w:World} {b off B o:Nat} {ns:List Nd} {v:Value} (h:NodesAt w b off ns) (hne:b≠B):NodesAt (w.setCell ⟨B,o,none⟩ v) b off ns:=by
 have e:∀ k,(w.setCell ⟨B,o,none⟩ v).cell? ⟨b,k,none⟩=w.cell? ⟨b,k,none⟩:=fun k=>World.cell?_of_block (cells_setP hne _ _)
 exact ⟨by simpa using h.lt,fun i x hx=>(e _).trans (h.c0 i x hx),fun i x hx=>(e _).trans (h.c1 i x hx),fun i x hx=>(e _).trans (h.c2 i x hx),fun i x hx=>(e _).trans (h.c3 i x hx),fun i x hx=>(e _).trans (h.c4 i x hx),fun i x hx=>(e _).trans (h.c5 i x hx)⟩
theorem split_fitM (r:Int) (b off cap:Nat) (ns:List Nd) (w:World) (hN:NodesAt w b off ns) (hc:chk r ns=0) (hl:(splitN ns).length≤256) :
 Calls Tryz.prog 57 #[.agg #[.int .i64 r,.slice (some ⟨b,off,none⟩) ns.length cap]] w fun e w' =>∃ tb tq tc,e=.returned (.tuple #[.agg #[.int .i64 r,.slice (some ⟨tb,tq,none⟩) (splitN ns).length tc],.int .i64 0])∧NodesAt w' tb tq (splitN ns)∧w.heap.size≤tb∧Below w.heap.size w w' :=by
 refine (callsIn_wide.1 (split_ok r b off cap ns w hN hc)).mono ?_
 rintro e w' ⟨v1,v2,er,rfl,h,hB⟩
 rcases h with ⟨_,rfl,rfl,hv⟩ | ⟨h,_⟩
 ·obtain ⟨ta,tc,rfl,hs⟩:=nodes_of_owns hv
  obtain ⟨tb,tq,rfl,hn⟩:=hs.some (chk_zero (split_chk hc hl)).1.1
  rcases hv.2 with ⟨q,_⟩ | ⟨g', c,cur,q,a1,a2,_⟩
  ·cases q
  ·cases q;exact ⟨tb,0,tc,rfl,hn,a1,hB⟩
 ·omega
set_option maxRecDepth 100000 in
theorem one_wrong (r:Int) (a:Option Addr) (cap:Nat) (ns:List Nd) (t:Tm) (w:World) (hN:SlN w a ns) (hc:chk r ns≠0) :
 Calls Tryz.prog 30 #[.agg #[.int .i64 r,.slice a ns.length cap],.agg #[.int .i64 t.op,.int .i64 t.a,.int .i64 t.b]] w fun e w' =>e=.returned (.tuple #[.agg #[.int .i64 0,.slice none 0 0],.int .i64 (chk r ns)])∧Below w.heap.size w w' :=by
 have HTR:=hide (fun W (h:Below w.heap.size w W)=>trim_err r a cap ns W (hN.below h) hc)
 have hCb:(chk r ns==0)=false:=by simp [hc]
 have hCn:(chk r ns != 0)=true:=by simp [hc]
 clear hc hN
 generalize chk r ns=C at *
 have hbA:Below w.heap.size w (((w.alloc (.cells #[.int .i64 r,.slice a ns.length cap] 24)).alloc (.cells #[.int .i64 t.op,.int .i64 t.a,.int .i64 t.b] 26)).alloc (.cells #[.int .i64 0,.slice none 0 0] 24)):=((((Below.refl _ w).alloc (Nat.le_refl _) _).alloc (by simp) _).alloc (by simp;omega) _)
 have p0:(((w.alloc (.cells #[.int .i64 r,.slice a ns.length cap] 24)).alloc (.cells #[.int .i64 t.op,.int .i64 t.a,.int .i64 t.b] 26)).alloc (.cells #[.int .i64 0,.slice none 0 0] 24)).heap[w.heap.size]?=some (.cells #[.int .i64 r,.slice a ns.length cap] 24 (0,0)):=by
  have:=World.alloc_heap_new w (.cells #[.int .i64 r,.slice a ns.length cap] 24)
  exact ((Below.heap_alloc _ _ _ (by simp;try omega)).trans (((Below.heap_alloc _ _ _ (by simp;try omega)).trans (this))))
 have p1:(((w.alloc (.cells #[.int .i64 r,.slice a ns.length cap] 24)).alloc (.cells #[.int .i64 t.op,.int .i64 t.a,.int .i64 t.b] 26)).alloc (.cells #[.int .i64 0,.slice none 0 0] 24)).heap[w.heap.size+1]?=some (.cells #[.int .i64 t.op,.int .i64 t.a,.int .i64 t.b] 26 (0,0)):=by
  have:=World.alloc_heap_new (w.alloc (.cells #[.int .i64 r,.slice a ns.length cap] 24)) (.cells #[.int .i64 t.op,.int .i64 t.a,.int .i64 t.b] 26)
  simp only [World.size_alloc] at this
  exact ((Below.heap_alloc _ _ _ (by simp;try omega)).trans (this))
 have p2:(((w.alloc (.cells #[.int .i64 r,.slice a ns.length cap] 24)).alloc (.cells #[.int .i64 t.op,.int .i64 t.a,.int .i64 t.b] 26)).alloc (.cells #[.int .i64 0,.slice none 0 0] 24)).heap[w.heap.size+2]?=some (.cells #[.int .i64 0,.slice none 0 0] 24 (0,0)):=by
  have:=World.alloc_heap_new ((w.alloc (.cells #[.int .i64 r,.slice a ns.length cap] 24)).alloc (.cells #[.int .i64 t.op,.int .i64 t.a,.int .i64 t.b] 26)) (.cells #[.int .i64 0,.slice none 0 0] 24)
  simp only [World.size_alloc] at this
  exact this
 go_enter Tryz.func30,Tryz.ntmps30
 go_upto_region 1 with fail
 generalize (((w.alloc (.cells #[.int .i64 r,.slice a ns.length cap] 24)).alloc (.cells #[.int .i64 t.op,.int .i64 t.a,.int .i64 t.b] 26)).alloc (.cells #[.int .i64 0,.slice none 0 0] 24))=W at hbA p0 p1 p2 ⊢
 try rw [show w.heap.size+1+1=w.heap.size+2 from rfl]
 have q0:=blk_cell p0 0
 have q1:=blk_cell p0 1
 simp at q0 q1
 have pl:=blk_lt p0
 have HB:=hide hbA
 have HP:=hide p0
 have HT:=hide p1
 have HR:=hide p2
 clear hbA p0 p1 p2
 go_wp2_with fail
 refine (HTR.out _ HB.out).mono ?_
 rintro e w1 ⟨rfl,hb1⟩
 have HR1:=hide ((hb1.block _ (blk_lt HR.out)).trans HR.out)
 have HB1:=hide (HB.out.trans (hb1.mono HB.out.size))
 clear hb1 q0 q1 pl HB HR HP HT HTR
 have hR:=HR1.out
 have y0:=blk_cell hR 0
 have y1:=blk_cell hR 1
 simp at y0 y1
 have z0:=blk_frozen hR 0
 have z1:=blk_frozen hR 1
 have ylt:=blk_lt hR
 clear hR
 go_wp2
 have hk0:=blk_set2 (v0:=.int .i64 0) (v1:=.slice none 0 0) HR1.out
 have hB5:=below_set2 (v0:=.int .i64 0) (v1:=.slice none 0 0) HB1.out (B:=w.heap.size+2) (by omega)
 have hk:=(Below.heap_alloc _ (.cells #[.int .i64 0,.slice none 0 0] 24) _ (blk_lt hk0)).trans hk0
 have k0:=blk_cell hk 0
 have k1:=blk_cell hk 1
 simp at k0 k1
 exact bodyPost_ret (v:=.tuple #[.agg #[.int .i64 0,.slice none 0 0],.int .i64 C]) (by simp [results,Tryz.results30,go_sem,k0,k1]) rfl ⟨rfl,hB5.alloc hB5.size _⟩
set_option maxRecDepth 100000 in
theorem one_many (r:Int) (b off cap:Nat) (ns:List Nd) (t:Tm) (w:World) (hN:NodesAt w b off ns) (hc:chk r ns=0) (hl:256<(oneQ ns).length) :
 Calls Tryz.prog 30 #[.agg #[.int .i64 r,.slice (some ⟨b,off,none⟩) ns.length cap],.agg #[.int .i64 t.op,.int .i64 t.a,.int .i64 t.b]] w fun e w' =>e=.returned (.tuple #[.agg #[.int .i64 0,.slice none 0 0],.int .i64 2])∧Below w.heap.size w w' :=by
 have HSP:=hide (fun (W:World) (tb tq tc:Nat) (h:NodesAt W tb tq (trimN ns))=>split_long r tb tq tc (trimN ns) W h (trim_chk hc) hl)
 have HTR:=hide (fun W (h:Below w.heap.size w W)=>trim_fit r b off cap ns W (hN.below h hN.lt) hc)
 have hbA:Below w.heap.size w (((w.alloc (.cells #[.int .i64 r,.slice (some ⟨b,off,none⟩) ns.length cap] 24)).alloc (.cells #[.int .i64 t.op,.int .i64 t.a,.int .i64 t.b] 26)).alloc (.cells #[.int .i64 0,.slice none 0 0] 24)):=((((Below.refl _ w).alloc (Nat.le_refl _) _).alloc (by simp) _).alloc (by simp;omega) _)
 have p0:(((w.alloc (.cells #[.int .i64 r,.slice (some ⟨b,off,none⟩) ns.length cap] 24)).alloc (.cells #[.int .i64 t.op,.int .i64 t.a,.int .i64 t.b] 26)).alloc (.cells #[.int .i64 0,.slice none 0 0] 24)).heap[w.heap.size]?=some (.cells #[.int .i64 r,.slice (some ⟨b,off,none⟩) ns.length cap] 24 (0,0)):=by
  have:=World.alloc_heap_new w (.cells #[.int .i64 r,.slice (some ⟨b,off,none⟩) ns.length cap] 24)
  exact ((Below.heap_alloc _ _ _ (by simp;try omega)).trans (((Below.heap_alloc _ _ _ (by simp;try omega)).trans (this))))
 have p1:(((w.alloc (.cells #[.int .i64 r,.slice (some ⟨b,off,none⟩) ns.length cap] 24)).alloc (.cells #[.int .i64 t.op,.int .i64 t.a,.int .i64 t.b] 26)).alloc (.cells #[.int .i64 0,.slice none 0 0] 24)).heap[w.heap.size+1]?=some (.cells #[.int .i64 t.op,.int .i64 t.a,.int .i64 t.b] 26 (0,0)):=by
  have:=World.alloc_heap_new (w.alloc (.cells #[.int .i64 r,.slice (some ⟨b,off,none⟩) ns.length cap] 24)) (.cells #[.int .i64 t.op,.int .i64 t.a,.int .i64 t.b] 26)
  simp only [World.size_alloc] at this
  exact ((Below.heap_alloc _ _ _ (by simp;try omega)).trans (this))
 have p2:(((w.alloc (.cells #[.int .i64 r,.slice (some ⟨b,off,none⟩) ns.length cap] 24)).alloc (.cells #[.int .i64 t.op,.int .i64 t.a,.int .i64 t.b] 26)).alloc (.cells #[.int .i64 0,.slice none 0 0] 24)).heap[w.heap.size+2]?=some (.cells #[.int .i64 0,.slice none 0 0] 24 (0,0)):=by
  have:=World.alloc_heap_new ((w.alloc (.cells #[.int .i64 r,.slice (some ⟨b,off,none⟩) ns.length cap] 24)).alloc (.cells #[.int .i64 t.op,.int .i64 t.a,.int .i64 t.b] 26)) (.cells #[.int .i64 0,.slice none 0 0] 24)
  simp only [World.size_alloc] at this
  exact this
 go_enter Tryz.func30,Tryz.ntmps30
 go_upto_region 1 with fail
 generalize (((w.alloc (.cells #[.int .i64 r,.slice (some ⟨b,off,none⟩) ns.length cap] 24)).alloc (.cells #[.int .i64 t.op,.int .i64 t.a,.int .i64 t.b] 26)).alloc (.cells #[.int .i64 0,.slice none 0 0] 24))=W at hbA p0 p1 p2 ⊢
 try rw [show w.heap.size+1+1=w.heap.size+2 from rfl]
 have q0:=blk_cell p0 0
 have q1:=blk_cell p0 1
 simp at q0 q1
 have pl:=blk_lt p0
 have HB:=hide hbA
 have HP:=hide p0
 have HT:=hide p1
 have HR:=hide p2
 clear hbA p0 p1 p2
 go_wp2_with fail
 refine (HTR.out _ HB.out).mono ?_
 rintro e w1 ⟨tb,tq,tc,rfl,hN1,hb1⟩
 have hbF:Below w1.heap.size w1 (w1.alloc (.cells #[.int .i64 r,.slice (some ⟨tb,tq,none⟩) (trimN ns).length tc] 24)):=(Below.refl _ w1).alloc (Nat.le_refl _) _
 have hQ:(w1.alloc (.cells #[.int .i64 r,.slice (some ⟨tb,tq,none⟩) (trimN ns).length tc] 24)).heap[w1.heap.size]?=some (.cells #[.int .i64 r,.slice (some ⟨tb,tq,none⟩) (trimN ns).length tc] 24 (0,0)):=World.alloc_heap_new w1 _
 have HBW:=hide (hb1.trans (hbF.mono hb1.size))
 have HB2:=hide (HB.out.trans (HBW.out.mono HB.out.size))
 have HN2:=hide (hN1.below hbF hN1.lt)
 have HP2:=hide ((HBW.out.block _ (blk_lt HP.out)).trans HP.out)
 have HT2:=hide ((HBW.out.block _ (blk_lt HT.out)).trans HT.out)
 have HR2:=hide ((HBW.out.block _ (blk_lt HR.out)).trans HR.out)
 have hQs:w.heap.size+2<w1.heap.size:=by have h1:=blk_lt HR.out;have h2:=hb1.size;omega
 clear hb1 q0 q1 pl HB HR HP HT HTR HBW hN1
 go_upto_region 4 with fail
 generalize (w1.alloc (.cells #[.int .i64 r,.slice (some ⟨tb,tq,none⟩) (trimN ns).length tc] 24))=V at hbF hQ HB2 HN2 HP2 HT2 HR2 ⊢
 generalize w1.heap.size=QB at *
 clear hbF
 have q0:=blk_cell hQ 0
 have q1:=blk_cell hQ 1
 simp at q0 q1
 have ql:=blk_lt hQ
 have HQ:=hide hQ
 clear hQ
 have z0:=blk_frozen HQ.out 0
 have z1:=blk_frozen HQ.out 1
 clear z0 z1
 go_wp2_with fail
 refine (HSP.out _ tb tq tc HN2.out).mono ?_
 rintro e w2 ⟨rfl,hb2⟩
 have hQ2:=(hb2.block _ ql).trans HQ.out
 clear q0 q1 ql
 have q0:=blk_cell hQ2 0
 have q1:=blk_cell hQ2 1
 simp at q0 q1
 have f0:=blk_frozen hQ2 0
 have f1:=blk_frozen hQ2 1
 have ql:=blk_lt hQ2
 have hR2:=(hb2.block _ (blk_lt HR2.out)).trans HR2.out
 have hne:w.heap.size+2≠QB:=by omega
 have HR1:Hid (((w2.setCell ⟨QB,0,none⟩ (.int .i64 0)).setCell ⟨QB,1,none⟩ (.slice none 0 0)).heap[w.heap.size+2]?=some (.cells #[.int .i64 0,.slice none 0 0] 24 (0,0))):=(cells_setP hne _ _).trans ((cells_setP hne _ _).trans hR2)
 have HB1:=hide (below_set2 (v0:=.int .i64 0) (v1:=.slice none 0 0) (HB2.out.trans (hb2.mono HB2.out.size)) (B:=QB) (by omega))
 have hx:((w2.setCell ⟨QB,0,none⟩ (.int .i64 0)).setCell ⟨QB,1,none⟩ (.slice none 0 0)).heap.size=w2.heap.size:=by simp
 clear hb2 hQ2 hR2 HR2 HB2 HQ HN2 HP2 HT2 HSP
 go_upto_region 5 with fail
 clear q0 q1 f0 f1
 generalize ((w2.setCell ⟨QB,0,none⟩ (.int .i64 0)).setCell ⟨QB,1,none⟩ (.slice none 0 0))=U at HR1 HB1 hx ⊢
 have hR:=HR1.out
 have y0:=blk_cell hR 0
 have y1:=blk_cell hR 1
 simp at y0 y1
 have z0:=blk_frozen hR 0
 have z1:=blk_frozen hR 1
 have ylt:=blk_lt hR
 clear hR
 go_wp2
 have hk0:=blk_set2 (v0:=.int .i64 0) (v1:=.slice none 0 0) HR1.out
 have hB5:=below_set2 (v0:=.int .i64 0) (v1:=.slice none 0 0) HB1.out (B:=w.heap.size+2) (by omega)
 have k0:=blk_cell hk0 0
 have k1:=blk_cell hk0 1
 simp at k0 k1
 exact bodyPost_ret (v:=.tuple #[.agg #[.int .i64 0,.slice none 0 0],.int .i64 2]) (by simp [results,Tryz.results30,go_sem,k0,k1]) rfl ⟨rfl,hB5⟩
set_option maxRecDepth 100000 in
theorem one_term (r:Int) (b off cap:Nat) (ns:List Nd) (t:Tm) (w:World) (hN:NodesAt w b off ns) (hc:chk r ns=0) (hl:(oneQ ns).length≤256) (ht:tchk r (oneQ ns) t≠0) :
 Calls Tryz.prog 30 #[.agg #[.int .i64 r,.slice (some ⟨b,off,none⟩) ns.length cap],.agg #[.int .i64 t.op,.int .i64 t.a,.int .i64 t.b]] w fun e w' =>e=.returned (.tuple #[.agg #[.int .i64 0,.slice none 0 0],.int .i64 (tchk r (oneQ ns) t)])∧Below w.heap.size w w' :=by
 have HLZ:=hide (fun (W:World) (sb sq sc:Nat) (h:NodesAt W sb sq (oneQ ns))=>lazy_wrong r (some ⟨sb,sq,none⟩) sc (oneQ ns) t W (Or.inr ⟨sb,sq,rfl,h⟩) ht)
 have hCb:(tchk r (oneQ ns) t==0)=false:=by simp [ht]
 have hCn:(tchk r (oneQ ns) t != 0)=true:=by simp [ht]
 clear ht
 generalize tchk r (oneQ ns) t=C at *
 have hl' :(splitN (trimN ns)).length≤256:=hl
 have hch:chk r (oneQ ns)=0:=split_chk (trim_chk hc) hl'
 have HSP:=hide (fun (W:World) (tb tq tc:Nat) (h:NodesAt W tb tq (trimN ns))=>split_fitM r tb tq tc (trimN ns) W h (trim_chk hc) hl)
 rw [show splitN (trimN ns)=oneQ ns from rfl] at HSP
 have HTR:=hide (fun W (h:Below w.heap.size w W)=>trim_fit r b off cap ns W (hN.below h hN.lt) hc)
 have hbA:Below w.heap.size w (((w.alloc (.cells #[.int .i64 r,.slice (some ⟨b,off,none⟩) ns.length cap] 24)).alloc (.cells #[.int .i64 t.op,.int .i64 t.a,.int .i64 t.b] 26)).alloc (.cells #[.int .i64 0,.slice none 0 0] 24)):=((((Below.refl _ w).alloc (Nat.le_refl _) _).alloc (by simp) _).alloc (by simp;omega) _)
 have p0:(((w.alloc (.cells #[.int .i64 r,.slice (some ⟨b,off,none⟩) ns.length cap] 24)).alloc (.cells #[.int .i64 t.op,.int .i64 t.a,.int .i64 t.b] 26)).alloc (.cells #[.int .i64 0,.slice none 0 0] 24)).heap[w.heap.size]?=some (.cells #[.int .i64 r,.slice (some ⟨b,off,none⟩) ns.length cap] 24 (0,0)):=by
  have:=World.alloc_heap_new w (.cells #[.int .i64 r,.slice (some ⟨b,off,none⟩) ns.length cap] 24)
  exact ((Below.heap_alloc _ _ _ (by simp;try omega)).trans (((Below.heap_alloc _ _ _ (by simp;try omega)).trans (this))))
 have p1:(((w.alloc (.cells #[.int .i64 r,.slice (some ⟨b,off,none⟩) ns.length cap] 24)).alloc (.cells #[.int .i64 t.op,.int .i64 t.a,.int .i64 t.b] 26)).alloc (.cells #[.int .i64 0,.slice none 0 0] 24)).heap[w.heap.size+1]?=some (.cells #[.int .i64 t.op,.int .i64 t.a,.int .i64 t.b] 26 (0,0)):=by
  have:=World.alloc_heap_new (w.alloc (.cells #[.int .i64 r,.slice (some ⟨b,off,none⟩) ns.length cap] 24)) (.cells #[.int .i64 t.op,.int .i64 t.a,.int .i64 t.b] 26)
  simp only [World.size_alloc] at this
  exact ((Below.heap_alloc _ _ _ (by simp;try omega)).trans (this))
 have p2:(((w.alloc (.cells #[.int .i64 r,.slice (some ⟨b,off,none⟩) ns.length cap] 24)).alloc (.cells #[.int .i64 t.op,.int .i64 t.a,.int .i64 t.b] 26)).alloc (.cells #[.int .i64 0,.slice none 0 0] 24)).heap[w.heap.size+2]?=some (.cells #[.int .i64 0,.slice none 0 0] 24 (0,0)):=by
  have:=World.alloc_heap_new ((w.alloc (.cells #[.int .i64 r,.slice (some ⟨b,off,none⟩) ns.length cap] 24)).alloc (.cells #[.int .i64 t.op,.int .i64 t.a,.int .i64 t.b] 26)) (.cells #[.int .i64 0,.slice none 0 0] 24)
  simp only [World.size_alloc] at this
  exact this
 go_enter Tryz.func30,Tryz.ntmps30
 go_upto_region 1 with fail
 generalize (((w.alloc (.cells #[.int .i64 r,.slice (some ⟨b,off,none⟩) ns.length cap] 24)).alloc (.cells #[.int .i64 t.op,.int .i64 t.a,.int .i64 t.b] 26)).alloc (.cells #[.int .i64 0,.slice none 0 0] 24))=W at hbA p0 p1 p2 ⊢
 try rw [show w.heap.size+1+1=w.heap.size+2 from rfl]
 have q0:=blk_cell p0 0
 have q1:=blk_cell p0 1
 simp at q0 q1
 have pl:=blk_lt p0
 have HB:=hide hbA
 have HP:=hide p0
 have HT:=hide p1
 have HR:=hide p2
 clear hbA p0 p1 p2
 go_wp2_with fail
 refine (HTR.out _ HB.out).mono ?_
 rintro e w1 ⟨tb,tq,tc,rfl,hN1,hb1⟩
 have hbF:Below w1.heap.size w1 (w1.alloc (.cells #[.int .i64 r,.slice (some ⟨tb,tq,none⟩) (trimN ns).length tc] 24)):=(Below.refl _ w1).alloc (Nat.le_refl _) _
 have hQ:(w1.alloc (.cells #[.int .i64 r,.slice (some ⟨tb,tq,none⟩) (trimN ns).length tc] 24)).heap[w1.heap.size]?=some (.cells #[.int .i64 r,.slice (some ⟨tb,tq,none⟩) (trimN ns).length tc] 24 (0,0)):=World.alloc_heap_new w1 _
 have HBW:=hide (hb1.trans (hbF.mono hb1.size))
 have HB2:=hide (HB.out.trans (HBW.out.mono HB.out.size))
 have HN2:=hide (hN1.below hbF hN1.lt)
 have HP2:=hide ((HBW.out.block _ (blk_lt HP.out)).trans HP.out)
 have HT2:=hide ((HBW.out.block _ (blk_lt HT.out)).trans HT.out)
 have HR2:=hide ((HBW.out.block _ (blk_lt HR.out)).trans HR.out)
 have hQs:w.heap.size+2<w1.heap.size:=by have h1:=blk_lt HR.out;have h2:=hb1.size;omega
 clear hb1 q0 q1 pl HB HR HP HT HTR HBW hN1
 go_upto_region 4 with fail
 generalize (w1.alloc (.cells #[.int .i64 r,.slice (some ⟨tb,tq,none⟩) (trimN ns).length tc] 24))=V at hbF hQ HB2 HN2 HP2 HT2 HR2 ⊢
 generalize w1.heap.size=QB at *
 clear hbF
 have q0:=blk_cell hQ 0
 have q1:=blk_cell hQ 1
 simp at q0 q1
 have ql:=blk_lt hQ
 have HQ:=hide hQ
 clear hQ
 go_wp2_with fail
 refine (HSP.out _ tb tq tc HN2.out).mono ?_
 rintro e w2 ⟨sb,sq,sc,rfl,hN3,hsb,hb2⟩
 have hsq:sb≠QB:=by omega
 have hQ2:=(hb2.block _ ql).trans HQ.out
 clear q0 q1 ql
 have q0:=blk_cell hQ2 0
 have q1:=blk_cell hQ2 1
 simp at q0 q1
 have f0:=blk_frozen hQ2 0
 have f1:=blk_frozen hQ2 1
 have ql:=blk_lt hQ2
 have hne:w.heap.size+2≠QB:=by omega
 have hne1:w.heap.size+1≠QB:=by omega
 have hne0:w.heap.size≠QB:=by omega
 have HR1:Hid (((w2.setCell ⟨QB,0,none⟩ (.int .i64 r)).setCell ⟨QB,1,none⟩ (.slice (some ⟨sb,sq,none⟩) (oneQ ns).length sc)).heap[w.heap.size+2]?=some (.cells #[.int .i64 0,.slice none 0 0] 24 (0,0))):=(cells_setP hne _ _).trans ((cells_setP hne _ _).trans ((hb2.block _ (blk_lt HR2.out)).trans HR2.out))
 have HT1:Hid (((w2.setCell ⟨QB,0,none⟩ (.int .i64 r)).setCell ⟨QB,1,none⟩ (.slice (some ⟨sb,sq,none⟩) (oneQ ns).length sc)).heap[w.heap.size+1]?=some (.cells #[.int .i64 t.op,.int .i64 t.a,.int .i64 t.b] 26 (0,0))):=(cells_setP hne1 _ _).trans ((cells_setP hne1 _ _).trans ((hb2.block _ (blk_lt HT2.out)).trans HT2.out))
 have HP1:Hid (((w2.setCell ⟨QB,0,none⟩ (.int .i64 r)).setCell ⟨QB,1,none⟩ (.slice (some ⟨sb,sq,none⟩) (oneQ ns).length sc)).heap[w.heap.size]?=some (.cells #[.int .i64 r,.slice (some ⟨b,off,none⟩) ns.length cap] 24 (0,0))):=(cells_setP hne0 _ _).trans ((cells_setP hne0 _ _).trans ((hb2.block _ (blk_lt HP2.out)).trans HP2.out))
 have HQ1:Hid (((w2.setCell ⟨QB,0,none⟩ (.int .i64 r)).setCell ⟨QB,1,none⟩ (.slice (some ⟨sb,sq,none⟩) (oneQ ns).length sc)).heap[QB]?=some (.cells #[.int .i64 r,.slice (some ⟨sb,sq,none⟩) (oneQ ns).length sc] 24 (0,0))):=blk_set2 hQ2
 have HN1:Hid (NodesAt ((w2.setCell ⟨QB,0,none⟩ (.int .i64 r)).setCell ⟨QB,1,none⟩ (.slice (some ⟨sb,sq,none⟩) (oneQ ns).length sc)) sb sq (oneQ ns)):=(hN3.setM hsq).setM hsq
 have HB1:=hide (below_set2 (v0:=.int .i64 r) (v1:=.slice (some ⟨sb,sq,none⟩) (oneQ ns).length sc) (HB2.out.trans (hb2.mono HB2.out.size)) (B:=QB) (by omega))
 have hQU:QB<((w2.setCell ⟨QB,0,none⟩ (.int .i64 r)).setCell ⟨QB,1,none⟩ (.slice (some ⟨sb,sq,none⟩) (oneQ ns).length sc)).heap.size:=by simp;exact ql
 clear hb2 hQ2 HR2 HB2 HQ HN2 HP2 HT2 HSP hN3 hne hne1 hne0 hsb hsq
 go_upto_region 5 with fail
 clear q0 q1 f0 f1 ql
 generalize ((w2.setCell ⟨QB,0,none⟩ (.int .i64 r)).setCell ⟨QB,1,none⟩ (.slice (some ⟨sb,sq,none⟩) (oneQ ns).length sc))=U at HR1 HT1 HP1 HQ1 HN1 HB1 hQU ⊢
 have hQ:=HQ1.out
 have q0:=blk_cell hQ 0
 have q1:=blk_cell hQ 1
 simp at q0 q1
 have ql:=blk_lt hQ
 have hT:=HT1.out
 have t0:=blk_cell hT 0
 have t1:=blk_cell hT 1
 have t2:=blk_cell hT 2
 simp at t0 t1 t2
 have tl:=blk_lt hT
 clear hQ hT
 go_upto_region 7 with fail
 go_wp2_with fail
 refine (HLZ.out _ sb sq sc HN1.out).mono ?_
 rintro e w3 ⟨rfl,hb3⟩
 have HR3:=hide ((hb3.block _ (blk_lt HR1.out)).trans HR1.out)
 have HB3:=hide (HB1.out.trans (hb3.mono HB1.out.size))
 clear q0 q1 t0 t1 t2 ql tl hb3 HR1 HB1 HQ1 HT1 HP1 HN1 HLZ
 have hR:=HR3.out
 have y0:=blk_cell hR 0
 have y1:=blk_cell hR 1
 simp at y0 y1
 have z0:=blk_frozen hR 0
 have z1:=blk_frozen hR 1
 have ylt:=blk_lt hR
 clear hR
 go_wp2
 have hk0:=blk_set2 (v0:=.int .i64 0) (v1:=.slice none 0 0) HR3.out
 have hB5:=below_set2 (v0:=.int .i64 0) (v1:=.slice none 0 0) HB3.out (B:=w.heap.size+2) (by omega)
 have hk:=(Below.heap_alloc _ (.cells #[.slice none 0 0,.slice none 0 0] 29) _ (blk_lt hk0)).trans hk0
 have k0:=blk_cell hk 0
 have k1:=blk_cell hk 1
 simp at k0 k1
 exact bodyPost_ret (v:=.tuple #[.agg #[.int .i64 0,.slice none 0 0],.int .i64 C]) (by simp [results,Tryz.results30,go_sem,k0,k1]) rfl ⟨rfl,hB5.alloc hB5.size _⟩
set_option maxRecDepth 100000 in
theorem one_same (r:Int) (b off cap:Nat) (ns:List Nd) (t:Tm) (w:World) (hN:NodesAt w b off ns) (hc:chk r ns=0) (hl:(oneQ ns).length≤256) (ht:tchk r (oneQ ns) t=0) (hbb:oneB ns t=false) :
 Calls Tryz.prog 30 #[.agg #[.int .i64 r,.slice (some ⟨b,off,none⟩) ns.length cap],.agg #[.int .i64 t.op,.int .i64 t.a,.int .i64 t.b]] w fun e w' =>∃ gb gc,e=.returned (.tuple #[.agg #[.int .i64 r,.slice (some ⟨gb,0,none⟩) ns.length gc],.int .i64 0])∧w'.ownsRow w.heap.size 47 6 (.slice (some ⟨gb,0,none⟩) ns.length gc) ns.length (ns.flatMap encNd)∧Below w.heap.size w w' :=by
 have hbp:(lazyPut (oneQ ns) t).any id=false:=by rw [oneB,Bool.or_eq_false_iff] at hbb;exact hbb.1
 have hbt:(lazyTake (oneQ ns) t).any id=false:=by rw [oneB,Bool.or_eq_false_iff] at hbb;exact hbb.2
 have hl0:=(chk_full hc).1
 have HN:=hide hN
 have HLZ:=hide (fun (W:World) (sb sq sc:Nat) (h:NodesAt W sb sq (oneQ ns))=>lazy_right r sb sq sc (oneQ ns) t W h ht)
 have hl' :(splitN (trimN ns)).length≤256:=hl
 have hch:chk r (oneQ ns)=0:=split_chk (trim_chk hc) hl'
 have HSP:=hide (fun (W:World) (tb tq tc:Nat) (h:NodesAt W tb tq (trimN ns))=>split_fitM r tb tq tc (trimN ns) W h (trim_chk hc) hl)
 rw [show splitN (trimN ns)=oneQ ns from rfl] at HSP
 have HTR:=hide (fun W (h:Below w.heap.size w W)=>trim_fit r b off cap ns W (hN.below h hN.lt) hc)
 have hbA:Below w.heap.size w (((w.alloc (.cells #[.int .i64 r,.slice (some ⟨b,off,none⟩) ns.length cap] 24)).alloc (.cells #[.int .i64 t.op,.int .i64 t.a,.int .i64 t.b] 26)).alloc (.cells #[.int .i64 0,.slice none 0 0] 24)):=((((Below.refl _ w).alloc (Nat.le_refl _) _).alloc (by simp) _).alloc (by simp;omega) _)
 have p0:(((w.alloc (.cells #[.int .i64 r,.slice (some ⟨b,off,none⟩) ns.length cap] 24)).alloc (.cells #[.int .i64 t.op,.int .i64 t.a,.int .i64 t.b] 26)).alloc (.cells #[.int .i64 0,.slice none 0 0] 24)).heap[w.heap.size]?=some (.cells #[.int .i64 r,.slice (some ⟨b,off,none⟩) ns.length cap] 24 (0,0)):=by
  have:=World.alloc_heap_new w (.cells #[.int .i64 r,.slice (some ⟨b,off,none⟩) ns.length cap] 24)
  exact ((Below.heap_alloc _ _ _ (by simp;try omega)).trans (((Below.heap_alloc _ _ _ (by simp;try omega)).trans (this))))
 have p1:(((w.alloc (.cells #[.int .i64 r,.slice (some ⟨b,off,none⟩) ns.length cap] 24)).alloc (.cells #[.int .i64 t.op,.int .i64 t.a,.int .i64 t.b] 26)).alloc (.cells #[.int .i64 0,.slice none 0 0] 24)).heap[w.heap.size+1]?=some (.cells #[.int .i64 t.op,.int .i64 t.a,.int .i64 t.b] 26 (0,0)):=by
  have:=World.alloc_heap_new (w.alloc (.cells #[.int .i64 r,.slice (some ⟨b,off,none⟩) ns.length cap] 24)) (.cells #[.int .i64 t.op,.int .i64 t.a,.int .i64 t.b] 26)
  simp only [World.size_alloc] at this
  exact ((Below.heap_alloc _ _ _ (by simp;try omega)).trans (this))
 have p2:(((w.alloc (.cells #[.int .i64 r,.slice (some ⟨b,off,none⟩) ns.length cap] 24)).alloc (.cells #[.int .i64 t.op,.int .i64 t.a,.int .i64 t.b] 26)).alloc (.cells #[.int .i64 0,.slice none 0 0] 24)).heap[w.heap.size+2]?=some (.cells #[.int .i64 0,.slice none 0 0] 24 (0,0)):=by
  have:=World.alloc_heap_new ((w.alloc (.cells #[.int .i64 r,.slice (some ⟨b,off,none⟩) ns.length cap] 24)).alloc (.cells #[.int .i64 t.op,.int .i64 t.a,.int .i64 t.b] 26)) (.cells #[.int .i64 0,.slice none 0 0] 24)
  simp only [World.size_alloc] at this
  exact this
 go_enter Tryz.func30,Tryz.ntmps30
 go_upto_region 1 with fail
 generalize (((w.alloc (.cells #[.int .i64 r,.slice (some ⟨b,off,none⟩) ns.length cap] 24)).alloc (.cells #[.int .i64 t.op,.int .i64 t.a,.int .i64 t.b] 26)).alloc (.cells #[.int .i64 0,.slice none 0 0] 24))=W at hbA p0 p1 p2 ⊢
 try rw [show w.heap.size+1+1=w.heap.size+2 from rfl]
 have q0:=blk_cell p0 0
 have q1:=blk_cell p0 1
 simp at q0 q1
 have pl:=blk_lt p0
 have HB:=hide hbA
 have HP:=hide p0
 have HT:=hide p1
 have HR:=hide p2
 clear hbA p0 p1 p2
 go_wp2_with fail
 refine (HTR.out _ HB.out).mono ?_
 rintro e w1 ⟨tb,tq,tc,rfl,hN1,hb1⟩
 have hbF:Below w1.heap.size w1 (w1.alloc (.cells #[.int .i64 r,.slice (some ⟨tb,tq,none⟩) (trimN ns).length tc] 24)):=(Below.refl _ w1).alloc (Nat.le_refl _) _
 have hQ:(w1.alloc (.cells #[.int .i64 r,.slice (some ⟨tb,tq,none⟩) (trimN ns).length tc] 24)).heap[w1.heap.size]?=some (.cells #[.int .i64 r,.slice (some ⟨tb,tq,none⟩) (trimN ns).length tc] 24 (0,0)):=World.alloc_heap_new w1 _
 have HBW:=hide (hb1.trans (hbF.mono hb1.size))
 have HB2:=hide (HB.out.trans (HBW.out.mono HB.out.size))
 have HN2:=hide (hN1.below hbF hN1.lt)
 have HP2:=hide ((HBW.out.block _ (blk_lt HP.out)).trans HP.out)
 have HT2:=hide ((HBW.out.block _ (blk_lt HT.out)).trans HT.out)
 have HR2:=hide ((HBW.out.block _ (blk_lt HR.out)).trans HR.out)
 have hQs:w.heap.size+2<w1.heap.size:=by have h1:=blk_lt HR.out;have h2:=hb1.size;omega
 clear hb1 q0 q1 pl HB HR HP HT HTR HBW hN1
 go_upto_region 4 with fail
 generalize (w1.alloc (.cells #[.int .i64 r,.slice (some ⟨tb,tq,none⟩) (trimN ns).length tc] 24))=V at hbF hQ HB2 HN2 HP2 HT2 HR2 ⊢
 generalize w1.heap.size=QB at *
 clear hbF
 have q0:=blk_cell hQ 0
 have q1:=blk_cell hQ 1
 simp at q0 q1
 have ql:=blk_lt hQ
 have HQ:=hide hQ
 clear hQ
 go_wp2_with fail
 refine (HSP.out _ tb tq tc HN2.out).mono ?_
 rintro e w2 ⟨sb,sq,sc,rfl,hN3,hsb,hb2⟩
 have hsq:sb≠QB:=by omega
 have hQ2:=(hb2.block _ ql).trans HQ.out
 clear q0 q1 ql
 have q0:=blk_cell hQ2 0
 have q1:=blk_cell hQ2 1
 simp at q0 q1
 have f0:=blk_frozen hQ2 0
 have f1:=blk_frozen hQ2 1
 have ql:=blk_lt hQ2
 have hne:w.heap.size+2≠QB:=by omega
 have hne1:w.heap.size+1≠QB:=by omega
 have hne0:w.heap.size≠QB:=by omega
 have HR1:Hid (((w2.setCell ⟨QB,0,none⟩ (.int .i64 r)).setCell ⟨QB,1,none⟩ (.slice (some ⟨sb,sq,none⟩) (oneQ ns).length sc)).heap[w.heap.size+2]?=some (.cells #[.int .i64 0,.slice none 0 0] 24 (0,0))):=(cells_setP hne _ _).trans ((cells_setP hne _ _).trans ((hb2.block _ (blk_lt HR2.out)).trans HR2.out))
 have HT1:Hid (((w2.setCell ⟨QB,0,none⟩ (.int .i64 r)).setCell ⟨QB,1,none⟩ (.slice (some ⟨sb,sq,none⟩) (oneQ ns).length sc)).heap[w.heap.size+1]?=some (.cells #[.int .i64 t.op,.int .i64 t.a,.int .i64 t.b] 26 (0,0))):=(cells_setP hne1 _ _).trans ((cells_setP hne1 _ _).trans ((hb2.block _ (blk_lt HT2.out)).trans HT2.out))
 have HP1:Hid (((w2.setCell ⟨QB,0,none⟩ (.int .i64 r)).setCell ⟨QB,1,none⟩ (.slice (some ⟨sb,sq,none⟩) (oneQ ns).length sc)).heap[w.heap.size]?=some (.cells #[.int .i64 r,.slice (some ⟨b,off,none⟩) ns.length cap] 24 (0,0))):=(cells_setP hne0 _ _).trans ((cells_setP hne0 _ _).trans ((hb2.block _ (blk_lt HP2.out)).trans HP2.out))
 have HQ1:Hid (((w2.setCell ⟨QB,0,none⟩ (.int .i64 r)).setCell ⟨QB,1,none⟩ (.slice (some ⟨sb,sq,none⟩) (oneQ ns).length sc)).heap[QB]?=some (.cells #[.int .i64 r,.slice (some ⟨sb,sq,none⟩) (oneQ ns).length sc] 24 (0,0))):=blk_set2 hQ2
 have HN1:Hid (NodesAt ((w2.setCell ⟨QB,0,none⟩ (.int .i64 r)).setCell ⟨QB,1,none⟩ (.slice (some ⟨sb,sq,none⟩) (oneQ ns).length sc)) sb sq (oneQ ns)):=(hN3.setM hsq).setM hsq
 have HB1:=hide (below_set2 (v0:=.int .i64 r) (v1:=.slice (some ⟨sb,sq,none⟩) (oneQ ns).length sc) (HB2.out.trans (hb2.mono HB2.out.size)) (B:=QB) (by omega))
 have hQU:QB<((w2.setCell ⟨QB,0,none⟩ (.int .i64 r)).setCell ⟨QB,1,none⟩ (.slice (some ⟨sb,sq,none⟩) (oneQ ns).length sc)).heap.size:=by simp;exact ql
 clear hb2 hQ2 HR2 HB2 HQ HN2 HP2 HT2 HSP hN3 hne hne1 hne0 hsb hsq
 go_upto_region 5 with fail
 clear q0 q1 f0 f1 ql
 generalize ((w2.setCell ⟨QB,0,none⟩ (.int .i64 r)).setCell ⟨QB,1,none⟩ (.slice (some ⟨sb,sq,none⟩) (oneQ ns).length sc))=U at HR1 HT1 HP1 HQ1 HN1 HB1 hQU ⊢
 have hQ:=HQ1.out
 have q0:=blk_cell hQ 0
 have q1:=blk_cell hQ 1
 simp at q0 q1
 have ql:=blk_lt hQ
 have hT:=HT1.out
 have t0:=blk_cell hT 0
 have t1:=blk_cell hT 1
 have t2:=blk_cell hT 2
 simp at t0 t1 t2
 have tl:=blk_lt hT
 clear hQ hT
 go_upto_region 7 with fail
 go_wp2_with fail
 refine (HLZ.out _ sb sq sc HN1.out).mono ?_
 rintro e w3 ⟨x1,d1,x2,d2,rfl,hV1,hV2,hb3⟩
 have hbF:Below w3.heap.size w3 (w3.alloc (.cells #[.slice x1 (oneQ ns).length d1,.slice x2 (oneQ ns).length d2] 29)):=(Below.refl _ w3).alloc (Nat.le_refl _) _
 have hL:(w3.alloc (.cells #[.slice x1 (oneQ ns).length d1,.slice x2 (oneQ ns).length d2] 29)).heap[w3.heap.size]?=some (.cells #[.slice x1 (oneQ ns).length d1,.slice x2 (oneQ ns).length d2] 29 (0,0)):=World.alloc_heap_new w3 _
 have HBW:=hide (hb3.trans (hbF.mono hb3.size))
 have Y1:Hid (BoolsAt (w3.alloc (.cells #[.slice x1 (oneQ ns).length d1,.slice x2 (oneQ ns).length d2] 29)) x1 (lazyPut (oneQ ns) t)):=(bools_owned hV1 (by simp [lazyPut])).below hbF
 have Y2:Hid (BoolsAt (w3.alloc (.cells #[.slice x1 (oneQ ns).length d1,.slice x2 (oneQ ns).length d2] 29)) x2 (lazyTake (oneQ ns) t)):=(bools_owned hV2 (by simp [lazyTake])).below hbF
 have HR4:=hide ((HBW.out.block _ (blk_lt HR1.out)).trans HR1.out)
 have HP4:=hide ((HBW.out.block _ (blk_lt HP1.out)).trans HP1.out)
 have HT4:=hide ((HBW.out.block _ (blk_lt HT1.out)).trans HT1.out)
 have HQ4:=hide ((HBW.out.block _ (blk_lt HQ1.out)).trans HQ1.out)
 have HN4:=hide (HN1.out.below HBW.out HN1.out.lt)
 have HB4:=hide (HB1.out.trans (HBW.out.mono HB1.out.size))
 have hLB:QB<w3.heap.size:=by have:=hb3.size;omega
 clear q0 q1 t0 t1 t2 ql tl hV1 hV2 hb3 HR1 HB1 HQ1 HT1 HP1 HN1 HLZ HBW hQU
 go_upto_region 10 with fail
 generalize (w3.alloc (.cells #[.slice x1 (oneQ ns).length d1,.slice x2 (oneQ ns).length d2] 29))=V3 at hbF hL Y1 Y2 HR4 HP4 HT4 HQ4 HN4 HB4 ⊢
 generalize w3.heap.size=LB at *
 clear hbF
 have l0:=blk_cell hL 0
 have l1:=blk_cell hL 1
 simp at l0 l1
 have ll:=blk_lt hL
 have HL:=hide hL
 clear hL
 have HC1:=hide (containsB_any x1 d1 (lazyPut (oneQ ns) t) V3 Y1.out (by simp [lazyPut];omega))
 have HC2:=hide (containsB_any x2 d2 (lazyTake (oneQ ns) t) V3 Y2.out (by simp [lazyTake];omega))
 rw [show (lazyPut (oneQ ns) t).length=(oneQ ns).length by simp [lazyPut]] at HC1
 rw [show (lazyTake (oneQ ns) t).length=(oneQ ns).length by simp [lazyTake]] at HC2
 rw [hbp] at HC1
 rw [hbt] at HC2
 go_wp2_with fail
 refine HC1.out.mono ?_
 rintro e w5 ⟨rfl,rfl⟩
 go_wp2_with fail
 refine HC2.out.mono ?_
 rintro e w6 ⟨rfl,rfl⟩
 go_upto_region 11 with fail
 have HS:Hid (∀ u:World,Below w6.heap.size w6 u→u.cell? ⟨w.heap.size,0,none⟩=some (.int .i64 r)∧u.cell? ⟨w.heap.size,1,none⟩=some (.slice (some ⟨b,off,none⟩) ns.length cap)):=fun u h=>by
  have k1:=(h.block _ (blk_lt HP4.out)).trans HP4.out
  refine ⟨?_,?_⟩
  ·rw [blk_cell k1];rfl
  ·rw [blk_cell k1];rfl
 have HH:Hid (∀ u:World,Below w6.heap.size w6 u→u.heap[w.heap.size+2]?=some (.cells #[.int .i64 0,.slice none 0 0] 24 (0,0))):=fun u h=>(h.block _ (blk_lt HR4.out)).trans HR4.out
 have HSet:Hid (∀ (u:World) (v0 v1:Value),(u.cell? ⟨w.heap.size,0,none⟩=some (.int .i64 r)∧u.cell? ⟨w.heap.size,1,none⟩=some (.slice (some ⟨b,off,none⟩) ns.length cap))→((u.setCell ⟨w.heap.size+2,0,none⟩ v0).setCell ⟨w.heap.size+2,1,none⟩ v1).cell? ⟨w.heap.size,0,none⟩=some (.int .i64 r)∧((u.setCell ⟨w.heap.size+2,0,none⟩ v0).setCell ⟨w.heap.size+2,1,none⟩ v1).cell? ⟨w.heap.size,1,none⟩=some (.slice (some ⟨b,off,none⟩) ns.length cap)):=fun u v0 v1 h=>by
  have e:∀ (B k:Nat),B≠w.heap.size+2→((u.setCell ⟨w.heap.size+2,0,none⟩ v0).setCell ⟨w.heap.size+2,1,none⟩ v1).cell? ⟨B,k,none⟩=u.cell? ⟨B,k,none⟩:=fun B k h=>World.cell?_of_block (by
   show ((u.setCell ⟨w.heap.size+2,0,none⟩ v0).setCell ⟨w.heap.size+2,1,none⟩ v1).heap[B]?=u.heap[B]?
   simp only [cells_setP h])
  simp only [e w.heap.size _ (by omega)]
  exact h
 have pl:w.heap.size<w6.heap.size:=blk_lt HP4.out
 clear l0 l1 ll
 go_region_held3 (fun u=>u.cell? ⟨w.heap.size,0,none⟩=some (.int .i64 r)∧u.cell? ⟨w.heap.size,1,none⟩=some (.slice (some ⟨b,off,none⟩) ns.length cap)) (first
  | (with_reducible refine HSet.out _ _ _ ?_;exact HS.out _ hB7)
  | (with_reducible refine HS.out _ ?_;first | with_reducible exact hB7 | with_reducible exact (Below.refl _ w6).drew | with_reducible exact (Below.refl _ w6))) (first
  | (go_at_call 59;refine (clone_fitM b off cap ns _ (by first | exact (HN.out.below HB4.out HN.out.lt).below (Below.refl _ w6).drew (Nat.lt_of_lt_of_le HN.out.lt HB4.out.size) | exact HN.out.below HB4.out HN.out.lt) (by omega)).mono ?_;rintro e w7 ⟨gb,gc,rfl,hV7,hb7⟩;have hB7:Below w6.heap.size w6 w7:=(by first | exact (Below.refl _ w6).drew.trans hb7 | exact hb7);have x0:=blk_cell (HH.out _ hB7) 0;have x1:=blk_cell (HH.out _ hB7) 1;simp at x0 x1;have f0:=blk_frozen (HH.out _ hB7) 0;have f1:=blk_frozen (HH.out _ hB7) 1;have xl:=blk_lt (HH.out _ hB7)))
 all_goals have HV7:=hide (ownsRow_base hV7 (base' :=w.heap.size) (by have:=HB4.out.size;first | exact this | (simp;omega)))
 all_goals have hk:=blk_set2 (v0:=.int .i64 r) (v1:=.slice (some ⟨gb,0,none⟩) ns.length gc) (HH.out _ hB7)
 all_goals have T1:=owns_set (o:=1) (u:=.slice (some ⟨gb,0,none⟩) ns.length gc) (owns_set (o:=0) (u:=.int .i64 r) HV7.out (HH.out _ hB7) (by decide)) (blk_set (i:=0) (.int .i64 r) (HH.out _ hB7)) (by decide)
 all_goals have hBf:=below_set2 (v0:=.int .i64 r) (v1:=.slice (some ⟨gb,0,none⟩) ns.length gc) (HB4.out.trans (hB7.mono HB4.out.size)) (B:=w.heap.size+2) (by omega)
 all_goals clear hV7 x0 x1 f0 f1 xl
 all_goals go_wp2_with fail
 all_goals generalize ((w7.setCell ⟨w.heap.size+2,0,none⟩ (.int .i64 r)).setCell ⟨w.heap.size+2,1,none⟩ (.slice (some ⟨gb,0,none⟩) ns.length gc))=Wf at hk T1 hBf ⊢
 all_goals have k0:=blk_cell hk 0
 all_goals have k1:=blk_cell hk 1
 all_goals simp at k0 k1
 all_goals exact bodyPost_ret (v:=.tuple #[.agg #[.int .i64 r,.slice (some ⟨gb,0,none⟩) ns.length gc],.int .i64 0]) (by simp [results,Tryz.results30,go_sem,k0,k1]) rfl ⟨gb,gc,rfl,T1,hBf⟩
set_option maxRecDepth 100000 in
theorem one_moved (r:Int) (b off cap:Nat) (ns:List Nd) (t:Tm) (w:World) (hN:NodesAt w b off ns) (hc:chk r ns=0) (hl:(oneQ ns).length≤256) (ht:tchk r (oneQ ns) t=0) (hbb:oneB ns t=true) :
 Calls Tryz.prog 30 #[.agg #[.int .i64 r,.slice (some ⟨b,off,none⟩) ns.length cap],.agg #[.int .i64 t.op,.int .i64 t.a,.int .i64 t.b]] w fun e w' =>((256<(apN (oneQ ns) t (lazyPut (oneQ ns) t) (lazyTake (oneQ ns) t) r).length∨63<r)∧e=.returned (.tuple #[.agg #[.int .i64 0,.slice none 0 0],.int .i64 2])∨((apN (oneQ ns) t (lazyPut (oneQ ns) t) (lazyTake (oneQ ns) t) r).length≤256∧r≤63)∧∃ gb gc,e=.returned (.tuple #[.agg #[.int .i64 (r+1),.slice (some ⟨gb,0,none⟩) (apN (oneQ ns) t (lazyPut (oneQ ns) t) (lazyTake (oneQ ns) t) r).length gc],.int .i64 0])∧w'.ownsRow w.heap.size 47 6 (.slice (some ⟨gb,0,none⟩) (apN (oneQ ns) t (lazyPut (oneQ ns) t) (lazyTake (oneQ ns) t) r).length gc) (apN (oneQ ns) t (lazyPut (oneQ ns) t) (lazyTake (oneQ ns) t) r).length ((apN (oneQ ns) t (lazyPut (oneQ ns) t) (lazyTake (oneQ ns) t) r).flatMap encNd))∧Below w.heap.size w w' :=by
 have HAP:=hide (fun (W:World) (sb sq sc:Nat) (x1 x2:Option Addr) (d1 d2:Nat) (h:NodesAt W sb sq (oneQ ns)) (h1:BoolsAt W x1 (lazyPut (oneQ ns) t)) (h2:BoolsAt W x2 (lazyTake (oneQ ns) t))=>apply_right r sb sq sc (oneQ ns) t x1 x2 d1 d2 (lazyPut (oneQ ns) t) (lazyTake (oneQ ns) t) W h ht (by simp [lazyPut]) (by simp [lazyTake]) h1 h2 (lazy_takeOk _ _))
 have HBB:=hide hbb
 clear hbb
 generalize (apN (oneQ ns) t (lazyPut (oneQ ns) t) (lazyTake (oneQ ns) t) r)=A at HAP ⊢
 have HLZ:=hide (fun (W:World) (sb sq sc:Nat) (h:NodesAt W sb sq (oneQ ns))=>lazy_right r sb sq sc (oneQ ns) t W h ht)
 have hl' :(splitN (trimN ns)).length≤256:=hl
 have hch:chk r (oneQ ns)=0:=split_chk (trim_chk hc) hl'
 have HSP:=hide (fun (W:World) (tb tq tc:Nat) (h:NodesAt W tb tq (trimN ns))=>split_fitM r tb tq tc (trimN ns) W h (trim_chk hc) hl)
 rw [show splitN (trimN ns)=oneQ ns from rfl] at HSP
 have HTR:=hide (fun W (h:Below w.heap.size w W)=>trim_fit r b off cap ns W (hN.below h hN.lt) hc)
 have hbA:Below w.heap.size w (((w.alloc (.cells #[.int .i64 r,.slice (some ⟨b,off,none⟩) ns.length cap] 24)).alloc (.cells #[.int .i64 t.op,.int .i64 t.a,.int .i64 t.b] 26)).alloc (.cells #[.int .i64 0,.slice none 0 0] 24)):=((((Below.refl _ w).alloc (Nat.le_refl _) _).alloc (by simp) _).alloc (by simp;omega) _)
 have p0:(((w.alloc (.cells #[.int .i64 r,.slice (some ⟨b,off,none⟩) ns.length cap] 24)).alloc (.cells #[.int .i64 t.op,.int .i64 t.a,.int .i64 t.b] 26)).alloc (.cells #[.int .i64 0,.slice none 0 0] 24)).heap[w.heap.size]?=some (.cells #[.int .i64 r,.slice (some ⟨b,off,none⟩) ns.length cap] 24 (0,0)):=by
  have:=World.alloc_heap_new w (.cells #[.int .i64 r,.slice (some ⟨b,off,none⟩) ns.length cap] 24)
  exact ((Below.heap_alloc _ _ _ (by simp;try omega)).trans (((Below.heap_alloc _ _ _ (by simp;try omega)).trans (this))))
 have p1:(((w.alloc (.cells #[.int .i64 r,.slice (some ⟨b,off,none⟩) ns.length cap] 24)).alloc (.cells #[.int .i64 t.op,.int .i64 t.a,.int .i64 t.b] 26)).alloc (.cells #[.int .i64 0,.slice none 0 0] 24)).heap[w.heap.size+1]?=some (.cells #[.int .i64 t.op,.int .i64 t.a,.int .i64 t.b] 26 (0,0)):=by
  have:=World.alloc_heap_new (w.alloc (.cells #[.int .i64 r,.slice (some ⟨b,off,none⟩) ns.length cap] 24)) (.cells #[.int .i64 t.op,.int .i64 t.a,.int .i64 t.b] 26)
  simp only [World.size_alloc] at this
  exact ((Below.heap_alloc _ _ _ (by simp;try omega)).trans (this))
 have p2:(((w.alloc (.cells #[.int .i64 r,.slice (some ⟨b,off,none⟩) ns.length cap] 24)).alloc (.cells #[.int .i64 t.op,.int .i64 t.a,.int .i64 t.b] 26)).alloc (.cells #[.int .i64 0,.slice none 0 0] 24)).heap[w.heap.size+2]?=some (.cells #[.int .i64 0,.slice none 0 0] 24 (0,0)):=by
  have:=World.alloc_heap_new ((w.alloc (.cells #[.int .i64 r,.slice (some ⟨b,off,none⟩) ns.length cap] 24)).alloc (.cells #[.int .i64 t.op,.int .i64 t.a,.int .i64 t.b] 26)) (.cells #[.int .i64 0,.slice none 0 0] 24)
  simp only [World.size_alloc] at this
  exact this
 go_enter Tryz.func30,Tryz.ntmps30
 go_upto_region 1 with fail
 generalize (((w.alloc (.cells #[.int .i64 r,.slice (some ⟨b,off,none⟩) ns.length cap] 24)).alloc (.cells #[.int .i64 t.op,.int .i64 t.a,.int .i64 t.b] 26)).alloc (.cells #[.int .i64 0,.slice none 0 0] 24))=W at hbA p0 p1 p2 ⊢
 try rw [show w.heap.size+1+1=w.heap.size+2 from rfl]
 have q0:=blk_cell p0 0
 have q1:=blk_cell p0 1
 simp at q0 q1
 have pl:=blk_lt p0
 have HB:=hide hbA
 have HP:=hide p0
 have HT:=hide p1
 have HR:=hide p2
 clear hbA p0 p1 p2
 go_wp2_with fail
 refine (HTR.out _ HB.out).mono ?_
 rintro e w1 ⟨tb,tq,tc,rfl,hN1,hb1⟩
 have hbF:Below w1.heap.size w1 (w1.alloc (.cells #[.int .i64 r,.slice (some ⟨tb,tq,none⟩) (trimN ns).length tc] 24)):=(Below.refl _ w1).alloc (Nat.le_refl _) _
 have hQ:(w1.alloc (.cells #[.int .i64 r,.slice (some ⟨tb,tq,none⟩) (trimN ns).length tc] 24)).heap[w1.heap.size]?=some (.cells #[.int .i64 r,.slice (some ⟨tb,tq,none⟩) (trimN ns).length tc] 24 (0,0)):=World.alloc_heap_new w1 _
 have HBW:=hide (hb1.trans (hbF.mono hb1.size))
 have HB2:=hide (HB.out.trans (HBW.out.mono HB.out.size))
 have HN2:=hide (hN1.below hbF hN1.lt)
 have HP2:=hide ((HBW.out.block _ (blk_lt HP.out)).trans HP.out)
 have HT2:=hide ((HBW.out.block _ (blk_lt HT.out)).trans HT.out)
 have HR2:=hide ((HBW.out.block _ (blk_lt HR.out)).trans HR.out)
 have hQs:w.heap.size+2<w1.heap.size:=by have h1:=blk_lt HR.out;have h2:=hb1.size;omega
 clear hb1 q0 q1 pl HB HR HP HT HTR HBW hN1
 go_upto_region 4 with fail
 generalize (w1.alloc (.cells #[.int .i64 r,.slice (some ⟨tb,tq,none⟩) (trimN ns).length tc] 24))=V at hbF hQ HB2 HN2 HP2 HT2 HR2 ⊢
 generalize w1.heap.size=QB at *
 clear hbF
 have q0:=blk_cell hQ 0
 have q1:=blk_cell hQ 1
 simp at q0 q1
 have ql:=blk_lt hQ
 have HQ:=hide hQ
 clear hQ
 go_wp2_with fail
 refine (HSP.out _ tb tq tc HN2.out).mono ?_
 rintro e w2 ⟨sb,sq,sc,rfl,hN3,hsb,hb2⟩
 have hsq:sb≠QB:=by omega
 have hQ2:=(hb2.block _ ql).trans HQ.out
 clear q0 q1 ql
 have q0:=blk_cell hQ2 0
 have q1:=blk_cell hQ2 1
 simp at q0 q1
 have f0:=blk_frozen hQ2 0
 have f1:=blk_frozen hQ2 1
 have ql:=blk_lt hQ2
 have hne:w.heap.size+2≠QB:=by omega
 have hne1:w.heap.size+1≠QB:=by omega
 have hne0:w.heap.size≠QB:=by omega
 have HR1:Hid (((w2.setCell ⟨QB,0,none⟩ (.int .i64 r)).setCell ⟨QB,1,none⟩ (.slice (some ⟨sb,sq,none⟩) (oneQ ns).length sc)).heap[w.heap.size+2]?=some (.cells #[.int .i64 0,.slice none 0 0] 24 (0,0))):=(cells_setP hne _ _).trans ((cells_setP hne _ _).trans ((hb2.block _ (blk_lt HR2.out)).trans HR2.out))
 have HT1:Hid (((w2.setCell ⟨QB,0,none⟩ (.int .i64 r)).setCell ⟨QB,1,none⟩ (.slice (some ⟨sb,sq,none⟩) (oneQ ns).length sc)).heap[w.heap.size+1]?=some (.cells #[.int .i64 t.op,.int .i64 t.a,.int .i64 t.b] 26 (0,0))):=(cells_setP hne1 _ _).trans ((cells_setP hne1 _ _).trans ((hb2.block _ (blk_lt HT2.out)).trans HT2.out))
 have HP1:Hid (((w2.setCell ⟨QB,0,none⟩ (.int .i64 r)).setCell ⟨QB,1,none⟩ (.slice (some ⟨sb,sq,none⟩) (oneQ ns).length sc)).heap[w.heap.size]?=some (.cells #[.int .i64 r,.slice (some ⟨b,off,none⟩) ns.length cap] 24 (0,0))):=(cells_setP hne0 _ _).trans ((cells_setP hne0 _ _).trans ((hb2.block _ (blk_lt HP2.out)).trans HP2.out))
 have HQ1:Hid (((w2.setCell ⟨QB,0,none⟩ (.int .i64 r)).setCell ⟨QB,1,none⟩ (.slice (some ⟨sb,sq,none⟩) (oneQ ns).length sc)).heap[QB]?=some (.cells #[.int .i64 r,.slice (some ⟨sb,sq,none⟩) (oneQ ns).length sc] 24 (0,0))):=blk_set2 hQ2
 have HN1:Hid (NodesAt ((w2.setCell ⟨QB,0,none⟩ (.int .i64 r)).setCell ⟨QB,1,none⟩ (.slice (some ⟨sb,sq,none⟩) (oneQ ns).length sc)) sb sq (oneQ ns)):=(hN3.setM hsq).setM hsq
 have HB1:=hide (below_set2 (v0:=.int .i64 r) (v1:=.slice (some ⟨sb,sq,none⟩) (oneQ ns).length sc) (HB2.out.trans (hb2.mono HB2.out.size)) (B:=QB) (by omega))
 have hQU:QB<((w2.setCell ⟨QB,0,none⟩ (.int .i64 r)).setCell ⟨QB,1,none⟩ (.slice (some ⟨sb,sq,none⟩) (oneQ ns).length sc)).heap.size:=by simp;exact ql
 clear hb2 hQ2 HR2 HB2 HQ HN2 HP2 HT2 HSP hN3 hne hne1 hne0 hsb hsq
 go_upto_region 5 with fail
 clear q0 q1 f0 f1 ql
 generalize ((w2.setCell ⟨QB,0,none⟩ (.int .i64 r)).setCell ⟨QB,1,none⟩ (.slice (some ⟨sb,sq,none⟩) (oneQ ns).length sc))=U at HR1 HT1 HP1 HQ1 HN1 HB1 hQU ⊢
 have hQ:=HQ1.out
 have q0:=blk_cell hQ 0
 have q1:=blk_cell hQ 1
 simp at q0 q1
 have ql:=blk_lt hQ
 have hT:=HT1.out
 have t0:=blk_cell hT 0
 have t1:=blk_cell hT 1
 have t2:=blk_cell hT 2
 simp at t0 t1 t2
 have tl:=blk_lt hT
 clear hQ hT
 go_upto_region 7 with fail
 go_wp2_with fail
 refine (HLZ.out _ sb sq sc HN1.out).mono ?_
 rintro e w3 ⟨x1,d1,x2,d2,rfl,hV1,hV2,hb3⟩
 have hbF:Below w3.heap.size w3 (w3.alloc (.cells #[.slice x1 (oneQ ns).length d1,.slice x2 (oneQ ns).length d2] 29)):=(Below.refl _ w3).alloc (Nat.le_refl _) _
 have hL:(w3.alloc (.cells #[.slice x1 (oneQ ns).length d1,.slice x2 (oneQ ns).length d2] 29)).heap[w3.heap.size]?=some (.cells #[.slice x1 (oneQ ns).length d1,.slice x2 (oneQ ns).length d2] 29 (0,0)):=World.alloc_heap_new w3 _
 have HBW:=hide (hb3.trans (hbF.mono hb3.size))
 have Y1:Hid (BoolsAt (w3.alloc (.cells #[.slice x1 (oneQ ns).length d1,.slice x2 (oneQ ns).length d2] 29)) x1 (lazyPut (oneQ ns) t)):=(bools_owned hV1 (by simp [lazyPut])).below hbF
 have Y2:Hid (BoolsAt (w3.alloc (.cells #[.slice x1 (oneQ ns).length d1,.slice x2 (oneQ ns).length d2] 29)) x2 (lazyTake (oneQ ns) t)):=(bools_owned hV2 (by simp [lazyTake])).below hbF
 have HR4:=hide ((HBW.out.block _ (blk_lt HR1.out)).trans HR1.out)
 have HP4:=hide ((HBW.out.block _ (blk_lt HP1.out)).trans HP1.out)
 have HT4:=hide ((HBW.out.block _ (blk_lt HT1.out)).trans HT1.out)
 have HQ4:=hide ((HBW.out.block _ (blk_lt HQ1.out)).trans HQ1.out)
 have HN4:=hide (HN1.out.below HBW.out HN1.out.lt)
 have HB4:=hide (HB1.out.trans (HBW.out.mono HB1.out.size))
 have hLB:QB<w3.heap.size:=by have:=hb3.size;omega
 clear q0 q1 t0 t1 t2 ql tl hV1 hV2 hb3 HR1 HB1 HQ1 HT1 HP1 HN1 HLZ HBW hQU
 go_upto_region 10 with fail
 generalize (w3.alloc (.cells #[.slice x1 (oneQ ns).length d1,.slice x2 (oneQ ns).length d2] 29))=V3 at hbF hL Y1 Y2 HR4 HP4 HT4 HQ4 HN4 HB4 ⊢
 generalize w3.heap.size=LB at *
 clear hbF
 have l0:=blk_cell hL 0
 have l1:=blk_cell hL 1
 simp at l0 l1
 have ll:=blk_lt hL
 have HL:=hide hL
 clear hL
 have HC1:=hide (containsB_any x1 d1 (lazyPut (oneQ ns) t) V3 Y1.out (by simp [lazyPut];omega))
 have HC2:=hide (containsB_any x2 d2 (lazyTake (oneQ ns) t) V3 Y2.out (by simp [lazyTake];omega))
 rw [show (lazyPut (oneQ ns) t).length=(oneQ ns).length by simp [lazyPut]] at HC1
 rw [show (lazyTake (oneQ ns) t).length=(oneQ ns).length by simp [lazyTake]] at HC2
 cases hp:(lazyPut (oneQ ns) t).any id
 ·have hq:(lazyTake (oneQ ns) t).any id=true:=by have:=HBB.out;rw [oneB,hp,Bool.false_or] at this;exact this
  rw [hp] at HC1
  rw [hq] at HC2
  clear hp hq
  go_wp2_with fail
  refine HC1.out.mono ?_
  rintro e w5 ⟨rfl,rfl⟩
  go_wp2_with fail
  refine HC2.out.mono ?_
  rintro e w6 ⟨rfl,rfl⟩
  go_upto_region 12 with fail
  have hQ:=HQ4.out
  have q0:=blk_cell hQ 0
  have q1:=blk_cell hQ 1
  simp at q0 q1
  have ql:=blk_lt hQ
  have hT:=HT4.out
  have t0:=blk_cell hT 0
  have t1:=blk_cell hT 1
  have t2:=blk_cell hT 2
  simp at t0 t1 t2
  have tl:=blk_lt hT
  clear hQ hT
  go_wp2_with fail
  refine (HAP.out _ sb sq sc x1 x2 d1 d2 HN4.out Y1.out Y2.out).mono ?_
  rintro e w7 ⟨hres,hb7⟩
  have hR:=(hb7.block _ (blk_lt HR4.out)).trans HR4.out
  have y0:=blk_cell hR 0
  have y1:=blk_cell hR 1
  simp at y0 y1
  have z0:=blk_frozen hR 0
  have z1:=blk_frozen hR 1
  have ylt:=blk_lt hR
  have HR7:=hide hR
  have HB7:=hide (HB4.out.trans (hb7.mono HB4.out.size))
  clear hR hb7 q0 q1 t0 t1 t2 ql tl l0 l1 ll
  rcases hres with ⟨hx,rfl⟩ | ⟨hx,gb,gc,rfl,hV⟩
  ·have HX:=hide hx
   clear hx
   go_wp2
   have hk:=blk_set2 (v0:=.int .i64 0) (v1:=.slice none 0 0) HR7.out
   have k0:=blk_cell hk 0
   have k1:=blk_cell hk 1
   simp at k0 k1
   exact bodyPost_ret (v:=.tuple #[.agg #[.int .i64 0,.slice none 0 0],.int .i64 2]) (by simp [results,Tryz.results30,go_sem,k0,k1]) rfl ⟨Or.inl ⟨HX.out,rfl⟩,below_set2 HB7.out (by omega)⟩
  ·have HX:=hide hx
   have HV:=hide (ownsRow_base hV (base' :=w.heap.size) HB4.out.size)
   clear hx hV
   go_wp2
   have hk:=blk_set2 (v0:=.int .i64 (r+1)) (v1:=.slice (some ⟨gb,0,none⟩) A.length gc) HR7.out
   have k0:=blk_cell hk 0
   have k1:=blk_cell hk 1
   simp at k0 k1
   exact bodyPost_ret (v:=.tuple #[.agg #[.int .i64 (r+1),.slice (some ⟨gb,0,none⟩) A.length gc],.int .i64 0]) (by simp [results,Tryz.results30,go_sem,k0,k1]) rfl ⟨Or.inr ⟨HX.out,gb,gc,rfl,owns_set (o:=1) (u:=.slice (some ⟨gb,0,none⟩) A.length gc) (owns_set (o:=0) (u:=.int .i64 (r+1)) HV.out HR7.out (by decide)) (blk_set (i:=0) (.int .i64 (r+1)) HR7.out) (by decide)⟩,below_set2 HB7.out (by omega)⟩
 ·rw [hp] at HC1
  clear hp
  go_wp2_with fail
  refine HC1.out.mono ?_
  rintro e w5 ⟨rfl,rfl⟩
  go_upto_region 12 with fail
  have hQ:=HQ4.out
  have q0:=blk_cell hQ 0
  have q1:=blk_cell hQ 1
  simp at q0 q1
  have ql:=blk_lt hQ
  have hT:=HT4.out
  have t0:=blk_cell hT 0
  have t1:=blk_cell hT 1
  have t2:=blk_cell hT 2
  simp at t0 t1 t2
  have tl:=blk_lt hT
  clear hQ hT
  go_wp2_with fail
  refine (HAP.out _ sb sq sc x1 x2 d1 d2 HN4.out Y1.out Y2.out).mono ?_
  rintro e w7 ⟨hres,hb7⟩
  have hR:=(hb7.block _ (blk_lt HR4.out)).trans HR4.out
  have y0:=blk_cell hR 0
  have y1:=blk_cell hR 1
  simp at y0 y1
  have z0:=blk_frozen hR 0
  have z1:=blk_frozen hR 1
  have ylt:=blk_lt hR
  have HR7:=hide hR
  have HB7:=hide (HB4.out.trans (hb7.mono HB4.out.size))
  clear hR hb7 q0 q1 t0 t1 t2 ql tl l0 l1 ll
  rcases hres with ⟨hx,rfl⟩ | ⟨hx,gb,gc,rfl,hV⟩
  ·have HX:=hide hx
   clear hx
   go_wp2
   have hk:=blk_set2 (v0:=.int .i64 0) (v1:=.slice none 0 0) HR7.out
   have k0:=blk_cell hk 0
   have k1:=blk_cell hk 1
   simp at k0 k1
   exact bodyPost_ret (v:=.tuple #[.agg #[.int .i64 0,.slice none 0 0],.int .i64 2]) (by simp [results,Tryz.results30,go_sem,k0,k1]) rfl ⟨Or.inl ⟨HX.out,rfl⟩,below_set2 HB7.out (by omega)⟩
  ·have HX:=hide hx
   have HV:=hide (ownsRow_base hV (base' :=w.heap.size) HB4.out.size)
   clear hx hV
   go_wp2
   have hk:=blk_set2 (v0:=.int .i64 (r+1)) (v1:=.slice (some ⟨gb,0,none⟩) A.length gc) HR7.out
   have k0:=blk_cell hk 0
   have k1:=blk_cell hk 1
   simp at k0 k1
   exact bodyPost_ret (v:=.tuple #[.agg #[.int .i64 (r+1),.slice (some ⟨gb,0,none⟩) A.length gc],.int .i64 0]) (by simp [results,Tryz.results30,go_sem,k0,k1]) rfl ⟨Or.inr ⟨HX.out,gb,gc,rfl,owns_set (o:=1) (u:=.slice (some ⟨gb,0,none⟩) A.length gc) (owns_set (o:=0) (u:=.int .i64 (r+1)) HV.out HR7.out (by decide)) (blk_set (i:=0) (.int .i64 (r+1)) HR7.out) (by decide)⟩,below_set2 HB7.out (by omega)⟩
end Go.Proofs.YtnbdnbcnlgnicaaGreat
namespace Go.Proofs.YtnbdnbcnlgnicaaGreat
def wB (ns:List Nd) (t:Tm) (n:Nat):Int:=if bat (earlyL ns t) n=true then 1 else 0
def tmE (r:Int) (t:Tm):Int:=if 3≤t.op∧t.op≤8 then (if (0≤t.a∧t.a<r)∧(0≤t.b∧t.b<r) then 0 else 3) else 4
def oneE (r:Int) (ns:List Nd) (t:Tm):Int :=
 if chk r ns≠0 then chk r ns else if 256<(oneQ ns).length then 2 else if tmE r t≠0 then tmE r t
 else if oneB ns t=true∧(256<(oneN ns t r).length∨63<r) then 2 else 0
end Go.Proofs.YtnbdnbcnlgnicaaGreat
namespace Go.Proofs.YtnbdnbcnlgnicaaGreat
open Go.RowKit Go.Shelf
theorem tchk_tmE {r:Int} {ns:List Nd} (hc:chk r ns=0) (t:Tm):tchk r ns t=tmE r t:=by
 unfold tchk tmE
 rw [if_pos hc]
def OneSays (r:Int) (ns:List Nd) (t:Tm) (w:World) (e:Ending) (w' :World):Prop :=
 (oneE r ns t≠0∧e=.returned (.tuple #[.agg #[.int .i64 0,.slice none 0 0],.int .i64 (oneE r ns t)]) ∨
  oneE r ns t=0∧∃ gb gc,e=.returned (.tuple #[.agg #[.int .i64 (oneR ns t r),.slice (some ⟨gb,0,none⟩) (oneN ns t r).length gc],.int .i64 0])∧w'.ownsRow w.heap.size 47 6 (.slice (some ⟨gb,0,none⟩) (oneN ns t r).length gc) (oneN ns t r).length ((oneN ns t r).flatMap encNd))∧Below w.heap.size w w'
theorem one_any (r:Int) (a:Option Addr) (cap:Nat) (ns:List Nd) (t:Tm) (w:World) (hN:SlN w a ns) :
 Calls Tryz.prog 30 #[.agg #[.int .i64 r,.slice a ns.length cap],.agg #[.int .i64 t.op,.int .i64 t.a,.int .i64 t.b]] w (OneSays r ns t w):=by
 by_cases hc:chk r ns=0
 ·obtain ⟨b,off,rfl,hNb⟩:=hN.some (chk_zero hc).1.1
  by_cases hl:(oneQ ns).length≤256
  ·have hcs:=split_chk (trim_chk hc) hl
   have htc:tchk r (oneQ ns) t=tmE r t:=tchk_tmE hcs t
   by_cases ht:tmE r t=0
   ·cases hb:oneB ns t
    ·have e0:oneE r ns t=0:=by
      unfold oneE
      rw [if_neg (by simp [hc]),if_neg (by omega),if_neg (by simp [ht]),if_neg (by simp [hb])]
     have e1:oneN ns t r=ns:=by unfold oneN;rw [hb];rfl
     have e2:oneR ns t r=r:=by unfold oneR;rw [hb];rfl
     refine (one_same r b off cap ns t w hNb hc hl (by rw [htc];exact ht) hb).mono ?_
     rintro e w' ⟨gb,gc,rfl,hV,hB⟩
     refine ⟨Or.inr ⟨e0,gb,gc,?_,?_⟩,hB⟩
     ·rw [e1,e2]
     ·rw [e1];exact hV
    ·have e1:oneN ns t r=apN (oneQ ns) t (lazyPut (oneQ ns) t) (lazyTake (oneQ ns) t) r:=by unfold oneN;rw [hb];rfl
     have e2:oneR ns t r=r+1:=by unfold oneR;rw [hb];rfl
     refine (one_moved r b off cap ns t w hNb hc hl (by rw [htc];exact ht) hb).mono ?_
     rintro e w' ⟨h,hB⟩
     refine ⟨?_,hB⟩
     rw [← e1] at h
     rcases h with ⟨h1,rfl⟩ | ⟨h1,gb,gc,rfl,hV⟩
     ·have e0:oneE r ns t=2:=by
       unfold oneE
       rw [if_neg (by simp [hc]),if_neg (by omega),if_neg (by simp [ht]),if_pos ⟨hb,h1⟩]
      exact Or.inl ⟨by rw [e0];decide,by rw [e0]⟩
     ·have e0:oneE r ns t=0:=by
       unfold oneE
       rw [if_neg (by simp [hc]),if_neg (by omega),if_neg (by simp [ht]),if_neg (by rintro ⟨_,q⟩;omega)]
      exact Or.inr ⟨e0,gb,gc,by rw [e2],hV⟩
   ·have e0:oneE r ns t=tmE r t:=by
     unfold oneE
     rw [if_neg (by simp [hc]),if_neg (by omega),if_pos (by simpa using ht)]
    refine (one_term r b off cap ns t w hNb hc hl (by rw [htc];exact ht)).mono ?_
    rintro e w' ⟨rfl,hB⟩
    exact ⟨Or.inl ⟨by rw [e0];exact ht,by rw [e0,htc]⟩,hB⟩
  ·have e0:oneE r ns t=2:=by
    unfold oneE
    rw [if_neg (by simp [hc]),if_pos (by omega)]
   refine (one_many r b off cap ns t w hNb hc (by omega)).mono ?_
   rintro e w' ⟨rfl,hB⟩
   exact ⟨Or.inl ⟨by rw [e0];decide,by rw [e0]⟩,hB⟩
 ·have e0:oneE r ns t=chk r ns:=by
   unfold oneE
   rw [if_pos (by simpa using hc)]
  refine (one_wrong r a cap ns t w hN hc).mono ?_
  rintro e w' ⟨rfl,hB⟩
  exact ⟨Or.inl ⟨by rw [e0];exact hc,by rw [e0]⟩,hB⟩
theorem len_row {w:World} {base:Nat} {gb gc:Nat} {ms:List Nd} (h:w.ownsRow base 47 6 (.slice (some ⟨gb,0,none⟩) ms.length gc) ms.length (ms.flatMap encNd)) (hl:1≤ms.length):NodesAt w gb 0 ms:=nodes_ownM h hl
def smT:Tm:=⟨3,0,1⟩
def smQ:List Nd:=[⟨9,0,0,0,1,0⟩,⟨9,1,0,0,2,0⟩,⟨11,0,0,0,3,7⟩,⟨3,2,0,1,4,0⟩,⟨10,0,2,0,8,0⟩,⟨3,2,0,1,6,0⟩,⟨12,0,2,0,0,0⟩,⟨0,0,0,0,5,0⟩,⟨0,0,0,0,5,0⟩]
def smM:List Nd:=[⟨9,0,0,0,1,0⟩,⟨9,1,0,0,2,0⟩,⟨11,0,0,0,3,7⟩,⟨3,3,0,1,9,0⟩,⟨10,0,2,0,8,0⟩,⟨2,2,3,0,6,0⟩,⟨12,0,2,0,0,0⟩,⟨3,3,0,1,10,0⟩,⟨0,0,0,0,5,0⟩,⟨2,2,3,0,4,0⟩,⟨0,0,0,0,5,0⟩]
theorem sm_trim:trimN smallN=smallN:=by kernel_rfl
theorem sm_split:splitN smallN=smQ:=by kernel_rfl
theorem sm_one:oneQ smallN=smQ:=by unfold oneQ;rw [sm_trim,sm_split]
theorem sm_down:downL smQ smT=[false,false,true,true,true,true,false,true,true]:=by kernel_rfl
theorem sm_up:upL smQ smT=[false,false,false,false,true,false,true,false,true]:=by kernel_rfl
theorem sm_early:earlyL smQ smT=[false,false,true,false,false,false,false,false,false]:=by unfold earlyL;rw [sm_down,sm_up];kernel_rfl
theorem sm_delay:delayL smQ smT=[false,false,true,true,false,false,false,true,false]:=by unfold delayL delayW;rw [sm_early];kernel_rfl
theorem sm_late:lateL smQ smT=[false,false,false,true,false,false,false,true,false]:=by unfold lateL;rw [sm_delay];kernel_rfl
theorem sm_alone:aloneL smQ smT=[true,true,true,false,false,true,true,false,false]:=by unfold aloneL aloneW;rw [sm_late];kernel_rfl
theorem sm_put:lazyPut smQ smT=[false,false,false,true,false,false,false,true,false]:=by unfold lazyPut;rw [sm_late,sm_alone];kernel_rfl
theorem sm_take:lazyTake smQ smT=[false,false,false,true,false,true,false,false,false]:=by unfold lazyTake;rw [sm_late,sm_alone];kernel_rfl
theorem sm_B:oneB smallN smT=true:=by unfold oneB;rw [sm_one,sm_put];rfl
theorem sm_N:oneN smallN smT 3=smM:=by unfold oneN;rw [sm_B,if_pos rfl,sm_one,sm_put,sm_take];kernel_rfl
theorem sm_R:oneR smallN smT 3=4:=by unfold oneR;rw [sm_B];rfl
theorem sm_chk:chk 3 smallN=0:=by kernel_rfl
theorem sm_E:oneE 3 smallN smT=0:=by
 unfold oneE
 rw [sm_chk,sm_one,sm_B,sm_N]
 rfl
theorem sm_down0:downL smallN smT=[false,false,true,true,true,true,false]:=by kernel_rfl
theorem sm_up0:upL smallN smT=[false,false,false,false,true,false,true]:=by kernel_rfl
theorem sm_early0:busyPut smallN smT=[false,false,true,false,false,false,false]:=by
 have e:earlyL smallN smT=[false,false,true,false,false,false,false]:=by unfold earlyL;rw [sm_down0,sm_up0];kernel_rfl
 unfold busyPut
 rw [e];rfl
theorem sm_r0:(fin 4 smM [4,5] 99).out=[9]:=by kernel_rfl
theorem sm_r1:(fin 4 smM [4,5] 99).ret=9:=by kernel_rfl
theorem sm_r2:(fin 4 smM [4,5] 99).ended=true:=by kernel_rfl
theorem sm_r3:(fin 4 smM [4,5] 99).steps=9:=by kernel_rfl
theorem sm_r4:(fin 4 smM [4,5] 99).cts=[⟨⟨3,0,1⟩,1⟩]:=by kernel_rfl
theorem sm_rE:rerr 4 smM 2 99=0:=by kernel_rfl
theorem sm_tchk:tchk 3 smallN smT=0:=by kernel_rfl
theorem one_smallM (b:Nat) (w:World) (hN:NodesAt w b 0 smallN) :
 Calls Tryz.prog 30 #[.agg #[.int .i64 3,.slice (some ⟨b,0,none⟩) 7 7],.agg #[.int .i64 3,.int .i64 0,.int .i64 1]] w fun e w' =>∃ gb gc,e=.returned (.tuple #[.agg #[.int .i64 4,.slice (some ⟨gb,0,none⟩) 11 gc],.int .i64 0])∧NodesAt w' gb 0 smM∧Below w.heap.size w w' :=by
 refine (one_any 3 (some ⟨b,0,none⟩) 7 smallN smT w (Or.inr ⟨b,0,rfl,hN⟩)).mono ?_
 rintro e w' ⟨h,hB⟩
 rw [sm_E,sm_R,sm_N] at h
 rcases h with ⟨q,_⟩ | ⟨_,gb,gc,rfl,hV⟩
 ·exact absurd rfl q
 ·exact ⟨gb,gc,rfl,len_row hV (by decide),hB⟩
theorem run_smallM (b c bi:Nat) (w:World) (hN:NodesAt w b 0 smM) (hb:bi<w.heap.size) (h0:w.cell? ⟨bi,0,none⟩=some (.int .i64 4)) (h1:w.cell? ⟨bi,1,none⟩=some (.int .i64 5)) :
 Calls Tryz.prog 33 #[.agg #[.int .i64 4,.slice (some ⟨b,0,none⟩) 11 c],.slice (some ⟨bi,0,none⟩) 2 2,.int .i64 99] w fun e w' =>∃ ao co ac cc,e=.returned (.tuple #[.agg #[.slice ao 1 co,.int .i64 9,.bool true,.int .i64 9,.slice ac 1 cc],.int .i64 0])∧CtsAt w' ac [⟨⟨3,0,1⟩,1⟩]∧Below w.heap.size w w' :=by
 refine (run_fit 4 b 0 c smM _ 2 [4,5] 99 w hN (in_two hb h0 h1) (by simp) sm_rE).mono ?_
 rintro e w' ⟨ao,co,ac,cc,rfl,hI,hC,hb', _,_⟩
 rw [sm_r4] at hC
 exact ⟨ao,co,ac,cc,by rw [sm_r0,sm_r1,sm_r2,sm_r3,sm_r4];rfl,hC,hb'⟩
theorem busy_smallM (b:Nat) (w:World) (hN:NodesAt w b 0 smallN) :
 Calls Tryz.prog 5 #[.agg #[.int .i64 3,.slice (some ⟨b,0,none⟩) 7 7],.agg #[.int .i64 3,.int .i64 0,.int .i64 1]] w fun e w' =>∃ a1 o1 c1 a2 c2,e=.returned (.tuple #[.agg #[.slice (some ⟨a1,o1,none⟩) 7 c1,.slice a2 7 c2],.int .i64 0])∧a1<w'.heap.size∧w'.cell? ⟨a1,o1+2,none⟩=some (.bool true)∧Below w.heap.size w w' :=by
 refine (busy_right 3 b 0 7 smallN smT w hN sm_tchk).mono ?_
 rintro e w' ⟨a1,c1,a2,c2,rfl,hV1,_,hB⟩
 obtain ⟨k,o,rfl,hlt,h⟩:=(bools_owned hV1 (by simp [busyPut])).at (k:=2) (by simp [busyPut,smallN])
 refine ⟨k,o,c1,a2,c2,rfl,hlt,h 2 true ?_,hB⟩
 rw [sm_early0];rfl
set_option maxRecDepth 100000 in
theorem moveBegun_any (w:World) :
 Calls Tryz.prog 11 #[] w fun e w' =>e=.returned (.bool true)∧Below w.heap.size w w' :=by
 go_enter Tryz.func11,Tryz.ntmps11
 go_wp2_with fail
 refine (small_any _).mono ?_
 rintro e w1 ⟨rfl,hN1,hb1⟩
 go_wp2_with fail
 refine (sum_any _).mono ?_
 rintro e w2 ⟨rfl,hb2⟩
 have hN2:=hN1.below hb2 hN1.lt
 have hB2:=hb1.trans (hb2.mono hb1.size)
 clear hN1 hb1 hb2
 go_wp2_with fail
 refine (one_smallM _ _ hN2).mono ?_
 rintro e w3 ⟨gb,gc,rfl,hN3,hb3⟩
 have hx3:Below w3.heap.size w3 (w3.alloc (.cells #[.int .i64 4,.slice (some ⟨gb,0,none⟩) 11 gc] 24)):=(Below.refl _ w3).alloc (Nat.le_refl _) _
 have hp3:(w3.alloc (.cells #[.int .i64 4,.slice (some ⟨gb,0,none⟩) 11 gc] 24)).heap[w3.heap.size]?=some (.cells #[.int .i64 4,.slice (some ⟨gb,0,none⟩) 11 gc] 24 (0,0)):=World.alloc_heap_new w3 _
 have HB3:=hide (hB2.trans ((hb3.trans (hx3.mono hb3.size)).mono hB2.size))
 have HN3:=hide (hN3.below hx3 hN3.lt)
 clear hN2 hB2 hb3 hN3 hx3
 go_upto_region 2 with fail
 generalize (w3.alloc (.cells #[.int .i64 4,.slice (some ⟨gb,0,none⟩) 11 gc] 24))=W3 at hp3 HB3 HN3 ⊢
 generalize w3.heap.size=PB at hp3 ⊢
 have p0:=blk_cell hp3 0
 have p1:=blk_cell hp3 1
 simp at p0 p1
 have pl:=blk_lt hp3
 have HP3:=hide hp3
 clear hp3
 have hba:Below W3.heap.size W3 (W3.alloc (.cells #[.int .i64 4,.int .i64 5] 3)):=(Below.refl _ W3).alloc (Nat.le_refl _) _
 go_wp2_with fail
 refine (run_smallM gb gc _ _ (HN3.out.below hba HN3.out.lt) (by simp) (by simp) (by simp)).mono ?_
 rintro e w4 ⟨ao,co,ac,cc,rfl,hC4,hb4⟩
 have hb4' :=hba.trans (hb4.mono hba.size)
 have hx4:Below w4.heap.size w4 (w4.alloc (.cells #[.slice ao 1 co,.int .i64 9,.bool true,.int .i64 9,.slice ac 1 cc] 62)):=(Below.refl _ w4).alloc (Nat.le_refl _) _
 have hr4:(w4.alloc (.cells #[.slice ao 1 co,.int .i64 9,.bool true,.int .i64 9,.slice ac 1 cc] 62)).heap[w4.heap.size]?=some (.cells #[.slice ao 1 co,.int .i64 9,.bool true,.int .i64 9,.slice ac 1 cc] 62 (0,0)):=World.alloc_heap_new w4 _
 have hb4'' :=hb4'.trans (hx4.mono hb4'.size)
 have HB4:=hide (HB3.out.trans (hb4''.mono HB3.out.size))
 have HP4:=hide ((hb4''.block _ pl).trans HP3.out)
 have HC4:=hide (hC4.below hx4)
 clear p0 p1 pl hba hb4 hb4' hb4'' hx4 hC4 HB3 HN3 HP3
 go_upto_region 3 with fail
 generalize (w4.alloc (.cells #[.slice ao 1 co,.int .i64 9,.bool true,.int .i64 9,.slice ac 1 cc] 62))=W4 at hr4 HB4 HP4 HC4 ⊢
 generalize w4.heap.size=RB at hr4 ⊢
 have HR4:=hide hr4
 clear hr4
 go_wp2_with fail
 refine (small_any _).mono ?_
 rintro e w5 ⟨rfl,hN5,hb5⟩
 go_wp2_with fail
 refine (sum_any _).mono ?_
 rintro e w6 ⟨rfl,hb6⟩
 have hN6:=hN5.below hb6 hN5.lt
 have hb6' :=hb5.trans (hb6.mono hb5.size)
 clear hN5 hb5 hb6
 go_wp2_with fail
 refine (busy_smallM _ _ hN6).mono ?_
 rintro e w7 ⟨a1,o1,c1,a2,c2,rfl,hl7,hc7,hb7⟩
 have hx7:Below w7.heap.size w7 (w7.alloc (.cells #[.slice (some ⟨a1,o1,none⟩) 7 c1,.slice a2 7 c2] 29)):=(Below.refl _ w7).alloc (Nat.le_refl _) _
 have hl7' :(w7.alloc (.cells #[.slice (some ⟨a1,o1,none⟩) 7 c1,.slice a2 7 c2] 29)).heap[w7.heap.size]?=some (.cells #[.slice (some ⟨a1,o1,none⟩) 7 c1,.slice a2 7 c2] 29 (0,0)):=World.alloc_heap_new w7 _
 have hb7' :=hb6'.trans ((hb7.trans (hx7.mono hb7.size)).mono hb6'.size)
 have HB7:=hide (HB4.out.trans (hb7'.mono HB4.out.size))
 have HP7:=hide ((hb7'.block _ (blk_lt HP4.out)).trans HP4.out)
 have HR7:=hide ((hb7'.block _ (blk_lt HR4.out)).trans HR4.out)
 have HC7:=hide (HC4.out.below hb7')
 have HM7:=hide ((hx7.cell (p:=⟨a1,o1+2,none⟩) hl7).trans hc7)
 have hal:a1<(w7.alloc (.cells #[.slice (some ⟨a1,o1,none⟩) 7 c1,.slice a2 7 c2] 29)).heap.size:=by simp;omega
 clear hb6' hN6 hb7 hb7' hc7 hl7 hx7 HB4 HP4 HR4 HC4
 go_upto_region 4 with fail
 generalize (w7.alloc (.cells #[.slice (some ⟨a1,o1,none⟩) 7 c1,.slice a2 7 c2] 29))=W7 at hl7' HB7 HP7 HR7 HC7 HM7 hal ⊢
 generalize w7.heap.size=LB at hl7' ⊢
 have HL7:=hide hl7'
 have HAL:=hide hal
 have HS:Hid (∀ u:World,Below W7.heap.size W7 u→u.cell? ⟨PB,0,none⟩=some (.int .i64 4)∧u.cell? ⟨RB,0,none⟩=some (.slice ao 1 co)∧u.cell? ⟨RB,1,none⟩=some (.int .i64 9)∧u.cell? ⟨RB,2,none⟩=some (.bool true)∧u.cell? ⟨RB,3,none⟩=some (.int .i64 9)∧u.cell? ⟨RB,4,none⟩=some (.slice ac 1 cc)∧u.cell? ⟨LB,0,none⟩=some (.slice (some ⟨a1,o1,none⟩) 7 c1)∧u.cell? ⟨a1,o1+2,none⟩=some (.bool true)):=fun u h=>by
  have k1:=(h.block _ (blk_lt HP7.out)).trans HP7.out
  have k2:=(h.block _ (blk_lt HR7.out)).trans HR7.out
  have k3:=(h.block _ (blk_lt HL7.out)).trans HL7.out
  refine ⟨?_,?_,?_,?_,?_,?_,?_,(h.cell (p:=⟨a1,o1+2,none⟩) HAL.out).trans HM7.out⟩
  ·rw [blk_cell k1];rfl
  ·rw [blk_cell k2];rfl
  ·rw [blk_cell k2];rfl
  ·rw [blk_cell k2];rfl
  ·rw [blk_cell k2];rfl
  ·rw [blk_cell k2];rfl
  ·rw [blk_cell k3];rfl
 have l1:PB<W7.heap.size:=blk_lt HP7.out
 have l2:RB<W7.heap.size:=blk_lt HR7.out
 have l3:LB<W7.heap.size:=blk_lt HL7.out
 clear hl7'
 go_region_held3 (fun u=>u.cell? ⟨PB,0,none⟩=some (.int .i64 4)∧u.cell? ⟨RB,0,none⟩=some (.slice ao 1 co)∧u.cell? ⟨RB,1,none⟩=some (.int .i64 9)∧u.cell? ⟨RB,2,none⟩=some (.bool true)∧u.cell? ⟨RB,3,none⟩=some (.int .i64 9)∧u.cell? ⟨RB,4,none⟩=some (.slice ac 1 cc)∧u.cell? ⟨LB,0,none⟩=some (.slice (some ⟨a1,o1,none⟩) 7 c1)∧u.cell? ⟨a1,o1+2,none⟩=some (.bool true)) (first
  | (with_reducible refine HS.out _ ?_;first | with_reducible exact hB9 | with_reducible exact hB8 | with_reducible exact (Below.refl _ W7).drew | with_reducible exact (Below.refl _ W7))) (first
  | (go_at_call 34;refine (times_lit _ _ _ _ ac cc 1 _ HC7.out hB8).mono ?_;rintro e w9 ⟨rfl,hB9⟩)
  | (go_at_call 32;refine (sum_any _).mono ?_;rintro e w8 ⟨rfl,hb8⟩;have hB8:Below W7.heap.size W7 w8:=(by first | exact (Below.refl _ W7).drew.trans hb8 | exact hb8)))
 all_goals go_wp2
 all_goals go_ret
 all_goals exact ⟨rfl,HB7.out.trans (hB9.mono HB7.out.size)⟩
end Go.Proofs.YtnbdnbcnlgnicaaGreat
