/-
  Of the proof of MovePlaces: LG, LI, LK, MC, GH, MA, E, MB, MD, ME, MF.
-/
import Derived.Test.YtnbdnbcnlgnicaaGreatP1
import Derived.Test.YtnbdnbcnlgnicaaGreatP2
import Derived.Test.YtnbdnbcnlgnicaaGreatSh
import Derived.Sort.OwnSortedInts
import Derived.Deep.QuietTactic
import Derived.BigQuiet
import Derived.Deep.DeepCutAuto
import Derived.Deep.Upon
set_option linter.unusedVariables false
set_option linter.unusedSimpArgs false
set_option maxHeartbeats 40000000
namespace Go.Proofs.YtnbdnbcnlgnicaaGreat
open Go.RowKit Go.Shelf Go.Sort
attribute [local go_sem] Oper.semAt_some
theorem exl_sort (x:Nd):((exo x).mergeSort fun a b=>decide (a≤b))=exl x:=by
 unfold exo exl
 by_cases h11:x.op=11
 ·rw [if_pos h11,if_pos h11]
  by_cases he:x.e=x.t
  ·rw [if_pos he,if_pos he.symm,sort1]
  ·rw [if_neg he,if_neg (fun q=>he q.symm),sort2]
   by_cases hl:x.t<x.e
   ·rw [if_pos hl,if_pos (by omega)]
   ·rw [if_neg hl,if_neg (by omega)]
 ·rw [if_neg h11,if_neg h11]
  cases wi x.op 0 11
  ·simp
  ·simp
theorem exl_len (x:Nd):(exl x).length=(exo x).length:=by rw [← exl_sort,List.length_mergeSort]
set_option maxRecDepth 100000 in
theorem sorted_in (n:Nat) (hn:5≤n) (B:Nat) (x:Nd) (w:World) (hx:NodeBox w B x) :
 CallsIn Fence.wide n Tryz.prog 102 #[.func (.func 110) #[] #[.pointer (some ⟨B,0,none⟩)]] w fun e W' =>∃ v,e=.returned v∧W'.ownsRow w.heap.size 3 1 v (exl x).length ((exl x).map (Value.int .i64))∧Below w.heap.size w W' :=by
 have h1:1≤n:=by omega
 have hC:=collect_in (n-1) (by omega) B x w hx
 have hl2:=exo_len x
 refine callsIn_of_wp Tryz.func102 rfl trivial ?_ rfl
 simp only [Tryz.ntmps102,List.size_toArray,List.length_cons,List.length_nil,Nat.reduceAdd,Nat.reduceSub,Array.replicate_succ,Array.replicate_zero,List.push_toArray,List.append_toArray,List.nil_append,List.cons_append]
 gi_wp2_with (refine ⟨trivial,?_⟩;gi_at_call 116;refine hC.mono ?_;rintro e W ⟨v,rfl,hrow,hb⟩)
 rcases hrow.2 with ⟨rfl,hz⟩ | ⟨gb,cap,cur,rfl,hbase,hgb,r1,r2,r3,r4⟩
 ·have hsl:exl x=[]:=List.eq_nil_of_length_eq_zero (by rw [exl_len];exact hz)
  gi_wp2_with (refine ⟨trivial,?_⟩;gi_at_call 117;refine (callsIn_wide.2 (Tryz.slices_Sort_int_none none 0 W)).mono ?_;rintro e w' ⟨rfl,rfl⟩)
  go_ret
  exact ⟨.slice none 0 0,rfl,by rw [hsl];exact World.ownsRow_nil _ _ _ _,hb⟩
 ·have hH:Holds (Value.int .i64) W gb 0 (exo x).toArray:=holds_of_blockI hgb (by simpa using r4)
  have hS:=callsIn_wide (n:=n-1).2 (Tryz.slices_Sort_int gb 0 cap (exo x) W hH (Array.getElem?_eq_some_iff.1 hgb).1 (by omega))
  gi_wp2_with (refine ⟨trivial,?_⟩;gi_at_call 117;refine hS.mono ?_;rintro e w' ⟨rfl,q,os,rfl⟩)
  go_ret
  refine ⟨_,rfl,?_,hb.grown (grownBy_sortedI (w:=W) (g:=gb) (n:=q) (os:=os) _) hb.size (fun k e=>by cases e;exact hbase)⟩
  have h3:=ownsRow_sortedI (w:=W) (n:=q) (os:=os) (base:=w.heap.size) (ss:=exo x) (ts:=exl x) (exl_len x) hbase hgb r1 r2 r3
  rw [exl_len,exl_sort]
  exact h3
end Go.Proofs.YtnbdnbcnlgnicaaGreat
namespace Go.Proofs.YtnbdnbcnlgnicaaGreat
open Go.RowKit Go.Shelf
def encNd (x:Nd):List Value:=[.int .i64 x.op,.int .i64 x.d,.int .i64 x.a,.int .i64 x.b,.int .i64 x.t,.int .i64 x.e]
theorem encNd_len (x:Nd):(encNd x).length=6:=rfl
theorem encNd_one (ns:List Nd):∀ u∈ns.flatMap encNd,u.oneCell' =true:=by
 intro u hu
 obtain ⟨x,_,hx⟩:=List.mem_flatMap.1 hu
 simp only [encNd,List.mem_cons,List.not_mem_nil,or_false] at hx
 rcases hx with rfl | rfl | rfl | rfl | rfl | rfl <;> rfl
theorem flatK {α β:Type} (k:Nat) (f:α→List β) (hf:∀ x,(f x).length=k):∀ (l:List α) (j i:Nat) (x:α),l[j]?=some x→i<k→(l.flatMap f)[j*k+i]?=(f x)[i]?
 | [],j,i,x,h,_=>by simp at h
 | u::l,0,i,x,h,hi=>by
  simp at h;subst h
  rw [List.flatMap_cons,List.getElem?_append_left (by rw [hf];omega)];simp
 | u::l,j+1,i,x,h,hi=>by
  simp at h
  rw [List.flatMap_cons,List.getElem?_append_right (by rw [hf,Nat.succ_mul];omega),hf,show (j+1)*k+i-k=j*k+i by rw [Nat.succ_mul];omega]
  exact flatK k f hf l j i x h hi
theorem flat_len {α β:Type} (k:Nat) (f:α→List β) (hf:∀ x,(f x).length=k):∀ l:List α,(l.flatMap f).length=l.length*k
 | []=>by simp
 | u::l=>by rw [List.flatMap_cons,List.length_append,hf,flat_len k f hf l,List.length_cons,Nat.succ_mul];omega
theorem nodes_flat {w:World} {b off:Nat} {ns:List Nd} (hN:NodesAt w b off ns):∀ (j:Nat) (u:Value),(ns.flatMap encNd)[j]?=some u→w.cell? ((⟨b,off,none⟩:Addr).add j)=some u:=by
 intro j u hu
 have hlt:j<ns.length*6:=by
  have:=(List.getElem?_eq_some_iff.1 hu).1
  rwa [flat_len 6 encNd encNd_len] at this
 have hq:j / 6<ns.length:=by omega
 obtain ⟨x,hx⟩:=get_lt hq
 have h1:=flatK 6 encNd encNd_len ns (j / 6) (j % 6) x hx (Nat.mod_lt _ (by decide))
 rw [show j / 6*6+j % 6=j by omega,hu] at h1
 have e:(⟨b,off,none⟩:Addr).add j=⟨b,off+j / 6*6+j % 6,none⟩:=by
  have:(⟨b,off,none⟩:Addr).add j=⟨b,off+j,none⟩:=by cases j <;> simp [Addr.add]
  rw [this];congr 1;omega
 rw [e]
 have hm:j % 6<6:=Nat.mod_lt _ (by decide)
 generalize j % 6=m at h1 hm ⊢
 match m,hm with
 | 0,_=>simp [encNd] at h1;subst h1;exact hN.c0 _ x hx
 | 1,_=>simp [encNd] at h1;subst h1;exact hN.c1 _ x hx
 | 2,_=>simp [encNd] at h1;subst h1;exact hN.c2 _ x hx
 | 3,_=>simp [encNd] at h1;subst h1;exact hN.c3 _ x hx
 | 4,_=>simp [encNd] at h1;subst h1;exact hN.c4 _ x hx
 | 5,_=>simp [encNd] at h1;subst h1;exact hN.c5 _ x hx
theorem nodes_of_cells {w:World} {b off:Nat} {ns:List Nd} (hlt:b<w.heap.size) (h:∀ (j:Nat) (u:Value),(ns.flatMap encNd)[j]?=some u→w.cell? ⟨b,off+j,none⟩=some u):NodesAt w b off ns:=by
 have key:∀ (i:Nat) (x:Nd) (m:Nat) (u:Value),ns[i]?=some x→m<6→(encNd x)[m]?=some u→w.cell? ⟨b,off+i*6+m,none⟩=some u:=by
  intro i x m u hx hm hu
  have:=h (i*6+m) u (by rw [flatK 6 encNd encNd_len ns i m x hx hm];exact hu)
  rwa [← Nat.add_assoc] at this
 exact ⟨hlt,fun i x hx=>key i x 0 _ hx (by decide) rfl,fun i x hx=>key i x 1 _ hx (by decide) rfl,fun i x hx=>key i x 2 _ hx (by decide) rfl,fun i x hx=>key i x 3 _ hx (by decide) rfl,fun i x hx=>key i x 4 _ hx (by decide) rfl,fun i x hx=>key i x 5 _ hx (by decide) rfl⟩
theorem nodes_of_owns {w:World} {base:Nat} {e:TypeId} {v:Value} {ns:List Nd} (h:w.ownsRow base e 6 v ns.length (ns.flatMap encNd)):∃ a cap,v=.slice a ns.length cap∧SlN w a ns:=by
 have hc:∀ g,v.ownBlock=some g→∀ j u,(ns.flatMap encNd)[j]?=some u→w.cell? ((⟨g,0,none⟩:Addr).add j)=some u:=fun g hg=>h.cells hg
 obtain ⟨_,h⟩:=h
 rcases h with ⟨rfl,h0⟩ | ⟨g,cap,cur,rfl,h1,h2,_⟩
 ·have:ns=[]:=List.eq_nil_of_length_eq_zero h0
  subst this
  exact ⟨none,0,rfl,Or.inl rfl⟩
 ·refine ⟨_,cap,rfl,Or.inr ⟨g,0,rfl,nodes_of_cells (Array.getElem?_eq_some_iff.1 h2).1 fun j u hj=>?_⟩⟩
  have:=hc g rfl j u hj
  have e:(⟨g,0,none⟩:Addr).add j=⟨g,0+j,none⟩:=by cases j <;> simp [Addr.add]
  rw [e] at this;exact this
theorem owns_set {w:World} {base b o:Nat} {e t:TypeId} {size:Nat} {v u:Value} {n:Nat} {xs:List Value} {vs:Array Value} (h:w.ownsRow base e size v n xs) (hb:w.heap[b]?=some (.cells vs t (0,0))) (hte:t≠e):(w.setCell ⟨b,o,none⟩ u).ownsRow base e size v n xs:=by
 have hne:=owns_ne_ty h hb hte
 obtain ⟨hl,h3⟩:=h
 refine ⟨hl,?_⟩
 rcases h3 with h3 | ⟨g', cap', cur', rfl,a1,a2,a3⟩
 ·exact Or.inl h3
 ·refine Or.inr ⟨g', cap', cur', rfl,a1,?_,a3⟩
  rw [Below.heap_setCell _ _ _ g' (fun e=>hne (by simp only [Value.ownBlock];exact congrArg some e.symm))]
  exact a2
theorem boxed_ne {w:World} {b c:Nat} {t t' :TypeId} {vs vs' :Array Value} {fr fr' :Nat × Nat} (h:w.heap[b]?=some (.cells vs t fr)) (h' :w.heap[c]?=some (.cells vs' t' fr')) (hne:t≠t'):b≠c:=by
 intro e;subst e
 rw [h] at h'; cases h'; exact hne rfl
theorem made_ints (n:Nat):madeCells #[Value.int .i64 0] n=((List.replicate n (0:Int)).map (Value.int .i64)).toArray:=by
 apply Array.ext'
 rw [toList_madeCells_one]
 simp
theorem owns_slice {w:World} {base:Nat} {e:TypeId} {size:Nat} {v:Value} {n:Nat} {xs:List Value} (h:w.ownsRow base e size v n xs):∃ a c,v=.slice a n c:=by
 rcases h.2 with ⟨rfl,rfl⟩ | ⟨g,cap,_,rfl,_⟩
 ·exact ⟨none,0,rfl⟩
 ·exact ⟨_,cap,rfl⟩
theorem flat_set {α β:Type} (k:Nat) (f:α→List β) (hf:∀ x,(f x).length=k):∀ (l:List α) (j i:Nat) (x y:α) (u:β),l[j]?=some x→i<k→(f x).set i u=f y→(l.flatMap f).set (j*k+i) u=(l.set j y).flatMap f
 | [],j,i,x,y,u,h,_,_=>by simp at h
 | a::l,0,i,x,y,u,h,hi,he=>by
  simp at h;subst h
  rw [List.flatMap_cons,List.set_cons_zero,List.flatMap_cons,Nat.zero_mul,Nat.zero_add,List.set_append_left _ _ (by rw [hf];exact hi),he]
 | a::l,j+1,i,x,y,u,h,hi,he=>by
  simp at h
  rw [List.flatMap_cons,List.set_cons_succ,List.flatMap_cons,List.set_append_right _ _ (by rw [hf,Nat.succ_mul];omega),hf,show (j+1)*k+i-k=j*k+i by rw [Nat.succ_mul];omega,flat_set k f hf l j i x y u h hi he]
theorem owns_write {w:World} {base g cap:Nat} {e:TypeId} {size n i:Nat} {u:Value} {xs:List Value} (h:w.ownsRow base e size (.slice (some ⟨g,0,none⟩) n cap) n xs) (hi:i<n*size):(w.setCell ⟨g,i,none⟩ u).ownsRow base e size (.slice (some ⟨g,0,none⟩) n cap) n (xs.set i u):=by
 obtain ⟨hl,h⟩:=h
 refine ⟨by simpa using hl,?_⟩
 rcases h with ⟨h,_⟩ | ⟨g', cap', cur,q,a1,a2,a3,a4,a5,a6⟩
 ·cases h
 ·cases q
  refine Or.inr ⟨g,cap,_,rfl,a1,blk_set _ a2,a3,a4,by simpa using a5,?_⟩
  rw [Array.toList_setIfInBounds,List.take_set,a6]
theorem info_node:(Tryz.prog.info? 47).map (fun i=>(i.zero,i.size,i.bytes))=some (some (.agg #[.int .i64 0,.int .i64 0,.int .i64 0,.int .i64 0,.int .i64 0,.int .i64 0]),6,48):=by kernel_rfl
end Go.Proofs.YtnbdnbcnlgnicaaGreat
namespace Go.Proofs.YtnbdnbcnlgnicaaGreat
open Go.RowKit
def BoolsAt (w:World) (a:Option Addr) (zs:List Bool):Prop :=
 zs=[]∨∃ b off,a=some ⟨b,off,none⟩∧b<w.heap.size∧∀ (j:Nat) (z:Bool),zs[j]?=some z→w.cell? ⟨b,off+j,none⟩=some (.bool z)
theorem BoolsAt.below {w w' :World} {a:Option Addr} {zs:List Bool} (h:BoolsAt w a zs) (hb:Below w.heap.size w w'):BoolsAt w' a zs:=by
 rcases h with h | ⟨b,off,rfl,hlt,h⟩
 ·exact Or.inl h
 ·exact Or.inr ⟨b,off,rfl,Nat.lt_of_lt_of_le hlt hb.size,fun j z hz=>by rw [hb.cell (p:=⟨b,_,none⟩) hlt];exact h j z hz⟩
theorem BoolsAt.at {w:World} {a:Option Addr} {zs:List Bool} (h:BoolsAt w a zs) {k:Nat} (hk:k<zs.length):∃ b off,a=some ⟨b,off,none⟩∧b<w.heap.size∧∀ (j:Nat) (z:Bool),zs[j]?=some z→w.cell? ⟨b,off+j,none⟩=some (.bool z):=by
 rcases h with rfl | h
 ·simp at hk
 ·exact h
theorem bools_of_owns {w:World} {base:Nat} {e:TypeId} {v:Value} {zs:List Bool} (h:w.ownsRow base e 1 v zs.length (zs.map Value.bool)):∃ a cap,v=.slice a zs.length cap∧BoolsAt w a zs:=by
 have hc:∀ g,v.ownBlock=some g→∀ j u,(zs.map Value.bool)[j]?=some u→w.cell? ((⟨g,0,none⟩:Addr).add j)=some u:=fun g hg=>h.cells hg
 obtain ⟨_,h⟩:=h
 rcases h with ⟨rfl,h0⟩ | ⟨g,cap,cur,rfl,h1,h2,h3,h4,h5,h6⟩
 ·have:zs=[]:=by cases zs;rfl;simp at h0
  subst this
  exact ⟨none,0,rfl,Or.inl rfl⟩
 ·refine ⟨_,cap,rfl,Or.inr ⟨g,0,rfl,(Array.getElem?_eq_some_iff.1 h2).1,?_⟩⟩
  intro j z hz
  have:=hc g rfl j (.bool z) (by simp [hz])
  have e:(⟨g,0,none⟩:Addr).add j=⟨g,0+j,none⟩:=by cases j <;> simp [Addr.add]
  rw [e] at this;exact this
theorem sameBools_same (a b:Option Addr) (ca cb:Nat) (xs:List Bool) (w:World) (hx:BoolsAt w a xs) (hy:BoolsAt w b xs) (hl:xs.length≤140737488351232) :
 Calls Tryz.prog 35 #[.slice a xs.length ca,.slice b xs.length cb] w fun e w' =>e=.returned (.bool true)∧Below w.heap.size w w' :=by
 go_enter Tryz.func35,Tryz.ntmps35
 go_wp2
 go_loopw [5] (fun i wr=>∃ k:Nat,k≤xs.length∧i=.int .i64 k∧∃ n,wr=w.drewN n) (fun i _=>xs.length-(intOf i).toNat)
 case atStart=>exact ⟨0,Nat.zero_le _,rfl,0,rfl⟩
 case round =>
  obtain ⟨k,hk,rfl,n,rfl⟩:=hrel
  by_cases hlt:k<xs.length
  ·obtain ⟨x,gx⟩:=get_lt hlt
   obtain ⟨ba,oa,rfl,ha,fa⟩:=hx.at hlt
   obtain ⟨bb,ob,rfl,hb,fb⟩:=hy.at hlt
   have c1:=fa k x gx
   have c2:=fb k x gx
   clear gx fa fb
   go_wp2
   go_quiet (fail)
   go_wp2
   go_roundw
   case rel=>exact ⟨k+1,by omega,by go_num,n+nq,by first | rfl | (simp only [World.drewN_drewN])⟩
   case measure=>simp [intOf];omega
  ·go_wp2
   go_ret
   exact ⟨rfl,below_drewN (Below.refl _ _) n⟩
end Go.Proofs.YtnbdnbcnlgnicaaGreat
namespace Go.Proofs.YtnbdnbcnlgnicaaGreat
open Go.RowKit Go.Shelf
theorem linksAhead_any (r:Int) (b off cap:Nat) (ns:List Nd) (w:World) (hN:NodesAt w b off ns) (hc:chk r ns=0) :
 Calls Tryz.prog 67 #[.agg #[.int .i64 r,.slice (some ⟨b,off,none⟩) ns.length cap]] w fun e w' =>∃ rb vs,e=.returned (.slice (some ⟨rb,0,none⟩) ns.length ns.length)∧RowsAt w' w.heap.size rb ns.length vs (fun m=>pick (ahB ns m) ns.length)∧Below w.heap.size w w' :=
 callsIn_wide.1 (linksAhead_in 4 (by decide) r b off cap ns w hN hc)
def ints (l:List Nat):List Int:=l.map fun k:Nat=>(k:Int)
theorem ints_len (l:List Nat):(ints l).length=l.length:=by simp [ints]
structure RowsR (w:World) (rb L:Nat) (F:Nat→List Nat):Prop where
 lt:rb<w.heap.size
 row:∀ m,m<L→∃ a c,w.cell? ⟨rb,m,none⟩=some (.slice a (F m).length c)∧IntsAt w a (ints (F m))
theorem RowsR.below {w w' :World} {rb L:Nat} {F:Nat→List Nat} (h:RowsR w rb L F) (hb:Below w.heap.size w w'):RowsR w' rb L F :=
 ⟨Nat.lt_of_lt_of_le h.lt hb.size,fun m hm=>by
  obtain ⟨a,c,h1,h2⟩:=h.row m hm
  exact ⟨a,c,(hb.cell (p:=⟨rb,m,none⟩) h.lt).trans h1,h2.below hb⟩⟩
def RowsT (w:World) (rb L:Nat) (F:Nat→List Nat):Prop :=
 ∃ vs:List Value,w.heap[rb]?=some (.cells vs.toArray 54 (0,0))∧vs.length=L∧∀ (m:Nat) (v:Value),vs[m]?=some v→w.ownsRow 0 3 1 v (ints (F m)).length ((ints (F m)).map (Value.int .i64))
theorem RowsT.below {w w' :World} {rb L:Nat} {F:Nat→List Nat} (h:RowsT w rb L F) (hb:Below w.heap.size w w'):RowsT w' rb L F:=by
 obtain ⟨vs,h1,h2,h3⟩:=h
 exact ⟨vs,(hb.block _ (blk_lt h1)).trans h1,h2,fun m v hv=>ownsRow_below (h3 m v hv) hb (Nat.le_refl _)⟩
theorem RowsT.set {w:World} {rb L b o:Nat} {F:Nat→List Nat} {cs:Array Value} {t:TypeId} {u:Value} (h:RowsT w rb L F) (hb:w.heap[b]?=some (.cells cs t (0,0))) (h1:t≠54) (h2:t≠3):RowsT (w.setCell ⟨b,o,none⟩ u) rb L F:=by
 obtain ⟨vs,k1,k2,k3⟩:=h
 refine ⟨vs,?_,k2,fun m v hv=>owns_set (k3 m v hv) hb h2⟩
 refine (Below.heap_setCell _ _ _ _ ?_).trans k1
 rintro rfl
 rw [k1] at hb
 cases hb
 exact h1 rfl
theorem RowsT.read {w:World} {rb L:Nat} {F:Nat→List Nat} (h:RowsT w rb L F):RowsR w rb L F:=by
 obtain ⟨vs,k1,k2,k3⟩:=h
 refine ⟨blk_lt k1,fun m hm=>?_⟩
 have hl:m<vs.length:=by rw [k2];exact hm
 have hv:vs[m]?=some vs[m]:=List.getElem?_eq_getElem hl
 obtain ⟨a,c,e,hI⟩:=ints_of_owns (k3 m _ hv)
 rw [ints_len] at e
 exact ⟨a,c,by rw [blk_cell k1,List.getElem?_toArray,hv,e],hI⟩
theorem rowsT_of {w:World} {base rb L:Nat} {vs:List Value} {f:Nat→List Int} {F:Nat→List Nat} (h:RowsAt w base rb L vs f) (hf:∀ m,f m=ints (F m)):RowsT w rb L F :=
 ⟨vs,h.blk,h.len,fun m v hv=>by rw [← hf m];exact ownsRow_base (h.own m v hv) (Nat.zero_le _)⟩
theorem linksAhead_rows (r:Int) (b off cap:Nat) (ns:List Nd) (w:World) (hN:NodesAt w b off ns) (hc:chk r ns=0) :
 Calls Tryz.prog 67 #[.agg #[.int .i64 r,.slice (some ⟨b,off,none⟩) ns.length cap]] w fun e w' =>∃ rb,e=.returned (.slice (some ⟨rb,0,none⟩) ns.length ns.length)∧RowsT w' rb ns.length (ahl ns)∧Below w.heap.size w w' :=by
 refine (linksAhead_any r b off cap ns w hN hc).mono ?_
 rintro e w' ⟨rb,vs,rfl,hR,hB⟩
 exact ⟨rb,rfl,rowsT_of hR (fun m=>rfl),hB⟩
theorem pick_nxl {ns:List Nd} {n:Nat} {x:Nd} (hx:ns[n]?=some x):pick (ldB x) ns.length=ints (nxl ns n):=by
 simp only [pick,ints,nxl]
 congr 1
 refine List.filter_congr fun m _=>?_
 simp [ahB,hx]
set_option maxRecDepth 100000 in
theorem linksNext_rows (r:Int) (b off cap:Nat) (ns:List Nd) (w:World) (hN:NodesAt w b off ns) (hc:chk r ns=0) :
 Calls Tryz.prog 66 #[.agg #[.int .i64 r,.slice (some ⟨b,off,none⟩) ns.length cap]] w fun e w' =>∃ rb,e=.returned (.slice (some ⟨rb,0,none⟩) ns.length ns.length)∧RowsT w' rb ns.length (nxl ns)∧Below w.heap.size w w' :=by
 have hl:=(chk_zero hc).1
 have HC:=hide hc
 clear hc
 have hms:∀ W:World,Sem.run Tryz.prog (Instr.makeSlice 53 (.int .i64 (ns.length:Int)) (.int .i64 (ns.length:Int))) W=.ok (.slice (some ⟨W.heap.size,0,none⟩) ns.length ns.length) (W.alloc (.cells (madeCells #[.slice none 0 0] ns.length) 54)):=fun W=>run_make_row' 53 54 _ 24 Tryz.underlying53 info_ints rfl .i64 .i64 ns.length (by omega) (by omega) W
 go_enter Tryz.func66,Tryz.ntmps66
 go_wp2
 have hB0:Below w.heap.size w ((w.alloc (.cells #[.int .i64 r,.slice (some ⟨b,off,none⟩) ns.length cap] 24)).alloc (.cells (madeCells #[.slice none 0 0] ns.length) 54)):=((Below.refl _ w).alloc (Nat.le_refl _) _).alloc (by simp) _
 have hR0:((w.alloc (.cells #[.int .i64 r,.slice (some ⟨b,off,none⟩) ns.length cap] 24)).alloc (.cells (madeCells #[.slice none 0 0] ns.length) 54)).heap[w.heap.size+1]?=some (.cells (List.replicate ns.length (Value.slice none 0 0)).toArray 54 (0,0)):=by
  have:=World.alloc_heap_new (w.alloc (.cells #[.int .i64 r,.slice (some ⟨b,off,none⟩) ns.length cap] 24)) (.cells (madeCells #[.slice none 0 0] ns.length) 54)
  rw [made_rows] at this
  rw [made_rows]
  rwa [World.size_alloc] at this
 generalize ((w.alloc (.cells #[.int .i64 r,.slice (some ⟨b,off,none⟩) ns.length cap] 24)).alloc (.cells (madeCells #[.slice none 0 0] ns.length) 54))=W0 at hB0 hR0 ⊢
 have HR0:=hide hR0
 clear hR0 hms
 go_loopw [13] (fun i wr=>∃ k:Nat,k≤ns.length∧i=.int .i64 k∧(∃ vs:List Value,wr.heap[w.heap.size+1]?=some (.cells vs.toArray 54 (0,0))∧vs.length=ns.length∧∀ m,m<k→∃ v,vs[m]?=some v∧wr.ownsRow (w.heap.size+1) 3 1 v (ints (nxl ns m)).length ((ints (nxl ns m)).map (Value.int .i64)))∧Below w.heap.size w wr) (fun i _=>ns.length-(intOf i).toNat)
 case atStart=>exact ⟨0,Nat.zero_le _,rfl,⟨_,HR0.out,by simp,fun m hm=>absurd hm (by omega)⟩,hB0⟩
 case round =>
  obtain ⟨k,hk,rfl,⟨vs,hR,hvl,hrow⟩,hb⟩:=hrel
  have hsz:=hb.size
  have hRl:=blk_lt hR
  by_cases hlt:k<ns.length
  ·obtain ⟨x,hx⟩:=get_lt hlt
   have hN1:=hN.below hb hN.lt
   have c0:=hN1.c0 k x hx
   have c1:=hN1.c1 k x hx
   have c2:=hN1.c2 k x hx
   have c3:=hN1.c3 k x hx
   have c4:=hN1.c4 k x hx
   have c5:=hN1.c5 k x hx
   have hblt:=hN1.lt
   have HX:=hide hx
   have HR:=hide hR
   have HV:=hide hrow
   have hli:(k:Int)<(ns.length:Int):=by omega
   clear hx hN1 hR hrow
   go_wp2_with (go_at_call 85;refine (callsIn_wide.1 (exits_in 1 _ _ _ _ _ _ _)).mono ?_;rintro e w2 ⟨rfl,rfl⟩)
   have hbA:Below wr.heap.size wr ((wr.alloc (.cells #[.int .i64 x.op,.int .i64 x.d,.int .i64 x.a,.int .i64 x.b,.int .i64 x.t,.int .i64 x.e] 47)).alloc (.cells #[.int .i64 x.op,.int .i64 x.d,.int .i64 x.a,.int .i64 x.b,.int .i64 x.t,.int .i64 x.e] 47)):=((Below.refl _ wr).alloc (Nat.le_refl _) _).alloc (by simp) _
   have hnb:NodeBox ((wr.alloc (.cells #[.int .i64 x.op,.int .i64 x.d,.int .i64 x.a,.int .i64 x.b,.int .i64 x.t,.int .i64 x.e] 47)).alloc (.cells #[.int .i64 x.op,.int .i64 x.d,.int .i64 x.a,.int .i64 x.b,.int .i64 x.t,.int .i64 x.e] 47)) (wr.heap.size+1) x:=by
    have:=nodeBox_new (wr.alloc (.cells #[.int .i64 x.op,.int .i64 x.d,.int .i64 x.a,.int .i64 x.b,.int .i64 x.t,.int .i64 x.e] 47)) x
    rwa [World.size_alloc] at this
   generalize ((wr.alloc (.cells #[.int .i64 x.op,.int .i64 x.d,.int .i64 x.a,.int .i64 x.b,.int .i64 x.t,.int .i64 x.e] 47)).alloc (.cells #[.int .i64 x.op,.int .i64 x.d,.int .i64 x.a,.int .i64 x.b,.int .i64 x.t,.int .i64 x.e] 47))=W2 at hbA hnb ⊢
   have hsA:=hbA.size
   clear c0 c1 c2 c3 c4 c5
   refine (callsIn_wide.1 (sorted_in 5 (by decide) (wr.heap.size+1) x W2 hnb)).mono ?_
   rintro e w3 ⟨v,rfl,hown,hb3⟩
   obtain ⟨va,vc,rfl⟩:=owns_slice hown
   have hB3:Below wr.heap.size wr w3:=hbA.trans (hb3.mono hsA)
   have hR3:=(hB3.block _ hRl).trans HR.out
   have hR3l:=blk_lt hR3
   have hRc:w3.cell? ⟨w.heap.size+1,k,none⟩=some (vs[k]'(by omega)):=by
    rw [blk_cell hR3,List.getElem?_toArray];exact List.getElem?_eq_getElem _
   have hRf:=blk_frozen hR3 k
   have HO:=hide hown
   have HR3:=hide hR3
   have HB3:=hide hB3
   have e1:exl x=ints (nxl ns k):=by rw [← pick_nxl HX.out];exact exl_ok HC.out (List.mem_of_getElem? HX.out)
   rw [e1] at HO ⊢
   have hvk:k<vs.length:=by omega
   generalize vs[k]'hvk=vk at hRc
   clear hown hR3 hB3 hb3 hnb hbA e1
   go_wp2_with fail
   go_roundw
   case rel =>
    have hle:w.heap.size+1≤W2.heap.size:=by omega
    refine ⟨k+1,by omega,by go_num,⟨vs.set k (.slice va (ints (nxl ns k)).length vc),?_,by simp [hvl],fun m hm=>?_⟩,(hb.trans (HB3.out.mono hsz)).setCell (p:=⟨w.heap.size+1,k,none⟩) (by simp) _⟩
    ·rw [blk_set _ HR3.out];simp
    ·by_cases e:m=k
     ·subst e
      exact ⟨_,by rw [List.getElem?_set_self hvk],owns_set (ownsRow_base HO.out hle) HR3.out (by decide)⟩
     ·obtain ⟨u,h1,h2⟩:=HV.out m (by omega)
      exact ⟨u,by rw [List.getElem?_set_ne (fun q=>e q.symm)];exact h1,owns_set (ownsRow_below h2 HB3.out (Nat.le_refl _)) HR3.out (by decide)⟩
   case measure=>simp [intOf];omega
  ·have ek:k=ns.length:=by omega
   have HR:=hide hR
   have HV:=hide hrow
   clear hR hrow
   go_wp2
   go_ret
   refine ⟨_,rfl,⟨vs,HR.out,hvl,fun m v hv=>?_⟩,hb⟩
   obtain ⟨u,h1,h2⟩:=HV.out m (by have:=(List.getElem?_eq_some_iff.1 hv).1;omega)
   rw [h1] at hv
   cases hv
   exact ownsRow_base h2 (Nat.zero_le _)
end Go.Proofs.YtnbdnbcnlgnicaaGreat
namespace Go.Proofs.YtnbdnbcnlgnicaaGreat
structure Stk (F:(Nat→Bool)→Nat→Bool) (k:Nat) (x:List Bool) (wk:List Nat):Prop where
 on:Onway F k x
 lt:∀ n∈wk,n<k
 bad:∀ n,n<k→bat x n=true→F (bat x) n=false→n∈wk
 few:wk.length+yeses x*(k+1)≤k+k*(k+1)
structure Asks (F:(Nat→Bool)→Nat→Bool) (k:Nat) (ask:Nat→List Nat):Prop where
 lt:∀ n m,m∈ask n→m<k
 len:∀ n,(ask n).length≤k
 dep:∀ (x y:Nat→Bool) n m,(∀ j,j≠n→x j=y j)→F x m=true→F y m=false→m<k→m∈ask n
theorem yeses_yes (k:Nat):yeses (List.replicate k true)=k:=by simp [yeses]
theorem Stk.start (F:(Nat→Bool)→Nat→Bool) (k:Nat):Stk F k (List.replicate k true) (List.range k) :=
 ⟨Onway.start F k,fun n hn=>by simpa using hn,fun n hn _ _=>by simpa using hn,by rw [yeses_yes];simp⟩
theorem Stk.pop {F:(Nat→Bool)→Nat→Bool} {k:Nat} {x:List Bool} {wk:List Nat} {n:Nat} (h:Stk F k x (wk++[n])) (hn:bat x n=false∨F (bat x) n=true):Stk F k x wk:=by
 refine ⟨h.on,fun m hm=>h.lt m (by simp [hm]),fun m hm h1 h2=>?_,by have:=h.few;simp at this;omega⟩
 have:=h.bad m hm h1 h2
 simp only [List.mem_append,List.mem_singleton] at this
 rcases this with q | rfl
 ·exact q
 ·rcases hn with q | q
  ·rw [q] at h1;cases h1
  ·rw [q] at h2;cases h2
theorem Stk.turn {F:(Nat→Bool)→Nat→Bool} {k:Nat} {x:List Bool} {wk:List Nat} {n:Nat} {ask:Nat→List Nat} (hF:Mono F) (hA:Asks F k ask) (h:Stk F k x (wk++[n])) (h1:bat x n=true) (h2:F (bat x) n=false):Stk F k (x.set n false) (wk++ask n):=by
 have hn:n<k:=h.lt n (by simp)
 have hl:n<x.length:=by rw [h.on.len];exact hn
 refine ⟨h.on.set hF hn h2,fun m hm=>?_,fun m hm h3 h4=>?_,?_⟩
 ·rcases List.mem_append.1 hm with q | q
  ·exact h.lt m (by simp [q])
  ·exact hA.lt n m q
 ·have hb:bat x m=true:=by
   rw [bat_set hl] at h3;split at h3
   ·cases h3
   ·exact h3
  have hne:m≠n:=by
   rintro rfl;rw [bat_set hl] at h3;simp at h3
  cases e:F (bat x) m
  ·have:=h.bad m hm hb e
   simp only [List.mem_append,List.mem_singleton] at this
   rcases this with q | q
   ·exact List.mem_append.2 (Or.inl q)
   ·exact absurd q hne
  ·exact List.mem_append.2 (Or.inr (hA.dep (bat x) (bat (x.set n false)) n m (fun j hj=>by rw [bat_set hl,if_neg hj]) e h4 hm))
 ·have h5:=yeses_set hl h1
  have h6:=h.few
  have h7:=hA.len n
  simp only [List.length_append,List.length_singleton] at h6 ⊢
  have h8:(yeses (x.set n false)+1)*(k+1)=yeses (x.set n false)*(k+1)+(k+1):=Nat.succ_mul _ _
  rw [← h5,h8] at h6
  omega
theorem Stk.less {F:(Nat→Bool)→Nat→Bool} {k:Nat} {x:List Bool} {wk:List Nat} {n:Nat} {ask:Nat→List Nat} (hA:Asks F k ask) (h:Stk F k x (wk++[n])) (h1:bat x n=true):(wk++ask n).length+yeses (x.set n false)*(k+1)<(wk++[n]).length+yeses x*(k+1):=by
 have hl:n<x.length:=by rw [h.on.len];exact h.lt n (by simp)
 have h5:=yeses_set hl h1
 have h7:=hA.len n
 simp only [List.length_append,List.length_singleton]
 have h8:(yeses (x.set n false)+1)*(k+1)=yeses (x.set n false)*(k+1)+(k+1):=Nat.succ_mul _ _
 rw [← h5,h8]
 omega
theorem Stk.done {F:(Nat→Bool)→Nat→Bool} {k:Nat} {x:List Bool} (h:Stk F k x []):IsG F k x :=
 h.on.done fun n hn h1=>by
  cases e:F (bat x) n
  ·have:=h.bad n hn h1 e;cases this
  ·rfl
theorem nxl_len (ns:List Nd) (n:Nat):(nxl ns n).length≤ns.length:=by
 have:=List.length_filter_le (fun m=>ahB ns m n) (List.range ns.length)
 simpa [nxl] using this
theorem ahl_len (ns:List Nd) (n:Nat):(ahl ns n).length≤ns.length:=by
 have:=List.length_filter_le (fun m=>ahB ns n m) (List.range ns.length)
 simpa [ahl] using this
def ask (ns:List Nd) (f:Flw) (n:Nat):List Nat:=if f.back then ahl ns n else nxl ns n
theorem all_else {l:List Nat} {p q:Nat→Bool} (hp:l.all p=true) (hq:l.all q=false):∃ m∈l,p m≠q m:=by
 rw [List.all_eq_false] at hq
 obtain ⟨m,hm,h⟩:=hq
 rw [List.all_eq_true] at hp
 exact ⟨m,hm,fun e=>h (by rw [← e];exact hp m hm)⟩
theorem allOr_else {e:Bool} {l:List Nat} {p q:Nat→Bool} (hp:allOr e l p=true) (hq:allOr e l q=false):∃ m∈l,p m≠q m:=by
 unfold allOr at hp hq
 split at hp
 ·rename_i hl;rw [if_pos hl] at hq;rw [hp] at hq;cases hq
 ·rename_i hl;rw [if_neg hl] at hq;exact all_else hp hq
theorem asks_of (ns:List Nd) (f:Flw):Asks (sayF ns f) ns.length (ask ns f):=by
 refine ⟨fun n m hm=>?_,fun n=>?_,fun x y n m hxy h1 h2 hm=>?_⟩
 ·unfold ask at hm
  split at hm
  ·exact (mem_ahl.1 hm).1
  ·exact (mem_nxl.1 hm).1
 ·unfold ask
  split
  ·exact ahl_len ns n
  ·exact nxl_len ns n
 ·simp only [sayF,Bool.or_eq_true,Bool.and_eq_true,Bool.or_eq_false_iff,Bool.and_eq_false_iff] at h1 h2
  obtain ⟨h3,h4⟩:=h2
  rcases h1 with h1 | ⟨h5,h6⟩
  ·rw [h1] at h3;cases h3
  ·rcases h4 with h4 | h4
   ·rw [h5] at h4;cases h4
   ·obtain ⟨j,hj,hne⟩:=allOr_else h6 h4
    have ej:j=n:=Classical.byContradiction fun q=>hne (by rw [hxy j q])
    subst ej
    unfold nbs at hj
    unfold ask
    split at hj
    ·rename_i hb;rw [if_pos hb]
     exact mem_ahl.2 ⟨hm,(mem_nxl.1 hj).2⟩
    ·rename_i hb;rw [if_neg hb]
     exact mem_nxl.2 ⟨hm,(mem_ahl.1 hj).2⟩
end Go.Proofs.YtnbdnbcnlgnicaaGreat
namespace Go.Proofs.YtnbdnbcnlgnicaaGreat
open Go.RowKit Go.Shelf
set_option maxRecDepth 100000 in
theorem everyInt_any (R:Int→Bool) (g:Nat) (cb:Array Value) (a:Option Addr) (cap:Nat) (zs:List Int) (w:World) (hz:IntsAt w a zs) (hl:zs.length≤140737488351232)
 (eg:∀ args w,(callFunc g args).run Tryz.prog w=.ok (.enter g args) w)
 (hg:∀ z∈zs,∀ W:World,Below w.heap.size w W→Calls Tryz.prog g (#[.int .i64 z]++cb) W fun e w' =>e=.returned (.bool (R z))∧Below W.heap.size W w') :
 Calls Tryz.prog 65 #[.slice a zs.length cap,.func (.func g) #[] cb] w fun e w' =>e=.returned (.bool (zs.all R))∧Below w.heap.size w w' :=by
 go_enter Tryz.func65,Tryz.ntmps65
 have HG:=hide hg
 clear hg
 go_wp2
 go_loopw [9] (fun i wr=>∃ k:Nat,k≤zs.length∧i=.int .i64 k∧Hid ((zs.take k).all R=true)∧Below w.heap.size w wr) (fun i _=>zs.length-(intOf i).toNat)
 case atStart=>exact ⟨0,Nat.zero_le _,rfl,rfl,Below.refl _ _⟩
 case round =>
  obtain ⟨k,hk,rfl,hA,hb⟩:=hrel
  have hsz:=hb.size
  by_cases hlt:k<zs.length
  ·obtain ⟨z,hz'⟩:=get_lt hlt
   have hI:=hz.below hb
   obtain ⟨b,off,rfl,hbl,hc⟩:=hI.at hlt
   have c0:=hc k z hz'
   have HX:Hid (zs[k]?=some z):=hz'
   have hm:z∈zs:=List.mem_of_getElem? hz'
   clear hz' hc hI
   go_wp2_with fail
   refine (HG.out z hm _ hb).mono ?_
   rintro e w1 ⟨rfl,hb1⟩
   have hB:Below w.heap.size w w1:=hb.trans (hb1.mono hsz)
   cases hR:R z
   ·go_wp2
    go_ret
    exact ⟨ret_bool (all_false_at R HX.out hR).symm,hB⟩
   ·go_wp2
    go_roundw
    case rel=>exact ⟨k+1,by omega,by go_num,(by show _=_;rw [all_take_succ _ HX.out,hA.out,hR];rfl),hB⟩
    case measure=>simp [intOf];omega
  ·go_wp2
   go_ret
   refine ⟨ret_bool ?_,hb⟩
   rw [← hA.out,take_all_len (by omega)]
set_option maxRecDepth 100000 in
theorem everyRow_any (R:Int→Bool) (g:Nat) (cb:Array Value) (b cap:Nat) (vs:List (Option Addr × Nat × Nat)) (w:World) (hb0:b<w.heap.size) (hv:∀ (j:Nat) (v:Option Addr × Nat × Nat),vs[j]?=some v→w.cell? ⟨b,j,none⟩=some (.slice v.1 v.2.1 v.2.2)) (hl:vs.length≤140737488351232)
 (eg:∀ args w,(callFunc g args).run Tryz.prog w=.ok (.enter g args) w)
 (hg:∀ v∈vs,∀ W:World,Below w.heap.size w W→Calls Tryz.prog g (#[.slice v.1 v.2.1 v.2.2]++cb) W fun e w' =>e=.returned (.bool (R v.2.1))∧Below W.heap.size W w') :
 Calls Tryz.prog 107 #[.slice (some ⟨b,0,none⟩) vs.length cap,.func (.func g) #[] cb] w fun e w' =>e=.returned (.bool (vs.all fun v=>R v.2.1))∧Below w.heap.size w w' :=by
 go_enter Tryz.func107,Tryz.ntmps107
 have HG:=hide hg
 have HV:=hide hv
 clear hg hv
 go_wp2
 go_loopw [9] (fun i wr=>∃ k:Nat,k≤vs.length∧i=.int .i64 k∧Hid ((vs.take k).all (fun v=>R v.2.1)=true)∧Below w.heap.size w wr) (fun i _=>vs.length-(intOf i).toNat)
 case atStart=>exact ⟨0,Nat.zero_le _,rfl,rfl,Below.refl _ _⟩
 case round =>
  obtain ⟨k,hk,rfl,hA,hb⟩:=hrel
  have hsz:=hb.size
  by_cases hlt:k<vs.length
  ·obtain ⟨v,hv'⟩:=get_lt hlt
   have c0:=(hb.cell (p:=⟨b,k,none⟩) hb0).trans (HV.out k v hv')
   have hbl:b<wr.heap.size:=Nat.lt_of_lt_of_le hb0 hsz
   have HX:Hid (vs[k]?=some v):=hv'
   have hm:v∈vs:=List.mem_of_getElem? hv'
   clear hv'
   go_wp2_with fail
   refine (HG.out v hm _ hb).mono ?_
   rintro e w1 ⟨rfl,hb1⟩
   have hB:Below w.heap.size w w1:=hb.trans (hb1.mono hsz)
   cases hR:R v.2.1
   ·go_wp2
    go_ret
    exact ⟨ret_bool (all_false_at (fun v:Option Addr × Nat × Nat=>R v.2.1) HX.out hR).symm,hB⟩
   ·go_wp2
    go_roundw
    case rel=>exact ⟨k+1,by omega,by go_num,(by show _=_;rw [all_take_succ _ HX.out,hA.out,hR];rfl),hB⟩
    case measure=>simp [intOf];omega
  ·go_wp2
   go_ret
   refine ⟨ret_bool ?_,hb⟩
   rw [← hA.out,take_all_len (by omega)]
end Go.Proofs.YtnbdnbcnlgnicaaGreat
namespace Go.Proofs.YtnbdnbcnlgnicaaGreat
open Go.RowKit
def Fl (op:Int) (D A B T O E:Bool):Prop:=wi op 1 9=D∧(wi op 2 8||wi op 10 12)=A∧wi op 3 8=B∧(op != 12)=T∧(op==11)=O∧(op != 1)=E
theorem fl_cases {op:Int} (h:kn op=true):Fl op false false false true false true∨Fl op true false false true false false∨Fl op true true false true false true∨Fl op true true true true false true ∨
 Fl op true false false true false true∨Fl op false true false true false true∨Fl op false true false true true true∨Fl op false true false false false true:=by
 rcases op_cases op with (rfl | rfl | rfl | rfl | rfl | rfl | rfl | rfl | rfl | rfl | rfl | rfl | rfl) | hx
 all_goals first | (rw [(kinds_unknown hx).1] at h;cases h) | (simp only [Fl];decide)
theorem fields_fl {op:Int} {D A B T O E:Bool} (h:Fl op D A B T O E) (w:World) :
 Calls Tryz.prog 52 #[.int .i64 op] w fun e w' =>e=.returned (.tuple #[.bool D,.bool A,.bool B,.bool T,.bool O])∧w' =w:=by
 obtain ⟨rfl,rfl,rfl,rfl,rfl,rfl⟩:=h
 exact fields_any op w
theorem rng_fl {x:Nd} {D A B T O E:Bool} (r:Int) (len:Nat) (hk:kn x.op=true) (h:Fl x.op D A B T O E) :
 fieldsOk (inB r len) x=((!D||wi x.d 0 (r-1))&&(!A||wi x.a 0 (r-1))&&(!B||wi x.b 0 (r-1))&&(!T||wi x.t 1 (len-1))&&(!O||wi x.e 1 (len-1))):=by
 obtain ⟨op,d,a,b,t,e⟩:=x
 obtain ⟨h1,h2,h3,h4,h5,h6⟩:=h
 simp only at *
 have e0:inB r len (k0 op) d=(!D||wi d 0 (r-1)):=by simp only [k0,h1];cases D <;> simp [inB]
 have e1:inB r len (k1 op) a=(!A||wi a 0 (r-1)):=by
  simp only [k1];by_cases ho:op=1
  ·subst ho;subst h2;simp [inB,wi]
  ·rw [if_neg ho,h2];cases A <;> simp [inB]
 have e2:inB r len (k2 op) b=(!B||wi b 0 (r-1)):=by simp only [k2,h3];cases B <;> simp [inB]
 have e3:inB r len (k3 op) t=(!T||wi t 1 (len-1)):=by
  have:wi op 0 11=T:=by
   have hk' :=wi_iff.1 hk
   rw [← h4];by_cases ho:op=12
   ·subst ho;rfl
   ·rw [wi_true (by omega) (by omega)];simp [ho]
  simp only [k3,this];cases T <;> simp [inB]
 have e4:inB r len (k4 op) e=(!O||wi e 1 (len-1)):=by
  simp only [k4];by_cases ho:op=11
  ·subst ho;subst h5;simp [inB]
  ·rw [if_neg ho];have:O=false:=by rw [← h5];simp [ho]
   subst this;simp [inB]
 simp [fieldsOk,kvs,e0,e1,e2,e3,e4,Bool.and_assoc]
theorem frm_fl {x:Nd} {D A B T O E:Bool} (hk:kn x.op=true) (h:Fl x.op D A B T O E) :
 fieldsOk noF x=((D||x.d==0)&&(A||!E||x.a==0)&&(B||x.b==0)&&(T||x.t==0)&&(O||x.e==0)):=by
 obtain ⟨op,d,a,b,t,e⟩:=x
 obtain ⟨h1,h2,h3,h4,h5,h6⟩:=h
 simp only at *
 have e0:noF (k0 op) d=(D||d==0):=by simp only [k0,h1];cases D <;> simp [noF]
 have e1:noF (k1 op) a=(A||!E||a==0):=by
  simp only [k1];by_cases ho:op=1
  ·subst ho;subst h2;subst h6;simp [noF]
  ·have:E=true:=by rw [← h6];simp [ho]
   subst this;rw [if_neg ho,h2];cases A <;> simp [noF]
 have e2:noF (k2 op) b=(B||b==0):=by simp only [k2,h3];cases B <;> simp [noF]
 have e3:noF (k3 op) t=(T||t==0):=by
  have:wi op 0 11=T:=by
   have hk' :=wi_iff.1 hk
   rw [← h4];by_cases ho:op=12
   ·subst ho;rfl
   ·rw [wi_true (by omega) (by omega)];simp [ho]
  simp only [k3,this];cases T <;> simp [noF]
 have e4:noF (k4 op) e=(O||e==0):=by
  simp only [k4];by_cases ho:op=11
  ·subst ho;subst h5;simp [noF]
  ·rw [if_neg ho];have:O=false:=by rw [← h5];simp [ho]
   subst this;simp [noF]
 simp [fieldsOk,kvs,e0,e1,e2,e3,e4,Bool.and_assoc]
set_option maxRecDepth 100000 in
theorem checkProg_many (r:Int) (a:Option Addr) (cap:Nat) (ns:List Nd) (w:World) (h:(wi ns.length 1 256&&wi r 1 64)=false) :
 Calls Tryz.prog 23 #[.agg #[.int .i64 r,.slice a ns.length cap]] w fun e w' =>e=.returned (.int .i64 2)∧Below w.heap.size w w' :=by
 cases h1:wi ns.length 1 256
 ·go_enter Tryz.func23,Tryz.ntmps23
  go_wp2_with (go_at_call 25;refine (rwithin_any _ _ _ _).mono ?_;rintro e w' ⟨rfl,rfl⟩)
  go_ret
  exact ⟨rfl,(Below.refl _ _).alloc (Nat.le_refl _) _⟩
 ·have h2:wi r 1 64=false:=by simpa [h1] using h
  clear h
  go_enter Tryz.func23,Tryz.ntmps23
  go_wp2_with (go_at_call 25;refine (rwithin_any _ _ _ _).mono ?_;rintro e w' ⟨rfl,rfl⟩)
  go_ret
  exact ⟨rfl,(Below.refl _ _).alloc (Nat.le_refl _) _⟩
set_option maxRecDepth 100000 in
theorem checkProg_rest (r:Int) (b off cap:Nat) (ns:List Nd) (w:World) (hN:NodesAt w b off ns) (h1:wi ns.length 1 256=true) (h2:wi r 1 64=true) :
 Calls Tryz.prog 23 #[.agg #[.int .i64 r,.slice (some ⟨b,off,none⟩) ns.length cap]] w fun e w' =>e=.returned (.int .i64 (chk r ns))∧Below w.heap.size w w' :=by
 have b1:=wi_iff.1 h1
 have b2:=wi_iff.1 h2
 have hblt:=hN.lt
 have hl:ns.length≤256:=by omega
 have HC:Hid (chk r ns=if ns.all (fun x=>kn x.op) then if ns.all (fieldsOk (inB r ns.length)) then if ns.all (fieldsOk noF) then 0 else 1 else 3 else 4):=by
  show _=_;simp [chk,h1,h2]
 generalize chk r ns=C at HC ⊢
 go_enter Tryz.func23,Tryz.ntmps23
 go_wp2_with (go_at_call 25;refine (rwithin_any _ _ _ _).mono ?_;rintro e w' ⟨rfl,rfl⟩)
 clear h1 h2
 have q0:(w.alloc (.cells #[.int .i64 r,.slice (some ⟨b,off,none⟩) ns.length cap] 24)).cell? ⟨w.heap.size,0,none⟩=some (.int .i64 r):=by simp
 have q1:(w.alloc (.cells #[.int .i64 r,.slice (some ⟨b,off,none⟩) ns.length cap] 24)).cell? ⟨w.heap.size,1,none⟩=some (.slice (some ⟨b,off,none⟩) ns.length cap):=by simp
 have hN1:NodesAt (w.alloc (.cells #[.int .i64 r,.slice (some ⟨b,off,none⟩) ns.length cap] 24)) b off ns:=hN.below ((Below.refl w.heap.size w).alloc (Nat.le_refl _) _) hN.lt
 have hB1:Below w.heap.size w (w.alloc (.cells #[.int .i64 r,.slice (some ⟨b,off,none⟩) ns.length cap] 24)):=(Below.refl w.heap.size w).alloc (Nat.le_refl _) _
 have hS1:(w.alloc (.cells #[.int .i64 r,.slice (some ⟨b,off,none⟩) ns.length cap] 24)).heap.size=w.heap.size+1:=by simp
 clear hN
 generalize w.alloc (.cells #[.int .i64 r,.slice (some ⟨b,off,none⟩) ns.length cap] 24)=W at q0 q1 hN1 hB1 hS1 ⊢
 go_loopw [3] (fun i wr=>∃ k:Nat,k≤ns.length∧i=.int .i64 k∧Hid ((ns.take k).all (fun x=>kn x.op)=true)∧W=wr) (fun i _=>ns.length-(intOf i).toNat)
 case atStart=>exact ⟨0,Nat.zero_le _,rfl,rfl,rfl⟩
 case round =>
  obtain ⟨k,hk,rfl,hA,rfl⟩:=hrel
  by_cases hlt:k<ns.length
  ·obtain ⟨x,hx⟩:=get_lt hlt
   have c0:=hN1.c0 k x hx
   have HX:Hid (ns[k]?=some x):=hx
   clear hx
   cases hkn:kn x.op
   ·have hkn' :wi x.op 0 12=false:=hkn
    go_wp2_with (go_at_call 25;refine (rwithin_any _ _ _ _).mono ?_;rintro e w' ⟨rfl,rfl⟩)
    go_ret
    refine ⟨ret_int ?_,hB1⟩
    rw [HC.out,all_false_at (fun x:Nd=>kn x.op) HX.out hkn];rfl
   ·have hkn' :wi x.op 0 12=true:=hkn
    go_wp2_with (go_at_call 25;refine (rwithin_any _ _ _ _).mono ?_;rintro e w' ⟨rfl,rfl⟩)
    go_roundw
    case rel=>exact ⟨k+1,by omega,by go_num,(by show _=_;rw [all_take_succ _ HX.out,hA.out,hkn];rfl),by first | rfl | trivial⟩
    case measure=>simp [intOf];omega
  ·have hAll:Hid (ns.all (fun x=>kn x.op)=true):=by show _=_;rw [← hA.out,take_all_len (by omega)]
   clear hA
   go_wp2
   clear hlt hk
   go_loopw [4] (fun i wr=>∃ k:Nat,k≤ns.length∧i=.int .i64 k∧Hid ((ns.take k).all (fieldsOk (inB r ns.length))=true)∧Below (w.heap.size+1) W wr) (fun i _=>ns.length-(intOf i).toNat)
   case atStart=>exact ⟨0,Nat.zero_le _,rfl,rfl,Below.refl _ _⟩
   case round =>
    obtain ⟨k,hk,rfl,hA,hb⟩:=hrel
    have hsz:=hb.size
    have hB2:Below w.heap.size w wr:=hB1.trans (hb.mono (by omega))
    have hN2:=hN1.below hb (by omega)
    have hlt2:=hN2.lt
    have p0:wr.cell? ⟨w.heap.size,0,none⟩=some (.int .i64 r):=by rw [hb.cell (p:=⟨w.heap.size,0,none⟩) (by simp)];exact q0
    have p1:wr.cell? ⟨w.heap.size,1,none⟩=some (.slice (some ⟨b,off,none⟩) ns.length cap):=by rw [hb.cell (p:=⟨w.heap.size,1,none⟩) (by simp)];exact q1
    have hsw:w.heap.size<wr.heap.size:=by omega
    by_cases hlt:k<ns.length
    ·obtain ⟨x,hx⟩:=get_lt hlt
     have c0:=hN2.c0 k x hx
     have c1:=hN2.c1 k x hx
     have c2:=hN2.c2 k x hx
     have c3:=hN2.c3 k x hx
     have c4:=hN2.c4 k x hx
     have c5:=hN2.c5 k x hx
     have HX:Hid (ns[k]?=some x):=hx
     have hkn:kn x.op=true:=by have:=hAll.out;rw [List.all_eq_true] at this;exact this x (List.mem_of_getElem? hx)
     clear hx
     rcases fl_cases hkn with hf | hf | hf | hf | hf | hf | hf | hf
     all_goals
      have HS:Hid (_=_):=rng_fl r ns.length hkn hf
      have HF:=hide hf
      clear hf hkn hN1 hN2 q0 q1
      as_aux_lemma =>
       go_wp2_with (first | (go_at_call 52;refine (fields_fl HF.out _).mono ?_;rintro e w' ⟨rfl,rfl⟩) | (go_at_call 25;refine (rwithin_any _ _ _ _).mono ?_;rintro e w' ⟨rfl,rfl⟩))
       all_goals
        first
        | (go_ret
           refine ⟨ret_int ?_,hB2.alloc (by omega) _⟩
           have hff:fieldsOk (inB r ns.length) x=false:=by
            rw [HS.out]
            first
            | (simp [*];done)
            | (simp [*];simpa using ‹(!wi x.e 1 ((ns.length:Int)-1))=true›)
           rw [HC.out,hAll.out,all_false_at (fieldsOk (inB r ns.length)) HX.out hff];rfl)
        | (go_roundw
           case rel =>
            have hff:fieldsOk (inB r ns.length) x=true:=by
             rw [HS.out]
             first
             | (simp [*];done)
             | (simp [*];simpa using ‹(!wi x.e 1 ((ns.length:Int)-1))=false›)
            exact ⟨k+1,by omega,by go_num,(by show _=_;rw [all_take_succ _ HX.out,hA.out,hff];rfl),hb.alloc (by omega) _⟩
           case measure=>simp [intOf];omega)
    ·have hAll2:Hid (ns.all (fieldsOk (inB r ns.length))=true):=by show _=_;rw [← hA.out,take_all_len (by omega)]
     clear hA
     go_wp2
     clear hlt hk p0 p1 hN2
     go_loopw [11] (fun i ws=>∃ k:Nat,k≤ns.length∧i=.int .i64 k∧Hid ((ns.take k).all (fieldsOk noF)=true)∧Below (w.heap.size+1) W ws) (fun i _=>ns.length-(intOf i).toNat)
     case atStart=>exact ⟨0,Nat.zero_le _,rfl,rfl,hb⟩
     case round =>
      clear hb hsz hB2 hlt2 hsw
      obtain ⟨k,hk,rfl,hA,hb⟩:=hrel
      have hsz:=hb.size
      have hB2:Below w.heap.size w wr:=hB1.trans (hb.mono (by omega))
      have hN2:=hN1.below hb (by omega)
      have hlt2:=hN2.lt
      have p1:wr.cell? ⟨w.heap.size,1,none⟩=some (.slice (some ⟨b,off,none⟩) ns.length cap):=by rw [hb.cell (p:=⟨w.heap.size,1,none⟩) (by simp)];exact q1
      have hsw:w.heap.size<wr.heap.size:=by omega
      by_cases hlt:k<ns.length
      ·obtain ⟨x,hx⟩:=get_lt hlt
       have c0:=hN2.c0 k x hx
       have c1:=hN2.c1 k x hx
       have c2:=hN2.c2 k x hx
       have c3:=hN2.c3 k x hx
       have c4:=hN2.c4 k x hx
       have c5:=hN2.c5 k x hx
       have HX:Hid (ns[k]?=some x):=hx
       have hkn:kn x.op=true:=by have:=hAll.out;rw [List.all_eq_true] at this;exact this x (List.mem_of_getElem? hx)
       clear hx
       rcases fl_cases hkn with hf | hf | hf | hf | hf | hf | hf | hf
       all_goals
        have HS:Hid (_=_):=frm_fl hkn hf
        have HF:=hide hf
        have hE:=hf.2.2.2.2.2
        clear hf hkn hN1 hN2 q0 q1
        as_aux_lemma =>
         go_wp2_with (first | (go_at_call 52;refine (fields_fl HF.out _).mono ?_;rintro e w' ⟨rfl,rfl⟩))
         all_goals
          first
          | (go_ret
             refine ⟨ret_int ?_,hB2.alloc (by omega) _⟩
             have hff:fieldsOk noF x=false:=by
              rw [HS.out]
              first
              | (simp [*];done)
              | (simp [*];simpa using ‹(x.e != 0)=true›)
             rw [HC.out,hAll.out,hAll2.out,all_false_at (fieldsOk noF) HX.out hff];rfl)
          | (go_roundw
             case rel =>
              have hff:fieldsOk noF x=true:=by
               rw [HS.out]
               first
               | (simp [*];done)
               | (simp [*];simpa using ‹(x.e != 0)=false›)
              exact ⟨k+1,by omega,by go_num,(by show _=_;rw [all_take_succ _ HX.out,hA.out,hff];rfl),hb.alloc (by omega) _⟩
             case measure=>simp [intOf];omega)
      ·have hAll3:Hid (ns.all (fieldsOk noF)=true):=by show _=_;rw [← hA.out,take_all_len (by omega)]
       clear hA
       go_wp2
       go_ret
       refine ⟨ret_int ?_,hB2⟩
       rw [HC.out,hAll.out,hAll2.out,hAll3.out];rfl
theorem checkProg_any (r:Int) (a:Option Addr) (cap:Nat) (ns:List Nd) (w:World) (hN:SlN w a ns) :
 Calls Tryz.prog 23 #[.agg #[.int .i64 r,.slice a ns.length cap]] w fun e w' =>e=.returned (.int .i64 (chk r ns))∧Below w.heap.size w w' :=by
 cases h:(wi ns.length 1 256&&wi r 1 64)
 ·have e:chk r ns=2:=by simp [chk,h]
  rw [e];exact checkProg_many r a cap ns w h
 ·rw [Bool.and_eq_true] at h
  obtain ⟨b,off,rfl,hN'⟩:=hN.some (by have:=(wi_iff.1 h.1).1;omega)
  exact checkProg_rest r b off cap ns w hN' h.1 h.2
end Go.Proofs.YtnbdnbcnlgnicaaGreat
namespace Go.Proofs.YtnbdnbcnlgnicaaGreat
open Go.RowKit Go.Shelf
def fits (ns:List Nd) (f:Flw):Bool:=f.gen.length==ns.length&&(f.pass.length==ns.length&&(f.plus.length==ns.length&&f.lets.length==ns.length))
def fchk (r:Int) (ns:List Nd) (f:Flw):Int:=if chk r ns=0 then (if fits ns f then 0 else 1) else chk r ns
theorem fchk_zero {r:Int} {ns:List Nd} {f:Flw} (h:fchk r ns f=0):chk r ns=0∧f.gen.length=ns.length∧f.pass.length=ns.length∧f.plus.length=ns.length∧f.lets.length=ns.length:=by
 unfold fchk at h
 split at h
 ·rename_i hc
  split at h
  ·rename_i hf
   simp only [fits,Bool.and_eq_true,beq_iff_eq] at hf
   exact ⟨hc,hf.1,hf.2.1,hf.2.2.1,hf.2.2.2⟩
  ·cases h
 ·rename_i hc;exact absurd h hc
theorem fits1_any (va:Option Addr) (vn vc B:Nat) (a:Option Addr) (k cap:Nat) (w:World) (h1:w.cell? ⟨B,1,none⟩=some (.slice a k cap)) (hB:B<w.heap.size) :
 Calls Tryz.prog 106 #[.slice va vn vc,.pointer (some ⟨B,0,none⟩)] w fun e w' =>e=.returned (.bool (decide ((vn:Int)=(k:Int))))∧w' =w:=by
 go_enter Tryz.func106,Tryz.ntmps106
 go_wp2
 go_ret
 exact ⟨rfl,rfl⟩
set_option maxRecDepth 100000 in
theorem fcheck_any (r:Int) (a:Option Addr) (cap:Nat) (ns:List Nd) (f:Flw) (a1 a2 a3 a4:Option Addr) (c1 c2 c3 c4:Nat) (w:World) (hN:SlN w a ns) :
 Calls Tryz.prog 80 #[.agg #[.int .i64 r,.slice a ns.length cap],.agg #[.bool f.back,.bool f.empty,.slice a1 f.gen.length c1,.slice a2 f.pass.length c2,.slice a3 f.plus.length c3,.slice a4 f.lets.length c4]] w fun e w' =>e=.returned (.int .i64 (fchk r ns f))∧Below w.heap.size w w' :=by
 have eg1:∀ args w,(callFunc 106 args).run Tryz.prog w=.ok (.enter 106 args) w:=enters_of Tryz.func106 (by kernel_rfl) rfl
 have HF:Hid (fchk r ns f=if chk r ns=0 then (if fits ns f then 0 else 1) else chk r ns):=rfl
 generalize fchk r ns f=C at HF ⊢
 have HN:=hide hN
 clear hN
 go_enter Tryz.func80,Tryz.ntmps80
 go_upto_region 1 with fail
 have hb0:Below w.heap.size w ((w.alloc (.cells #[.int .i64 r,.slice a ns.length cap] 24)).alloc (.cells #[.bool f.back,.bool f.empty,.slice a1 f.gen.length c1,.slice a2 f.pass.length c2,.slice a3 f.plus.length c3,.slice a4 f.lets.length c4] 79)):=((Below.refl _ w).alloc (Nat.le_refl _) _).alloc (by simp) _
 have hp0:((w.alloc (.cells #[.int .i64 r,.slice a ns.length cap] 24)).alloc (.cells #[.bool f.back,.bool f.empty,.slice a1 f.gen.length c1,.slice a2 f.pass.length c2,.slice a3 f.plus.length c3,.slice a4 f.lets.length c4] 79)).heap[w.heap.size]?=some (.cells #[.int .i64 r,.slice a ns.length cap] 24 (0,0)):=(Below.heap_alloc _ _ _ (by simp)).trans (World.alloc_heap_new w _)
 have hq0:((w.alloc (.cells #[.int .i64 r,.slice a ns.length cap] 24)).alloc (.cells #[.bool f.back,.bool f.empty,.slice a1 f.gen.length c1,.slice a2 f.pass.length c2,.slice a3 f.plus.length c3,.slice a4 f.lets.length c4] 79)).heap[w.heap.size+1]?=some (.cells #[.bool f.back,.bool f.empty,.slice a1 f.gen.length c1,.slice a2 f.pass.length c2,.slice a3 f.plus.length c3,.slice a4 f.lets.length c4] 79 (0,0)):=by
  have:=World.alloc_heap_new (w.alloc (.cells #[.int .i64 r,.slice a ns.length cap] 24)) (.cells #[.bool f.back,.bool f.empty,.slice a1 f.gen.length c1,.slice a2 f.pass.length c2,.slice a3 f.plus.length c3,.slice a4 f.lets.length c4] 79)
  rwa [World.size_alloc] at this
 generalize ((w.alloc (.cells #[.int .i64 r,.slice a ns.length cap] 24)).alloc (.cells #[.bool f.back,.bool f.empty,.slice a1 f.gen.length c1,.slice a2 f.pass.length c2,.slice a3 f.plus.length c3,.slice a4 f.lets.length c4] 79))=W0 at hb0 hp0 hq0 ⊢
 have p0:=blk_cell hp0 0
 have p1:=blk_cell hp0 1
 have pl:=blk_lt hp0
 have ql:=blk_lt hq0
 simp at p0 p1
 have HB0:=hide hb0
 have HQ:=hide hq0
 have HP:=hide hp0
 clear hb0 hp0 hq0
 go_upto_region 2 with (go_at_call 61;refine (check_any r a cap ns _ (HN.out.below (HB0.out.mono (Nat.le_refl _)))).mono ?_;rintro e w1 ⟨rfl,hb1⟩)
 have hB1:Below w.heap.size w w1:=HB0.out.trans (hb1.mono HB0.out.size)
 have hp1:=(hb1.block _ pl).trans HP.out
 have hq1:=(hb1.block _ ql).trans HQ.out
 by_cases hc:chk r ns=0
 ·rw [hc]
  have z0:=blk_cell hp1 0
  have z1:=blk_cell hp1 1
  have y0:=blk_cell hq1 0
  have y1:=blk_cell hq1 1
  have y2:=blk_cell hq1 2
  have y3:=blk_cell hq1 3
  have y4:=blk_cell hq1 4
  have y5:=blk_cell hq1 5
  simp at z0 z1 y0 y1 y2 y3 y4 y5
  have pl1:=blk_lt hp1
  have ql1:=blk_lt hq1
  clear p0 p1 pl ql hb1 hp1 hq1
  go_wp2_with fail
  have hbA:Below w1.heap.size w1 (w1.alloc (.cells #[.slice a1 f.gen.length c1,.slice a2 f.pass.length c2,.slice a3 f.plus.length c3,.slice a4 f.lets.length c4] 27)):=(Below.refl _ w1).alloc (Nat.le_refl _) _
  have hn:(w1.alloc (.cells #[.slice a1 f.gen.length c1,.slice a2 f.pass.length c2,.slice a3 f.plus.length c3,.slice a4 f.lets.length c4] 27)).heap[w1.heap.size]?=some (.cells #[.slice a1 f.gen.length c1,.slice a2 f.pass.length c2,.slice a3 f.plus.length c3,.slice a4 f.lets.length c4] 27 (0,0)):=World.alloc_heap_new w1 _
  generalize (w1.alloc (.cells #[.slice a1 f.gen.length c1,.slice a2 f.pass.length c2,.slice a3 f.plus.length c3,.slice a4 f.lets.length c4] 27))=W2 at hbA hn ⊢
  have hcell:=(hbA.cell (p:=⟨w.heap.size,1,none⟩) pl1).trans z1
  have hpl2:w.heap.size<W2.heap.size:=Nat.lt_of_lt_of_le pl1 hbA.size
  refine (everyRow_any (fun z=>decide (z=(ns.length:Int))) 106 #[.pointer (some ⟨w.heap.size,0,none⟩)] w1.heap.size 4 [(a1,f.gen.length,c1),(a2,f.pass.length,c2),(a3,f.plus.length,c3),(a4,f.lets.length,c4)] W2 (blk_lt hn) ?_ (by simp) eg1 ?_).mono ?_
  ·intro j v hj
   rw [blk_cell hn]
   match j,hj with
   | 0,hj | 1,hj | 2,hj | 3,hj=>simp at hj;subst hj;rfl
   | j+4,hj=>simp at hj
  ·intro v hv W hW
   refine (fits1_any v.1 v.2.1 v.2.2 w.heap.size a ns.length cap W ((hW.cell (p:=⟨w.heap.size,1,none⟩) hpl2).trans hcell) (Nat.lt_of_lt_of_le hpl2 hW.size)).mono ?_
   rintro e w' ⟨rfl,rfl⟩
   exact ⟨rfl,Below.refl _ _⟩
  rintro e w3 ⟨rfl,hb3⟩
  have hB3:Below w.heap.size w w3:=hB1.trans ((hbA.trans (hb3.mono hbA.size)).mono hB1.size)
  have he:([(a1,f.gen.length,c1),(a2,f.pass.length,c2),(a3,f.plus.length,c3),(a4,f.lets.length,c4)].all fun v:Option Addr × Nat × Nat=>decide ((v.2.1:Int)=(ns.length:Int)))=fits ns f:=by
   have hd:∀ k:Nat,decide ((k:Int)=(ns.length:Int))=(k==ns.length):=fun k=>by
    by_cases q:k=ns.length
    ·simp [q]
    ·have q2:¬ ((k:Int)=(ns.length:Int)):=by omega
     simp [q,q2]
   simp only [List.all_cons,List.all_nil,Bool.and_true,hd,fits]
  rw [he]
  clear he hn hbA hb3 hcell z0 z1 y0 y1 y2 y3 y4 y5
  cases hf:fits ns f
  ·go_wp2
   go_ret
   refine ⟨ret_int ?_,hB3⟩
   rw [HF.out,if_pos hc,hf];rfl
  ·go_wp2
   go_ret
   refine ⟨ret_int ?_,hB3⟩
   rw [HF.out,if_pos hc,hf];rfl
 ·have HC:=hide hc
  clear p0 p1 pl ql hb1 hp1 hq1
  have hne:¬ (chk r ns=0):=hc
  go_wp2
  go_ret
  refine ⟨ret_int ?_,hB1⟩
  rw [HF.out,if_neg HC.out]
structure QM (w:World) (ns:List Nd) (f:Flw) (a1 a2 a3 a4:Option Addr) (rb1 rb2:Nat):Prop where
 g:BoolsAt w a1 f.gen
 p:BoolsAt w a2 f.pass
 q:BoolsAt w a3 f.plus
 l:BoolsAt w a4 f.lets
 gl:f.gen.length=ns.length
 pl:f.pass.length=ns.length
 ql:f.plus.length=ns.length
 ll:f.lets.length=ns.length
 asked:RowsR w rb1 ns.length (nbs ns f)
 askers:RowsR w rb2 ns.length (ask ns f)
theorem QM.below {w w' :World} {ns:List Nd} {f:Flw} {a1 a2 a3 a4:Option Addr} {rb1 rb2:Nat} (h:QM w ns f a1 a2 a3 a4 rb1 rb2) (hb:Below w.heap.size w w'):QM w' ns f a1 a2 a3 a4 rb1 rb2 :=
 ⟨h.g.below hb,h.p.below hb,h.q.below hb,h.l.below hb,h.gl,h.pl,h.ql,h.ll,h.asked.below hb,h.askers.below hb⟩
theorem bools_cell {w:World} {a:Option Addr} {zs:List Bool} (h:BoolsAt w a zs) {k:Nat} (hk:k<zs.length):∃ b off,a=some ⟨b,off,none⟩∧b<w.heap.size∧w.cell? ⟨b,off+k,none⟩=some (.bool (bat zs k)):=by
 obtain ⟨b,off,rfl,h1,h2⟩:=h.at hk
 exact ⟨b,off,rfl,h1,h2 k _ (get_bat hk)⟩
set_option maxRecDepth 100000 in
theorem around1_any (m B X k:Nat) (pl lt x:List Bool) (a3 a4 xa:Option Addr) (c3 c4 xc:Nat) (w:World) (h4:w.cell? ⟨B,4,none⟩=some (.slice a3 pl.length c3)) (h5:w.cell? ⟨B,5,none⟩=some (.slice a4 lt.length c4)) (hX:w.cell? ⟨X,0,none⟩=some (.slice xa x.length xc))
 (hB:B<w.heap.size) (hXl:X<w.heap.size) (hp:BoolsAt w a3 pl) (hl:BoolsAt w a4 lt) (hx:BoolsAt w xa x) (e1:pl.length=k) (e2:lt.length=k) (e3:x.length=k) (hm:m<k) :
 Calls Tryz.prog 118 #[.int .i64 m,.pointer (some ⟨B,0,none⟩),.pointer (some ⟨X,0,none⟩)] w fun e w' =>e=.returned (.bool (bat pl m||(bat lt m&&bat x m)))∧w' =w:=by
 obtain ⟨b3,o3,rfl,l3,v3⟩:=bools_cell hp (k:=m) (by omega)
 obtain ⟨b4,o4,rfl,l4,v4⟩:=bools_cell hl (k:=m) (by omega)
 obtain ⟨bx,ox,rfl,lx,vx⟩:=bools_cell hx (k:=m) (by omega)
 rw [e1] at h4
 rw [e2] at h5
 rw [e3] at hX
 have hmi:(m:Int)<(k:Int):=by omega
 generalize bat pl m=P at v3 ⊢
 generalize bat lt m=L at v4 ⊢
 generalize bat x m=Z at vx ⊢
 clear hp hl hx e1 e2 e3
 cases P
 ·cases L
  ·go_enter Tryz.func118,Tryz.ntmps118
   go_wp2
   go_ret
   exact ⟨rfl,rfl⟩
  ·go_enter Tryz.func118,Tryz.ntmps118
   go_wp2
   go_ret
   exact ⟨ret_bool (by simp),rfl⟩
 ·go_enter Tryz.func118,Tryz.ntmps118
  go_wp2
  go_ret
  exact ⟨rfl,rfl⟩
set_option maxRecDepth 100000 in
theorem around_any (ns:List Nd) (f:Flw) (a1 a2 a3 a4 xa:Option Addr) (c1 c2 c3 c4 xc rb1 rb2 n:Nat) (x:List Bool) (w:World) (hQ:QM w ns f a1 a2 a3 a4 rb1 rb2) (hx:BoolsAt w xa x) (hxl:x.length=ns.length) (hn:n<ns.length) (hl:ns.length≤256) :
 Calls Tryz.prog 108 #[.agg #[.bool f.back,.bool f.empty,.slice a1 f.gen.length c1,.slice a2 f.pass.length c2,.slice a3 f.plus.length c3,.slice a4 f.lets.length c4,.slice (some ⟨rb1,0,none⟩) ns.length ns.length,.slice (some ⟨rb2,0,none⟩) ns.length ns.length],.int .i64 n,.slice xa x.length xc] w fun e w' =>e=.returned (.bool (allOr f.empty (nbs ns f n) fun m=>bat f.plus m||(bat f.lets m&&bat x m)))∧Below w.heap.size w w' :=by
 have eg:∀ args w,(callFunc 118 args).run Tryz.prog w=.ok (.enter 118 args) w:=enters_of Tryz.func118 (by kernel_rfl) rfl
 obtain ⟨ra,rc,hrc,hI⟩:=hQ.asked.row n hn
 have hrl:=hQ.asked.lt
 have hni:(n:Int)<(ns.length:Int):=by omega
 have hbA:Below w.heap.size w ((w.alloc (.cells #[.bool f.back,.bool f.empty,.slice a1 f.gen.length c1,.slice a2 f.pass.length c2,.slice a3 f.plus.length c3,.slice a4 f.lets.length c4,.slice (some ⟨rb1,0,none⟩) ns.length ns.length,.slice (some ⟨rb2,0,none⟩) ns.length ns.length] 98)).alloc (.cells #[.slice xa x.length xc] 27)):=((Below.refl _ w).alloc (Nat.le_refl _) _).alloc (by simp) _
 have hq:((w.alloc (.cells #[.bool f.back,.bool f.empty,.slice a1 f.gen.length c1,.slice a2 f.pass.length c2,.slice a3 f.plus.length c3,.slice a4 f.lets.length c4,.slice (some ⟨rb1,0,none⟩) ns.length ns.length,.slice (some ⟨rb2,0,none⟩) ns.length ns.length] 98)).alloc (.cells #[.slice xa x.length xc] 27)).heap[w.heap.size]?=some (.cells #[.bool f.back,.bool f.empty,.slice a1 f.gen.length c1,.slice a2 f.pass.length c2,.slice a3 f.plus.length c3,.slice a4 f.lets.length c4,.slice (some ⟨rb1,0,none⟩) ns.length ns.length,.slice (some ⟨rb2,0,none⟩) ns.length ns.length] 98 (0,0)):=(Below.heap_alloc _ _ _ (by simp)).trans (World.alloc_heap_new w _)
 have hxb:((w.alloc (.cells #[.bool f.back,.bool f.empty,.slice a1 f.gen.length c1,.slice a2 f.pass.length c2,.slice a3 f.plus.length c3,.slice a4 f.lets.length c4,.slice (some ⟨rb1,0,none⟩) ns.length ns.length,.slice (some ⟨rb2,0,none⟩) ns.length ns.length] 98)).alloc (.cells #[.slice xa x.length xc] 27)).heap[w.heap.size+1]?=some (.cells #[.slice xa x.length xc] 27 (0,0)):=by
  have:=World.alloc_heap_new (w.alloc (.cells #[.bool f.back,.bool f.empty,.slice a1 f.gen.length c1,.slice a2 f.pass.length c2,.slice a3 f.plus.length c3,.slice a4 f.lets.length c4,.slice (some ⟨rb1,0,none⟩) ns.length ns.length,.slice (some ⟨rb2,0,none⟩) ns.length ns.length] 98)) (.cells #[.slice xa x.length xc] 27)
  rwa [World.size_alloc] at this
 have HQ:=hide hQ
 have HX:=hide hx
 have HXL:=hide hxl
 clear hQ hx hxl
 go_enter Tryz.func108,Tryz.ntmps108
 go_upto_region 1 with fail
 generalize ((w.alloc (.cells #[.bool f.back,.bool f.empty,.slice a1 f.gen.length c1,.slice a2 f.pass.length c2,.slice a3 f.plus.length c3,.slice a4 f.lets.length c4,.slice (some ⟨rb1,0,none⟩) ns.length ns.length,.slice (some ⟨rb2,0,none⟩) ns.length ns.length] 98)).alloc (.cells #[.slice xa x.length xc] 27))=W at hbA hq hxb ⊢
 have q0:=blk_cell hq 0
 have q1:=blk_cell hq 1
 have q2:=blk_cell hq 2
 have q3:=blk_cell hq 3
 have q4:=blk_cell hq 4
 have q5:=blk_cell hq 5
 have q6:=blk_cell hq 6
 have q7:=blk_cell hq 7
 have x0:=blk_cell hxb 0
 simp at q0 q1 q2 q3 q4 q5 q6 q7 x0
 have ql:=blk_lt hq
 have xl:=blk_lt hxb
 have hrW:=(hbA.cell (p:=⟨rb1,n,none⟩) hrl).trans hrc
 have hrlW:=Nat.lt_of_lt_of_le hrl hbA.size
 have HW:=hide hbA
 clear hq hxb hrc hrl hbA
 by_cases hz:(nbs ns f n).length=0
 ·have he:nbs ns f n=[]:=List.eq_nil_of_length_eq_zero hz
  rw [hz] at hrW
  have HE:=hide he
  clear he
  go_wp2
  go_ret
  refine ⟨ret_bool ?_,HW.out⟩
  rw [HE.out];rfl
 ·have hnz:((nbs ns f n).length:Int)≠0:=by omega
  have HI:=hide hI
  clear hI
  go_wp2_with fail
  have hev:=everyInt_any (fun z=>bat f.plus z.toNat||(bat f.lets z.toNat&&bat x z.toNat)) 118 #[.pointer (some ⟨w.heap.size,0,none⟩),.pointer (some ⟨w.heap.size+1,0,none⟩)] ra rc (ints (nbs ns f n)) W (HI.out.below HW.out) (by
   rw [ints_len]
   have:(nbs ns f n).length≤ns.length:=by
    unfold nbs;split
    ·exact nxl_len ns n
    ·exact ahl_len ns n
   omega) eg (fun z hzm U hU=>by
   obtain ⟨m,hm,rfl⟩:=List.mem_map.1 hzm
   have hmk:m<ns.length:=by
    unfold nbs at hm;split at hm
    ·exact (mem_nxl.1 hm).1
    ·exact (mem_ahl.1 hm).1
   have hWU:Below w.heap.size w U:=HW.out.trans (hU.mono HW.out.size)
   have hQU:=HQ.out.below hWU
   refine (around1_any m w.heap.size (w.heap.size+1) ns.length f.plus f.lets x a3 a4 xa c3 c4 xc U ((hU.cell (p:=⟨w.heap.size,4,none⟩) ql).trans q4) ((hU.cell (p:=⟨w.heap.size,5,none⟩) ql).trans q5) ((hU.cell (p:=⟨w.heap.size+1,0,none⟩) xl).trans x0) (Nat.lt_of_lt_of_le ql hU.size) (Nat.lt_of_lt_of_le xl hU.size) hQU.q hQU.l (HX.out.below hWU) hQU.ql hQU.ll HXL.out hmk).mono ?_
   rintro e w' ⟨rfl,rfl⟩
   exact ⟨ret_bool (by simp),Below.refl _ _⟩)
  rw [ints_len] at hev
  refine hev.mono ?_
  rintro e w1 ⟨rfl,hb1⟩
  clear hev
  have hB1:Below w.heap.size w w1:=HW.out.trans (hb1.mono HW.out.size)
  have hres:((ints (nbs ns f n)).all fun z=>bat f.plus z.toNat||(bat f.lets z.toNat&&bat x z.toNat))=allOr f.empty (nbs ns f n) fun m=>bat f.plus m||(bat f.lets m&&bat x m):=by
   have hne:(nbs ns f n).isEmpty=false:=by
    cases hh:nbs ns f n with
    | nil=>rw [hh] at hz;simp at hz
    | cons _ _=>rfl
   simp [allOr,hne,ints,List.all_map,Function.comp_def]
  rw [hres]
  clear hres
  generalize hR:(allOr f.empty (nbs ns f n) fun m=>bat f.plus m||(bat f.lets m&&bat x m))=R
  have HR:=hide hR
  clear hR
  go_wp2
  go_ret
  exact ⟨ret_bool HR.out.symm,hB1⟩
set_option maxRecDepth 100000 in
theorem says_any (ns:List Nd) (f:Flw) (a1 a2 a3 a4 xa:Option Addr) (c1 c2 c3 c4 xc rb1 rb2 n:Nat) (x:List Bool) (w:World) (hQ:QM w ns f a1 a2 a3 a4 rb1 rb2) (hx:BoolsAt w xa x) (hxl:x.length=ns.length) (hn:n<ns.length) (hl:ns.length≤256) :
 Calls Tryz.prog 82 #[.agg #[.bool f.back,.bool f.empty,.slice a1 f.gen.length c1,.slice a2 f.pass.length c2,.slice a3 f.plus.length c3,.slice a4 f.lets.length c4,.slice (some ⟨rb1,0,none⟩) ns.length ns.length,.slice (some ⟨rb2,0,none⟩) ns.length ns.length],.int .i64 n,.slice xa x.length xc] w fun e w' =>e=.returned (.bool (sayF ns f (bat x) n))∧Below w.heap.size w w' :=by
 have hni:(n:Int)<(ns.length:Int):=by omega
 obtain ⟨b1,o1,rfl,l1,v1⟩:=bools_cell hQ.g (k:=n) (by rw [hQ.gl];exact hn)
 obtain ⟨b2,o2,rfl,l2,v2⟩:=bools_cell hQ.p (k:=n) (by rw [hQ.pl];exact hn)
 have hbA:Below w.heap.size w (w.alloc (.cells #[.bool f.back,.bool f.empty,.slice (some ⟨b1,o1,none⟩) f.gen.length c1,.slice (some ⟨b2,o2,none⟩) f.pass.length c2,.slice a3 f.plus.length c3,.slice a4 f.lets.length c4,.slice (some ⟨rb1,0,none⟩) ns.length ns.length,.slice (some ⟨rb2,0,none⟩) ns.length ns.length] 98)):=(Below.refl _ w).alloc (Nat.le_refl _) _
 have hq:(w.alloc (.cells #[.bool f.back,.bool f.empty,.slice (some ⟨b1,o1,none⟩) f.gen.length c1,.slice (some ⟨b2,o2,none⟩) f.pass.length c2,.slice a3 f.plus.length c3,.slice a4 f.lets.length c4,.slice (some ⟨rb1,0,none⟩) ns.length ns.length,.slice (some ⟨rb2,0,none⟩) ns.length ns.length] 98)).heap[w.heap.size]?=some (.cells #[.bool f.back,.bool f.empty,.slice (some ⟨b1,o1,none⟩) f.gen.length c1,.slice (some ⟨b2,o2,none⟩) f.pass.length c2,.slice a3 f.plus.length c3,.slice a4 f.lets.length c4,.slice (some ⟨rb1,0,none⟩) ns.length ns.length,.slice (some ⟨rb2,0,none⟩) ns.length ns.length] 98 (0,0)):=World.alloc_heap_new w _
 have hS:sayF ns f (bat x) n=(bat f.gen n||(bat f.pass n&&allOr f.empty (nbs ns f n) fun m=>bat f.plus m||(bat f.lets m&&bat x m))):=rfl
 have har:=fun W (h:Below w.heap.size w W)=>around_any ns f (some ⟨b1,o1,none⟩) (some ⟨b2,o2,none⟩) a3 a4 xa c1 c2 c3 c4 xc rb1 rb2 n x W (hQ.below h) (hx.below h) hxl hn hl
 have hgi:(n:Int)<(f.gen.length:Int):=by rw [hQ.gl];exact hni
 have hpi:(n:Int)<(f.pass.length:Int):=by rw [hQ.pl];exact hni
 rw [hS]
 generalize (allOr f.empty (nbs ns f n) fun m=>bat f.plus m||(bat f.lets m&&bat x m))=R at har ⊢
 have HA:=hide har
 clear har hS hQ hx hxl
 go_enter Tryz.func82,Tryz.ntmps82
 go_upto_region 1 with fail
 generalize (w.alloc (.cells #[.bool f.back,.bool f.empty,.slice (some ⟨b1,o1,none⟩) f.gen.length c1,.slice (some ⟨b2,o2,none⟩) f.pass.length c2,.slice a3 f.plus.length c3,.slice a4 f.lets.length c4,.slice (some ⟨rb1,0,none⟩) ns.length ns.length,.slice (some ⟨rb2,0,none⟩) ns.length ns.length] 98))=W at hbA hq ⊢
 have q0:=blk_cell hq 0
 have q1:=blk_cell hq 1
 have q2:=blk_cell hq 2
 have q3:=blk_cell hq 3
 have q4:=blk_cell hq 4
 have q5:=blk_cell hq 5
 have q6:=blk_cell hq 6
 have q7:=blk_cell hq 7
 simp at q0 q1 q2 q3 q4 q5 q6 q7
 have ql:=blk_lt hq
 replace v1:=(hbA.cell (p:=⟨b1,o1+n,none⟩) l1).trans v1
 replace v2:=(hbA.cell (p:=⟨b2,o2+n,none⟩) l2).trans v2
 replace l1:=Nat.lt_of_lt_of_le l1 hbA.size
 replace l2:=Nat.lt_of_lt_of_le l2 hbA.size
 have HW:=hide hbA
 clear hq hbA
 cases hg:bat f.gen n
 ·rw [hg] at v1
  cases hp:bat f.pass n
  ·rw [hp] at v2
   go_wp2
   go_ret
   exact ⟨ret_bool (by simp [hg,hp]),HW.out⟩
  ·rw [hp] at v2
   go_wp2_with fail
   refine (HA.out W HW.out).mono ?_
   rintro e w1 ⟨rfl,hb1⟩
   go_wp2
   go_ret
   exact ⟨ret_bool (by simp [hg,hp]),HW.out.trans (hb1.mono HW.out.size)⟩
 ·rw [hg] at v1
  go_wp2
  go_ret
  exact ⟨ret_bool (by simp [hg]),HW.out⟩
theorem cells_set {w:World} {b k:Nat} (h:k≠b) (o:Nat) (v:Value):(w.setCell ⟨b,o,none⟩ v).heap[k]?=w.heap[k]? :=Below.heap_setCell _ _ _ _ h
set_option maxRecDepth 100000 in
theorem layOut_any (r:Int) (b off cap:Nat) (ns:List Nd) (f:Flw) (a1 a2 a3 a4:Option Addr) (c1 c2 c3 c4:Nat) (w:World) (hN:NodesAt w b off ns) (hc:fchk r ns f=0) (h1:BoolsAt w a1 f.gen) (h2:BoolsAt w a2 f.pass) (h3:BoolsAt w a3 f.plus) (h4:BoolsAt w a4 f.lets) :
 Calls Tryz.prog 81 #[.agg #[.int .i64 r,.slice (some ⟨b,off,none⟩) ns.length cap],.agg #[.bool f.back,.bool f.empty,.slice a1 f.gen.length c1,.slice a2 f.pass.length c2,.slice a3 f.plus.length c3,.slice a4 f.lets.length c4]] w fun e w' =>∃ rb1 rb2,e=.returned (.agg #[.bool f.back,.bool f.empty,.slice a1 f.gen.length c1,.slice a2 f.pass.length c2,.slice a3 f.plus.length c3,.slice a4 f.lets.length c4,.slice (some ⟨rb1,0,none⟩) ns.length ns.length,.slice (some ⟨rb2,0,none⟩) ns.length ns.length])∧QM w' ns f a1 a2 a3 a4 rb1 rb2∧Below w.heap.size w w' :=by
 have HC:=hide (fchk_zero hc)
 have HN:=hide hN
 have HBO:=hide (And.intro h1 (And.intro h2 (And.intro h3 h4)))
 clear hc hN h1 h2 h3 h4
 have hbA:Below w.heap.size w (((w.alloc (.cells #[.int .i64 r,.slice (some ⟨b,off,none⟩) ns.length cap] 24)).alloc (.cells #[.bool f.back,.bool f.empty,.slice a1 f.gen.length c1,.slice a2 f.pass.length c2,.slice a3 f.plus.length c3,.slice a4 f.lets.length c4] 79)).alloc (.cells #[.bool false,.bool false,.slice none 0 0,.slice none 0 0,.slice none 0 0,.slice none 0 0,.slice none 0 0,.slice none 0 0] 98)):=(((Below.refl _ w).alloc (Nat.le_refl _) _).alloc (by simp) _).alloc (by simp;omega) _
 have hp:(((w.alloc (.cells #[.int .i64 r,.slice (some ⟨b,off,none⟩) ns.length cap] 24)).alloc (.cells #[.bool f.back,.bool f.empty,.slice a1 f.gen.length c1,.slice a2 f.pass.length c2,.slice a3 f.plus.length c3,.slice a4 f.lets.length c4] 79)).alloc (.cells #[.bool false,.bool false,.slice none 0 0,.slice none 0 0,.slice none 0 0,.slice none 0 0,.slice none 0 0,.slice none 0 0] 98)).heap[w.heap.size]?=some (.cells #[.int .i64 r,.slice (some ⟨b,off,none⟩) ns.length cap] 24 (0,0)):=(Below.heap_alloc _ _ _ (by simp;omega)).trans ((Below.heap_alloc _ _ _ (by simp)).trans (World.alloc_heap_new w _))
 have hf:(((w.alloc (.cells #[.int .i64 r,.slice (some ⟨b,off,none⟩) ns.length cap] 24)).alloc (.cells #[.bool f.back,.bool f.empty,.slice a1 f.gen.length c1,.slice a2 f.pass.length c2,.slice a3 f.plus.length c3,.slice a4 f.lets.length c4] 79)).alloc (.cells #[.bool false,.bool false,.slice none 0 0,.slice none 0 0,.slice none 0 0,.slice none 0 0,.slice none 0 0,.slice none 0 0] 98)).heap[w.heap.size+1]?=some (.cells #[.bool f.back,.bool f.empty,.slice a1 f.gen.length c1,.slice a2 f.pass.length c2,.slice a3 f.plus.length c3,.slice a4 f.lets.length c4] 79 (0,0)):=by
  have:=World.alloc_heap_new (w.alloc (.cells #[.int .i64 r,.slice (some ⟨b,off,none⟩) ns.length cap] 24)) (.cells #[.bool f.back,.bool f.empty,.slice a1 f.gen.length c1,.slice a2 f.pass.length c2,.slice a3 f.plus.length c3,.slice a4 f.lets.length c4] 79)
  rw [World.size_alloc] at this
  exact (Below.heap_alloc _ _ _ (by simp)).trans this
 have hq:(((w.alloc (.cells #[.int .i64 r,.slice (some ⟨b,off,none⟩) ns.length cap] 24)).alloc (.cells #[.bool f.back,.bool f.empty,.slice a1 f.gen.length c1,.slice a2 f.pass.length c2,.slice a3 f.plus.length c3,.slice a4 f.lets.length c4] 79)).alloc (.cells #[.bool false,.bool false,.slice none 0 0,.slice none 0 0,.slice none 0 0,.slice none 0 0,.slice none 0 0,.slice none 0 0] 98)).heap[w.heap.size+1+1]?=some (.cells #[.bool false,.bool false,.slice none 0 0,.slice none 0 0,.slice none 0 0,.slice none 0 0,.slice none 0 0,.slice none 0 0] 98 (0,0)):=by
  have:=World.alloc_heap_new ((w.alloc (.cells #[.int .i64 r,.slice (some ⟨b,off,none⟩) ns.length cap] 24)).alloc (.cells #[.bool f.back,.bool f.empty,.slice a1 f.gen.length c1,.slice a2 f.pass.length c2,.slice a3 f.plus.length c3,.slice a4 f.lets.length c4] 79)) (.cells #[.bool false,.bool false,.slice none 0 0,.slice none 0 0,.slice none 0 0,.slice none 0 0,.slice none 0 0,.slice none 0 0] 98)
  rwa [World.size_alloc,World.size_alloc] at this
 go_enter Tryz.func81,Tryz.ntmps81
 go_upto_region 1 with fail
 generalize (((w.alloc (.cells #[.int .i64 r,.slice (some ⟨b,off,none⟩) ns.length cap] 24)).alloc (.cells #[.bool f.back,.bool f.empty,.slice a1 f.gen.length c1,.slice a2 f.pass.length c2,.slice a3 f.plus.length c3,.slice a4 f.lets.length c4] 79)).alloc (.cells #[.bool false,.bool false,.slice none 0 0,.slice none 0 0,.slice none 0 0,.slice none 0 0,.slice none 0 0,.slice none 0 0] 98))=W at hbA hp hf hq ⊢
 have y0:=blk_cell hf 0
 simp at y0
 have fl:=blk_lt hf
 have HH:Hid (∀ u:World,Below W.heap.size W u→u.heap[w.heap.size]?=some (.cells #[.int .i64 r,.slice (some ⟨b,off,none⟩) ns.length cap] 24 (0,0))∧u.heap[w.heap.size+1]?=some (.cells #[.bool f.back,.bool f.empty,.slice a1 f.gen.length c1,.slice a2 f.pass.length c2,.slice a3 f.plus.length c3,.slice a4 f.lets.length c4] 79 (0,0))∧u.heap[w.heap.size+1+1]?=some (.cells #[.bool false,.bool false,.slice none 0 0,.slice none 0 0,.slice none 0 0,.slice none 0 0,.slice none 0 0,.slice none 0 0] 98 (0,0))):=fun u h=>⟨(h.block _ (blk_lt hp)).trans hp,(h.block _ (blk_lt hf)).trans hf,(h.block _ (blk_lt hq)).trans hq⟩
 have HS:Hid (∀ u:World,Below W.heap.size W u→u.cell? ⟨w.heap.size,0,none⟩=some (.int .i64 r)∧u.cell? ⟨w.heap.size,1,none⟩=some (.slice (some ⟨b,off,none⟩) ns.length cap)∧u.cell? ⟨w.heap.size+1,0,none⟩=some (.bool f.back)∧u.cell? ⟨w.heap.size+1,1,none⟩=some (.bool f.empty)∧u.cell? ⟨w.heap.size+1,2,none⟩=some (.slice a1 f.gen.length c1)∧u.cell? ⟨w.heap.size+1,3,none⟩=some (.slice a2 f.pass.length c2)∧u.cell? ⟨w.heap.size+1,4,none⟩=some (.slice a3 f.plus.length c3)∧u.cell? ⟨w.heap.size+1,5,none⟩=some (.slice a4 f.lets.length c4)):=fun u h=>by
  obtain ⟨k1,k2,_⟩:=HH.out u h
  refine ⟨?_,?_,?_,?_,?_,?_,?_,?_⟩
  ·rw [blk_cell k1];rfl
  ·rw [blk_cell k1];rfl
  ·rw [blk_cell k2];rfl
  ·rw [blk_cell k2];rfl
  ·rw [blk_cell k2];rfl
  ·rw [blk_cell k2];rfl
  ·rw [blk_cell k2];rfl
  ·rw [blk_cell k2];rfl
 have HNN:Hid (∀ u:World,Below W.heap.size W u→NodesAt u b off ns):=fun u h=>HN.out.below (hbA.trans (h.mono hbA.size)) HN.out.lt
 have HW:=hide hbA
 have hCC:=HC.out.1
 clear hp hf hq hbA
 have XF:Hid (∀ u:World,Below W.heap.size W u→∀ k,k<8→u.cell? ⟨w.heap.size+1+1,k,none⟩=#[.bool false,.bool false,.slice none 0 0,.slice none 0 0,.slice none 0 0,.slice none 0 0,.slice none 0 0,.slice none 0 0][k]?∧u.frozen? ⟨w.heap.size+1+1,k,none⟩=false):=fun u h k _=>⟨blk_cell (HH.out u h).2.2 k,blk_frozen (HH.out u h).2.2 k⟩
 have HSet:Hid (∀ (u:World) (v0 v1 v2 v3 v4 v5 v6 v7:Value),(u.cell? ⟨w.heap.size,0,none⟩=some (.int .i64 r)∧u.cell? ⟨w.heap.size,1,none⟩=some (.slice (some ⟨b,off,none⟩) ns.length cap)∧u.cell? ⟨w.heap.size+1,0,none⟩=some (.bool f.back)∧u.cell? ⟨w.heap.size+1,1,none⟩=some (.bool f.empty)∧u.cell? ⟨w.heap.size+1,2,none⟩=some (.slice a1 f.gen.length c1)∧u.cell? ⟨w.heap.size+1,3,none⟩=some (.slice a2 f.pass.length c2)∧u.cell? ⟨w.heap.size+1,4,none⟩=some (.slice a3 f.plus.length c3)∧u.cell? ⟨w.heap.size+1,5,none⟩=some (.slice a4 f.lets.length c4))→(((((((((u).setCell ⟨w.heap.size+1+1,0,none⟩ v0).setCell ⟨w.heap.size+1+1,1,none⟩ v1).setCell ⟨w.heap.size+1+1,2,none⟩ v2).setCell ⟨w.heap.size+1+1,3,none⟩ v3).setCell ⟨w.heap.size+1+1,4,none⟩ v4).setCell ⟨w.heap.size+1+1,5,none⟩ v5).setCell ⟨w.heap.size+1+1,6,none⟩ v6).setCell ⟨w.heap.size+1+1,7,none⟩ v7).cell? ⟨w.heap.size,0,none⟩=some (.int .i64 r)∧(((((((((u).setCell ⟨w.heap.size+1+1,0,none⟩ v0).setCell ⟨w.heap.size+1+1,1,none⟩ v1).setCell ⟨w.heap.size+1+1,2,none⟩ v2).setCell ⟨w.heap.size+1+1,3,none⟩ v3).setCell ⟨w.heap.size+1+1,4,none⟩ v4).setCell ⟨w.heap.size+1+1,5,none⟩ v5).setCell ⟨w.heap.size+1+1,6,none⟩ v6).setCell ⟨w.heap.size+1+1,7,none⟩ v7).cell? ⟨w.heap.size,1,none⟩=some (.slice (some ⟨b,off,none⟩) ns.length cap)∧(((((((((u).setCell ⟨w.heap.size+1+1,0,none⟩ v0).setCell ⟨w.heap.size+1+1,1,none⟩ v1).setCell ⟨w.heap.size+1+1,2,none⟩ v2).setCell ⟨w.heap.size+1+1,3,none⟩ v3).setCell ⟨w.heap.size+1+1,4,none⟩ v4).setCell ⟨w.heap.size+1+1,5,none⟩ v5).setCell ⟨w.heap.size+1+1,6,none⟩ v6).setCell ⟨w.heap.size+1+1,7,none⟩ v7).cell? ⟨w.heap.size+1,0,none⟩=some (.bool f.back)∧(((((((((u).setCell ⟨w.heap.size+1+1,0,none⟩ v0).setCell ⟨w.heap.size+1+1,1,none⟩ v1).setCell ⟨w.heap.size+1+1,2,none⟩ v2).setCell ⟨w.heap.size+1+1,3,none⟩ v3).setCell ⟨w.heap.size+1+1,4,none⟩ v4).setCell ⟨w.heap.size+1+1,5,none⟩ v5).setCell ⟨w.heap.size+1+1,6,none⟩ v6).setCell ⟨w.heap.size+1+1,7,none⟩ v7).cell? ⟨w.heap.size+1,1,none⟩=some (.bool f.empty)∧(((((((((u).setCell ⟨w.heap.size+1+1,0,none⟩ v0).setCell ⟨w.heap.size+1+1,1,none⟩ v1).setCell ⟨w.heap.size+1+1,2,none⟩ v2).setCell ⟨w.heap.size+1+1,3,none⟩ v3).setCell ⟨w.heap.size+1+1,4,none⟩ v4).setCell ⟨w.heap.size+1+1,5,none⟩ v5).setCell ⟨w.heap.size+1+1,6,none⟩ v6).setCell ⟨w.heap.size+1+1,7,none⟩ v7).cell? ⟨w.heap.size+1,2,none⟩=some (.slice a1 f.gen.length c1)∧(((((((((u).setCell ⟨w.heap.size+1+1,0,none⟩ v0).setCell ⟨w.heap.size+1+1,1,none⟩ v1).setCell ⟨w.heap.size+1+1,2,none⟩ v2).setCell ⟨w.heap.size+1+1,3,none⟩ v3).setCell ⟨w.heap.size+1+1,4,none⟩ v4).setCell ⟨w.heap.size+1+1,5,none⟩ v5).setCell ⟨w.heap.size+1+1,6,none⟩ v6).setCell ⟨w.heap.size+1+1,7,none⟩ v7).cell? ⟨w.heap.size+1,3,none⟩=some (.slice a2 f.pass.length c2)∧(((((((((u).setCell ⟨w.heap.size+1+1,0,none⟩ v0).setCell ⟨w.heap.size+1+1,1,none⟩ v1).setCell ⟨w.heap.size+1+1,2,none⟩ v2).setCell ⟨w.heap.size+1+1,3,none⟩ v3).setCell ⟨w.heap.size+1+1,4,none⟩ v4).setCell ⟨w.heap.size+1+1,5,none⟩ v5).setCell ⟨w.heap.size+1+1,6,none⟩ v6).setCell ⟨w.heap.size+1+1,7,none⟩ v7).cell? ⟨w.heap.size+1,4,none⟩=some (.slice a3 f.plus.length c3)∧(((((((((u).setCell ⟨w.heap.size+1+1,0,none⟩ v0).setCell ⟨w.heap.size+1+1,1,none⟩ v1).setCell ⟨w.heap.size+1+1,2,none⟩ v2).setCell ⟨w.heap.size+1+1,3,none⟩ v3).setCell ⟨w.heap.size+1+1,4,none⟩ v4).setCell ⟨w.heap.size+1+1,5,none⟩ v5).setCell ⟨w.heap.size+1+1,6,none⟩ v6).setCell ⟨w.heap.size+1+1,7,none⟩ v7).cell? ⟨w.heap.size+1,5,none⟩=some (.slice a4 f.lets.length c4)):=fun u v0 v1 v2 v3 v4 v5 v6 v7 h=>by
  have e:∀ (B k:Nat),B≠w.heap.size+1+1→(((((((((u).setCell ⟨w.heap.size+1+1,0,none⟩ v0).setCell ⟨w.heap.size+1+1,1,none⟩ v1).setCell ⟨w.heap.size+1+1,2,none⟩ v2).setCell ⟨w.heap.size+1+1,3,none⟩ v3).setCell ⟨w.heap.size+1+1,4,none⟩ v4).setCell ⟨w.heap.size+1+1,5,none⟩ v5).setCell ⟨w.heap.size+1+1,6,none⟩ v6).setCell ⟨w.heap.size+1+1,7,none⟩ v7).cell? ⟨B,k,none⟩=u.cell? ⟨B,k,none⟩:=fun B k h=>World.cell?_of_block (by
   show (((((((((u).setCell ⟨w.heap.size+1+1,0,none⟩ v0).setCell ⟨w.heap.size+1+1,1,none⟩ v1).setCell ⟨w.heap.size+1+1,2,none⟩ v2).setCell ⟨w.heap.size+1+1,3,none⟩ v3).setCell ⟨w.heap.size+1+1,4,none⟩ v4).setCell ⟨w.heap.size+1+1,5,none⟩ v5).setCell ⟨w.heap.size+1+1,6,none⟩ v6).setCell ⟨w.heap.size+1+1,7,none⟩ v7).heap[B]?=u.heap[B]?
   simp only [cells_set h])
  simp only [e w.heap.size _ (by omega),e (w.heap.size+1) _ (by omega)]
  exact h
 have hor:f.back=false∨f.back=true:=by cases f.back <;> simp
 rcases hor with hback | hback
 ·rw [hback] at y0
  have HK:=hide hback
  clear hback
  go_upto_region 3 with fail
  go_region_held3 (fun u=>u.cell? ⟨w.heap.size,0,none⟩=some (.int .i64 r)∧u.cell? ⟨w.heap.size,1,none⟩=some (.slice (some ⟨b,off,none⟩) ns.length cap)∧u.cell? ⟨w.heap.size+1,0,none⟩=some (.bool f.back)∧u.cell? ⟨w.heap.size+1,1,none⟩=some (.bool f.empty)∧u.cell? ⟨w.heap.size+1,2,none⟩=some (.slice a1 f.gen.length c1)∧u.cell? ⟨w.heap.size+1,3,none⟩=some (.slice a2 f.pass.length c2)∧u.cell? ⟨w.heap.size+1,4,none⟩=some (.slice a3 f.plus.length c3)∧u.cell? ⟨w.heap.size+1,5,none⟩=some (.slice a4 f.lets.length c4)) (first
   | (with_reducible refine HSet.out _ _ _ _ _ _ _ _ _ ?_;exact HS.out _ hB2)
   | (with_reducible refine HS.out _ ?_;first | with_reducible exact hB2 | with_reducible exact hB1 | with_reducible exact (Below.refl _ W).drew | with_reducible exact (Below.refl _ W))) (first
   | (go_at_call 67;refine (linksAhead_rows r b off cap ns _ (by first | exact HNN.out _ (Below.refl _ W).drew | exact HNN.out _ (Below.refl _ W)) hCC).mono ?_;rintro e wa ⟨rb1,rfl,hR1,hba⟩;have hB1:Below W.heap.size W wa:=(by first | exact (Below.refl _ W).drew.trans hba | exact hba))
   | (go_at_call 66;refine (linksNext_rows r b off cap ns _ (HNN.out _ hB1) hCC).mono ?_;rintro e wb ⟨rb2,rfl,hR2,hbb⟩;have hB2:Below W.heap.size W wb:=hB1.trans (hbb.mono hB1.size);have x0:=XF.out _ hB2 0 (by decide);have x1:=XF.out _ hB2 1 (by decide);have x2:=XF.out _ hB2 2 (by decide);have x3:=XF.out _ hB2 3 (by decide);have x4:=XF.out _ hB2 4 (by decide);have x5:=XF.out _ hB2 5 (by decide);have x6:=XF.out _ hB2 6 (by decide);have x7:=XF.out _ hB2 7 (by decide);simp at x0 x1 x2 x3 x4 x5 x6 x7;have xl:=blk_lt (HH.out _ hB2).2.2))
  have k0:=blk_set (i:=0) (.bool f.back) (HH.out _ hB2).2.2
  have k1:=blk_set (i:=1) (.bool f.empty) k0
  have k2:=blk_set (i:=2) (.slice a1 f.gen.length c1) k1
  have k3:=blk_set (i:=3) (.slice a2 f.pass.length c2) k2
  have k4:=blk_set (i:=4) (.slice a3 f.plus.length c3) k3
  have k5:=blk_set (i:=5) (.slice a4 f.lets.length c4) k4
  have k6:=blk_set (i:=6) (.slice (some ⟨rb1,0,none⟩) ns.length ns.length) k5
  have k7:=blk_set (i:=7) (.slice (some ⟨rb2,0,none⟩) ns.length ns.length) k6
  have T1:=(((((((((hR1.below hbb).set (o:=0) (u:=.bool f.back) (HH.out _ hB2).2.2 (by decide) (by decide)).set (o:=1) (u:=.bool f.empty) k0 (by decide) (by decide)).set (o:=2) (u:=.slice a1 f.gen.length c1) k1 (by decide) (by decide)).set (o:=3) (u:=.slice a2 f.pass.length c2) k2 (by decide) (by decide)).set (o:=4) (u:=.slice a3 f.plus.length c3) k3 (by decide) (by decide)).set (o:=5) (u:=.slice a4 f.lets.length c4) k4 (by decide) (by decide)).set (o:=6) (u:=.slice (some ⟨rb1,0,none⟩) ns.length ns.length) k5 (by decide) (by decide)).set (o:=7) (u:=.slice (some ⟨rb2,0,none⟩) ns.length ns.length) k6 (by decide) (by decide))
  have T2:=((((((((hR2.set (o:=0) (u:=.bool f.back) (HH.out _ hB2).2.2 (by decide) (by decide)).set (o:=1) (u:=.bool f.empty) k0 (by decide) (by decide)).set (o:=2) (u:=.slice a1 f.gen.length c1) k1 (by decide) (by decide)).set (o:=3) (u:=.slice a2 f.pass.length c2) k2 (by decide) (by decide)).set (o:=4) (u:=.slice a3 f.plus.length c3) k3 (by decide) (by decide)).set (o:=5) (u:=.slice a4 f.lets.length c4) k4 (by decide) (by decide)).set (o:=6) (u:=.slice (some ⟨rb1,0,none⟩) ns.length ns.length) k5 (by decide) (by decide)).set (o:=7) (u:=.slice (some ⟨rb2,0,none⟩) ns.length ns.length) k6 (by decide) (by decide))
  have hBf:=((((((((HW.out.trans (hB2.mono HW.out.size)).setCell (p:=⟨w.heap.size+1+1,0,none⟩) (by simp;omega) (.bool f.back)).setCell (p:=⟨w.heap.size+1+1,1,none⟩) (by simp;omega) (.bool f.empty)).setCell (p:=⟨w.heap.size+1+1,2,none⟩) (by simp;omega) (.slice a1 f.gen.length c1)).setCell (p:=⟨w.heap.size+1+1,3,none⟩) (by simp;omega) (.slice a2 f.pass.length c2)).setCell (p:=⟨w.heap.size+1+1,4,none⟩) (by simp;omega) (.slice a3 f.plus.length c3)).setCell (p:=⟨w.heap.size+1+1,5,none⟩) (by simp;omega) (.slice a4 f.lets.length c4)).setCell (p:=⟨w.heap.size+1+1,6,none⟩) (by simp;omega) (.slice (some ⟨rb1,0,none⟩) ns.length ns.length)).setCell (p:=⟨w.heap.size+1+1,7,none⟩) (by simp;omega) (.slice (some ⟨rb2,0,none⟩) ns.length ns.length)
  clear k0 k1 k2 k3 k4 k5 k6 x0 x1 x2 x3 x4 x5 x6 x7 hR1 hR2
  simp only [List.setIfInBounds_toArray,List.set_cons_zero,List.set_cons_succ] at k7
  go_wp2_with fail
  generalize (((((((((wb).setCell ⟨w.heap.size+1+1,0,none⟩ (.bool f.back)).setCell ⟨w.heap.size+1+1,1,none⟩ (.bool f.empty)).setCell ⟨w.heap.size+1+1,2,none⟩ (.slice a1 f.gen.length c1)).setCell ⟨w.heap.size+1+1,3,none⟩ (.slice a2 f.pass.length c2)).setCell ⟨w.heap.size+1+1,4,none⟩ (.slice a3 f.plus.length c3)).setCell ⟨w.heap.size+1+1,5,none⟩ (.slice a4 f.lets.length c4)).setCell ⟨w.heap.size+1+1,6,none⟩ (.slice (some ⟨rb1,0,none⟩) ns.length ns.length)).setCell ⟨w.heap.size+1+1,7,none⟩ (.slice (some ⟨rb2,0,none⟩) ns.length ns.length))=Wf at k7 T1 T2 hBf ⊢
  have y0:=blk_cell k7 0
  have y1:=blk_cell k7 1
  have y2:=blk_cell k7 2
  have y3:=blk_cell k7 3
  have y4:=blk_cell k7 4
  have y5:=blk_cell k7 5
  have y6:=blk_cell k7 6
  have y7:=blk_cell k7 7
  simp at y0 y1 y2 y3 y4 y5 y6 y7
  obtain ⟨h1,h2,h3,h4⟩:=HBO.out
  have hw:∀ u,Below w.heap.size w u→BoolsAt u a1 f.gen∧BoolsAt u a2 f.pass∧BoolsAt u a3 f.plus∧BoolsAt u a4 f.lets:=fun u h=>⟨h1.below h,h2.below h,h3.below h,h4.below h⟩
  obtain ⟨g1,g2,g3,g4⟩:=hw _ hBf
  refine bodyPost_ret (v:=(.agg #[.bool f.back,.bool f.empty,.slice a1 f.gen.length c1,.slice a2 f.pass.length c2,.slice a3 f.plus.length c3,.slice a4 f.lets.length c4,.slice (some ⟨rb1,0,none⟩) ns.length ns.length,.slice (some ⟨rb2,0,none⟩) ns.length ns.length])) (by simp [results,Tryz.results81,go_sem,y0,y1,y2,y3,y4,y5,y6,y7]) rfl ⟨rb1,rb2,rfl,⟨g1,g2,g3,g4,HC.out.2.1,HC.out.2.2.1,HC.out.2.2.2.1,HC.out.2.2.2.2,?_,?_⟩,hBf⟩
  ·have e:nbs ns f=ahl ns:=by funext n;simp [nbs,HK.out]
   rw [e];exact T1.read
  ·have e:ask ns f=nxl ns:=by funext n;simp [ask,HK.out]
   rw [e];exact T2.read
 ·rw [hback] at y0
  have HK:=hide hback
  clear hback
  go_upto_region 2 with fail
  go_region_held3 (fun u=>u.cell? ⟨w.heap.size,0,none⟩=some (.int .i64 r)∧u.cell? ⟨w.heap.size,1,none⟩=some (.slice (some ⟨b,off,none⟩) ns.length cap)∧u.cell? ⟨w.heap.size+1,0,none⟩=some (.bool f.back)∧u.cell? ⟨w.heap.size+1,1,none⟩=some (.bool f.empty)∧u.cell? ⟨w.heap.size+1,2,none⟩=some (.slice a1 f.gen.length c1)∧u.cell? ⟨w.heap.size+1,3,none⟩=some (.slice a2 f.pass.length c2)∧u.cell? ⟨w.heap.size+1,4,none⟩=some (.slice a3 f.plus.length c3)∧u.cell? ⟨w.heap.size+1,5,none⟩=some (.slice a4 f.lets.length c4)) (first
   | (with_reducible refine HSet.out _ _ _ _ _ _ _ _ _ ?_;exact HS.out _ hB2)
   | (with_reducible refine HS.out _ ?_;first | with_reducible exact hB2 | with_reducible exact hB1 | with_reducible exact (Below.refl _ W).drew | with_reducible exact (Below.refl _ W))) (first
   | (go_at_call 66;refine (linksNext_rows r b off cap ns _ (by first | exact HNN.out _ (Below.refl _ W).drew | exact HNN.out _ (Below.refl _ W)) hCC).mono ?_;rintro e wa ⟨rb1,rfl,hR1,hba⟩;have hB1:Below W.heap.size W wa:=(by first | exact (Below.refl _ W).drew.trans hba | exact hba))
   | (go_at_call 67;refine (linksAhead_rows r b off cap ns _ (HNN.out _ hB1) hCC).mono ?_;rintro e wb ⟨rb2,rfl,hR2,hbb⟩;have hB2:Below W.heap.size W wb:=hB1.trans (hbb.mono hB1.size);have x0:=XF.out _ hB2 0 (by decide);have x1:=XF.out _ hB2 1 (by decide);have x2:=XF.out _ hB2 2 (by decide);have x3:=XF.out _ hB2 3 (by decide);have x4:=XF.out _ hB2 4 (by decide);have x5:=XF.out _ hB2 5 (by decide);have x6:=XF.out _ hB2 6 (by decide);have x7:=XF.out _ hB2 7 (by decide);simp at x0 x1 x2 x3 x4 x5 x6 x7;have xl:=blk_lt (HH.out _ hB2).2.2))
  have k0:=blk_set (i:=0) (.bool f.back) (HH.out _ hB2).2.2
  have k1:=blk_set (i:=1) (.bool f.empty) k0
  have k2:=blk_set (i:=2) (.slice a1 f.gen.length c1) k1
  have k3:=blk_set (i:=3) (.slice a2 f.pass.length c2) k2
  have k4:=blk_set (i:=4) (.slice a3 f.plus.length c3) k3
  have k5:=blk_set (i:=5) (.slice a4 f.lets.length c4) k4
  have k6:=blk_set (i:=6) (.slice (some ⟨rb1,0,none⟩) ns.length ns.length) k5
  have k7:=blk_set (i:=7) (.slice (some ⟨rb2,0,none⟩) ns.length ns.length) k6
  have T1:=(((((((((hR1.below hbb).set (o:=0) (u:=.bool f.back) (HH.out _ hB2).2.2 (by decide) (by decide)).set (o:=1) (u:=.bool f.empty) k0 (by decide) (by decide)).set (o:=2) (u:=.slice a1 f.gen.length c1) k1 (by decide) (by decide)).set (o:=3) (u:=.slice a2 f.pass.length c2) k2 (by decide) (by decide)).set (o:=4) (u:=.slice a3 f.plus.length c3) k3 (by decide) (by decide)).set (o:=5) (u:=.slice a4 f.lets.length c4) k4 (by decide) (by decide)).set (o:=6) (u:=.slice (some ⟨rb1,0,none⟩) ns.length ns.length) k5 (by decide) (by decide)).set (o:=7) (u:=.slice (some ⟨rb2,0,none⟩) ns.length ns.length) k6 (by decide) (by decide))
  have T2:=((((((((hR2.set (o:=0) (u:=.bool f.back) (HH.out _ hB2).2.2 (by decide) (by decide)).set (o:=1) (u:=.bool f.empty) k0 (by decide) (by decide)).set (o:=2) (u:=.slice a1 f.gen.length c1) k1 (by decide) (by decide)).set (o:=3) (u:=.slice a2 f.pass.length c2) k2 (by decide) (by decide)).set (o:=4) (u:=.slice a3 f.plus.length c3) k3 (by decide) (by decide)).set (o:=5) (u:=.slice a4 f.lets.length c4) k4 (by decide) (by decide)).set (o:=6) (u:=.slice (some ⟨rb1,0,none⟩) ns.length ns.length) k5 (by decide) (by decide)).set (o:=7) (u:=.slice (some ⟨rb2,0,none⟩) ns.length ns.length) k6 (by decide) (by decide))
  have hBf:=((((((((HW.out.trans (hB2.mono HW.out.size)).setCell (p:=⟨w.heap.size+1+1,0,none⟩) (by simp;omega) (.bool f.back)).setCell (p:=⟨w.heap.size+1+1,1,none⟩) (by simp;omega) (.bool f.empty)).setCell (p:=⟨w.heap.size+1+1,2,none⟩) (by simp;omega) (.slice a1 f.gen.length c1)).setCell (p:=⟨w.heap.size+1+1,3,none⟩) (by simp;omega) (.slice a2 f.pass.length c2)).setCell (p:=⟨w.heap.size+1+1,4,none⟩) (by simp;omega) (.slice a3 f.plus.length c3)).setCell (p:=⟨w.heap.size+1+1,5,none⟩) (by simp;omega) (.slice a4 f.lets.length c4)).setCell (p:=⟨w.heap.size+1+1,6,none⟩) (by simp;omega) (.slice (some ⟨rb1,0,none⟩) ns.length ns.length)).setCell (p:=⟨w.heap.size+1+1,7,none⟩) (by simp;omega) (.slice (some ⟨rb2,0,none⟩) ns.length ns.length)
  clear k0 k1 k2 k3 k4 k5 k6 x0 x1 x2 x3 x4 x5 x6 x7 hR1 hR2
  simp only [List.setIfInBounds_toArray,List.set_cons_zero,List.set_cons_succ] at k7
  go_wp2_with fail
  generalize (((((((((wb).setCell ⟨w.heap.size+1+1,0,none⟩ (.bool f.back)).setCell ⟨w.heap.size+1+1,1,none⟩ (.bool f.empty)).setCell ⟨w.heap.size+1+1,2,none⟩ (.slice a1 f.gen.length c1)).setCell ⟨w.heap.size+1+1,3,none⟩ (.slice a2 f.pass.length c2)).setCell ⟨w.heap.size+1+1,4,none⟩ (.slice a3 f.plus.length c3)).setCell ⟨w.heap.size+1+1,5,none⟩ (.slice a4 f.lets.length c4)).setCell ⟨w.heap.size+1+1,6,none⟩ (.slice (some ⟨rb1,0,none⟩) ns.length ns.length)).setCell ⟨w.heap.size+1+1,7,none⟩ (.slice (some ⟨rb2,0,none⟩) ns.length ns.length))=Wf at k7 T1 T2 hBf ⊢
  have y0:=blk_cell k7 0
  have y1:=blk_cell k7 1
  have y2:=blk_cell k7 2
  have y3:=blk_cell k7 3
  have y4:=blk_cell k7 4
  have y5:=blk_cell k7 5
  have y6:=blk_cell k7 6
  have y7:=blk_cell k7 7
  simp at y0 y1 y2 y3 y4 y5 y6 y7
  obtain ⟨h1,h2,h3,h4⟩:=HBO.out
  have hw:∀ u,Below w.heap.size w u→BoolsAt u a1 f.gen∧BoolsAt u a2 f.pass∧BoolsAt u a3 f.plus∧BoolsAt u a4 f.lets:=fun u h=>⟨h1.below h,h2.below h,h3.below h,h4.below h⟩
  obtain ⟨g1,g2,g3,g4⟩:=hw _ hBf
  refine bodyPost_ret (v:=(.agg #[.bool f.back,.bool f.empty,.slice a1 f.gen.length c1,.slice a2 f.pass.length c2,.slice a3 f.plus.length c3,.slice a4 f.lets.length c4,.slice (some ⟨rb1,0,none⟩) ns.length ns.length,.slice (some ⟨rb2,0,none⟩) ns.length ns.length])) (by simp [results,Tryz.results81,go_sem,y0,y1,y2,y3,y4,y5,y6,y7]) rfl ⟨rb1,rb2,rfl,⟨g1,g2,g3,g4,HC.out.2.1,HC.out.2.2.1,HC.out.2.2.2.1,HC.out.2.2.2.2,?_,?_⟩,hBf⟩
  ·have e:nbs ns f=nxl ns:=by funext n;simp [nbs,HK.out]
   rw [e];exact T1.read
  ·have e:ask ns f=ahl ns:=by funext n;simp [ask,HK.out]
   rw [e];exact T2.read
theorem info_boolF:(Tryz.prog.info? 4).map (fun i=>(i.zero,i.size,i.bytes))=some (some (.bool false),1,1):=by kernel_rfl
theorem made_boolsF (n:Nat):madeCells #[Value.bool false] n=((List.replicate n false).map Value.bool).toArray:=by
 apply Array.ext'
 rw [toList_madeCells_one]
 simp
def trues (cs:Array Value):Nat:=(cs.toList.filter fun v=>match v with | .bool true=>true | _=>false).length
def truesAt (w:World) (b:Nat):Nat:=match w.heap[b]? with | some (.cells cs _ _)=>trues cs | _=>0
def lenV:Value→Nat | .slice _ n _=>n | _=>0
theorem trues_map (x:List Bool):trues (x.map Value.bool).toArray=yeses x:=by
 simp only [trues,yeses]
 induction x with
 | nil=>rfl
 | cons a l ih =>
  cases a
  ·simpa using ih
  ·simpa using ih
theorem truesAt_of {w:World} {b:Nat} {x:List Bool} {t:TypeId} {fr:Nat × Nat} (h:w.heap[b]?=some (.cells (x.map Value.bool).toArray t fr)):truesAt w b=yeses x:=by
 simp only [truesAt,h];exact trues_map x
theorem repl_set {k L:Nat} (h:k<L):(List.replicate k true++List.replicate (L-k) false).set k true=List.replicate (k+1) true++List.replicate (L-(k+1)) false:=by
 obtain ⟨d,hd⟩:∃ d,L-k=d+1:=⟨L-k-1,by omega⟩
 have e:L-(k+1)=d:=by omega
 rw [hd,e,List.replicate_succ,List.set_append_right _ _ (by simp)]
 simp [List.replicate_succ']
theorem repl_get {k L:Nat} (h:k<L):((List.replicate k true++List.replicate (L-k) false).map Value.bool).toArray[k]?=some (.bool false):=by
 obtain ⟨d,hd⟩:∃ d,L-k=d+1:=⟨L-k-1,by omega⟩
 rw [hd,List.getElem?_toArray,List.getElem?_map,List.getElem?_append_right (by simp)]
 simp
theorem ints_snoc (l:List Nat) (k:Nat):ints (l++[k])=ints l++[(k:Int)]:=by simp [ints]
theorem ints_append (l m:List Nat):ints (l++m)=ints l++ints m:=by simp [ints]
theorem owns_pop {w:World} {base:Nat} {e:TypeId} {g cap n:Nat} {xs:List Value} {v:Value} (h:w.ownsRow base e 1 (.slice (some ⟨g,0,none⟩) (n+1) cap) (n+1) (xs++[v])):w.ownsRow base e 1 (.slice (some ⟨g,0,none⟩) n cap) n xs:=by
 obtain ⟨hl,h⟩:=h
 simp only [List.length_append,List.length_singleton,Nat.mul_one] at hl
 refine ⟨by omega,?_⟩
 rcases h with ⟨q,_⟩ | ⟨g', cap', cur,q,a1,a2,a3,a4,a5,a6⟩
 ·cases q
 ·cases q
  refine Or.inr ⟨g,cap,cur,rfl,a1,a2,by omega,a4,a5,?_⟩
  simp only [Nat.mul_one] at a6 ⊢
  have h2:=congrArg (List.take n) a6
  rw [List.take_take,Nat.min_eq_left (by omega)] at h2
  rw [h2,List.take_append_of_le_length (by omega),List.take_of_length_le (by omega)]
theorem append_zero (w:World) (ty:TypeId) (base a:Option Addr) (sLen sCap c:Nat) (hle:sLen≤sCap) :
 (Builtin.append_ #[54,54] ty #[.slice base sLen sCap,.slice a 0 c]).run Tryz.prog w=.ok (.slice base sLen sCap) w:=by
 obtain ⟨i0,hi,hz0,hz1,hz2⟩:=info_parts info_int
 refine run_append_nothing w 54 54 ty 3 i0 Tryz.underlying54 hi base sLen sCap hle _ ⟨Or.inl ⟨_,Tryz.underlying54⟩,fun w' =>by simp [Builtin.lenOf],?_,?_,by simp,by simp⟩
 ·cases a <;> simp [Builtin.firstCells,loadCells,loadCellsFrom]
 ·cases a <;> simp [Builtin.firstCells,loadCells,loadCellsFrom]
theorem wpList_append_zero {w:World} {ops:Array Oper} {rest:List Oper} {o:Oper} {a:Act} {Q:Exit→Act→World→Prop} (hgd:o.guard=none) (s x:Operand)
 (ho:o.op=.call { callee:=.builtin .append,args:=#[s,x],argTypes:=#[54,54] }) (base ra:Option Addr) (sLen sCap c:Nat) (hs:a.eval s=.slice base sLen sCap) (hx:a.eval x=.slice ra 0 c) (hle:sLen≤sCap)
 (h:wpList Tryz.prog ops Q rest (a.put o.dst (.slice base sLen sCap)) w):wpList Tryz.prog ops Q (o::rest) a w:=by
 refine wpList_plain hgd fun K hK=>?_
 have hr:=append_zero w o.type base ra sLen sCap c hle
 unfold Oper.wp execOp
 simp only [ho,resolve,invoke,builtin,Sem.run_bind,Sem.run_pure,Result.andThen_ok,List.map_toArray,List.map_cons,List.map_nil,hs,hx,hr]
 exact hK _ _ h
theorem addr_add (b o j:Nat):(⟨b,o,none⟩:Addr).add j=⟨b,o+j,none⟩:=by
 cases j <;> simp [Addr.add]
end Go.Proofs.YtnbdnbcnlgnicaaGreat
