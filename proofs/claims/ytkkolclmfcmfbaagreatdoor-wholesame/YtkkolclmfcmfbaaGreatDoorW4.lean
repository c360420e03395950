/-
  Of the proof of WholeSame: LF, LI, LK, TQ, TS, RP, RE, RI, RG, RJ, RO.
-/
import Derived.Test.YtkkolclmfcmfbaaGreatDoorW1
import Derived.Test.YtkkolclmfcmfbaaGreatDoorW2
import Derived.Test.YtkkolclmfcmfbaaGreatDoorW3
import Derived.Deep.OwnRows
import Derived.OrdersIn
import Derived.Deep.QuietTactic
import Derived.BigQuiet
import Derived.Deep.RegionHeld3
import Derived.Test.YtkkolclmfcmfbaaGreatDoorRows
import Derived.Stop.LaidErr
import Derived.Deep.DeepHandedRow
import Derived.Lib.LaidTab
import Derived.BigRegion
import Derived.Deep.RegionLaw
import Derived.Deep.RegionLawGrows
import Derived.Deep.AppendLies
import Derived.Maps.RangeWalk
import Derived.Sort.Grow
import Derived.Test.YtkkolclmfcmfbaaGreatDoorSf
set_option linter.unusedVariables false
set_option linter.unusedSimpArgs false
set_option maxHeartbeats 40000000
namespace Go.Proofs.YtkkolclmfcmfbaaGreatDoor
open Go.RowKit Go.Shelf
def markD (D:Nat):Deferred:={ target:=.collected D,args:=#[] }
structure Marks (ds:List Nat) (W:World):Prop where
 nodup:ds.Nodup
 here:∀ D∈ds,W.heap[D]?=some (.deferred (some []))
theorem Marks.nil (W:World):Marks [] W:=⟨List.nodup_nil,fun D h=>by cases h⟩
theorem Marks.lt {ds:List Nat} {W:World} (h:Marks ds W) {D:Nat} (hD:D∈ds):D<W.heap.size:=(Array.getElem?_eq_some_iff.1 (h.here D hD)).1
theorem Marks.cons {ds:List Nat} {W:World} (h:Marks ds W) {D:Nat} (hD:W.heap[D]?=some (.deferred (some []))) (hn:∀ E∈ds,E<D):Marks (D::ds) W :=
 ⟨List.nodup_cons.2 ⟨fun hm=>Nat.lt_irrefl _ (hn D hm),h.nodup⟩,fun E hE=>by
  rcases List.mem_cons.1 hE with rfl | hE
  ·exact hD
  ·exact h.here E hE⟩
theorem Marks.keep {ds:List Nat} {W W' :World} (h:Marks ds W) (hk:∀ k o,W.heap[k]?=some o→o.isCells=false→k∈ds→W'.heap[k]?=some o):Marks ds W' :=
 ⟨h.nodup,fun D hD=>hk D _ (h.here D hD) rfl hD⟩
theorem Marks.grown {ds:List Nat} {W W' :World} {row:Option Nat} (h:Marks ds W) (hg:W.grownBy W' row) (hr:∀ r,row=some r→r∉ds):Marks ds W' :=
 h.keep fun k o hk _ hm=>(hg.block k (Array.getElem?_eq_some_iff.1 hk).1 fun e=>hr k e.symm hm).trans hk
theorem Marks.below {ds:List Nat} {W W' :World} (h:Marks ds W) (hb:Below W.heap.size W W'):Marks ds W' :=h.grown (grown_of_below hb none) (fun r e=>by cases e)
theorem Marks.others {ds:List Nat} {W W' :World} (h:Marks ds W) (hk:KeepsOthers W W'):Marks ds W' :=h.keep fun k o h1 h2 _=>hk.same k o h1 h2
structure Shut (B:Nat) (W W' :World):Prop where
 below:Below B W W'
 cells:∀ (k:Nat) (o:Obj),W.heap[k]?=some o→o.isCells=true→W'.heap[k]?=some o
theorem Shut.refl (B:Nat) (W:World):Shut B W W:=⟨Below.refl _ _,fun _ _ h _=>h⟩
theorem leaves_marks {F:Fence} {n:Nat} {P:Program} {fn:Func} {tmps:Array Value} {R:Ending→World→Prop} {B:Nat}:∀ (ds:List Nat) (W:World),Marks ds W→(∀ D∈ds,B≤D) →
 (∀ W', Shut B W W' →LeavesInM F n P fn tmps R [] .returning W')→LeavesInM F n P fn tmps R (ds.map markD) .returning W
 | [],W,_,_,h=>h W (Shut.refl _ _)
 | D::ds,W,hm,hB,h=>by
  have hD:=hm.here D (by simp)
  have hlt:=hm.lt (D:=D) (by simp)
  have hg:=grownBy_putObj' W D (.deferred none)
  have hnd:=List.nodup_cons.1 hm.nodup
  refine ⟨by simp,.inl ⟨D,_,rfl,run_takeDeferred hD,?_⟩⟩
  refine leaves_marks ds _ ⟨hnd.2,fun E hE=>?_⟩ (fun E hE=>hB E (by simp [hE])) fun W' hs=>h W' ⟨?_,fun k o hk ho=>?_⟩
  ·have hne:E≠D:=fun e=>hnd.1 (e ▸ hE)
   exact (World.putObj_heap_other hne).trans (hm.here E (by simp [hE]))
  ·exact ((Below.refl B W).grown hg (by have:=hB D (by simp);omega) (fun k e=>by cases e;exact hB D (by simp))).trans hs.below
  ·refine hs.cells k o ((World.putObj_heap_other fun e=>?_).trans hk) ho
   subst e
   rw [hD] at hk
   cases hk
   cases ho
theorem Shut.owns {B:Nat} {W W' :World} (h:Shut B W W') {base:Nat} {e:TypeId} {size:Nat} {v:Value} {n:Nat} {xs:List Value} (ho:W.ownsRow base e size v n xs):W'.ownsRow base e size v n xs:=by
 obtain ⟨hl,h3⟩:=ho
 refine ⟨hl,?_⟩
 rcases h3 with h3 | ⟨g', cap', cur', rfl,a1,a2,a3⟩
 ·exact Or.inl h3
 ·exact Or.inr ⟨g', cap', cur', rfl,a1,h.cells _ _ a2 rfl,a3⟩
theorem Shut.rows {B:Nat} {W W' :World} (h:Shut B W W') {base rb L:Nat} {vs:List Value} {f:Nat→List Int} (hr:RowsAt W base rb L vs f):RowsAt W' base rb L vs f :=
 ⟨h.cells _ _ hr.blk rfl,hr.len,fun m v hv=>h.owns (hr.own m v hv),hr.apart⟩
theorem count_less {p q:Nat→Bool} {i:Nat} (hp:p i=true) (hq:q i=false) (he:∀ j,j≠i→q j=p j):∀ k,i<k→((List.range k).filter q).length+1=((List.range k).filter p).length
 | 0,h=>by omega
 | k+1,h=>by
  simp only [List.range_succ,List.filter_append,List.length_append]
  by_cases e:i=k
  ·subst e
   have hs:(List.range i).filter q=(List.range i).filter p:=List.filter_congr fun j hj=>he j (by have:=List.mem_range.1 hj;omega)
   rw [hs]
   simp [hp,hq]
  ·have ih:=count_less hp hq he k (by omega)
   have hk:(List.filter q [k]).length=(List.filter p [k]).length:=by
    rw [List.filter_congr (p:=q) (q:=p) fun j hj=>he j (by simp at hj;omega)]
   omega
def undone (k:Nat) (listed:Array Bool):Nat:=((List.range k).filter fun i=>!listed.getD i false).length
theorem undone_set {k:Nat} {listed:Array Bool} {i:Nat} (hk:listed.size=k) (hi:i<k) (h:listed.getD i true=false):undone k (listed.setIfInBounds i true)+1=undone k listed:=by
 refine count_less (i:=i) ?_ ?_ (fun j hj=>?_) k hi
 ·have:listed.getD i false=false:=by
   simp only [Array.getD] at h ⊢
   split at h
   ·rename_i hlt;rw [dif_pos hlt];exact h
   ·cases h
  simp [this]
 ·simp [hk,hi]
 ·rw [getD_set_ne false (fun e=>hj e.symm)]
def Closed (ops:Array Oper) (listed:Array Bool):Prop:=∀ (i:Nat) (o:Oper),ops[i]?=some o→listed.getD i false=true→∀ e∈o.after,Region.binds .any e=true→listed.getD e.on false=true
theorem region_inv {F:Fence} {n:Nat} {P:Program} {id:Nat} {ops:Array Oper} {Q:Exit→Act→World→Prop} {a:Act} {w:World} (hm:P.follows .mixedOrders=true) (Inv:Array Bool→Act→World→Prop)
 (hg:∀ (i:Nat) (o:Oper),ops[i]?=some o→o.guard=none∧∀ e∈o.after,Region.binds .any e=true→e.on<i)
 (hsz:∀ listed a w,Inv listed a w→listed.size=ops.size)
 (h0:Inv (Array.replicate ops.size false) a w.drew)
 (hs:∀ listed a w (i:Nat) (o:Oper),Inv listed a w→Closed ops listed→ops[i]?=some o→listed.getD i true=false→(∀ e∈o.after,Region.binds .any e=true→listed.getD e.on false=true)→Oper.wpIn F n P o a w (Inv (listed.setIfInBounds i true)) Q)
 (h1:∀ listed a w,Inv listed a w→(∀ i,i<ops.size→listed.getD i false=true)→Q .normal a w):(Code.region id ops true).wpIn F n P Q a w:=by
 refine wpIn_region_any hm ?_
 have all:∀ listed a w,Inv listed a w→Region.ready .any ops listed=[]→∀ i,i<ops.size→listed.getD i false=true:=by
  intro listed a w hI hr i
  induction i using Nat.strongRecOn with
  | _ i ih =>
   intro hi
   cases hb:listed.getD i false
   ·exfalso
    have hsi:=hsz _ _ _ hI
    have hb' :listed.getD i true=false:=by
     simp only [Array.getD] at hb ⊢
     rw [dif_pos (by omega)] at hb ⊢;exact hb
    have:i∈Region.ready .any ops listed:=by
     rw [mem_ready]
     refine ⟨hb', ops[i],Array.getElem?_eq_getElem hi,fun e he hbe=>?_⟩
     have:=(hg i _ (Array.getElem?_eq_getElem hi)).2 e he hbe
     exact ih e.on this (by omega)
    rw [hr] at this;cases this
   ·rfl
 have main:∀ (fuel:Nat) (listed:Array Bool) (a:Act) (w:World),Inv listed a w→Closed ops listed→undone ops.size listed≤fuel→wpAnyIn F n P .any ops Q fuel listed a w:=by
  intro fuel
  induction fuel with
  | zero =>
   intro listed a w hI hC hu
   have hr:Region.ready .any ops listed=[]:=by
    apply List.eq_nil_iff_forall_not_mem.2
    intro i hi
    obtain ⟨h2,o,h3,_⟩:=mem_ready.1 hi
    have:=undone_set (hsz _ _ _ hI) (Array.getElem?_eq_some_iff.1 h3).1 h2
    omega
   exact ⟨hr,h1 _ _ _ hI (all _ _ _ hI hr)⟩
  | succ fuel ih =>
   intro listed a w hI hC hu
   refine ⟨fun hr=>h1 _ _ _ hI (all _ _ _ hI hr),fun i hi=>?_⟩
   obtain ⟨h2,o,h3,h4⟩:=mem_ready.1 hi
   have hsi:=hsz _ _ _ hI
   have hu2:=undone_set hsi (Array.getElem?_eq_some_iff.1 h3).1 h2
   have hC' :Closed ops (listed.setIfInBounds i true):=by
    intro j p hj hl e he hb
    by_cases q:j=i
    ·subst q
     rw [h3] at hj;cases hj
     exact getD_set_true (h4 e he hb)
    ·rw [getD_set_ne false (fun e=>q e.symm)] at hl
     exact getD_set_true (hC j p hj hl e he hb)
   unfold wpOpIn
   rw [h3]
   simp only
   rw [if_pos (by simp [Region.wanted,(hg i o h3).1])]
   exact Oper.wpIn_mono (fun a' w' hI' =>ih _ a' w' hI' hC' (by omega)) (hs listed a w i o hI hC h3 h2 h4)
 refine main _ _ _ _ h0 (fun i o _ hl=>?_) (by
  unfold undone
  exact Nat.le_trans (List.length_filter_le _ _) (by simp))
 have:(Array.replicate ops.size false).getD i false=false:=by simp [Array.getD]
 rw [this] at hl;cases hl
def encNd (x:Nd):List Value:=[.int .i64 x.op,.int .i64 x.d,.int .i64 x.a,.int .i64 x.b,.int .i64 x.t,.int .i64 x.e]
theorem encNd_len (x:Nd):(encNd x).length=6:=rfl
theorem encNd_one (ns:List Nd):∀ u∈ns.flatMap encNd,u.oneCell' =true:=by
 intro u hu
 obtain ⟨x,_,hx⟩:=List.mem_flatMap.1 hu
 simp only [encNd,List.mem_cons,List.not_mem_nil,or_false] at hx
 rcases hx with rfl | rfl | rfl | rfl | rfl | rfl <;> rfl
theorem flatK {α β:Type} (k:Nat) (f:α→List β) (hf:∀ x,(f x).length=k):∀ (l:List α) (j i:Nat) (x:α),l[j]?=some x→i<k→(l.flatMap f)[j*k+i]?=(f x)[i]?
 | [],j,i,x,h,_=>by simp at h
 | u::l,0,i,x,h,hi=>by
  simp at h;subst h
  rw [List.flatMap_cons,List.getElem?_append_left (by rw [hf];omega)];simp
 | u::l,j+1,i,x,h,hi=>by
  simp at h
  rw [List.flatMap_cons,List.getElem?_append_right (by rw [hf,Nat.succ_mul];omega),hf,show (j+1)*k+i-k=j*k+i by rw [Nat.succ_mul];omega]
  exact flatK k f hf l j i x h hi
theorem flat_len {α β:Type} (k:Nat) (f:α→List β) (hf:∀ x,(f x).length=k):∀ l:List α,(l.flatMap f).length=l.length*k
 | []=>by simp
 | u::l=>by rw [List.flatMap_cons,List.length_append,hf,flat_len k f hf l,List.length_cons,Nat.succ_mul];omega
theorem nodes_flat {w:World} {b off:Nat} {ns:List Nd} (hN:NodesAt w b off ns):∀ (j:Nat) (u:Value),(ns.flatMap encNd)[j]?=some u→w.cell? ((⟨b,off,none⟩:Addr).add j)=some u:=by
 intro j u hu
 have hlt:j<ns.length*6:=by
  have:=(List.getElem?_eq_some_iff.1 hu).1
  rwa [flat_len 6 encNd encNd_len] at this
 have hq:j / 6<ns.length:=by omega
 obtain ⟨x,hx⟩:=get_lt hq
 have h1:=flatK 6 encNd encNd_len ns (j / 6) (j % 6) x hx (Nat.mod_lt _ (by decide))
 rw [show j / 6*6+j % 6=j by omega,hu] at h1
 have e:(⟨b,off,none⟩:Addr).add j=⟨b,off+j / 6*6+j % 6,none⟩:=by
  have:(⟨b,off,none⟩:Addr).add j=⟨b,off+j,none⟩:=by cases j <;> simp [Addr.add]
  rw [this];congr 1;omega
 rw [e]
 have hm:j % 6<6:=Nat.mod_lt _ (by decide)
 generalize j % 6=m at h1 hm ⊢
 match m,hm with
 | 0,_=>simp [encNd] at h1;subst h1;exact hN.c0 _ x hx
 | 1,_=>simp [encNd] at h1;subst h1;exact hN.c1 _ x hx
 | 2,_=>simp [encNd] at h1;subst h1;exact hN.c2 _ x hx
 | 3,_=>simp [encNd] at h1;subst h1;exact hN.c3 _ x hx
 | 4,_=>simp [encNd] at h1;subst h1;exact hN.c4 _ x hx
 | 5,_=>simp [encNd] at h1;subst h1;exact hN.c5 _ x hx
theorem nodes_of_cells {w:World} {b off:Nat} {ns:List Nd} (hlt:b<w.heap.size) (h:∀ (j:Nat) (u:Value),(ns.flatMap encNd)[j]?=some u→w.cell? ⟨b,off+j,none⟩=some u):NodesAt w b off ns:=by
 have key:∀ (i:Nat) (x:Nd) (m:Nat) (u:Value),ns[i]?=some x→m<6→(encNd x)[m]?=some u→w.cell? ⟨b,off+i*6+m,none⟩=some u:=by
  intro i x m u hx hm hu
  have:=h (i*6+m) u (by rw [flatK 6 encNd encNd_len ns i m x hx hm];exact hu)
  rwa [← Nat.add_assoc] at this
 exact ⟨hlt,fun i x hx=>key i x 0 _ hx (by decide) rfl,fun i x hx=>key i x 1 _ hx (by decide) rfl,fun i x hx=>key i x 2 _ hx (by decide) rfl,fun i x hx=>key i x 3 _ hx (by decide) rfl,fun i x hx=>key i x 4 _ hx (by decide) rfl,fun i x hx=>key i x 5 _ hx (by decide) rfl⟩
theorem nodes_of_owns {w:World} {base:Nat} {e:TypeId} {v:Value} {ns:List Nd} (h:w.ownsRow base e 6 v ns.length (ns.flatMap encNd)):∃ a cap,v=.slice a ns.length cap∧SlN w a ns:=by
 have hc:∀ g,v.ownBlock=some g→∀ j u,(ns.flatMap encNd)[j]?=some u→w.cell? ((⟨g,0,none⟩:Addr).add j)=some u:=fun g hg=>h.cells hg
 obtain ⟨_,h⟩:=h
 rcases h with ⟨rfl,h0⟩ | ⟨g,cap,cur,rfl,h1,h2,_⟩
 ·have:ns=[]:=List.eq_nil_of_length_eq_zero h0
  subst this
  exact ⟨none,0,rfl,Or.inl rfl⟩
 ·refine ⟨_,cap,rfl,Or.inr ⟨g,0,rfl,nodes_of_cells (Array.getElem?_eq_some_iff.1 h2).1 fun j u hj=>?_⟩⟩
  have:=hc g rfl j u hj
  have e:(⟨g,0,none⟩:Addr).add j=⟨g,0+j,none⟩:=by cases j <;> simp [Addr.add]
  rw [e] at this;exact this
theorem owns_set {w:World} {base b o:Nat} {e t:TypeId} {size:Nat} {v u:Value} {n:Nat} {xs:List Value} {vs:Array Value} (h:w.ownsRow base e size v n xs) (hb:w.heap[b]?=some (.cells vs t (0,0))) (hte:t≠e):(w.setCell ⟨b,o,none⟩ u).ownsRow base e size v n xs:=by
 have hne:=owns_ne_ty h hb hte
 obtain ⟨hl,h3⟩:=h
 refine ⟨hl,?_⟩
 rcases h3 with h3 | ⟨g', cap', cur', rfl,a1,a2,a3⟩
 ·exact Or.inl h3
 ·refine Or.inr ⟨g', cap', cur', rfl,a1,?_,a3⟩
  rw [Below.heap_setCell _ _ _ g' (fun e=>hne (by simp only [Value.ownBlock];exact congrArg some e.symm))]
  exact a2
theorem boxed_ne {w:World} {b c:Nat} {t t' :TypeId} {vs vs' :Array Value} {fr fr' :Nat × Nat} (h:w.heap[b]?=some (.cells vs t fr)) (h' :w.heap[c]?=some (.cells vs' t' fr')) (hne:t≠t'):b≠c:=by
 intro e;subst e
 rw [h] at h'; cases h'; exact hne rfl
theorem made_ints (n:Nat):madeCells #[Value.int .i64 0] n=((List.replicate n (0:Int)).map (Value.int .i64)).toArray:=by
 apply Array.ext'
 rw [toList_madeCells_one]
 simp
theorem owns_slice {w:World} {base:Nat} {e:TypeId} {size:Nat} {v:Value} {n:Nat} {xs:List Value} (h:w.ownsRow base e size v n xs):∃ a c,v=.slice a n c:=by
 rcases h.2 with ⟨rfl,rfl⟩ | ⟨g,cap,_,rfl,_⟩
 ·exact ⟨none,0,rfl⟩
 ·exact ⟨_,cap,rfl⟩
theorem flat_set {α β:Type} (k:Nat) (f:α→List β) (hf:∀ x,(f x).length=k):∀ (l:List α) (j i:Nat) (x y:α) (u:β),l[j]?=some x→i<k→(f x).set i u=f y→(l.flatMap f).set (j*k+i) u=(l.set j y).flatMap f
 | [],j,i,x,y,u,h,_,_=>by simp at h
 | a::l,0,i,x,y,u,h,hi,he=>by
  simp at h;subst h
  rw [List.flatMap_cons,List.set_cons_zero,List.flatMap_cons,Nat.zero_mul,Nat.zero_add,List.set_append_left _ _ (by rw [hf];exact hi),he]
 | a::l,j+1,i,x,y,u,h,hi,he=>by
  simp at h
  rw [List.flatMap_cons,List.set_cons_succ,List.flatMap_cons,List.set_append_right _ _ (by rw [hf,Nat.succ_mul];omega),hf,show (j+1)*k+i-k=j*k+i by rw [Nat.succ_mul];omega,flat_set k f hf l j i x y u h hi he]
theorem owns_write {w:World} {base g cap:Nat} {e:TypeId} {size n i:Nat} {u:Value} {xs:List Value} (h:w.ownsRow base e size (.slice (some ⟨g,0,none⟩) n cap) n xs) (hi:i<n*size):(w.setCell ⟨g,i,none⟩ u).ownsRow base e size (.slice (some ⟨g,0,none⟩) n cap) n (xs.set i u):=by
 obtain ⟨hl,h⟩:=h
 refine ⟨by simpa using hl,?_⟩
 rcases h with ⟨h,_⟩ | ⟨g', cap', cur,q,a1,a2,a3,a4,a5,a6⟩
 ·cases h
 ·cases q
  refine Or.inr ⟨g,cap,_,rfl,a1,blk_set _ a2,a3,a4,by simpa using a5,?_⟩
  rw [Array.toList_setIfInBounds,List.take_set,a6]
theorem info_node:(Tryz.prog.info? 48).map (fun i=>(i.zero,i.size,i.bytes))=some (some (.agg #[.int .i64 0,.int .i64 0,.int .i64 0,.int .i64 0,.int .i64 0,.int .i64 0]),6,48):=by kernel_rfl
end Go.Proofs.YtkkolclmfcmfbaaGreatDoor
namespace Go.Proofs.YtkkolclmfcmfbaaGreatDoor
open Go.RowKit
def BoolsAt (w:World) (a:Option Addr) (zs:List Bool):Prop :=
 zs=[]∨∃ b off,a=some ⟨b,off,none⟩∧b<w.heap.size∧∀ (j:Nat) (z:Bool),zs[j]?=some z→w.cell? ⟨b,off+j,none⟩=some (.bool z)
theorem BoolsAt.below {w w' :World} {a:Option Addr} {zs:List Bool} (h:BoolsAt w a zs) (hb:Below w.heap.size w w'):BoolsAt w' a zs:=by
 rcases h with h | ⟨b,off,rfl,hlt,h⟩
 ·exact Or.inl h
 ·exact Or.inr ⟨b,off,rfl,Nat.lt_of_lt_of_le hlt hb.size,fun j z hz=>by rw [hb.cell (p:=⟨b,_,none⟩) hlt];exact h j z hz⟩
theorem BoolsAt.at {w:World} {a:Option Addr} {zs:List Bool} (h:BoolsAt w a zs) {k:Nat} (hk:k<zs.length):∃ b off,a=some ⟨b,off,none⟩∧b<w.heap.size∧∀ (j:Nat) (z:Bool),zs[j]?=some z→w.cell? ⟨b,off+j,none⟩=some (.bool z):=by
 rcases h with rfl | h
 ·simp at hk
 ·exact h
theorem bools_of_owns {w:World} {base:Nat} {e:TypeId} {v:Value} {zs:List Bool} (h:w.ownsRow base e 1 v zs.length (zs.map Value.bool)):∃ a cap,v=.slice a zs.length cap∧BoolsAt w a zs:=by
 have hc:∀ g,v.ownBlock=some g→∀ j u,(zs.map Value.bool)[j]?=some u→w.cell? ((⟨g,0,none⟩:Addr).add j)=some u:=fun g hg=>h.cells hg
 obtain ⟨_,h⟩:=h
 rcases h with ⟨rfl,h0⟩ | ⟨g,cap,cur,rfl,h1,h2,h3,h4,h5,h6⟩
 ·have:zs=[]:=by cases zs;rfl;simp at h0
  subst this
  exact ⟨none,0,rfl,Or.inl rfl⟩
 ·refine ⟨_,cap,rfl,Or.inr ⟨g,0,rfl,(Array.getElem?_eq_some_iff.1 h2).1,?_⟩⟩
  intro j z hz
  have:=hc g rfl j (.bool z) (by simp [hz])
  have e:(⟨g,0,none⟩:Addr).add j=⟨g,0+j,none⟩:=by cases j <;> simp [Addr.add]
  rw [e] at this;exact this
end Go.Proofs.YtkkolclmfcmfbaaGreatDoor
namespace Go.Proofs.YtkkolclmfcmfbaaGreatDoor
open Go.RowKit Go.Maps Go.ChangeMaps
theorem readB_show {r:Int} {ns:List Nd} (hc:chk r ns=0) (ha:∀ x∈ns,-9223372036854775808≤x.a∧x.a≤9223372036854775807):readB (showB r ns)=some (r,ns):=by
 unfold readB
 rw [rdP_show hc ha]
 simp [hc]
end Go.Proofs.YtkkolclmfcmfbaaGreatDoor
namespace Go.Proofs.YtkkolclmfcmfbaaGreatDoor
open Go.RowKit
theorem laid_tail {P:Program} {x:String × DataW Unit} {r:List (String × DataW Unit)} {w:World} (h:laidMet P (x::r) w):laidMet P r w:=by
 obtain ⟨ps,⟨g,t,cs,fuel,p,q,h1,h2,h3,h4,h5,rfl⟩,hn,hr⟩:=h
 exact ⟨q,h5,(List.nodup_append.1 hn).2.1,fun b off hm=>hr b off (List.mem_append_right _ hm)⟩
theorem star_es : "*" ++ "errors.errorString" = "*errors.errorString" := by decide
theorem es_row (u:TypeId) (h:Tryz.prog.typeName? 3 u=some "*errors.errorString"):u=227 :=
 typeName_ptr_named (nm := "errors.errorString") (by rw [star_es];kernel_rfl) (by kernel_rfl) (by decide) u (by rw [star_es];exact h)
theorem env_of {W:World} (h:laidMetH Tryz.prog Rows.wholeSameRow.laid W) (hs:W.ShapedOpen Tryz.prog):Env W:=by
 have h0:laidMet Tryz.prog Rows.wholeSameRow.laid W:=h
 have h1:=laid_tail (laid_tail h0)
 have h2:=laid_tail (laid_tail h1)
 have h3:=laid_tail h2
 have ht:Lib.TabIs Tryz.prog W "internal/strconv.uint64pow10" .u64 Lib.pow10Tab:=Lib.tabIs_of_head (rest:=_) (g:=0) (t:=203) (e:=112) (by kernel_rfl) (by kernel_rfl) Tryz.underlying203 Tryz.underlying112 (by kernel_rfl) (by kernel_rfl) h1
 obtain ⟨a1,s1,hv1,-,-,-⟩:=laid_sentinel (g:=2) (ti:=77) (tp:=227) (te:=229) (ts:=9) h2 (by kernel_rfl) (by kernel_rfl) Tryz.underlying77 es_row Tryz.underlying227 Tryz.underlying229 rfl rfl Tryz.underlying9 (by kernel_rfl) (by kernel_rfl)
 obtain ⟨a2,s2,hv2,-,-,-⟩:=laid_sentinel (g:=1) (ti:=77) (tp:=227) (te:=229) (ts:=9) h3 (by kernel_rfl) (by kernel_rfl) Tryz.underlying77 es_row Tryz.underlying227 Tryz.underlying229 rfl rfl Tryz.underlying9 (by kernel_rfl) (by kernel_rfl)
 exact ⟨ht,⟨_,_,hv2⟩,⟨_,_,hv1⟩,hs⟩
end Go.Proofs.YtkkolclmfcmfbaaGreatDoor
namespace Go.Proofs.YtkkolclmfcmfbaaGreatDoor
theorem abv_irrefl (t:Tm):abv t t=false:=by simp [abv]
theorem abv_trans {a b c:Tm} (h1:abv a b=true) (h2:abv b c=true):abv a c=true:=by
 obtain ⟨a1,a2,a3⟩:=a
 obtain ⟨b1,b2,b3⟩:=b
 obtain ⟨c1,c2,c3⟩:=c
 simp only [abv] at *
 repeat' split at h1
 all_goals repeat' split at h2
 all_goals repeat' split
 all_goals simp only [decide_eq_true_eq] at *
 all_goals omega
theorem abv_total {a b:Tm} (h:abv a b=false) (hne:a≠b):abv b a=true:=by
 obtain ⟨a1,a2,a3⟩:=a
 obtain ⟨b1,b2,b3⟩:=b
 simp only [abv] at *
 have hne' :¬ (a1=b1∧a2=b2∧a3=b3):=fun ⟨e1,e2,e3⟩=>hne (by rw [e1,e2,e3])
 repeat' split at h
 all_goals repeat' split
 all_goals simp only [decide_eq_true_eq,decide_eq_false_iff_not] at *
 all_goals omega
def Srt (l:List Ct):Prop:=l.Pairwise (fun a b=>abv b.t a.t=true)
def ctOf (l:List Ct) (t:Tm):Option Int:=(l.find? (fun c=>decide (c.t=t))).map (·.n)
theorem ctOf_cons (c:Ct) (l:List Ct) (t:Tm):ctOf (c::l) t=if c.t=t then some c.n else ctOf l t:=by
 unfold ctOf
 rw [List.find?_cons]
 by_cases h:c.t=t <;> simp [h]
theorem ctOf_none {l:List Ct} {t:Tm} (h:∀ c∈l,abv c.t t=true):ctOf l t=none:=by
 induction l with
 | nil=>rfl
 | cons c l ih =>
  rw [ctOf_cons,if_neg,ih (fun c hc=>h c (List.mem_cons_of_mem _ hc))]
  intro e
  have:=h c (List.mem_cons_self ..)
  rw [e,abv_irrefl] at this
  cases this
theorem omore_mem {l:List Ct} {t:Tm} {c:Ct} (h:c∈omore l t):c∈l∨c.t=t:=by
 induction l with
 | nil=>simp [omore] at h;right;rw [h]
 | cons d l ih =>
  unfold omore at h
  split at h
  ·rcases List.mem_cons.1 h with h | h
   ·left;rw [h];exact List.mem_cons_self ..
   ·rcases ih h with h | h
    ·left;exact List.mem_cons_of_mem _ h
    ·right;exact h
  ·split at h
   ·rcases List.mem_cons.1 h with h | h
    ·right;rw [h]
    ·left;exact List.mem_cons_of_mem _ h
   ·rcases List.mem_cons.1 h with h | h
    ·right;rw [h]
    ·left;exact h
theorem omore_srt {l:List Ct} (h:Srt l) (t:Tm):Srt (omore l t):=by
 induction l with
 | nil=>exact List.pairwise_singleton _ _
 | cons c l ih =>
  unfold Srt at h
  rw [List.pairwise_cons] at h
  unfold omore
  split
  ·rename_i h1
   refine List.pairwise_cons.2 ⟨fun d hd=>?_,ih h.2⟩
   rcases omore_mem hd with hd | hd
   ·exact h.1 d hd
   ·rw [hd];exact h1
  ·rename_i h1
   split
   ·rename_i h2
    refine List.pairwise_cons.2 ⟨fun d hd=>?_,h.2⟩
    have:=h.1 d hd
    rw [h2] at this;exact this
   ·rename_i h2
    have h1' :abv t c.t=false:=by simpa using h1
    have h3:abv c.t t=true:=abv_total h1' (fun e=>h2 e.symm)
    refine List.pairwise_cons.2 ⟨fun d hd=>?_,List.pairwise_cons.2 h⟩
    rcases List.mem_cons.1 hd with hd | hd
    ·rw [hd];exact h3
    ·exact abv_trans (h.1 d hd) h3
theorem omore_ct {l:List Ct} (h:Srt l) (t u:Tm):ctOf (omore l t) u=if u=t then some ((ctOf l t).getD 0+1) else ctOf l u:=by
 induction l with
 | nil =>
  unfold omore
  rw [ctOf_cons]
  by_cases e:u=t
  ·subst e;simp [ctOf]
  ·rw [if_neg (fun e' =>e e'.symm),if_neg e]
 | cons c l ih =>
  unfold Srt at h
  rw [List.pairwise_cons] at h
  unfold omore
  split
  ·rename_i h1
   have hct:c.t≠t:=fun e=>by rw [e,abv_irrefl] at h1;cases h1
   rw [ctOf_cons,ctOf_cons,ctOf_cons,ih h.2,if_neg hct]
   by_cases e:u=t
   ·subst e;rw [if_neg hct,if_pos rfl,if_pos rfl]
   ·rw [if_neg e,if_neg e]
  ·rename_i h1
   split
   ·rename_i h2
    rw [ctOf_cons,ctOf_cons,ctOf_cons,if_pos h2]
    by_cases e:u=t
    ·subst e;simp
    ·rw [if_neg (fun e' =>e e'.symm),if_neg e,h2,if_neg (fun e' =>e e'.symm)]
   ·rename_i h2
    have h1' :abv t c.t=false:=by simpa using h1
    have h3:abv c.t t=true:=abv_total h1' (fun e=>h2 e.symm)
    have hn:ctOf (c::l) t=none:=ctOf_none (fun d hd=>by
     rcases List.mem_cons.1 hd with hd | hd
     ·rw [hd];exact h3
     ·exact abv_trans (h.1 d hd) h3)
    rw [ctOf_cons]
    by_cases e:u=t
    ·subst e;rw [if_pos rfl,if_pos rfl,hn];rfl
    ·rw [if_neg (fun e' =>e e'.symm),if_neg e]
theorem ctOf_mem {l:List Ct} {t:Tm} {n:Int} (h:ctOf l t=some n):⟨t,n⟩∈l:=by
 unfold ctOf at h
 rw [Option.map_eq_some_iff] at h
 obtain ⟨c,hc,rfl⟩:=h
 have h1:=List.find?_some hc
 have h2:=List.mem_of_find?_eq_some hc
 simp at h1
 subst h1
 exact h2
theorem omore_le {l:List Ct} {t:Tm} {k:Int} (hk:0≤k) (h:∀ c∈l,0≤c.n∧c.n≤k):∀ c∈omore l t,0≤c.n∧c.n≤k+1:=by
 induction l with
 | nil=>intro c hc;simp [omore] at hc;subst hc;simp;omega
 | cons d l ih =>
  intro c hc
  have hd:=h d (List.mem_cons_self ..)
  have hl:∀ c∈l,0≤c.n∧c.n≤k:=fun c hc=>h c (List.mem_cons_of_mem _ hc)
  unfold omore at hc
  split at hc
  ·rcases List.mem_cons.1 hc with hc | hc
   ·subst hc;omega
   ·exact ih hl c hc
  ·split at hc
   ·rcases List.mem_cons.1 hc with hc | hc
    ·subst hc;simp;omega
    ·have:=hl c hc;omega
   ·rcases List.mem_cons.1 hc with hc | hc
    ·subst hc;simp;omega
    ·have:=h c hc;omega
theorem omore_len (l:List Ct) (t:Tm):(omore l t).length≤l.length+1:=by
 induction l with
 | nil=>simp [omore]
 | cons c l ih =>
  unfold omore
  split
  ·simp;omega
  ·split <;> simp
end Go.Proofs.YtkkolclmfcmfbaaGreatDoor
namespace Go.Proofs.YtkkolclmfcmfbaaGreatDoor
open Go.RowKit Go.Maps Go.ChangeMaps
def twf (t:Tm):Prop:=(Lit.int .i64 t.op).wf=true∧(Lit.int .i64 t.a).wf=true∧(Lit.int .i64 t.b).wf=true
def MapRel (D:DataW Unit) (l:List Ct):Prop :=
 IsMap D∧∀ t:Tm,twf t→∀ z,D.atKey (tkl t) z=match ctOf l t with | some n=>.lit (.int .i64 n) | none=>z
theorem tkl_inj {t u:Tm} (ht:twf t) (hu:twf u) (h:tkl t=tkl u):t=u:=by
 have h1:=tkey t ht.1 ht.2.1 ht.2.2
 have h2:=tkey u hu.1 hu.2.1 hu.2.2
 rw [h] at h1
 have:=tlaw.inj h1 h2
 simp at this
 obtain ⟨t1,t2,t3⟩:=t
 obtain ⟨u1,u2,u3⟩:=u
 simp at this
 simp [this]
theorem MapRel.more {D:DataW Unit} {l:List Ct} (h:MapRel D l) (hs:Srt l) {t:Tm} (ht:twf t) {c:Int} (hc:D.atKey (tkl t) (.lit (.int .i64 0))=.lit (.int .i64 c)):c=(ctOf l t).getD 0∧MapRel (D.put (tkl t) (.lit (.int .i64 (c+1)))) (omore l t):=by
 have h1:=h.2 t ht (.lit (.int .i64 0))
 rw [hc] at h1
 have hcc:c=(ctOf l t).getD 0:=by
  cases hq:ctOf l t with
  | none=>rw [hq] at h1;simpa using (Lit.int.inj (DataW.lit.inj h1)).2
  | some n=>rw [hq] at h1;simpa using (Lit.int.inj (DataW.lit.inj h1)).2
 refine ⟨hcc,h.1.put _ _,?_⟩
 intro u hu z
 rw [omore_ct hs]
 by_cases e:u=t
 ·subst e
  rw [if_pos rfl,atKey_put_same h.1 (by trivial),hcc]
 ·rw [if_neg e,atKey_put_other (fun e' =>e (tkl_inj hu ht e'))]
  exact h.2 u hu z
structure MA (B s mb rb mp nb noff ncap rc:Nat) (ns:List Nd) (w:World) (σ:St) (v:Value) (ia:Option Addr) (ic n:Nat) (D:DataW Unit):Prop where
 hm:w.heap[mb]?=some (.cells #[v,.int .i64 σ.ret,.bool σ.ended,.int .i64 σ.steps,.slice none 0 0,.slice (some ⟨nb,noff,none⟩) ns.length ncap,.int .i64 σ.pc,.slice ia σ.inp.length ic,.slice (some ⟨rb,0,none⟩) σ.regs.length rc,.map (some mp)] 61 (0,0))
 hr:w.heap[rb]?=some (.cells (σ.regs.map (Value.int .i64)).toArray 3 (0,0))
 ho:w.ownsMap Tryz.prog 57 (plainElem Tryz.prog 3) mp n D
 hout:w.ownsRow s 3 1 v σ.out.length (σ.out.map (Value.int .i64))
 hin:InAt w B ia σ.inp
 hic:σ.inp.length≤ic
 hN:NodesAt w nb noff ns
 hnb:nb<B
 geo:B≤mb∧B≤rb∧B≤mp∧mb<s∧rb<s∧mp<s∧mb≠rb∧mb≠mp∧rb≠mp
 hs:s≤w.heap.size
 hn:n≤σ.steps
 hst:σ.steps≤131072
 hol:σ.out.length≤σ.steps
 hrl:σ.regs.length≤64
 rel:MapRel D σ.cts
 srt:Srt σ.cts
 cb:∀ c∈σ.cts,0≤c.n∧c.n≤σ.steps
theorem MA.B_le {B s mb rb mp nb noff ncap rc:Nat} {ns:List Nd} {w:World} {σ:St} {v:Value} {ia:Option Addr} {ic n:Nat} {D:DataW Unit} (M:MA B s mb rb mp nb noff ncap rc ns w σ v ia ic n D):B≤w.heap.size:=by
 have:=M.geo;have:=M.hs;omega
theorem MA.below {B s mb rb mp nb noff ncap rc:Nat} {ns:List Nd} {w w' :World} {σ:St} {v:Value} {ia:Option Addr} {ic n:Nat} {D:DataW Unit} (M:MA B s mb rb mp nb noff ncap rc ns w σ v ia ic n D) (K:Keeps [mb,rb,mp] w w'):Below B w w' :=
 K.below (by have:=M.geo;simp;omega) M.B_le
theorem MA.nextB {B s mb rb mp nb noff ncap rc:Nat} {ns:List Nd} {w w' :World} {σ σ' :St} {v v' :Value} {ia ia' :Option Addr} {ic ic' n n' :Nat} {D D' :DataW Unit} (M:MA B s mb rb mp nb noff ncap rc ns w σ v ia ic n D) (K:Below B w w')
 (hm:w'.heap[mb]?=some (.cells #[v', .int .i64 σ'.ret,.bool σ'.ended,.int .i64 σ'.steps,.slice none 0 0,.slice (some ⟨nb,noff,none⟩) ns.length ncap,.int .i64 σ'.pc,.slice ia' σ'.inp.length ic', .slice (some ⟨rb,0,none⟩) σ'.regs.length rc,.map (some mp)] 61 (0,0)))
 (hr:w'.heap[rb]?=some (.cells (σ'.regs.map (Value.int .i64)).toArray 3 (0,0)))
 (ho:w'.ownsMap Tryz.prog 57 (plainElem Tryz.prog 3) mp n' D')
 (hout:w'.ownsRow s 3 1 v' σ'.out.length (σ'.out.map (Value.int .i64)))
 (hin:InAt w B ia' σ'.inp) (hic:σ'.inp.length≤ic') (hst:σ'.steps=σ.steps+1) (hlt:σ.steps<131072) (hn:n' ≤σ.steps+1) (hol:σ'.out.length≤σ.out.length+1) (hrl:σ'.regs.length=σ.regs.length)
 (rel:MapRel D' σ'.cts) (srt:Srt σ'.cts) (cb:∀ c∈σ'.cts,0≤c.n∧c.n≤σ.steps+1):MA B s mb rb mp nb noff ncap rc ns w' σ' v' ia' ic' n' D' :=by
 have hb:=K
 exact ⟨hm,hr,ho,hout,hin.below hb,hic,M.hN.below hb M.hnb,M.hnb,M.geo,Nat.le_trans M.hs K.size,by rw [hst];exact hn,by omega,by have:=M.hol;omega,by rw [hrl];exact M.hrl,rel,srt,by rw [hst];exact_mod_cast cb⟩
theorem MA.next {B s mb rb mp nb noff ncap rc:Nat} {ns:List Nd} {w w' :World} {σ σ' :St} {v v' :Value} {ia ia' :Option Addr} {ic ic' n n' :Nat} {D D' :DataW Unit} (M:MA B s mb rb mp nb noff ncap rc ns w σ v ia ic n D) (K:Keeps [mb,rb,mp] w w')
 (hm:w'.heap[mb]?=some (.cells #[v', .int .i64 σ'.ret,.bool σ'.ended,.int .i64 σ'.steps,.slice none 0 0,.slice (some ⟨nb,noff,none⟩) ns.length ncap,.int .i64 σ'.pc,.slice ia' σ'.inp.length ic', .slice (some ⟨rb,0,none⟩) σ'.regs.length rc,.map (some mp)] 61 (0,0)))
 (hr:w'.heap[rb]?=some (.cells (σ'.regs.map (Value.int .i64)).toArray 3 (0,0)))
 (ho:w'.ownsMap Tryz.prog 57 (plainElem Tryz.prog 3) mp n' D')
 (hout:w'.ownsRow s 3 1 v' σ'.out.length (σ'.out.map (Value.int .i64)))
 (hin:InAt w B ia' σ'.inp) (hic:σ'.inp.length≤ic') (hst:σ'.steps=σ.steps+1) (hlt:σ.steps<131072) (hn:n' ≤σ.steps+1) (hol:σ'.out.length≤σ.out.length+1) (hrl:σ'.regs.length=σ.regs.length)
 (rel:MapRel D' σ'.cts) (srt:Srt σ'.cts) (cb:∀ c∈σ'.cts,0≤c.n∧c.n≤σ.steps+1):MA B s mb rb mp nb noff ncap rc ns w' σ' v' ia' ic' n' D' :=by
 exact M.nextB (M.below K) hm hr ho hout hin hic hst hlt hn hol hrl rel srt cb
def InR (l:List Int) (a:Int):Prop:=0≤a∧a<l.length
theorem regs_at {l:List Int} {k:Nat} (h:k<l.length):((l.map (Value.int .i64)).toArray)[k]?=some (.int .i64 (getR l k)):=by
 simp [getR];rw [List.getElem?_eq_getElem h];simp
theorem regs_set (l:List Int) (k:Nat) (z:Int):((l.map (Value.int .i64)).toArray).setIfInBounds k (.int .i64 z)=((setR l k z).map (Value.int .i64)).toArray:=by
 rw [show setR l (k:Int) z=l.set k z from rfl,List.map_set];simp
theorem setR_len (l:List Int) (d z:Int):(setR l d z).length=l.length:=by simp [setR]
def W3 (w:World) (mb:Nat) (steps:Int) (op d a b t e:Int):World :=
 (((w.setCell ⟨mb,3,none⟩ (.int .i64 steps)).setCell ⟨mb,6,none⟩ (.int .i64 t)).alloc (.cells #[.int .i64 op,.int .i64 d,.int .i64 a,.int .i64 b,.int .i64 t,.int .i64 e] 48)).drew
theorem blk_new {w:World} {o:Obj} {n:Nat} (h:w.heap.size=n):(w.alloc o).heap[n]?=some o:=by subst h;exact (MapKept.heap_alloc w o).1
structure Pre (B s mb rb mp nb noff ncap rc:Nat) (ns:List Nd) (w W:World) (σ:St) (v:Value) (ia:Option Addr) (ic n:Nat) (D:DataW Unit) (x:Nd):Prop where
 hm:W.heap[mb]?=some (.cells #[v,.int .i64 σ.ret,.bool σ.ended,.int .i64 ((σ.steps:Int)+1),.slice none 0 0,.slice (some ⟨nb,noff,none⟩) ns.length ncap,.int .i64 x.t,.slice ia σ.inp.length ic,.slice (some ⟨rb,0,none⟩) σ.regs.length rc,.map (some mp)] 61 (0,0))
 hr:W.heap[rb]?=some (.cells (σ.regs.map (Value.int .i64)).toArray 3 (0,0))
 ho:W.ownsMap Tryz.prog 57 (plainElem Tryz.prog 3) mp n D
 hout:W.ownsRow s 3 1 v σ.out.length (σ.out.map (Value.int .i64))
 hnd:W.heap[w.heap.size]?=some (.cells #[.int .i64 x.op,.int .i64 x.d,.int .i64 x.a,.int .i64 x.b,.int .i64 x.t,.int .i64 x.e] 48 (0,0))
 K:Keeps [mb,rb,mp] w W
theorem pre_of {B s mb rb mp nb noff ncap rc:Nat} {ns:List Nd} {w:World} {σ:St} {v:Value} {ia:Option Addr} {ic n:Nat} {D:DataW Unit} (M:MA B s mb rb mp nb noff ncap rc ns w σ v ia ic n D) (x:Nd) :
 Pre B s mb rb mp nb noff ncap rc ns w (W3 w mb ((σ.steps:Int)+1) x.op x.d x.a x.b x.t x.e) σ v ia ic n D x:=by
 obtain ⟨g1,g2,g3,g4,g5,g6,g7,g8,g9⟩:=M.geo
 have hs:=M.hs
 have K:Keeps [mb,rb,mp] w (W3 w mb ((σ.steps:Int)+1) x.op x.d x.a x.b x.t x.e):=((((Keeps.refl _ w).setCell (p:=⟨mb,3,none⟩) (by simp) _).setCell (p:=⟨mb,6,none⟩) (by simp) _).alloc _).drew
 refine ⟨?_,?_,?_,K.owns M.hout (by simp;omega),?_,K⟩
 ·have h:=blk_alloc (.cells #[.int .i64 x.op,.int .i64 x.d,.int .i64 x.a,.int .i64 x.b,.int .i64 x.t,.int .i64 x.e] 48) (blk_set (i:=6) (.int .i64 x.t) (blk_set (i:=3) (.int .i64 ((σ.steps:Int)+1)) M.hm))
  exact h
 ·exact blk_alloc _ (blk_set_ne _ (blk_set_ne _ M.hr (fun e=>g7 e.symm)) (fun e=>g7 e.symm))
 ·refine own_at M.ho ?_
  have hlt:=M.ho.lt
  show ((((w.setCell ⟨mb,3,none⟩ _).setCell ⟨mb,6,none⟩ _).alloc _)).heap[mp]?=_
  rw [Below.heap_alloc _ _ _ (by simpa [World.setCell] using hlt),Below.heap_setCell _ _ _ _ (by exact fun e=>g8 e.symm),Below.heap_setCell _ _ _ _ (by exact fun e=>g8 e.symm)]
 ·have hz:((w.setCell ⟨mb,3,none⟩ (.int .i64 ((σ.steps:Int)+1))).setCell ⟨mb,6,none⟩ (.int .i64 x.t)).heap.size=w.heap.size:=by simp [World.setCell]
  show (((w.setCell ⟨mb,3,none⟩ (.int .i64 ((σ.steps:Int)+1))).setCell ⟨mb,6,none⟩ (.int .i64 x.t)).alloc (.cells #[.int .i64 x.op,.int .i64 x.d,.int .i64 x.a,.int .i64 x.b,.int .i64 x.t,.int .i64 x.e] 48)).heap[w.heap.size]?=_
  exact blk_new hz
set_option maxRecDepth 100000 in
theorem step_skip {B s mb rb mp nb noff ncap rc:Nat} {ns:List Nd} {w:World} {σ:St} {v:Value} {ia:Option Addr} {ic n:Nat} {D:DataW Unit} (M:MA B s mb rb mp nb noff ncap rc ns w σ v ia ic n D) {x:Nd} (hx:ns[σ.pc]?=some x) (hlen:ns.length≤256) (hlt:σ.steps<131072) (ht:0≤x.t) (hop:x.op=0) :
 Calls Tryz.prog 23 #[.pointer (some ⟨mb,0,none⟩)] w fun e w' =>e=.returned (.tuple #[])∧∃ v' ia' ic' n' D', MA B s mb rb mp nb noff ncap rc ns w' (stp x σ) v' ia' ic' n' D' ∧Below B w w' :=by
 have hpc:σ.pc<ns.length:=(List.getElem?_eq_some_iff.1 hx).1
 have hml:=blk_lt M.hm
 have hnlt:=M.hN.lt
 have hst0:=M.hst
 have m3:=blk_cell M.hm 3
 have m5:=blk_cell M.hm 5
 have m6:=blk_cell M.hm 6
 have f3:=blk_frozen M.hm 3
 have f6:=blk_frozen M.hm 6
 simp at m3 m5 m6
 have c0:=M.hN.c0 σ.pc x hx
 have c1:=M.hN.c1 σ.pc x hx
 have c2:=M.hN.c2 σ.pc x hx
 have c3:=M.hN.c3 σ.pc x hx
 have c4:=M.hN.c4 σ.pc x hx
 have c5:=M.hN.c5 σ.pc x hx
 have P3:=pre_of M x
 obtain ⟨op,d,a,b,t,e⟩:=x
 simp only at *
 subst hop
 have HS:=hide (And.intro m5 (And.intro m6 (And.intro c0 (And.intro c1 (And.intro c2 (And.intro c3 (And.intro c4 c5)))))))
 have HSa:Hid (∀ o,(w.alloc o).cell? ⟨mb,5,none⟩=some (.slice (some ⟨nb,noff,none⟩) ns.length ncap)∧(w.alloc o).cell? ⟨mb,6,none⟩=some (.int .i64 σ.pc)∧(w.alloc o).cell? ⟨nb,noff+σ.pc*6,none⟩=some (.int .i64 0)∧(w.alloc o).cell? ⟨nb,noff+σ.pc*6+1,none⟩=some (.int .i64 d)∧(w.alloc o).cell? ⟨nb,noff+σ.pc*6+2,none⟩=some (.int .i64 a)∧(w.alloc o).cell? ⟨nb,noff+σ.pc*6+3,none⟩=some (.int .i64 b)∧(w.alloc o).cell? ⟨nb,noff+σ.pc*6+4,none⟩=some (.int .i64 t)∧(w.alloc o).cell? ⟨nb,noff+σ.pc*6+5,none⟩=some (.int .i64 e)):=by
  intro o
  simp only [World.cell?_alloc_past _ _ _ hml,World.cell?_alloc_past _ _ _ hnlt]
  exact HS.out
 have hpi:(σ.pc:Int)<(ns.length:Int):=by omega
 have hpi0:(0:Int)≤(σ.pc:Int):=by omega
 have HM:=hide M
 have HX:=hide hx
 have HP:=hide P3
 clear M hx P3
 go_enter Tryz.func23,Tryz.ntmps23
 go_wp2
 go_region_held3 (fun u=>u.cell? ⟨mb,5,none⟩=some (.slice (some ⟨nb,noff,none⟩) ns.length ncap)∧u.cell? ⟨mb,6,none⟩=some (.int .i64 σ.pc)∧u.cell? ⟨nb,noff+σ.pc*6,none⟩=some (.int .i64 0)∧u.cell? ⟨nb,noff+σ.pc*6+1,none⟩=some (.int .i64 d)∧u.cell? ⟨nb,noff+σ.pc*6+2,none⟩=some (.int .i64 a)∧u.cell? ⟨nb,noff+σ.pc*6+3,none⟩=some (.int .i64 b)∧u.cell? ⟨nb,noff+σ.pc*6+4,none⟩=some (.int .i64 t)∧u.cell? ⟨nb,noff+σ.pc*6+5,none⟩=some (.int .i64 e)) (first | exact HS.out | exact HSa.out _) (fail)
 go_wp2
 go_end0
 have hW:=HP.out
 rw [show stp ⟨0,d,a,b,t,e⟩ σ={ σ with pc:=t.toNat,steps:=σ.steps+1 } from rfl]
 refine ⟨rfl,v,ia,ic,n,D,HM.out.next hW.K ?_ hW.hr hW.ho hW.hout HM.out.hin HM.out.hic rfl hlt (by have:=HM.out.hn;omega) (Nat.le_succ _) rfl HM.out.rel HM.out.srt (fun c hc=>by have:=HM.out.cb c hc;omega),HM.out.below hW.K⟩
 have:=hW.hm
 show _=some (Obj.cells #[_,_,_,_,_,_,Value.int .i64 ((t.toNat:Nat):Int),_,_,_] _ _)
 rw [show ((t.toNat:Nat):Int)=t from by omega]
 exact this
set_option maxRecDepth 100000 in
theorem step_set {B s mb rb mp nb noff ncap rc:Nat} {ns:List Nd} {w:World} {σ:St} {v:Value} {ia:Option Addr} {ic n:Nat} {D:DataW Unit} (M:MA B s mb rb mp nb noff ncap rc ns w σ v ia ic n D) {x:Nd} (hx:ns[σ.pc]?=some x) (hlen:ns.length≤256) (hlt:σ.steps<131072) (ht:0≤x.t) (hop:x.op=1) (hd:InR σ.regs x.d) :
 Calls Tryz.prog 23 #[.pointer (some ⟨mb,0,none⟩)] w fun e w' =>e=.returned (.tuple #[])∧∃ v' ia' ic' n' D', MA B s mb rb mp nb noff ncap rc ns w' (stp x σ) v' ia' ic' n' D' ∧Below B w w' :=by
 have hpc:σ.pc<ns.length:=(List.getElem?_eq_some_iff.1 hx).1
 have hml:=blk_lt M.hm
 have hnlt:=M.hN.lt
 have hst0:=M.hst
 have m3:=blk_cell M.hm 3
 have m5:=blk_cell M.hm 5
 have m6:=blk_cell M.hm 6
 have f3:=blk_frozen M.hm 3
 have f6:=blk_frozen M.hm 6
 simp at m3 m5 m6
 have c0:=M.hN.c0 σ.pc x hx
 have c1:=M.hN.c1 σ.pc x hx
 have c2:=M.hN.c2 σ.pc x hx
 have c3:=M.hN.c3 σ.pc x hx
 have c4:=M.hN.c4 σ.pc x hx
 have c5:=M.hN.c5 σ.pc x hx
 have P3:=pre_of M x
 obtain ⟨op,d,a,b,t,e⟩:=x
 simp only at *
 subst hop
 have HS:=hide (And.intro m5 (And.intro m6 (And.intro c0 (And.intro c1 (And.intro c2 (And.intro c3 (And.intro c4 c5)))))))
 have HSa:Hid (∀ o,(w.alloc o).cell? ⟨mb,5,none⟩=some (.slice (some ⟨nb,noff,none⟩) ns.length ncap)∧(w.alloc o).cell? ⟨mb,6,none⟩=some (.int .i64 σ.pc)∧(w.alloc o).cell? ⟨nb,noff+σ.pc*6,none⟩=some (.int .i64 1)∧(w.alloc o).cell? ⟨nb,noff+σ.pc*6+1,none⟩=some (.int .i64 d)∧(w.alloc o).cell? ⟨nb,noff+σ.pc*6+2,none⟩=some (.int .i64 a)∧(w.alloc o).cell? ⟨nb,noff+σ.pc*6+3,none⟩=some (.int .i64 b)∧(w.alloc o).cell? ⟨nb,noff+σ.pc*6+4,none⟩=some (.int .i64 t)∧(w.alloc o).cell? ⟨nb,noff+σ.pc*6+5,none⟩=some (.int .i64 e)):=by
  intro o
  simp only [World.cell?_alloc_past _ _ _ hml,World.cell?_alloc_past _ _ _ hnlt]
  exact HS.out
 have hpi:(σ.pc:Int)<(ns.length:Int):=by omega
 have hpi0:(0:Int)≤(σ.pc:Int):=by omega
 have HM:=hide M
 have HX:=hide hx
 have HP:=hide P3
 clear M hx P3
 go_enter Tryz.func23,Tryz.ntmps23
 go_wp2
 go_region_held3 (fun u=>u.cell? ⟨mb,5,none⟩=some (.slice (some ⟨nb,noff,none⟩) ns.length ncap)∧u.cell? ⟨mb,6,none⟩=some (.int .i64 σ.pc)∧u.cell? ⟨nb,noff+σ.pc*6,none⟩=some (.int .i64 1)∧u.cell? ⟨nb,noff+σ.pc*6+1,none⟩=some (.int .i64 d)∧u.cell? ⟨nb,noff+σ.pc*6+2,none⟩=some (.int .i64 a)∧u.cell? ⟨nb,noff+σ.pc*6+3,none⟩=some (.int .i64 b)∧u.cell? ⟨nb,noff+σ.pc*6+4,none⟩=some (.int .i64 t)∧u.cell? ⟨nb,noff+σ.pc*6+5,none⟩=some (.int .i64 e)) (first | exact HS.out | exact HSa.out _) (fail)
 go_wp2
 clear m3 m5 m6 f3 f6 c0 c1 c2 c3 c4 c5 HS HSa hpi hpi0
 have hW:=HP.out
 unfold W3 at hW
 generalize (((w.setCell ⟨mb,3,none⟩ (.int .i64 ((σ.steps:Int)+1))).setCell ⟨mb,6,none⟩ (.int .i64 t)).alloc (.cells #[.int .i64 1,.int .i64 d,.int .i64 a,.int .i64 b,.int .i64 t,.int .i64 e] 48)).drew=W at hW ⊢
 clear HP
 have HW:=hide hW
 obtain ⟨g1,g2,g3,g4,g5,g6,g7,g8,g9⟩:=HM.out.geo
 have wml:=blk_lt hW.hm
 have wrl:=blk_lt hW.hr
 have wnl:=blk_lt hW.hnd
 have hss:=HM.out.hs
 obtain ⟨hd0,hd1⟩:=hd
 obtain ⟨dn,rfl⟩:=Int.eq_ofNat_of_zero_le hd0
 have m8:=blk_cell hW.hm 8
 have n1:=blk_cell hW.hnd 1
 have n2:=blk_cell hW.hnd 2
 have rd:=blk_cell hW.hr dn
 rw [regs_at (by omega)] at rd
 have rf:=blk_frozen hW.hr dn
 simp at m8 n1 n2
 clear hW
 refine wp_region_still_tail 9 (by kernel_rfl) (by kernel_rfl) ?_
 simp only [List.take_succ_cons,List.take_zero,List.drop_succ_cons,List.drop_zero]
 repeat still_step
 refine wpStill_nil ?_
 go_wp2
 go_end0
 have hW:=HW.out
 have K2:Keeps [mb,rb,mp] w (W.setCell ⟨rb,dn,none⟩ (.int .i64 a)).drew:=(hW.K.setCell (p:=⟨rb,dn,none⟩) (by simp) _).drew
 rw [show stp ⟨1,dn,a,b,t,e⟩ σ={ σ with pc:=t.toNat,steps:=σ.steps+1,regs:=setR σ.regs dn a } from rfl]
 refine ⟨rfl,v,ia,ic,n,D,HM.out.next K2 ?_ ?_ ?_ ?_ HM.out.hin HM.out.hic rfl hlt (by have:=HM.out.hn;omega) (Nat.le_succ _) (setR_len _ _ _) HM.out.rel HM.out.srt (fun c hc=>by have:=HM.out.cb c hc;omega),HM.out.below K2⟩
 ·have:=blk_set_ne (i:=dn) (.int .i64 a) hW.hm g7
  show _=some (Obj.cells #[_,_,_,_,_,_,Value.int .i64 ((t.toNat:Nat):Int),_,Value.slice _ (setR σ.regs dn a).length _,_] _ _)
  rw [show ((t.toNat:Nat):Int)=t from by omega,setR_len]
  exact this
 ·have:=blk_set (i:=dn) (.int .i64 a) hW.hr
  rw [regs_set] at this
  exact this
 ·exact own_at hW.ho (Below.heap_setCell _ _ _ _ (by exact fun e=>g9 e.symm))
 ·exact ((Keeps.refl [rb] W).setCell (p:=⟨rb,dn,none⟩) (by simp) _).drew.owns hW.hout (by simp;omega)
set_option maxRecDepth 100000 in
theorem step_end {B s mb rb mp nb noff ncap rc:Nat} {ns:List Nd} {w:World} {σ:St} {v:Value} {ia:Option Addr} {ic n:Nat} {D:DataW Unit} (M:MA B s mb rb mp nb noff ncap rc ns w σ v ia ic n D) {x:Nd} (hx:ns[σ.pc]?=some x) (hlen:ns.length≤256) (hlt:σ.steps<131072) (ht:0≤x.t) (hop:x.op=12) (ha:InR σ.regs x.a) :
 Calls Tryz.prog 23 #[.pointer (some ⟨mb,0,none⟩)] w fun e w' =>e=.returned (.tuple #[])∧∃ v' ia' ic' n' D', MA B s mb rb mp nb noff ncap rc ns w' (stp x σ) v' ia' ic' n' D' ∧Below B w w' :=by
 have hpc:σ.pc<ns.length:=(List.getElem?_eq_some_iff.1 hx).1
 have hml:=blk_lt M.hm
 have hnlt:=M.hN.lt
 have hst0:=M.hst
 have m3:=blk_cell M.hm 3
 have m5:=blk_cell M.hm 5
 have m6:=blk_cell M.hm 6
 have f3:=blk_frozen M.hm 3
 have f6:=blk_frozen M.hm 6
 simp at m3 m5 m6
 have c0:=M.hN.c0 σ.pc x hx
 have c1:=M.hN.c1 σ.pc x hx
 have c2:=M.hN.c2 σ.pc x hx
 have c3:=M.hN.c3 σ.pc x hx
 have c4:=M.hN.c4 σ.pc x hx
 have c5:=M.hN.c5 σ.pc x hx
 have P3:=pre_of M x
 obtain ⟨op,d,a,b,t,e⟩:=x
 simp only at *
 subst hop
 have HS:=hide (And.intro m5 (And.intro m6 (And.intro c0 (And.intro c1 (And.intro c2 (And.intro c3 (And.intro c4 c5)))))))
 have HSa:Hid (∀ o,(w.alloc o).cell? ⟨mb,5,none⟩=some (.slice (some ⟨nb,noff,none⟩) ns.length ncap)∧(w.alloc o).cell? ⟨mb,6,none⟩=some (.int .i64 σ.pc)∧(w.alloc o).cell? ⟨nb,noff+σ.pc*6,none⟩=some (.int .i64 12)∧(w.alloc o).cell? ⟨nb,noff+σ.pc*6+1,none⟩=some (.int .i64 d)∧(w.alloc o).cell? ⟨nb,noff+σ.pc*6+2,none⟩=some (.int .i64 a)∧(w.alloc o).cell? ⟨nb,noff+σ.pc*6+3,none⟩=some (.int .i64 b)∧(w.alloc o).cell? ⟨nb,noff+σ.pc*6+4,none⟩=some (.int .i64 t)∧(w.alloc o).cell? ⟨nb,noff+σ.pc*6+5,none⟩=some (.int .i64 e)):=by
  intro o
  simp only [World.cell?_alloc_past _ _ _ hml,World.cell?_alloc_past _ _ _ hnlt]
  exact HS.out
 have hpi:(σ.pc:Int)<(ns.length:Int):=by omega
 have hpi0:(0:Int)≤(σ.pc:Int):=by omega
 have HM:=hide M
 have HX:=hide hx
 have HP:=hide P3
 clear M hx P3
 go_enter Tryz.func23,Tryz.ntmps23
 go_wp2
 go_region_held3 (fun u=>u.cell? ⟨mb,5,none⟩=some (.slice (some ⟨nb,noff,none⟩) ns.length ncap)∧u.cell? ⟨mb,6,none⟩=some (.int .i64 σ.pc)∧u.cell? ⟨nb,noff+σ.pc*6,none⟩=some (.int .i64 12)∧u.cell? ⟨nb,noff+σ.pc*6+1,none⟩=some (.int .i64 d)∧u.cell? ⟨nb,noff+σ.pc*6+2,none⟩=some (.int .i64 a)∧u.cell? ⟨nb,noff+σ.pc*6+3,none⟩=some (.int .i64 b)∧u.cell? ⟨nb,noff+σ.pc*6+4,none⟩=some (.int .i64 t)∧u.cell? ⟨nb,noff+σ.pc*6+5,none⟩=some (.int .i64 e)) (first | exact HS.out | exact HSa.out _) (fail)
 go_wp2
 clear m3 m5 m6 f3 f6 c0 c1 c2 c3 c4 c5 HS HSa hpi hpi0
 have hW:=HP.out
 unfold W3 at hW
 generalize (((w.setCell ⟨mb,3,none⟩ (.int .i64 ((σ.steps:Int)+1))).setCell ⟨mb,6,none⟩ (.int .i64 t)).alloc (.cells #[.int .i64 12,.int .i64 d,.int .i64 a,.int .i64 b,.int .i64 t,.int .i64 e] 48)).drew=W at hW ⊢
 clear HP
 have HW:=hide hW
 obtain ⟨g1,g2,g3,g4,g5,g6,g7,g8,g9⟩:=HM.out.geo
 have wml:=blk_lt hW.hm
 have wrl:=blk_lt hW.hr
 have wnl:=blk_lt hW.hnd
 have hss:=HM.out.hs
 obtain ⟨ha0,ha1⟩:=ha
 obtain ⟨an,rfl⟩:=Int.eq_ofNat_of_zero_le ha0
 have m1:=blk_cell hW.hm 1
 have m2:=blk_cell hW.hm 2
 have m8:=blk_cell hW.hm 8
 have f1:=blk_frozen hW.hm 1
 have f2:=blk_frozen hW.hm 2
 have n2:=blk_cell hW.hnd 2
 have ra:=blk_cell hW.hr an
 rw [regs_at (by omega)] at ra
 simp at m1 m2 m8 n2
 clear hW
 go_region
 go_wp2
 go_end0
 have hW:=HW.out
 rw [show stp ⟨12,d,an,b,t,e⟩ σ={ σ with pc:=t.toNat,steps:=σ.steps+1,ret:=getR σ.regs an,ended:=true } from rfl]
 have K2:Keeps [mb,rb,mp] w ((W.setCell ⟨mb,1,none⟩ (.int .i64 (getR σ.regs an))).setCell ⟨mb,2,none⟩ (.bool true)).drew:=((hW.K.setCell (p:=⟨mb,1,none⟩) (by simp) _).setCell (p:=⟨mb,2,none⟩) (by simp) _).drew
 refine ⟨rfl,v,ia,ic,n,D,HM.out.next K2 ?_ ?_ ?_ ?_ HM.out.hin HM.out.hic rfl hlt (by have:=HM.out.hn;omega) (Nat.le_succ _) rfl HM.out.rel HM.out.srt (fun c hc=>by have:=HM.out.cb c hc;omega),HM.out.below K2⟩
 ·have:=blk_set (i:=2) (.bool true) (blk_set (i:=1) (.int .i64 (getR σ.regs an)) hW.hm)
  show _=some (Obj.cells #[_,_,_,_,_,_,Value.int .i64 ((t.toNat:Nat):Int),_,_,_] _ _)
  rw [show ((t.toNat:Nat):Int)=t from by omega]
  exact this
 ·exact blk_set_ne _ (blk_set_ne _ hW.hr (fun e=>g7 e.symm)) (fun e=>g7 e.symm)
 ·refine own_at hW.ho ?_
  show ((W.setCell ⟨mb,1,none⟩ _).setCell ⟨mb,2,none⟩ _).heap[mp]?=_
  rw [Below.heap_setCell _ _ _ _ (by exact fun e=>g8 e.symm),Below.heap_setCell _ _ _ _ (by exact fun e=>g8 e.symm)]
 ·exact (((Keeps.refl [mb] W).setCell (p:=⟨mb,1,none⟩) (by simp) _).setCell (p:=⟨mb,2,none⟩) (by simp) _).drew.owns hW.hout (by simp;omega)
set_option maxRecDepth 100000 in
theorem step_inn {B s mb rb mp nb noff ncap rc:Nat} {ns:List Nd} {w:World} {σ:St} {v:Value} {ia:Option Addr} {ic n:Nat} {D:DataW Unit} (M:MA B s mb rb mp nb noff ncap rc ns w σ v ia ic n D) {x:Nd} (hx:ns[σ.pc]?=some x) (hlen:ns.length≤256) (hlt:σ.steps<131072) (ht:0≤x.t) (hop:x.op=9) (hd:InR σ.regs x.d) :
 Calls Tryz.prog 23 #[.pointer (some ⟨mb,0,none⟩)] w fun e w' =>e=.returned (.tuple #[])∧∃ v' ia' ic' n' D', MA B s mb rb mp nb noff ncap rc ns w' (stp x σ) v' ia' ic' n' D' ∧Below B w w' :=by
 have hpc:σ.pc<ns.length:=(List.getElem?_eq_some_iff.1 hx).1
 have hml:=blk_lt M.hm
 have hnlt:=M.hN.lt
 have hst0:=M.hst
 have m3:=blk_cell M.hm 3
 have m5:=blk_cell M.hm 5
 have m6:=blk_cell M.hm 6
 have f3:=blk_frozen M.hm 3
 have f6:=blk_frozen M.hm 6
 simp at m3 m5 m6
 have c0:=M.hN.c0 σ.pc x hx
 have c1:=M.hN.c1 σ.pc x hx
 have c2:=M.hN.c2 σ.pc x hx
 have c3:=M.hN.c3 σ.pc x hx
 have c4:=M.hN.c4 σ.pc x hx
 have c5:=M.hN.c5 σ.pc x hx
 have P3:=pre_of M x
 obtain ⟨op,d,a,b,t,e⟩:=x
 simp only at *
 subst hop
 have HS:=hide (And.intro m5 (And.intro m6 (And.intro c0 (And.intro c1 (And.intro c2 (And.intro c3 (And.intro c4 c5)))))))
 have HSa:Hid (∀ o,(w.alloc o).cell? ⟨mb,5,none⟩=some (.slice (some ⟨nb,noff,none⟩) ns.length ncap)∧(w.alloc o).cell? ⟨mb,6,none⟩=some (.int .i64 σ.pc)∧(w.alloc o).cell? ⟨nb,noff+σ.pc*6,none⟩=some (.int .i64 9)∧(w.alloc o).cell? ⟨nb,noff+σ.pc*6+1,none⟩=some (.int .i64 d)∧(w.alloc o).cell? ⟨nb,noff+σ.pc*6+2,none⟩=some (.int .i64 a)∧(w.alloc o).cell? ⟨nb,noff+σ.pc*6+3,none⟩=some (.int .i64 b)∧(w.alloc o).cell? ⟨nb,noff+σ.pc*6+4,none⟩=some (.int .i64 t)∧(w.alloc o).cell? ⟨nb,noff+σ.pc*6+5,none⟩=some (.int .i64 e)):=by
  intro o
  simp only [World.cell?_alloc_past _ _ _ hml,World.cell?_alloc_past _ _ _ hnlt]
  exact HS.out
 have hpi:(σ.pc:Int)<(ns.length:Int):=by omega
 have hpi0:(0:Int)≤(σ.pc:Int):=by omega
 have HM:=hide M
 have HX:=hide hx
 have HP:=hide P3
 clear M hx P3
 go_enter Tryz.func23,Tryz.ntmps23
 go_wp2
 go_region_held3 (fun u=>u.cell? ⟨mb,5,none⟩=some (.slice (some ⟨nb,noff,none⟩) ns.length ncap)∧u.cell? ⟨mb,6,none⟩=some (.int .i64 σ.pc)∧u.cell? ⟨nb,noff+σ.pc*6,none⟩=some (.int .i64 9)∧u.cell? ⟨nb,noff+σ.pc*6+1,none⟩=some (.int .i64 d)∧u.cell? ⟨nb,noff+σ.pc*6+2,none⟩=some (.int .i64 a)∧u.cell? ⟨nb,noff+σ.pc*6+3,none⟩=some (.int .i64 b)∧u.cell? ⟨nb,noff+σ.pc*6+4,none⟩=some (.int .i64 t)∧u.cell? ⟨nb,noff+σ.pc*6+5,none⟩=some (.int .i64 e)) (first | exact HS.out | exact HSa.out _) (fail)
 go_wp2
 clear m3 m5 m6 f3 f6 c0 c1 c2 c3 c4 c5 HS HSa hpi hpi0
 have hW:=HP.out
 unfold W3 at hW
 generalize (((w.setCell ⟨mb,3,none⟩ (.int .i64 ((σ.steps:Int)+1))).setCell ⟨mb,6,none⟩ (.int .i64 t)).alloc (.cells #[.int .i64 9,.int .i64 d,.int .i64 a,.int .i64 b,.int .i64 t,.int .i64 e] 48)).drew=W at hW ⊢
 clear HP
 have HW:=hide hW
 obtain ⟨g1,g2,g3,g4,g5,g6,g7,g8,g9⟩:=HM.out.geo
 have wml:=blk_lt hW.hm
 have wrl:=blk_lt hW.hr
 have wnl:=blk_lt hW.hnd
 have hss:=HM.out.hs
 obtain ⟨hd0,hd1⟩:=hd
 obtain ⟨dn,rfl⟩:=Int.eq_ofNat_of_zero_le hd0
 have m8:=blk_cell hW.hm 8
 have n1:=blk_cell hW.hnd 1
 simp at m8 n1
 have rd:=blk_cell hW.hr dn
 rw [regs_at (by omega)] at rd
 have rf:=blk_frozen hW.hr dn
 have hgr:W.heap.size≠rb:=by omega
 have hin:=HM.out.hin
 have hic:=HM.out.hic
 have hnd7:w.heap.size≠mb:=by have:=blk_lt HM.out.hm;omega
 have Ke:=hW.K
 have HS3:=hide (And.intro m8 n1)
 cases hinp:σ.inp with
 | nil =>
  have hm' :=hW.hm
  rw [hinp] at hm'
  have hmd:W.drew.heap[mb]?=_:=hm'
  have HNIL:=hide hinp
  clear hinp hW
  have S4:Hid ((W.setCell ⟨rb,dn,none⟩ (.int .i64 0)).cell? ⟨mb,8,none⟩=some (.slice (some ⟨rb,0,none⟩) σ.regs.length rc)∧(W.setCell ⟨rb,dn,none⟩ (.int .i64 0)).cell? ⟨w.heap.size,1,none⟩=some (.int .i64 dn)):=⟨(World.cell?_of_block (w:=W) (Below.heap_setCell _ _ _ _ (by exact g7))).trans m8,(World.cell?_of_block (w:=W) (Below.heap_setCell _ _ _ _ (by show w.heap.size≠rb;omega))).trans n1⟩
  go_region_held3 (fun u=>u.cell? ⟨mb,8,none⟩=some (.slice (some ⟨rb,0,none⟩) σ.regs.length rc)∧u.cell? ⟨w.heap.size,1,none⟩=some (.int .i64 dn)) (first | exact HS3.out | exact S4.out) (first
   | (go_at_call 41;refine (comeIn_nil mb _ _ _ _ _ _ _ _ _ _ _ _ hmd).mono ?_;rintro e1 w5 ⟨rfl,rfl⟩))
  all_goals go_wp2
  all_goals go_end0
  all_goals
   have hW:=HW.out
   have hinp:=HNIL.out
   rw [show stp ⟨9,dn,a,b,t,e⟩ σ={ σ with pc:=t.toNat,steps:=σ.steps+1,regs:=setR σ.regs dn 0 } from by
    show ({ σ with pc:=t.toNat,steps:=σ.steps+1,regs:=setR σ.regs dn (σ.inp.headD 0),inp:=σ.inp.tail }:St)=_
    rw [hinp];rfl]
   have K2:Keeps [mb,rb,mp] w (W.setCell ⟨rb,dn,none⟩ (.int .i64 0)).drew:=(Ke.setCell (p:=⟨rb,dn,none⟩) (by simp) _).drew
   refine ⟨rfl,v,ia,ic,n,D,HM.out.next K2 ?_ ?_ ?_ ?_ HM.out.hin HM.out.hic rfl hlt (by have:=HM.out.hn;omega) (Nat.le_succ _) (setR_len _ _ _) HM.out.rel HM.out.srt (fun c hc=>by have:=HM.out.cb c hc;omega),HM.out.below K2⟩
   ·have:=blk_set_ne (i:=dn) (.int .i64 0) hW.hm g7
    show _=some (Obj.cells #[_,_,_,_,_,_,Value.int .i64 ((t.toNat:Nat):Int),_,Value.slice _ (setR σ.regs dn 0).length _,_] _ _)
    rw [show ((t.toNat:Nat):Int)=t from by omega,setR_len]
    exact this
   ·have:=blk_set (i:=dn) (.int .i64 0) hW.hr
    rw [regs_set] at this
    exact this
   ·exact own_at hW.ho (Below.heap_setCell _ _ _ _ (by exact fun e=>g9 e.symm))
   ·exact ((Keeps.refl [rb] W).setCell (p:=⟨rb,dn,none⟩) (by simp) _).drew.owns hW.hout (by simp;omega)
 | cons z zs =>
  rw [hinp] at hin hic
  rcases hin with hin | ⟨bi,oi,hia,hbi,hci⟩
  ·cases hin
  subst hia
  have hm' :=hW.hm
  rw [hinp] at hm'
  have hmd:W.drew.heap[mb]?=some (.cells #[v,.int .i64 σ.ret,.bool σ.ended,.int .i64 ((σ.steps:Int)+1),.slice none 0 0,.slice (some ⟨nb,noff,none⟩) ns.length ncap,.int .i64 t,.slice (some ⟨bi,oi,none⟩) (zs.length+1) ic,.slice (some ⟨rb,0,none⟩) σ.regs.length rc,.map (some mp)] 61 (0,0)):=hm'
  have hz0:W.drew.cell? ⟨bi,oi,none⟩=some (.int .i64 z):=by
   have:=hci 0 z rfl
   show W.cell? _=_
   rw [Ke.cell (by have:=HM.out.B_le;omega) (by simp;omega)];exact this
  have HC:=hide hinp
  have S4:Hid (∀ X:Value,(W.setCell ⟨mb,7,none⟩ X).cell? ⟨mb,8,none⟩=some (.slice (some ⟨rb,0,none⟩) σ.regs.length rc)∧(W.setCell ⟨mb,7,none⟩ X).cell? ⟨w.heap.size,1,none⟩=some (.int .i64 dn)):=by
   intro X
   refine ⟨?_,(World.cell?_of_block (w:=W) (Below.heap_setCell _ _ _ _ (by exact hnd7))).trans n1⟩
   have:=blk_cell (blk_set (i:=7) X hW.hm) 8
   rw [this];rfl
  have S5:Hid (∀ X Y:Value,((W.setCell ⟨mb,7,none⟩ X).setCell ⟨rb,dn,none⟩ Y).cell? ⟨mb,8,none⟩=some (.slice (some ⟨rb,0,none⟩) σ.regs.length rc)∧((W.setCell ⟨mb,7,none⟩ X).setCell ⟨rb,dn,none⟩ Y).cell? ⟨w.heap.size,1,none⟩=some (.int .i64 dn)):=by
   intro X Y
   exact ⟨(World.cell?_of_block (w:=W.setCell ⟨mb,7,none⟩ X) (Below.heap_setCell _ _ _ _ (by exact g7))).trans (S4.out X).1,(World.cell?_of_block (w:=W.setCell ⟨mb,7,none⟩ X) (Below.heap_setCell _ _ _ _ (by show w.heap.size≠rb;omega))).trans (S4.out X).2⟩
  have rd' :∀ X:Value,(W.setCell ⟨mb,7,none⟩ X).cell? ⟨rb,dn,none⟩=some (.int .i64 (getR σ.regs dn)):=fun X=>(World.cell?_of_block (w:=W) (Below.heap_setCell _ _ _ _ (by exact fun e=>g7 e.symm))).trans rd
  have rf' :∀ X:Value,(W.setCell ⟨mb,7,none⟩ X).frozen? ⟨rb,dn,none⟩=false:=fun X=>(World.frozen?_of_block (w:=W) (Below.heap_setCell _ _ _ _ (by exact fun e=>g7 e.symm))).trans rf
  have HCI:=hide hci
  have hicl:zs.length+1≤ic:=by simpa using hic
  clear hinp hW hci hic
  go_region_held3 (fun u=>u.cell? ⟨mb,8,none⟩=some (.slice (some ⟨rb,0,none⟩) σ.regs.length rc)∧u.cell? ⟨w.heap.size,1,none⟩=some (.int .i64 dn)) (first | exact HS3.out | exact S4.out _ | exact S5.out _ _) (first
   | (go_at_call 41;refine (comeIn_cons mb _ _ _ _ _ _ _ _ _ bi oi zs.length ic z _ hicl hmd hz0).mono ?_;rintro e1 w5 ⟨rfl,ia5,ic5,rfl,hl5,ho5⟩))
  all_goals go_wp2
  all_goals go_end0
  all_goals
   have hW:=HW.out
   have hinp:=HC.out
   rw [show stp ⟨9,dn,a,b,t,e⟩ σ={ σ with pc:=t.toNat,steps:=σ.steps+1,regs:=setR σ.regs dn z,inp:=zs } from by
    show ({ σ with pc:=t.toNat,steps:=σ.steps+1,regs:=setR σ.regs dn (σ.inp.headD 0),inp:=σ.inp.tail }:St)=_
    rw [hinp];rfl]
   have K2:Keeps [mb,rb,mp] w ((W.setCell ⟨mb,7,none⟩ (.slice ia5 zs.length ic5)).setCell ⟨rb,dn,none⟩ (.int .i64 z)).drew:=((Ke.setCell (p:=⟨mb,7,none⟩) (by simp) _).setCell (p:=⟨rb,dn,none⟩) (by simp) _).drew
   have hin5:InAt w B ia5 zs:=by
    rcases ho5 with ho5 | ho5
    ·exact Or.inl (List.eq_nil_of_length_eq_zero ho5)
    ·refine Or.inr ⟨bi,oi+1,ho5,hbi,fun j y hy=>?_⟩
     have:=HCI.out (j+1) y (by simpa using hy)
     rw [show oi+1+j=oi+(j+1) by omega];exact this
   refine ⟨rfl,v,ia5,ic5,n,D,HM.out.next K2 ?_ ?_ ?_ ?_ hin5 hl5 rfl hlt (by have:=HM.out.hn;omega) (Nat.le_succ _) (setR_len _ _ _) HM.out.rel HM.out.srt (fun c hc=>by have:=HM.out.cb c hc;omega),HM.out.below K2⟩
   ·have:=blk_set_ne (i:=dn) (.int .i64 z) (blk_set (i:=7) (.slice ia5 zs.length ic5) hW.hm) g7
    show _=some (Obj.cells #[_,_,_,_,_,_,Value.int .i64 ((t.toNat:Nat):Int),_,Value.slice _ (setR σ.regs dn z).length _,_] _ _)
    rw [show ((t.toNat:Nat):Int)=t from by omega,setR_len]
    exact this
   ·have:=blk_set (i:=dn) (.int .i64 z) (blk_set_ne (i:=7) (.slice ia5 zs.length ic5) hW.hr (fun e=>g7 e.symm))
    rw [regs_set] at this
    exact this
   ·refine own_at hW.ho ?_
    show ((W.setCell ⟨mb,7,none⟩ _).setCell ⟨rb,dn,none⟩ _).heap[mp]?=_
    rw [Below.heap_setCell _ _ _ _ (by exact fun e=>g9 e.symm),Below.heap_setCell _ _ _ _ (by exact fun e=>g8 e.symm)]
   ·exact (((Keeps.refl [mb,rb] W).setCell (p:=⟨mb,7,none⟩) (by simp) _).setCell (p:=⟨rb,dn,none⟩) (by simp) _).drew.owns hW.hout (by simp;omega)
set_option maxRecDepth 100000 in
theorem step_copy {B s mb rb mp nb noff ncap rc:Nat} {ns:List Nd} {w:World} {σ:St} {v:Value} {ia:Option Addr} {ic n:Nat} {D:DataW Unit} (M:MA B s mb rb mp nb noff ncap rc ns w σ v ia ic n D) {x:Nd} (hx:ns[σ.pc]?=some x) (hlen:ns.length≤256) (hlt:σ.steps<131072) (ht:0≤x.t) (hop:x.op=2) (hd:InR σ.regs x.d) (ha:InR σ.regs x.a) :
 Calls Tryz.prog 23 #[.pointer (some ⟨mb,0,none⟩)] w fun e w' =>e=.returned (.tuple #[])∧∃ v' ia' ic' n' D', MA B s mb rb mp nb noff ncap rc ns w' (stp x σ) v' ia' ic' n' D' ∧Below B w w' :=by
 have hpc:σ.pc<ns.length:=(List.getElem?_eq_some_iff.1 hx).1
 have hml:=blk_lt M.hm
 have hnlt:=M.hN.lt
 have hst0:=M.hst
 have m3:=blk_cell M.hm 3
 have m5:=blk_cell M.hm 5
 have m6:=blk_cell M.hm 6
 have f3:=blk_frozen M.hm 3
 have f6:=blk_frozen M.hm 6
 simp at m3 m5 m6
 have c0:=M.hN.c0 σ.pc x hx
 have c1:=M.hN.c1 σ.pc x hx
 have c2:=M.hN.c2 σ.pc x hx
 have c3:=M.hN.c3 σ.pc x hx
 have c4:=M.hN.c4 σ.pc x hx
 have c5:=M.hN.c5 σ.pc x hx
 have P3:=pre_of M x
 obtain ⟨op,d,a,b,t,e⟩:=x
 simp only at *
 subst hop
 have HS:=hide (And.intro m5 (And.intro m6 (And.intro c0 (And.intro c1 (And.intro c2 (And.intro c3 (And.intro c4 c5)))))))
 have HSa:Hid (∀ o,(w.alloc o).cell? ⟨mb,5,none⟩=some (.slice (some ⟨nb,noff,none⟩) ns.length ncap)∧(w.alloc o).cell? ⟨mb,6,none⟩=some (.int .i64 σ.pc)∧(w.alloc o).cell? ⟨nb,noff+σ.pc*6,none⟩=some (.int .i64 2)∧(w.alloc o).cell? ⟨nb,noff+σ.pc*6+1,none⟩=some (.int .i64 d)∧(w.alloc o).cell? ⟨nb,noff+σ.pc*6+2,none⟩=some (.int .i64 a)∧(w.alloc o).cell? ⟨nb,noff+σ.pc*6+3,none⟩=some (.int .i64 b)∧(w.alloc o).cell? ⟨nb,noff+σ.pc*6+4,none⟩=some (.int .i64 t)∧(w.alloc o).cell? ⟨nb,noff+σ.pc*6+5,none⟩=some (.int .i64 e)):=by
  intro o
  simp only [World.cell?_alloc_past _ _ _ hml,World.cell?_alloc_past _ _ _ hnlt]
  exact HS.out
 have hpi:(σ.pc:Int)<(ns.length:Int):=by omega
 have hpi0:(0:Int)≤(σ.pc:Int):=by omega
 have HM:=hide M
 have HX:=hide hx
 have HP:=hide P3
 clear M hx P3
 go_enter Tryz.func23,Tryz.ntmps23
 go_wp2
 go_region_held3 (fun u=>u.cell? ⟨mb,5,none⟩=some (.slice (some ⟨nb,noff,none⟩) ns.length ncap)∧u.cell? ⟨mb,6,none⟩=some (.int .i64 σ.pc)∧u.cell? ⟨nb,noff+σ.pc*6,none⟩=some (.int .i64 2)∧u.cell? ⟨nb,noff+σ.pc*6+1,none⟩=some (.int .i64 d)∧u.cell? ⟨nb,noff+σ.pc*6+2,none⟩=some (.int .i64 a)∧u.cell? ⟨nb,noff+σ.pc*6+3,none⟩=some (.int .i64 b)∧u.cell? ⟨nb,noff+σ.pc*6+4,none⟩=some (.int .i64 t)∧u.cell? ⟨nb,noff+σ.pc*6+5,none⟩=some (.int .i64 e)) (first | exact HS.out | exact HSa.out _) (fail)
 go_wp2
 clear m3 m5 m6 f3 f6 c0 c1 c2 c3 c4 c5 HS HSa hpi hpi0
 have hW:=HP.out
 unfold W3 at hW
 generalize (((w.setCell ⟨mb,3,none⟩ (.int .i64 ((σ.steps:Int)+1))).setCell ⟨mb,6,none⟩ (.int .i64 t)).alloc (.cells #[.int .i64 2,.int .i64 d,.int .i64 a,.int .i64 b,.int .i64 t,.int .i64 e] 48)).drew=W at hW ⊢
 clear HP
 have HW:=hide hW
 obtain ⟨g1,g2,g3,g4,g5,g6,g7,g8,g9⟩:=HM.out.geo
 have wml:=blk_lt hW.hm
 have wrl:=blk_lt hW.hr
 have wnl:=blk_lt hW.hnd
 have hss:=HM.out.hs
 obtain ⟨hd0,hd1⟩:=hd
 obtain ⟨ha0,ha1⟩:=ha
 obtain ⟨dn,rfl⟩:=Int.eq_ofNat_of_zero_le hd0
 obtain ⟨an,rfl⟩:=Int.eq_ofNat_of_zero_le ha0
 have m8:=blk_cell hW.hm 8
 have n1:=blk_cell hW.hnd 1
 have n2:=blk_cell hW.hnd 2
 have rd:=blk_cell hW.hr dn
 have ra:=blk_cell hW.hr an
 rw [regs_at (by omega)] at rd ra
 have rf:=blk_frozen hW.hr dn
 simp at m8 n1 n2
 clear hW
 refine wp_region_still_tail 15 (by kernel_rfl) (by kernel_rfl) ?_
 simp only [List.take_succ_cons,List.take_zero,List.drop_succ_cons,List.drop_zero]
 repeat still_step
 refine wpStill_nil ?_
 go_wp2
 go_end0
 have hW:=HW.out
 have K2:Keeps [mb,rb,mp] w (W.setCell ⟨rb,dn,none⟩ (.int .i64 (getR σ.regs an))).drew:=(hW.K.setCell (p:=⟨rb,dn,none⟩) (by simp) _).drew
 rw [show stp ⟨2,dn,an,b,t,e⟩ σ={ σ with pc:=t.toNat,steps:=σ.steps+1,regs:=setR σ.regs dn (getR σ.regs an) } from rfl]
 refine ⟨rfl,v,ia,ic,n,D,HM.out.next K2 ?_ ?_ ?_ ?_ HM.out.hin HM.out.hic rfl hlt (by have:=HM.out.hn;omega) (Nat.le_succ _) (setR_len _ _ _) HM.out.rel HM.out.srt (fun c hc=>by have:=HM.out.cb c hc;omega),HM.out.below K2⟩
 ·have:=blk_set_ne (i:=dn) (.int .i64 (getR σ.regs an)) hW.hm g7
  show _=some (Obj.cells #[_,_,_,_,_,_,Value.int .i64 ((t.toNat:Nat):Int),_,Value.slice _ (setR σ.regs dn (getR σ.regs an)).length _,_] _ _)
  rw [show ((t.toNat:Nat):Int)=t from by omega,setR_len]
  exact this
 ·have:=blk_set (i:=dn) (.int .i64 (getR σ.regs an)) hW.hr
  rw [regs_set] at this
  exact this
 ·exact own_at hW.ho (Below.heap_setCell _ _ _ _ (by exact fun e=>g9 e.symm))
 ·exact ((Keeps.refl [rb] W).setCell (p:=⟨rb,dn,none⟩) (by simp) _).drew.owns hW.hout (by simp;omega)
set_option maxRecDepth 100000 in
theorem step_arith {B s mb rb mp nb noff ncap rc:Nat} {ns:List Nd} {w:World} {σ:St} {v:Value} {ia:Option Addr} {ic n:Nat} {D:DataW Unit} (M:MA B s mb rb mp nb noff ncap rc ns w σ v ia ic n D) {x:Nd} (hx:ns[σ.pc]?=some x) (hlen:ns.length≤256) (hlt:σ.steps<131072) (ht:0≤x.t) (hop:3≤x.op∧x.op≤8) (hd:InR σ.regs x.d) (ha:InR σ.regs x.a) (hb:InR σ.regs x.b) :
 Calls Tryz.prog 23 #[.pointer (some ⟨mb,0,none⟩)] w fun e w' =>e=.returned (.tuple #[])∧∃ v' ia' ic' n' D', MA B s mb rb mp nb noff ncap rc ns w' (stp x σ) v' ia' ic' n' D' ∧Below B w w' :=by
 have hpc:σ.pc<ns.length:=(List.getElem?_eq_some_iff.1 hx).1
 have hml:=blk_lt M.hm
 have hnlt:=M.hN.lt
 have hst0:=M.hst
 have m3:=blk_cell M.hm 3
 have m5:=blk_cell M.hm 5
 have m6:=blk_cell M.hm 6
 have f3:=blk_frozen M.hm 3
 have f6:=blk_frozen M.hm 6
 simp at m3 m5 m6
 have c0:=M.hN.c0 σ.pc x hx
 have c1:=M.hN.c1 σ.pc x hx
 have c2:=M.hN.c2 σ.pc x hx
 have c3:=M.hN.c3 σ.pc x hx
 have c4:=M.hN.c4 σ.pc x hx
 have c5:=M.hN.c5 σ.pc x hx
 have P3:=pre_of M x
 obtain ⟨op,d,a,b,t,e⟩:=x
 simp only at *
 obtain ⟨ho1,ho2⟩:=hop
 have HS:=hide (And.intro m5 (And.intro m6 (And.intro c0 (And.intro c1 (And.intro c2 (And.intro c3 (And.intro c4 c5)))))))
 have HSa:Hid (∀ o,(w.alloc o).cell? ⟨mb,5,none⟩=some (.slice (some ⟨nb,noff,none⟩) ns.length ncap)∧(w.alloc o).cell? ⟨mb,6,none⟩=some (.int .i64 σ.pc)∧(w.alloc o).cell? ⟨nb,noff+σ.pc*6,none⟩=some (.int .i64 op)∧(w.alloc o).cell? ⟨nb,noff+σ.pc*6+1,none⟩=some (.int .i64 d)∧(w.alloc o).cell? ⟨nb,noff+σ.pc*6+2,none⟩=some (.int .i64 a)∧(w.alloc o).cell? ⟨nb,noff+σ.pc*6+3,none⟩=some (.int .i64 b)∧(w.alloc o).cell? ⟨nb,noff+σ.pc*6+4,none⟩=some (.int .i64 t)∧(w.alloc o).cell? ⟨nb,noff+σ.pc*6+5,none⟩=some (.int .i64 e)):=by
  intro o
  simp only [World.cell?_alloc_past _ _ _ hml,World.cell?_alloc_past _ _ _ hnlt]
  exact HS.out
 have hpi:(σ.pc:Int)<(ns.length:Int):=by omega
 have hpi0:(0:Int)≤(σ.pc:Int):=by omega
 have HM:=hide M
 have HX:=hide hx
 have HP:=hide P3
 clear M hx P3
 go_enter Tryz.func23,Tryz.ntmps23
 go_wp2
 go_region_held3 (fun u=>u.cell? ⟨mb,5,none⟩=some (.slice (some ⟨nb,noff,none⟩) ns.length ncap)∧u.cell? ⟨mb,6,none⟩=some (.int .i64 σ.pc)∧u.cell? ⟨nb,noff+σ.pc*6,none⟩=some (.int .i64 op)∧u.cell? ⟨nb,noff+σ.pc*6+1,none⟩=some (.int .i64 d)∧u.cell? ⟨nb,noff+σ.pc*6+2,none⟩=some (.int .i64 a)∧u.cell? ⟨nb,noff+σ.pc*6+3,none⟩=some (.int .i64 b)∧u.cell? ⟨nb,noff+σ.pc*6+4,none⟩=some (.int .i64 t)∧u.cell? ⟨nb,noff+σ.pc*6+5,none⟩=some (.int .i64 e)) (first | exact HS.out | exact HSa.out _) (fail)
 go_wp2_with fail
 clear m3 m5 m6 f3 f6 c0 c1 c2 c3 c4 c5 HS HSa hpi hpi0
 have hW:=HP.out
 unfold W3 at hW
 generalize (((w.setCell ⟨mb,3,none⟩ (.int .i64 ((σ.steps:Int)+1))).setCell ⟨mb,6,none⟩ (.int .i64 t)).alloc (.cells #[.int .i64 op,.int .i64 d,.int .i64 a,.int .i64 b,.int .i64 t,.int .i64 e] 48)).drew=W at hW ⊢
 clear HP
 obtain ⟨g1,g2,g3,g4,g5,g6,g7,g8,g9⟩:=HM.out.geo
 have hss:=HM.out.hs
 have hnn:=HM.out.hn
 refine (reckonM_any mb rb mp _ _ _ _ _ _ _ _ rc #[] σ.regs n D ⟨op,d,a,b,t,e⟩ W hW.hm hW.hr hW.ho (by omega) ⟨g7,g8,g9⟩ ⟨ho1,ho2⟩ hd ha hb HM.out.hrl).mono ?_
 rintro e1 w4 ⟨rfl,hr4,⟨c,hat,ho4⟩,K4⟩
 go_wp2
 go_end0
 have hsz:=hW.K.size
 have K2:Keeps [mb,rb,mp] w w4:=hW.K.trans (K4.mono (by simp))
 have htw:twf (tmOf ⟨op,d,a,b,t,e⟩):=⟨small_wf (by simp [tmOf];omega) (by simp [tmOf];omega),small_wf (by simp [tmOf];exact ha.1) (by have h1:a<(σ.regs.length:Int):=ha.2;have h2:=HM.out.hrl;show a≤1000000;omega),small_wf (by simp [tmOf];exact hb.1) (by have h1:b<(σ.regs.length:Int):=hb.2;have h2:=HM.out.hrl;show b≤1000000;omega)⟩
 obtain ⟨hcc,hrel⟩:=HM.out.rel.more HM.out.srt htw hat
 have hcb:0≤c∧c≤131072:=by
  rw [hcc]
  cases hq:ctOf σ.cts (tmOf ⟨op,d,a,b,t,e⟩) with
  | none=>simp
  | some m=>have:=HM.out.cb _ (ctOf_mem hq);simp at this ⊢;omega
 have hwr:wrap64 (c+1)=c+1:=by unfold wrap64;omega
 rw [hwr] at ho4
 rw [show stp ⟨op,d,a,b,t,e⟩ σ={ σ with pc:=t.toNat,steps:=σ.steps+1,regs:=setR σ.regs d (rk op (getR σ.regs a) (getR σ.regs b)),cts:=omore σ.cts (tmOf ⟨op,d,a,b,t,e⟩) } from by
  simp only [stp];rw [if_neg (by omega),if_neg (by omega),if_neg (by omega),if_neg (by omega),if_neg (by omega),if_neg (by omega),if_neg (by omega)]]
 refine ⟨rfl,v,ia,ic,n+1,_,HM.out.next K2 ?_ hr4 ho4 (K4.owns hW.hout (by simp;omega)) HM.out.hin HM.out.hic rfl hlt (by omega) (Nat.le_succ _) (setR_len _ _ _) hrel (omore_srt HM.out.srt _) (omore_le (by omega) (fun c hc=>by have:=HM.out.cb c hc;omega)),HM.out.below K2⟩
 have hm4:w4.heap[mb]?=_:=(K4.block mb (blk_lt hW.hm) (by simp;omega)).trans hW.hm
 show _=some (Obj.cells #[_,_,_,_,_,_,Value.int .i64 ((t.toNat:Nat):Int),_,Value.slice _ (setR σ.regs d (rk op (getR σ.regs a) (getR σ.regs b))).length _,_] _ _)
 rw [show ((t.toNat:Nat):Int)=t from by omega,setR_len]
 exact hm4
set_option maxRecDepth 100000 in
theorem step_iff {B s mb rb mp nb noff ncap rc:Nat} {ns:List Nd} {w:World} {σ:St} {v:Value} {ia:Option Addr} {ic n:Nat} {D:DataW Unit} (M:MA B s mb rb mp nb noff ncap rc ns w σ v ia ic n D) {x:Nd} (hx:ns[σ.pc]?=some x) (hlen:ns.length≤256) (hlt:σ.steps<131072) (ht:0≤x.t) (hop:x.op=11) (ha:InR σ.regs x.a) (he:0≤x.e) :
 Calls Tryz.prog 23 #[.pointer (some ⟨mb,0,none⟩)] w fun e w' =>e=.returned (.tuple #[])∧∃ v' ia' ic' n' D', MA B s mb rb mp nb noff ncap rc ns w' (stp x σ) v' ia' ic' n' D' ∧Below B w w' :=by
 have hpc:σ.pc<ns.length:=(List.getElem?_eq_some_iff.1 hx).1
 have hml:=blk_lt M.hm
 have hnlt:=M.hN.lt
 have hst0:=M.hst
 have m3:=blk_cell M.hm 3
 have m5:=blk_cell M.hm 5
 have m6:=blk_cell M.hm 6
 have f3:=blk_frozen M.hm 3
 have f6:=blk_frozen M.hm 6
 simp at m3 m5 m6
 have c0:=M.hN.c0 σ.pc x hx
 have c1:=M.hN.c1 σ.pc x hx
 have c2:=M.hN.c2 σ.pc x hx
 have c3:=M.hN.c3 σ.pc x hx
 have c4:=M.hN.c4 σ.pc x hx
 have c5:=M.hN.c5 σ.pc x hx
 have P3:=pre_of M x
 obtain ⟨op,d,a,b,t,e⟩:=x
 simp only at *
 subst hop
 have HS:=hide (And.intro m5 (And.intro m6 (And.intro c0 (And.intro c1 (And.intro c2 (And.intro c3 (And.intro c4 c5)))))))
 have HSa:Hid (∀ o,(w.alloc o).cell? ⟨mb,5,none⟩=some (.slice (some ⟨nb,noff,none⟩) ns.length ncap)∧(w.alloc o).cell? ⟨mb,6,none⟩=some (.int .i64 σ.pc)∧(w.alloc o).cell? ⟨nb,noff+σ.pc*6,none⟩=some (.int .i64 11)∧(w.alloc o).cell? ⟨nb,noff+σ.pc*6+1,none⟩=some (.int .i64 d)∧(w.alloc o).cell? ⟨nb,noff+σ.pc*6+2,none⟩=some (.int .i64 a)∧(w.alloc o).cell? ⟨nb,noff+σ.pc*6+3,none⟩=some (.int .i64 b)∧(w.alloc o).cell? ⟨nb,noff+σ.pc*6+4,none⟩=some (.int .i64 t)∧(w.alloc o).cell? ⟨nb,noff+σ.pc*6+5,none⟩=some (.int .i64 e)):=by
  intro o
  simp only [World.cell?_alloc_past _ _ _ hml,World.cell?_alloc_past _ _ _ hnlt]
  exact HS.out
 have hpi:(σ.pc:Int)<(ns.length:Int):=by omega
 have hpi0:(0:Int)≤(σ.pc:Int):=by omega
 have HM:=hide M
 have HX:=hide hx
 have HP:=hide P3
 clear M hx P3
 go_enter Tryz.func23,Tryz.ntmps23
 go_wp2
 go_region_held3 (fun u=>u.cell? ⟨mb,5,none⟩=some (.slice (some ⟨nb,noff,none⟩) ns.length ncap)∧u.cell? ⟨mb,6,none⟩=some (.int .i64 σ.pc)∧u.cell? ⟨nb,noff+σ.pc*6,none⟩=some (.int .i64 11)∧u.cell? ⟨nb,noff+σ.pc*6+1,none⟩=some (.int .i64 d)∧u.cell? ⟨nb,noff+σ.pc*6+2,none⟩=some (.int .i64 a)∧u.cell? ⟨nb,noff+σ.pc*6+3,none⟩=some (.int .i64 b)∧u.cell? ⟨nb,noff+σ.pc*6+4,none⟩=some (.int .i64 t)∧u.cell? ⟨nb,noff+σ.pc*6+5,none⟩=some (.int .i64 e)) (first | exact HS.out | exact HSa.out _) (fail)
 go_wp2
 clear m3 m5 m6 f3 f6 c0 c1 c2 c3 c4 c5 HS HSa hpi hpi0
 have hW:=HP.out
 unfold W3 at hW
 generalize (((w.setCell ⟨mb,3,none⟩ (.int .i64 ((σ.steps:Int)+1))).setCell ⟨mb,6,none⟩ (.int .i64 t)).alloc (.cells #[.int .i64 11,.int .i64 d,.int .i64 a,.int .i64 b,.int .i64 t,.int .i64 e] 48)).drew=W at hW ⊢
 clear HP
 have HW:=hide hW
 obtain ⟨g1,g2,g3,g4,g5,g6,g7,g8,g9⟩:=HM.out.geo
 have wml:=blk_lt hW.hm
 have wrl:=blk_lt hW.hr
 have wnl:=blk_lt hW.hnd
 have hss:=HM.out.hs
 obtain ⟨ha0,ha1⟩:=ha
 obtain ⟨an,rfl⟩:=Int.eq_ofNat_of_zero_le ha0
 have m6:=blk_cell hW.hm 6
 have m8:=blk_cell hW.hm 8
 have f6:=blk_frozen hW.hm 6
 have n2:=blk_cell hW.hnd 2
 have n5:=blk_cell hW.hnd 5
 have ra:=blk_cell hW.hr an
 rw [regs_at (by omega)] at ra
 simp at m6 m8 n2 n5
 clear hW
 by_cases hz:getR σ.regs an=0
 ·have hzb:(getR σ.regs (an:Int)==0)=true:=by simp [hz]
  have HZ:=hide hz
  clear hz
  go_quiet (fail)
  go_wp2
  go_end0
  have hW:=HW.out
  rw [show stp ⟨11,d,an,b,t,e⟩ σ={ σ with pc:=e.toNat,steps:=σ.steps+1 } from by
   show ({ σ with pc:=(if getR σ.regs an=0 then e else t).toNat,steps:=σ.steps+1 }:St)=_;rw [if_pos HZ.out]]
  have K2:Keeps [mb,rb,mp] w ((W.setCell ⟨mb,6,none⟩ (.int .i64 e)).drewN nq):=(hW.K.setCell (p:=⟨mb,6,none⟩) (by simp) _).drewN nq
  refine ⟨rfl,v,ia,ic,n,D,HM.out.next K2 ?_ ?_ ?_ ?_ HM.out.hin HM.out.hic rfl hlt (by have:=HM.out.hn;omega) (Nat.le_succ _) rfl HM.out.rel HM.out.srt (fun c hc=>by have:=HM.out.cb c hc;omega),HM.out.below K2⟩
  ·have:=blk_set (i:=6) (.int .i64 e) hW.hm
   show _=some (Obj.cells #[_,_,_,_,_,_,Value.int .i64 ((e.toNat:Nat):Int),_,_,_] _ _)
   rw [show ((e.toNat:Nat):Int)=e from by omega]
   exact this
  ·exact blk_set_ne _ hW.hr (fun e=>g7 e.symm)
  ·exact own_at hW.ho (Below.heap_setCell _ _ _ _ (by exact fun e=>g8 e.symm))
  ·exact ((Keeps.refl [mb] W).setCell (p:=⟨mb,6,none⟩) (by simp) _).owns hW.hout (by simp;omega)
 ·have hzb:(getR σ.regs (an:Int)==0)=false:=by simp [hz]
  have HZ:=hide hz
  clear hz
  go_quiet (fail)
  go_wp2
  go_end0
  have hW:=HW.out
  rw [show stp ⟨11,d,an,b,t,e⟩ σ={ σ with pc:=t.toNat,steps:=σ.steps+1 } from by
   show ({ σ with pc:=(if getR σ.regs an=0 then e else t).toNat,steps:=σ.steps+1 }:St)=_;rw [if_neg HZ.out]]
  have K2:Keeps [mb,rb,mp] w (W.drewN nq):=hW.K.drewN nq
  refine ⟨rfl,v,ia,ic,n,D,HM.out.next K2 ?_ hW.hr hW.ho hW.hout HM.out.hin HM.out.hic rfl hlt (by have:=HM.out.hn;omega) (Nat.le_succ _) rfl HM.out.rel HM.out.srt (fun c hc=>by have:=HM.out.cb c hc;omega),HM.out.below K2⟩
  have:=hW.hm
  show _=some (Obj.cells #[_,_,_,_,_,_,Value.int .i64 ((t.toNat:Nat):Int),_,_,_] _ _)
  rw [show ((t.toNat:Nat):Int)=t from by omega]
  exact this
set_option maxRecDepth 100000 in
theorem step_out {B s mb rb mp nb noff ncap rc:Nat} {ns:List Nd} {w:World} {σ:St} {v:Value} {ia:Option Addr} {ic n:Nat} {D:DataW Unit} (M:MA B s mb rb mp nb noff ncap rc ns w σ v ia ic n D) {x:Nd} (hx:ns[σ.pc]?=some x) (hlen:ns.length≤256) (hlt:σ.steps<131072) (ht:0≤x.t) (hop:x.op=10) (ha:InR σ.regs x.a) :
 Calls Tryz.prog 23 #[.pointer (some ⟨mb,0,none⟩)] w fun e w' =>e=.returned (.tuple #[])∧∃ v' ia' ic' n' D', MA B s mb rb mp nb noff ncap rc ns w' (stp x σ) v' ia' ic' n' D' ∧Below B w w' :=by
 obtain ⟨i0,hi,hz0,hz1,hz2⟩:=info_parts info_int
 have hpc:σ.pc<ns.length:=(List.getElem?_eq_some_iff.1 hx).1
 have hml:=blk_lt M.hm
 have hnlt:=M.hN.lt
 have hst0:=M.hst
 have m3:=blk_cell M.hm 3
 have m5:=blk_cell M.hm 5
 have m6:=blk_cell M.hm 6
 have f3:=blk_frozen M.hm 3
 have f6:=blk_frozen M.hm 6
 simp at m3 m5 m6
 have c0:=M.hN.c0 σ.pc x hx
 have c1:=M.hN.c1 σ.pc x hx
 have c2:=M.hN.c2 σ.pc x hx
 have c3:=M.hN.c3 σ.pc x hx
 have c4:=M.hN.c4 σ.pc x hx
 have c5:=M.hN.c5 σ.pc x hx
 have P3:=pre_of M x
 obtain ⟨op,d,a,b,t,e⟩:=x
 simp only at *
 subst hop
 have HS:=hide (And.intro m5 (And.intro m6 (And.intro c0 (And.intro c1 (And.intro c2 (And.intro c3 (And.intro c4 c5)))))))
 have HSa:Hid (∀ o,(w.alloc o).cell? ⟨mb,5,none⟩=some (.slice (some ⟨nb,noff,none⟩) ns.length ncap)∧(w.alloc o).cell? ⟨mb,6,none⟩=some (.int .i64 σ.pc)∧(w.alloc o).cell? ⟨nb,noff+σ.pc*6,none⟩=some (.int .i64 10)∧(w.alloc o).cell? ⟨nb,noff+σ.pc*6+1,none⟩=some (.int .i64 d)∧(w.alloc o).cell? ⟨nb,noff+σ.pc*6+2,none⟩=some (.int .i64 a)∧(w.alloc o).cell? ⟨nb,noff+σ.pc*6+3,none⟩=some (.int .i64 b)∧(w.alloc o).cell? ⟨nb,noff+σ.pc*6+4,none⟩=some (.int .i64 t)∧(w.alloc o).cell? ⟨nb,noff+σ.pc*6+5,none⟩=some (.int .i64 e)):=by
  intro o
  simp only [World.cell?_alloc_past _ _ _ hml,World.cell?_alloc_past _ _ _ hnlt]
  exact HS.out
 have hpi:(σ.pc:Int)<(ns.length:Int):=by omega
 have hpi0:(0:Int)≤(σ.pc:Int):=by omega
 have HM:=hide M
 have HX:=hide hx
 have HP:=hide P3
 clear M hx P3
 go_enter Tryz.func23,Tryz.ntmps23
 go_wp2
 go_region_held3 (fun u=>u.cell? ⟨mb,5,none⟩=some (.slice (some ⟨nb,noff,none⟩) ns.length ncap)∧u.cell? ⟨mb,6,none⟩=some (.int .i64 σ.pc)∧u.cell? ⟨nb,noff+σ.pc*6,none⟩=some (.int .i64 10)∧u.cell? ⟨nb,noff+σ.pc*6+1,none⟩=some (.int .i64 d)∧u.cell? ⟨nb,noff+σ.pc*6+2,none⟩=some (.int .i64 a)∧u.cell? ⟨nb,noff+σ.pc*6+3,none⟩=some (.int .i64 b)∧u.cell? ⟨nb,noff+σ.pc*6+4,none⟩=some (.int .i64 t)∧u.cell? ⟨nb,noff+σ.pc*6+5,none⟩=some (.int .i64 e)) (first | exact HS.out | exact HSa.out _) (fail)
 go_wp2
 clear m3 m5 m6 f3 f6 c0 c1 c2 c3 c4 c5 HS HSa hpi hpi0
 have hW:=HP.out
 unfold W3 at hW
 generalize (((w.setCell ⟨mb,3,none⟩ (.int .i64 ((σ.steps:Int)+1))).setCell ⟨mb,6,none⟩ (.int .i64 t)).alloc (.cells #[.int .i64 10,.int .i64 d,.int .i64 a,.int .i64 b,.int .i64 t,.int .i64 e] 48)).drew=W at hW ⊢
 clear HP
 have HW:=hide hW
 obtain ⟨g1,g2,g3,g4,g5,g6,g7,g8,g9⟩:=HM.out.geo
 have wml:=blk_lt hW.hm
 have wrl:=blk_lt hW.hr
 have wnl:=blk_lt hW.hnd
 have hss:=HM.out.hs
 obtain ⟨ha0,ha1⟩:=ha
 obtain ⟨an,rfl⟩:=Int.eq_ofNat_of_zero_le ha0
 have m0:=blk_cell hW.hm 0
 have m8:=blk_cell hW.hm 8
 have f0:=blk_frozen hW.hm 0
 have n2:=blk_cell hW.hnd 2
 have ra:=blk_cell hW.hr an
 rw [regs_at (by omega)] at ra
 simp at m0 m8 n2
 have hown:=hW.hout
 have hol:=HM.out.hol
 have hsW:s≤W.heap.size:=Nat.le_trans hss hW.K.size
 have hlt0:=HM.out.hout.lt
 have hneq:∀ q,q<s→some q≠v.ownBlock:=fun q hq e=>by have:=hlt0 q e.symm;omega
 have hnnd:some w.heap.size≠v.ownBlock:=fun e=>by have:=hlt0 _ e.symm;omega
 clear hW
 go_region_law (first
  | ((refine step_append_lies _ (by rfl) _ _ _ (by rfl) s 3 i0 (.int .i64 0) 1 8 Tryz.underlying25 hi hz0 hz1 hz2 rfl (by omega) v σ.out.length (σ.out.map (Value.int .i64)) (by rfl) ((hown.alloc _)) ⟨W.heap.size,0,none⟩ 1 1 [.int .i64 (getR σ.regs an)] (by rfl) (by rfl) (World.news_of_block (cs:=#[.int .i64 (getR σ.regs an)]) (t:=3) (fr:=(0,0)) (heap_alloc_new W _)) (by simp [Value.oneCell']) (by omega) (by unfold maxLen;omega) (by omega) (by simp;omega) (W.heap.size+1) (by simp) ?_;intro gg cap1 w5 hown5 hgrow hat hlt5;have hb5:w5.heap[mb]?=W.heap[mb]? :=(hgrow.block mb (by simp;omega) (hneq mb g4)).trans (Below.heap_alloc _ _ _ wml);have x0:w5.cell? ⟨mb,0,none⟩=some v:=(World.cell?_of_block hb5).trans m0;have x1:w5.frozen? ⟨mb,0,none⟩=false:=(World.frozen?_of_block hb5).trans f0;have HG:=hide (And.intro hown5 (And.intro hgrow (And.intro hat hlt5)));clear hown5 hgrow hat hlt5 hb5)))
 all_goals go_wp2
 all_goals go_end0
 all_goals
  have hW:=HW.out
  obtain ⟨hown5,hgrow,hat,hlt5⟩:=HG.out
  have hk:∀ q,q<W.heap.size→some q≠v.ownBlock→w5.heap[q]?=W.heap[q]? :=fun q h1 h2=>(hgrow.block q (by simp;omega) h2).trans (Below.heap_alloc _ _ _ h1)
  have hs5:W.heap.size≤w5.heap.size:=by have:=hgrow.size;simp at this;omega
  have Kb:Below B w w5:=(HM.out.below hW.K).trans ⟨hgrow.os,hgrow.tape,hgrow.output,hs5,fun k hk0=>hk k (by omega) (hneq k (by omega))⟩
  have Kc:=Kb.setCell (p:=⟨mb,0,none⟩) g1 (.slice (some ⟨gg,0,none⟩) (σ.out.length+1) cap1)
  have ho5:=((Keeps.refl [mb] w5).setCell (p:=⟨mb,0,none⟩) (by simp) (.slice (some ⟨gg,0,none⟩) (σ.out.length+1) cap1)).owns hown5 (by simp;omega)
  rw [show stp ⟨10,d,an,b,t,e⟩ σ={ σ with pc:=t.toNat,steps:=σ.steps+1,out:=σ.out++[getR σ.regs an] } from rfl]
  refine ⟨rfl,.slice (some ⟨gg,0,none⟩) (σ.out.length+1) cap1,ia,ic,n,D,HM.out.nextB Kc ?_ ?_ ?_ (by simpa using ho5) HM.out.hin HM.out.hic rfl hlt (by have:=HM.out.hn;omega) (by simp) rfl HM.out.rel HM.out.srt (fun c hc=>by have:=HM.out.cb c hc;omega),Kc⟩
  ·have:=blk_set (i:=0) (.slice (some ⟨gg,0,none⟩) (σ.out.length+1) cap1) ((hk mb wml (hneq mb g4)).trans hW.hm)
   show _=some (Obj.cells #[_,_,_,_,_,_,Value.int .i64 ((t.toNat:Nat):Int),_,_,_] _ _)
   rw [show ((t.toNat:Nat):Int)=t from by omega]
   exact this
  ·exact blk_set_ne _ ((hk rb wrl (hneq rb g5)).trans hW.hr) (fun e=>g7 e.symm)
  ·refine own_at hW.ho ?_
   rw [Below.heap_setCell _ _ _ _ (by exact fun e=>g8 e.symm)]
   exact hk mp hW.ho.lt (hneq mp g6)
theorem lits_int_inv {d:Nat} {u:Value} {ls:List Lit} (h:Tryz.prog.keyLits (d+1) 3 [u]=some ls):∃ n,u=.int .i64 n∧(Lit.int .i64 n).wf=true:=by
 cases u <;> simp [Program.keyLits,Tryz.underlying3] at h
 obtain ⟨⟨rfl,hw⟩,rfl⟩:=h
 exact ⟨_,rfl,hw⟩
set_option maxRecDepth 100000 in
theorem tkey_inv {key:Value} {kl:Lit} (h:keyOf Tryz.prog 57 key=some kl):∃ t:Tm,key=.agg #[.int .i64 t.op,.int .i64 t.a,.int .i64 t.b]∧twf t∧kl=tkl t:=by
 have hk:Tryz.prog.keyType 57=true:=by kernel_rfl
 have hc:Tryz.prog.cellsOf 57=3:=by kernel_rfl
 have hci:Tryz.prog.cellsOf 3=1:=by kernel_rfl
 obtain ⟨m,hm⟩:=types_pos
 have h' :=h
 unfold keyOf at h
 rw [Tryz.underlying57] at h
 simp only [hk,Bool.true_and] at h
 split at h
 ·rename_i hf
  cases key <;> simp [Value.formed,Tryz.underlying57] at hf
  rename_i cs
  rw [hc] at hf
  obtain ⟨l⟩:=cs
  match l,hf with
  | [a,b,c],_ =>
   rw [hm] at h
   unfold Program.keyLits at h
   simp [Tryz.underlying57,hc,hci,Value.cells] at h
   have q1:∃ l1,Tryz.prog.keyLits (m+1) 3 [a]=some l1:=by
    cases e:Tryz.prog.keyLits (m+1) 3 [a] with
    | none=>simp [e] at h
    | some l1=>exact ⟨l1,rfl⟩
   obtain ⟨l1,q1⟩:=q1
   rw [q1] at h
   have q2:∃ l1,Tryz.prog.keyLits (m+1) 3 [b]=some l1:=by
    cases e:Tryz.prog.keyLits (m+1) 3 [b] with
    | none=>simp [e] at h
    | some l1=>exact ⟨l1,rfl⟩
   obtain ⟨l2,q2⟩:=q2
   rw [q2] at h
   have q3:∃ l1,Tryz.prog.keyLits (m+1) 3 [c]=some l1:=by
    cases e:Tryz.prog.keyLits (m+1) 3 [c] with
    | none=>simp [e] at h
    | some l1=>exact ⟨l1,rfl⟩
   obtain ⟨l3,q3⟩:=q3
   obtain ⟨n1,rfl,w1⟩:=lits_int_inv q1
   obtain ⟨n2,rfl,w2⟩:=lits_int_inv q2
   obtain ⟨n3,rfl,w3⟩:=lits_int_inv q3
   refine ⟨⟨n1,n2,n3⟩,rfl,⟨w1,w2,w3⟩,?_⟩
   have:=tkey ⟨n1,n2,n3⟩ w1 w2 w3
   rw [h'] at this
   exact Option.some.inj this
 ·exact absurd h (by simp)
def encCt (c:Ct):List Value:=[.int .i64 c.t.op,.int .i64 c.t.a,.int .i64 c.t.b,.int .i64 c.n]
structure Gone (l:List Ct) (left:Lit→Bool) (L:List Ct):Prop where
 mem:∀ c∈L,ctOf l c.t=some c.n∧left (tkl c.t)=false∧twf c.t
 nd:(L.map (·.t)).Nodup
 all:∀ t,twf t→(ctOf l t).isSome=true→left (tkl t)=false→t∈L.map (·.t)
theorem Gone.start {l:List Ct} {D:DataW Unit} (rel:MapRel D l):Gone l (Maps.has D) []:=by
 refine ⟨by simp,by simp,fun t ht h1 h2=>?_⟩
 exfalso
 cases e:ctOf l t with
 | none=>simp [e] at h1
 | some n =>
  have:=has_true_of_atKey (D:=D) (k:=tkl t) (y:=.lit (.int .i64 n)) fun z=>by rw [rel.2 t ht z,e]
  rw [this] at h2;exact absurd h2 (by simp)
theorem MapRel.found {D:DataW Unit} {l:List Ct} (rel:MapRel D l) {t:Tm} (ht:twf t) {n:Int} (h:∀ z,D.atKey (tkl t) z=.lit (.int .i64 n)):ctOf l t=some n:=by
 have h1:=rel.2 t ht (.lit (.int .i64 (n+1)))
 rw [h] at h1
 cases e:ctOf l t with
 | none=>rw [e] at h1;have:=(Lit.int.inj (DataW.lit.inj h1)).2;omega
 | some m=>rw [e] at h1;have:=(Lit.int.inj (DataW.lit.inj h1)).2;rw [this]
theorem Gone.more {l:List Ct} {left:Lit→Bool} {L:List Ct} (h:Gone l left L) {t:Tm} {n:Int} (ht:twf t) (hl:left (tkl t)=true) (hc:ctOf l t=some n):Gone l (fun z=>left z&&!z.sameKey (tkl t)) (L++[⟨t,n⟩]):=by
 have hkl:(tkl t).sameKey (tkl t)=true:=by simp [tkl,Lit.sameKey]
 have hne:∀ u,twf u→u≠t→(tkl u).sameKey (tkl t)=false:=fun u hu e=>by
  cases q:(tkl u).sameKey (tkl t)
  ·rfl
  ·exfalso
   apply e
   apply tkl_inj hu ht
   simpa [tkl,Lit.sameKey] using q
 have hnot:t∉L.map (·.t):=fun hm=>by
  obtain ⟨c,hc1,hc2⟩:=List.mem_map.1 hm
  have:=(h.mem c hc1).2.1
  rw [hc2,hl] at this;exact absurd this (by simp)
 refine ⟨fun c hcm=>?_,?_,fun u hu hs hf=>?_⟩
 ·rw [List.mem_append] at hcm
  rcases hcm with hcm | hcm
  ·obtain ⟨a,b,c⟩:=h.mem c hcm
   exact ⟨a,by rw [b];rfl,c⟩
  ·simp at hcm;subst hcm
   exact ⟨hc,by simp [hkl],ht⟩
 ·rw [List.map_append,List.nodup_append]
  refine ⟨h.nd,by simp,fun a ha b hb=>?_⟩
  simp at hb;subst hb
  exact fun e=>hnot (e ▸ ha)
 ·rw [List.map_append,List.mem_append]
  by_cases e:u=t
  ·subst e;right;simp
  ·left
   refine h.all u hu hs ?_
   simpa [hne u hu e] using hf
theorem info_count:(Tryz.prog.info? 64).map (fun i=>(i.zero,i.size,i.bytes))=some (some (.agg #[.int .i64 0,.int .i64 0,.int .i64 0,.int .i64 0]),4,32):=by kernel_rfl
def SortsCt:Prop:=∀ (v:Value) (L:List Ct) (W:World) (base:Nat),base≤W.heap.size→W.ownsRow base 64 4 v L.length (L.flatMap encCt)→(L.map (·.t)).Nodup→L.length≤131072 →
 Calls Tryz.prog 43 #[v,.func (.func 44) #[] #[]] W fun e w' =>e=.returned (.tuple #[])∧∃ L', L'.Perm L∧Srt L' ∧w'.ownsRow base 64 4 v L'.length (L'.flatMap encCt)∧Below base W w'
theorem ranges_cnt {w:World} {k:TypeId} {R:Value→Option (DataW Unit × List MemPlace)} {b r n:Nat} {D:DataW Unit} {left:Lit→Bool} {cnt:Nat} (h:w.ranges Tryz.prog k R b r n D left cnt):cnt≤n:=by
 obtain ⟨es,clock,since,seen,c0,h1,h2,h3,h4,h5,h6,h7,h8⟩:=h
 have:(leftOf es seen).size≤es.size:=by unfold leftOf;exact Array.size_filter_le
 omega
theorem srt_eq {a:List Ct}:∀ {b:List Ct},a.Perm b→Srt a→Srt b→a=b:=by
 induction a with
 | nil=>intro b h _ _;exact h.nil_eq
 | cons x a ih =>
  intro b h ha hb
  cases b with
  | nil=>exact absurd h.symm.nil_eq (by simp)
  | cons y b =>
   unfold Srt at ha hb
   rw [List.pairwise_cons] at ha hb
   have e:x=y:=by
    have h1:x∈y::b:=h.mem_iff.1 (List.mem_cons_self ..)
    have h2:y∈x::a:=h.mem_iff.2 (List.mem_cons_self ..)
    rcases List.mem_cons.1 h1 with e | h1
    ·exact e
    ·rcases List.mem_cons.1 h2 with e | h2
     ·exact e.symm
     ·have:=abv_trans (hb.1 x h1) (ha.1 y h2)
      rw [abv_irrefl] at this;cases this
   subst e
   rw [ih (List.perm_cons x |>.1 h) ha.2 hb.2]
theorem srt_ct {l:List Ct} (h:Srt l):∀ c∈l,ctOf l c.t=some c.n:=by
 induction l with
 | nil=>intro c hc;cases hc
 | cons d l ih =>
  unfold Srt at h
  rw [List.pairwise_cons] at h
  intro c hc
  rw [ctOf_cons]
  rcases List.mem_cons.1 hc with e | hc
  ·subst e;simp
  ·rw [if_neg,ih h.2 c hc]
   intro e
   have:=h.1 c hc
   rw [e,abv_irrefl] at this;cases this
theorem srt_nd {l:List Ct} (h:Srt l):l.Nodup:=by
 unfold Srt at h
 refine List.Pairwise.imp (fun {a b} hab e=>?_) h
 rw [e,abv_irrefl] at hab;cases hab
theorem Gone.perm {l:List Ct} {left:Lit→Bool} {L:List Ct} (h:Gone l left L) (srt:Srt l) (hwf:∀ c∈l,twf c.t) (hl:∀ z,left z=false):L.Perm l:=by
 have hnd:L.Nodup:=by
  have:=h.nd
  exact (List.pairwise_map.1 this).imp fun hab e=>hab (by rw [e])
 rw [List.perm_ext_iff_of_nodup hnd (srt_nd srt)]
 intro c
 constructor
 ·intro hc
  have:=ctOf_mem (h.mem c hc).1
  exact this
 ·intro hc
  have h1:=srt_ct srt c hc
  have h2:=h.all c.t (hwf c hc) (by rw [h1];rfl) (hl _)
  obtain ⟨d,hd1,hd2⟩:=List.mem_map.1 h2
  have h3:=(h.mem d hd1).1
  rw [hd2,h1] at h3
  have:d=c:=by
   cases d;cases c;simp at hd2 h3;subst hd2 h3;rfl
  exact this ▸ hd1
set_option maxRecDepth 100000 in
theorem counts_any (hS:SortsCt) (mp n:Nat) (D:DataW Unit) (l:List Ct) (w:World) (ho:w.ownsMap Tryz.prog 57 (plainElem Tryz.prog 3) mp n D) (rel:MapRel D l) (srt:Srt l) (hwf:∀ c∈l,twf c.t) (hn:n≤131072) :
 Calls Tryz.prog 24 #[.map (some mp)] w fun e w' =>∃ v', e=.returned v' ∧w'.ownsRow w.heap.size 64 4 v' l.length (l.flatMap encCt)∧Below w.heap.size w w' :=by
 obtain ⟨i0,hi,hz0,hz1,hz2⟩:=info_parts info_count
 have KK:=Keyed.of_law tlaw
 have hmlt:=ho.lt
 go_enter Tryz.func24,Tryz.ntmps24
 go_wp2_with (first | (at_range;refine wpList_range_own _ rfl _ 59 rfl 57 3 KK Tryz.underlying59 _ mp n D rfl ho ?_;intro w0 hrg0 hg0 hs0) | go_in)
 go_frame
 go_loopw [3] (fun v wr=>∃ left cnt L,wr.ranges Tryz.prog 57 (plainElem Tryz.prog 3) mp w.heap.size n D left cnt∧Gone l left L∧wr.ownsRow (w.heap.size+1) 64 4 v L.length (L.flatMap encCt)∧L.length+cnt≤n∧Below w.heap.size w wr) (fun _ wr=>wr.rangeLeft mp w.heap.size)
 case atStart=>exact ⟨Maps.has D,Maps.size D,[],hrg0,Gone.start rel,World.ownsRow_nil _ _ _ _,by have:=ranges_cnt hrg0;simpa using this,⟨hg0.os,hg0.tape,hg0.output,hg0.size,fun k hk=>hg0.block k hk (by simp)⟩⟩
 case round =>
  obtain ⟨left,cnt,L,hrg,hG,hown,hcnt,hB⟩:=hrel
  have HG:=hide hG
  have hsz:=hB.size
  have hrlt:=hrg.lt
  clear hG hrg0 hg0 hs0
  go_wp2_with (first | (at_next;refine wpList_next_ranges _ rfl _ rfl 57 KK (plainElem Tryz.prog 3) (fun t:Tm=>Value.agg #[.int .i64 t.op,.int .i64 t.a,.int .i64 t.b]) (Value.int .i64) (fun key kl hkey=>by obtain ⟨t,rfl,_⟩:=tkey_inv hkey;exact ⟨t,rfl⟩) (fun v y hv=>by obtain ⟨c,rfl,_⟩:=plainElem_int_inv Tryz.underlying3 hv;exact ⟨c,rfl⟩) mp w.heap.size n D left cnt rfl hrg ?_ ?_) | go_in)
  ·intro hc0 hl0
   go_wp2_with fail
   have hp:=HG.out.perm srt hwf hl0
   refine (hS _ L wr (w.heap.size+1) (by omega) hown HG.out.nd (by omega)).mono ?_
   rintro e w' ⟨rfl,L', hp', hs', ho', hb'⟩
   have eL:L' =l:=srt_eq (hp'.trans hp) hs' srt
   subst eL
   go_wp2
   go_ret
   exact ⟨_,rfl,ownsRow_base ho' (by omega),hB.trans (hb'.mono (by omega))⟩
  ·intro t c kl y1 y2 w1 cnt1 hkey hlk hv hat hrg1 hlt1 hg1 hs1 hen
   obtain ⟨t', et,htw,rfl⟩:=tkey_inv hkey
   have et' :t=t' :=by cases t;cases t'; simpa using et
   subst et'
   obtain ⟨c', ec,ey,hcw⟩:=plainElem_int_inv Tryz.underlying3 hv
   cases ec
   have hb1:Below w.heap.size w w1:=hB.trans ⟨hg1.os,hg1.tape,hg1.output,hg1.size,fun k hk=>hg1.block k (by omega) (by simp;omega)⟩
   have hown1:w1.ownsRow (w.heap.size+1) 64 4 u3 L.length (L.flatMap encCt):=by
    have K1:Keeps [w.heap.size] wr w1:=⟨hg1.os,hg1.tape,hg1.output,hg1.size,fun k hk hn=>hg1.block k hk (by simp at hn;simp;omega)⟩
    exact K1.owns hown (by simp)
   clear hg1
   have hct:ctOf l t=some c:=rel.found htw (fun z=>by rw [hat z];exact (Prod.mk.inj ey).1)
   have hG1:=HG.out.more htw hlk hct
   have HG1:=hide hG1
   clear hG1 HG
   go_wp2_with (at_builtin;refine wpList_append_own _ rfl (.tmp 13) (.tmp 17) 31 rfl (w.heap.size+1) 64 i0 _ 4 32 Tryz.underlying31 hi hz0 hz1 hz2 rfl (by decide) _ _ _ rfl ((hown1.alloc _).alloc _) ⟨wr.heap.size+1,0,none⟩ 1 1 [.int .i64 t.op,.int .i64 t.a,.int .i64 t.b,.int .i64 c] rfl rfl ?c1 ?c2 ?c3 ?c4 ?c5 ?_)
   case c1 =>
    intro j u hj
    match j,hj with
    | 0,hj=>simp at hj;subst hj;rw [← hs1];simp [Addr.add]
    | 1,hj=>simp at hj;subst hj;rw [← hs1];simp [Addr.add]
    | 2,hj=>simp at hj;subst hj;rw [← hs1];simp [Addr.add]
    | 3,hj=>simp at hj;subst hj;rw [← hs1];simp [Addr.add]
    | j+4,hj=>simp at hj
   case c2=>intro u hu;simp at hu;rcases hu with rfl | rfl | rfl | rfl <;> rfl
   case c3=>unfold maxLen;omega
   case c4=>omega
   case c5=>simp;omega
   intro v' w4 hown5 hg4 _
   have hltb:=hown1.lt
   have hB4:Below w.heap.size w w4:=((hb1.alloc (by omega) _).alloc (by simp;omega) _).grown hg4 (by simp;omega) (fun k hk=>by have:=(hltb k hk).1;omega)
   have hrg4:=((hrg1.alloc _).alloc _).kept hg4 (fun e=>by have:=(hltb mp e.symm).1;omega) (fun e=>by have:=(hltb _ e.symm).1;omega)
   have hown6:w4.ownsRow (w.heap.size+1) 64 4 v' (L++[(⟨t,c⟩:Ct)]).length ((L++[(⟨t,c⟩:Ct)]).flatMap encCt):=by
    simpa [encCt] using hown5
   have hm:=hrg.left_eq
   clear hown5 hg4 hltb hown1
   go_wp2
   go_roundw
   case rel=>exact ⟨_,cnt1,_,hrg4,HG1.out,hown6,by simp;omega,hB4⟩
   case measure=>rw [hrg4.left_eq,hm];exact hlt1
def cp (a b:Int):Int:=if a<b then -1 else if b<a then 1 else 0
theorem nan_any (a:Int) (w:World):Calls Tryz.prog 74 #[.int .i64 a] w fun e w' =>e=.returned (.bool false)∧w' =w:=by
 go_enter Tryz.func74,Tryz.ntmps74
 go_wp2
 go_ret
 exact ⟨by simp,rfl⟩
theorem compare_any (a b:Int) (w:World):Calls Tryz.prog 46 #[.int .i64 a,.int .i64 b] w fun e w' =>e=.returned (.int .i64 (cp a b))∧w' =w:=by
 go_enter Tryz.func46,Tryz.ntmps46
 go_wp2_with (go_at_call 74;refine (nan_any _ _).mono ?_;rintro e w' ⟨rfl,rfl⟩)
 all_goals go_ret
 all_goals refine ⟨ret_int ?_,rfl⟩
 all_goals (unfold cp;repeat' split)
 all_goals omega
def or3 (a b c:Int):Int:=if a≠0 then a else if b≠0 then b else c
theorem or_any (b:Nat) (x y z:Int) (w:World) (h0:w.cell? ⟨b,0,none⟩=some (.int .i64 x)) (h1:w.cell? ⟨b,1,none⟩=some (.int .i64 y)) (h2:w.cell? ⟨b,2,none⟩=some (.int .i64 z)) :
 Calls Tryz.prog 45 #[.slice (some ⟨b,0,none⟩) 3 3] w fun e w' =>e=.returned (.int .i64 (or3 x y z))∧w' =w:=by
 go_enter Tryz.func45,Tryz.ntmps45
 go_wp2
 refine wp_loop_rounds 4 ?_
 rw [rounds_succ]
 go_wp2
 all_goals (first | (rw [rounds_succ];go_wp2) | skip)
 all_goals (first | (rw [rounds_succ];go_wp2) | skip)
 all_goals (first | (rw [rounds_succ];go_wp2) | skip)
 all_goals go_ret
 all_goals refine ⟨ret_int ?_,rfl⟩
 all_goals simp_all [or3]
def cpC (x y:Ct):Int:=or3 (cp x.t.op y.t.op) (cp x.t.a y.t.a) (cp x.t.b y.t.b)
theorem cpC_lt (x y:Ct):decide (cpC x y<0)=abv y.t x.t:=by
 obtain ⟨⟨a1,a2,a3⟩,n⟩:=x
 obtain ⟨⟨b1,b2,b3⟩,m⟩:=y
 simp only [cpC,or3,cp,abv]
 repeat' split
 all_goals (first | omega | (simp;done) | (simp;omega) | simp_all)
open Go.Lib Go.Sort in
set_option maxRecDepth 100000 in
theorem closure_any (x y:Ct) (w:World) :
 Calls Tryz.prog 44 #[.agg #[.int .i64 x.t.op,.int .i64 x.t.a,.int .i64 x.t.b,.int .i64 x.n],.agg #[.int .i64 y.t.op,.int .i64 y.t.a,.int .i64 y.t.b,.int .i64 y.n]] w fun e w' =>e=.returned (.int .i64 (cpC x y))∧∃ q os', w' =grow (w.drewN q) os' :=by
 go_enter Tryz.func44,Tryz.ntmps44
 go_wp2
 have x0:((w.alloc (.cells #[.int .i64 x.t.op,.int .i64 x.t.a,.int .i64 x.t.b,.int .i64 x.n] 64)).alloc (.cells #[.int .i64 y.t.op,.int .i64 y.t.a,.int .i64 y.t.b,.int .i64 y.n] 64)).cell? ⟨w.heap.size,0,none⟩=some (.int .i64 x.t.op):=by simp
 have x1:((w.alloc (.cells #[.int .i64 x.t.op,.int .i64 x.t.a,.int .i64 x.t.b,.int .i64 x.n] 64)).alloc (.cells #[.int .i64 y.t.op,.int .i64 y.t.a,.int .i64 y.t.b,.int .i64 y.n] 64)).cell? ⟨w.heap.size,1,none⟩=some (.int .i64 x.t.a):=by simp
 have x2:((w.alloc (.cells #[.int .i64 x.t.op,.int .i64 x.t.a,.int .i64 x.t.b,.int .i64 x.n] 64)).alloc (.cells #[.int .i64 y.t.op,.int .i64 y.t.a,.int .i64 y.t.b,.int .i64 y.n] 64)).cell? ⟨w.heap.size,2,none⟩=some (.int .i64 x.t.b):=by simp
 have y0:((w.alloc (.cells #[.int .i64 x.t.op,.int .i64 x.t.a,.int .i64 x.t.b,.int .i64 x.n] 64)).alloc (.cells #[.int .i64 y.t.op,.int .i64 y.t.a,.int .i64 y.t.b,.int .i64 y.n] 64)).cell? ⟨w.heap.size+1,0,none⟩=some (.int .i64 y.t.op):=by simp
 have y1:((w.alloc (.cells #[.int .i64 x.t.op,.int .i64 x.t.a,.int .i64 x.t.b,.int .i64 x.n] 64)).alloc (.cells #[.int .i64 y.t.op,.int .i64 y.t.a,.int .i64 y.t.b,.int .i64 y.n] 64)).cell? ⟨w.heap.size+1,1,none⟩=some (.int .i64 y.t.a):=by simp
 have y2:((w.alloc (.cells #[.int .i64 x.t.op,.int .i64 x.t.a,.int .i64 x.t.b,.int .i64 x.n] 64)).alloc (.cells #[.int .i64 y.t.op,.int .i64 y.t.a,.int .i64 y.t.b,.int .i64 y.n] 64)).cell? ⟨w.heap.size+1,2,none⟩=some (.int .i64 y.t.b):=by simp
 have HW:Hid (∃ os', (w.alloc (.cells #[.int .i64 x.t.op,.int .i64 x.t.a,.int .i64 x.t.b,.int .i64 x.n] 64)).alloc (.cells #[.int .i64 y.t.op,.int .i64 y.t.a,.int .i64 y.t.b,.int .i64 y.n] 64)=grow w os'):=⟨_,by rw [alloc_eq_grow,alloc_eq_grow,grow_grow]⟩
 generalize (w.alloc (.cells #[.int .i64 x.t.op,.int .i64 x.t.a,.int .i64 x.t.b,.int .i64 x.n] 64)).alloc (.cells #[.int .i64 y.t.op,.int .i64 y.t.a,.int .i64 y.t.b,.int .i64 y.n] 64)=W at x0 x1 x2 y0 y1 y2 HW ⊢
 refine wp_region_still_tail 21 (by kernel_rfl) (by kernel_rfl) ?_
 simp only [List.take_succ_cons,List.take_zero,List.drop_succ_cons,List.drop_zero]
 repeat still_step
 still_call (compare_any _ _ _)
 repeat still_step
 still_call (compare_any _ _ _)
 repeat still_step
 still_call (compare_any _ _ _)
 repeat still_step
 refine wpStill_nil ?_
 go_wp2_with fail
 refine (or_any _ (cp x.t.op y.t.op) (cp x.t.a y.t.a) (cp x.t.b y.t.b) _ (by simp) (by simp) (by simp)).mono ?_
 rintro e w' ⟨rfl,rfl⟩
 go_wp2
 go_ret
 obtain ⟨os', e⟩:=HW.out
 subst e
 exact ⟨rfl,1,_,(alloc_eq_grow _ _).trans (grow_grow (w.drewN 1) os' _)⟩
theorem flat4:∀ (L:List Ct) (j i:Nat) (c:Ct),L[j]?=some c→i<4→(L.flatMap encCt)[j*4+i]?=(encCt c)[i]?
 | [],j,i,c,h,_=>by simp at h
 | d::L,0,i,c,h,hi=>by
  simp at h;subst h
  rw [List.flatMap_cons,List.getElem?_append_left (by simp [encCt];omega)];simp
 | d::L,j+1,i,c,h,hi=>by
  simp at h
  rw [List.flatMap_cons,List.getElem?_append_right (by simp [encCt];omega),show (j+1)*4+i-(encCt d).length=j*4+i by simp [encCt];omega]
  exact flat4 L j i c h hi
theorem flatCt_len (L:List Ct):(L.flatMap encCt).length=L.length*4:=by
 induction L with
 | nil=>rfl
 | cons c L ih=>rw [List.flatMap_cons,List.length_append,ih];simp [encCt];omega
open Go.Sort in
theorem flatCt (L:List Ct):(Go.Sort.flatK encCt 4 L.toArray).toList=L.flatMap encCt:=by
 apply List.ext_getElem?
 intro t
 by_cases h:t<L.length*4
 ·have hi:t / 4<L.length:=by omega
  have h1:=flat4 L (t / 4) (t % 4) L[t / 4] (List.getElem?_eq_getElem hi) (by omega)
  rw [show t / 4*4+t % 4=t by omega] at h1
  rw [h1]
  have hz:t % 4<(encCt L[t / 4]).length:=by simp [encCt];omega
  rw [List.getElem?_eq_getElem hz]
  simp [Go.Sort.flatK,h,hi]
  rw [List.getElem?_eq_getElem hz];rfl
 ·rw [List.getElem?_eq_none (by simp;omega),List.getElem?_eq_none (by rw [flatCt_len];omega)]
open Go.Sort Go.Lib in
theorem swoC:SWO (ltOf cpC) where
 irrefl x:=by show decide (cpC x x<0)=false;rw [cpC_lt,abv_irrefl]
 trans x y z h1 h2:=by
  have h1' :decide (cpC x y<0)=true:=h1
  have h2' :decide (cpC y z<0)=true:=h2
  show decide (cpC x z<0)=true
  rw [cpC_lt] at *
  exact abv_trans h2' h1'
 ntrans x y z h1 h2:=by
  have h1' :decide (cpC x y<0)=false:=h1
  have h2' :decide (cpC y z<0)=false:=h2
  show decide (cpC x z<0)=false
  rw [cpC_lt] at *
  cases q:abv z.t x.t
  ·rfl
  ·exfalso
   by_cases e:y.t=x.t
   ·rw [e] at h2'; rw [q] at h2'; cases h2'
   ·have:=abv_total h1' e
    rw [abv_trans q this] at h2'; cases h2'
open Go.Sort Go.Lib in
theorem heap_sortedV {w:World} {g n:Nat} {os:Array Obj} {cur:Array Value} {e:TypeId} {fr:Nat × Nat} (d:Array Value) (hb:w.heap[g]?=some (.cells cur e fr)) :
 (grow (putRow id (Sort.ahead w n) g 0 d) os).heap[g]?=some (.cells (putCells id 0 d cur) e fr):=by
 have hg:g<w.heap.size:=(Array.getElem?_eq_some_iff.1 hb).1
 rw [heap_grow_old _ _ (by simpa using hg)]
 simp [putRow,mapBlock,Sort.ahead,Array.getElem?_modify,hb,onCells]
open Go.Sort Go.Lib in
theorem below_sortedV {w:World} {g n base:Nat} {os:Array Obj} (d:Array Value) (hg:base≤g) (hs:base≤w.heap.size):Below base w (grow (putRow id (Sort.ahead w n) g 0 d) os):=by
 refine ⟨rfl,rfl,rfl,by simp,fun k hk=>?_⟩
 rw [heap_grow_old _ _ (by simp;omega)]
 have:g≠k:=by omega
 simp [putRow,mapBlock,Sort.ahead,Array.getElem?_modify,this]
open Go.Sort Go.Lib in
theorem take_putCellsV (cur:Array Value) (d:Array Value) (h:d.size≤cur.size):(putCells id 0 d cur).toList.take d.size=d.toList:=by
 apply List.ext_getElem?
 intro j
 by_cases hj:j<d.size
 ·rw [List.getElem?_take_of_lt hj,Array.getElem?_toList]
  simp [putCells,hj,show j<cur.size by omega]
 ·rw [List.getElem?_take_eq_none (by omega),List.getElem?_eq_none (by simp;omega)]
open Go.Sort Go.Lib in
theorem sorts_ct:SortsCt:=by
 intro v L W base hb ho hnd hlen
 obtain ⟨hxl,ho⟩:=ho
 rcases ho with ⟨rfl,h0⟩ | ⟨g,cap,cur,rfl,hg,hblk,h1,h2,h3,h4⟩
 ·have:L=[]:=List.length_eq_zero_iff.1 h0
  subst this
  refine (AnyF.slices_SortFunc_none Tryz.sortCt none 0 _ W).mono ?_
  rintro e w' ⟨rfl,rfl⟩
  exact ⟨rfl,[],.refl _,List.Pairwise.nil,World.ownsRow_nil _ _ _ _,Below.refl _ _⟩
 ·have eg:∀ args w,(callFunc 44 args).run Tryz.prog w=.ok (.enter 44 args) w:=enters_of Tryz.func44 (by kernel_rfl) rfl
  have hH:HoldsK encCt 4 W g 0 L.toArray:=by
   intro j hj
   refine ⟨?_,by rw [Nat.zero_add];exact blk_frozen hblk j⟩
   rw [Nat.zero_add,blk_cell hblk]
   have hj' :j<L.length*4:=by simpa using hj
   have q:(cur.toList.take (L.length*4))[j]?=(Go.Sort.flatK encCt 4 L.toArray).toList[j]? :=by rw [h4,flatCt]
   rw [List.getElem?_take_of_lt hj', Array.getElem?_toList,Array.getElem?_toList,Array.getElem?_eq_getElem hj] at q
   rw [q,getElem!_pos (Go.Sort.flatK encCt 4 L.toArray) j hj];rfl
  refine (AnyQ.slices_SortFunc Tryz.sortCt 4 Tryz.isAgg64 Tryz.sizeOf64 encCt (fun _=>rfl) (fun x u hu=>by simp [encCt] at hu;rcases hu with rfl | rfl | rfl | rfl <;> rfl) cpC swoC 44 #[] g 0 cap L.toArray W eg (fun _ _ _ _ x y=>closure_any x y _) hH (blk_lt hblk) (by simp;omega)).mono ?_
  rintro e w' ⟨rfl,d', n,os,hp,hs,rfl⟩
  obtain ⟨hp1,hp2,hp3⟩:=hp
  have hsz:d'.size=L.length:=by simpa using hp1
  have hperm:d'.toList.Perm L:=by
   have:(L.toArray.extract 0 L.toArray.size).toList=L:=by simp
   rw [this] at hp3
   have q:(d'.extract 0 L.toArray.size)=d' :=by rw [← hp1];simp
   rw [q] at hp3
   exact hp3
  have hd:d' =d'.toList.toArray:=by simp
  refine ⟨rfl,d'.toList,hperm,?_,⟨by rw [flatCt_len],Or.inr ⟨g,cap,putCells id 0 (Go.Sort.flatK encCt 4 d') cur,?_,hg,heap_sortedV _ hblk,?_,h2,?_,?_⟩⟩,below_sortedV _ hg hb⟩
  ·have hnd' :(d'.toList.map (·.t)).Nodup:=(hperm.map _).nodup_iff.2 hnd
   unfold Srt
   rw [List.pairwise_iff_getElem]
   intro i j hi hj hij
   have q:=hs i j (by omega) hij (by simp at hj;omega)
   simp at hi hj
   rw [getElem!_pos d' j hj,getElem!_pos d' i hi] at q
   have q' :decide (cpC d'[j] d'[i]<0)=false:=q
   rw [cpC_lt] at q'
   refine abv_total q' fun e=>?_
   have:=(List.pairwise_iff_getElem.1 hnd') i j (by simpa using hi) (by simpa using hj) hij
   simp at this
   exact this e
  ·simp [hsz]
  ·simp [hsz,h1]
  ·simp [putCells,h3]
  ·have q:=take_putCellsV cur (Go.Sort.flatK encCt 4 d') (by simp [h3,hsz];omega)
   rw [size_flatK] at q
   have q2:=flatCt d'.toList
   rw [← hd] at q2
   rw [← q2,← q]
   simp
end Go.Proofs.YtkkolclmfcmfbaaGreatDoor
