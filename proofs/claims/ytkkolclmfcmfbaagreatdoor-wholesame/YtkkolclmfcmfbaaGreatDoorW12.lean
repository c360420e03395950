/-
  Of the proof of WholeSame: FK, PC, PF, PG.
-/
import Derived.Test.YtkkolclmfcmfbaaGreatDoorW4
import Derived.Test.YtkkolclmfcmfbaaGreatDoorW5
import Derived.Test.YtkkolclmfcmfbaaGreatDoorW7
import Derived.Test.YtkkolclmfcmfbaaGreatDoorW9
import Derived.Test.YtkkolclmfcmfbaaGreatDoorW10
import Derived.Test.YtkkolclmfcmfbaaGreatDoorW11
set_option linter.unusedVariables false
set_option linter.unusedSimpArgs false
set_option maxHeartbeats 40000000
namespace Go.Proofs.YtkkolclmfcmfbaaGreatDoor
open Go.RowKit Go.Shelf
theorem blk_set6 {w:World} {b:Nat} {x0 x1 x2 x3 x4 x5 v0 v1 v2 v3 v4 v5:Value} {t:TypeId} {fr:Nat × Nat} (h:w.heap[b]?=some (.cells #[x0,x1,x2,x3,x4,x5] t fr)):((((((w.setCell ⟨b,0,none⟩ v0).setCell ⟨b,1,none⟩ v1).setCell ⟨b,2,none⟩ v2).setCell ⟨b,3,none⟩ v3).setCell ⟨b,4,none⟩ v4).setCell ⟨b,5,none⟩ v5).heap[b]?=some (.cells #[v0,v1,v2,v3,v4,v5] t fr):=by
 rw [blk_set _ (blk_set _ (blk_set _ (blk_set _ (blk_set _ (blk_set _ h)))))];simp
theorem owns_set6 {w:World} {base b:Nat} {e t:TypeId} {size:Nat} {v:Value} {n:Nat} {xs:List Value} {cs:Array Value} {v0 v1 v2 v3 v4 v5:Value} (h:w.ownsRow base e size v n xs) (hb:w.heap[b]?=some (.cells cs t (0,0))) (hte:t≠e):((((((w.setCell ⟨b,0,none⟩ v0).setCell ⟨b,1,none⟩ v1).setCell ⟨b,2,none⟩ v2).setCell ⟨b,3,none⟩ v3).setCell ⟨b,4,none⟩ v4).setCell ⟨b,5,none⟩ v5).ownsRow base e size v n xs :=
 owns_set (owns_set (owns_set (owns_set (owns_set (owns_set h hb hte) (blk_set _ hb) hte) (blk_set _ (blk_set _ hb)) hte) (blk_set _ (blk_set _ (blk_set _ hb))) hte) (blk_set _ (blk_set _ (blk_set _ (blk_set _ hb)))) hte) (blk_set _ (blk_set _ (blk_set _ (blk_set _ (blk_set _ hb))))) hte
theorem rowsT_set6 {w:World} {rb L b:Nat} {F:Nat→List Nat} {cs:Array Value} {t:TypeId} {v0 v1 v2 v3 v4 v5:Value} (h:RowsT w rb L F) (hb:w.heap[b]?=some (.cells cs t (0,0))) (h1:t≠25) (h2:t≠3):RowsT ((((((w.setCell ⟨b,0,none⟩ v0).setCell ⟨b,1,none⟩ v1).setCell ⟨b,2,none⟩ v2).setCell ⟨b,3,none⟩ v3).setCell ⟨b,4,none⟩ v4).setCell ⟨b,5,none⟩ v5) rb L F :=
 (((((h.set hb h1 h2).set (blk_set _ hb) h1 h2).set (blk_set _ (blk_set _ hb)) h1 h2).set (blk_set _ (blk_set _ (blk_set _ hb))) h1 h2).set (blk_set _ (blk_set _ (blk_set _ (blk_set _ hb)))) h1 h2).set (blk_set _ (blk_set _ (blk_set _ (blk_set _ (blk_set _ hb))))) h1 h2
theorem below_set6 {B:Nat} {w0 w:World} {b:Nat} {v0 v1 v2 v3 v4 v5:Value} (h:Below B w0 w) (hb:B≤b):Below B w0 ((((((w.setCell ⟨b,0,none⟩ v0).setCell ⟨b,1,none⟩ v1).setCell ⟨b,2,none⟩ v2).setCell ⟨b,3,none⟩ v3).setCell ⟨b,4,none⟩ v4).setCell ⟨b,5,none⟩ v5) :=
 (((((h.setCell (p:=⟨b,0,none⟩) hb _).setCell (p:=⟨b,1,none⟩) hb _).setCell (p:=⟨b,2,none⟩) hb _).setCell (p:=⟨b,3,none⟩) hb _).setCell (p:=⟨b,4,none⟩) hb _).setCell (p:=⟨b,5,none⟩) hb _
structure SMT (w:World) (ns:List Nd) (t:Tm) (rb1 rb2:Nat) (v4 v5:Value):Prop where
 nx:RowsT w rb1 ns.length (nxl ns)
 ah:RowsT w rb2 ns.length (ahl ns)
 rk:w.ownsRow 0 4 1 v4 ns.length ((rcl ns t).map Value.bool)
 kp:w.ownsRow 0 4 1 v5 ns.length ((kpl ns t).map Value.bool)
theorem SMT.below {w w' :World} {ns:List Nd} {t:Tm} {rb1 rb2:Nat} {v4 v5:Value} (h:SMT w ns t rb1 rb2 v4 v5) (hb:Below w.heap.size w w'):SMT w' ns t rb1 rb2 v4 v5 :=
 ⟨h.nx.below hb,h.ah.below hb,ownsRow_below h.rk hb (Nat.le_refl _),ownsRow_below h.kp hb (Nat.le_refl _)⟩
theorem SMT.set {w:World} {ns:List Nd} {t:Tm} {rb1 rb2 b o:Nat} {v4 v5 u:Value} {cs:Array Value} {ty:TypeId} (h:SMT w ns t rb1 rb2 v4 v5) (hb:w.heap[b]?=some (.cells cs ty (0,0))) (h1:ty≠25) (h2:ty≠3) (h3:ty≠4):SMT (w.setCell ⟨b,o,none⟩ u) ns t rb1 rb2 v4 v5 :=
 ⟨h.nx.set hb h1 h2,h.ah.set hb h1 h2,owns_set h.rk hb h3,owns_set h.kp hb h3⟩
theorem SMT.set6 {w:World} {ns:List Nd} {t:Tm} {rb1 rb2 b:Nat} {v4' v5' v0 v1 v2 v3 v4 v5:Value} {cs:Array Value} {ty:TypeId} (h:SMT w ns t rb1 rb2 v4' v5') (hb:w.heap[b]?=some (.cells cs ty (0,0))) (h1:ty≠25) (h2:ty≠3) (h3:ty≠4):SMT ((((((w.setCell ⟨b,0,none⟩ v0).setCell ⟨b,1,none⟩ v1).setCell ⟨b,2,none⟩ v2).setCell ⟨b,3,none⟩ v3).setCell ⟨b,4,none⟩ v4).setCell ⟨b,5,none⟩ v5) ns t rb1 rb2 v4' v5' :=
 ⟨rowsT_set6 h.nx hb h1 h2,rowsT_set6 h.ah hb h1 h2,owns_set6 h.rk hb h3,owns_set6 h.kp hb h3⟩
theorem SMT.read {w:World} {ns:List Nd} {t:Tm} {rb1 rb2 kc pc:Nat} {ka pa:Option Addr} (h:SMT w ns t rb1 rb2 (.slice ka ns.length kc) (.slice pa ns.length pc)):SM w ns t rb1 rb2 ka pa :=
 ⟨h.nx.read,h.ah.read,bools_owned h.rk (rcl_len _ _),bools_owned h.kp (kpl_len _ _)⟩
theorem range_bat (x:List Bool):(List.range x.length).map (bat x)=x:=by
 refine List.ext_getElem (by simp) fun i h1 h2=>?_
 simp [bat,h2]
theorem rcl_eq (ns:List Nd) (t:Tm):(List.range ns.length).map (fun n=>bat (ns.map (rcB t)) n)=rcl ns t:=by
 have:=range_bat (ns.map (rcB t))
 rwa [List.length_map] at this
theorem kpl_eq (ns:List Nd) (t:Tm):(List.range ns.length).map (fun n=>bat (ns.map (kpB t)) n)=kpl ns t:=by
 have:=range_bat (ns.map (kpB t))
 rwa [List.length_map] at this
def LookInv (w W:World) (r:Int) (b off cap:Nat) (ns:List Nd) (t:Tm) (listed:Array Bool) (a:Act) (w' :World):Prop:=∃ u5 u6 u7 u8 u9 u10 u11:Value,listed.size=8∧a={ tmps:=#[.agg #[.int .i64 r,.slice (some ⟨b,off,none⟩) ns.length cap],.agg #[.int .i64 t.op,.int .i64 t.a,.int .i64 t.b],.pointer (some ⟨w.heap.size,0,none⟩),.pointer (some ⟨w.heap.size+1,0,none⟩),.pointer (some ⟨w.heap.size+2,0,none⟩),u5,u6,u7,u8,u9,u10,u11,undef,undef,undef,undef,undef,undef,undef,undef,undef],defers:=[] }∧((listed.getD 7 false=false∧Below W.heap.size W w' ∧(listed.getD 0 false=true→u6=.agg #[.int .i64 r,.slice (some ⟨b,off,none⟩) ns.length cap])∧(listed.getD 1 false=true→u7=.agg #[.int .i64 r,.slice (some ⟨b,off,none⟩) ns.length cap])∧(listed.getD 2 false=true→∃ rb1,u8=.slice (some ⟨rb1,0,none⟩) ns.length ns.length∧RowsT w' rb1 ns.length (nxl ns))∧(listed.getD 3 false=true→u9=.agg #[.int .i64 r,.slice (some ⟨b,off,none⟩) ns.length cap])∧(listed.getD 4 false=true→∃ rb2,u10=.slice (some ⟨rb2,0,none⟩) ns.length ns.length∧RowsT w' rb2 ns.length (ahl ns))∧(listed.getD 5 false=true→∃ rb1 rb2,u8=.slice (some ⟨rb1,0,none⟩) ns.length ns.length∧u10=.slice (some ⟨rb2,0,none⟩) ns.length ns.length∧u11=.agg #[.int .i64 r,.slice (some ⟨b,off,none⟩) ns.length cap,.slice (some ⟨rb1,0,none⟩) ns.length ns.length,.slice (some ⟨rb2,0,none⟩) ns.length ns.length,.slice none 0 0,.slice none 0 0])∧(listed.getD 6 false=true→∃ s,u5=.pointer (some ⟨s,0,none⟩)∧W.heap.size≤s∧w'.heap[s]?=some (.cells #[.int .i64 0,.slice none 0 0,.slice none 0 0,.slice none 0 0,.slice none 0 0,.slice none 0 0] 195 (0,0))))∨(listed.getD 7 false=true∧(∀ j,j<7→listed.getD j false=true)∧∃ s rb1 rb2,u5=.pointer (some ⟨s,0,none⟩)∧W.heap.size≤s∧w'.heap[s]?=some (.cells #[.int .i64 r,.slice (some ⟨b,off,none⟩) ns.length cap,.slice (some ⟨rb1,0,none⟩) ns.length ns.length,.slice (some ⟨rb2,0,none⟩) ns.length ns.length,.slice none 0 0,.slice none 0 0] 195 (0,0))∧RowsT w' rb1 ns.length (nxl ns)∧RowsT w' rb2 ns.length (ahl ns)∧Below W.heap.size W w'))
set_option maxRecDepth 100000 in
theorem look_any (r:Int) (b off cap:Nat) (ns:List Nd) (t:Tm) (w:World) (hN:NodesAt w b off ns) (hc:chk r ns=0) (ht:3≤t.op∧t.op≤8) :
 CallsIn Fence.wide 1 Tryz.prog 134 #[.agg #[.int .i64 r,.slice (some ⟨b,off,none⟩) ns.length cap],.agg #[.int .i64 t.op,.int .i64 t.a,.int .i64 t.b]] w fun e w' =>∃ rb1 rb2 ka pa kc pc,e=.returned (.agg #[.int .i64 r,.slice (some ⟨b,off,none⟩) ns.length cap,.slice (some ⟨rb1,0,none⟩) ns.length ns.length,.slice (some ⟨rb2,0,none⟩) ns.length ns.length,.slice ka ns.length kc,.slice pa ns.length pc])∧SMT w' ns t rb1 rb2 (.slice ka ns.length kc) (.slice pa ns.length pc)∧Below w.heap.size w w' :=by
 have hl:=(chk_zero hc).1
 have eg1:∀ args w,(callFunc 159 args).run Tryz.prog w=.ok (.enter 159 args) w:=enters_of Tryz.func159 (by kernel_rfl) rfl
 have eg2:∀ args w,(callFunc 160 args).run Tryz.prog w=.ok (.enter 160 args) w:=enters_of Tryz.func160 (by kernel_rfl) rfl
 refine callsIn_of_wp Tryz.func134 rfl trivial ?_ rfl
 simp only [Tryz.ntmps134,List.size_toArray,List.length_cons,List.length_nil,Nat.reduceAdd,Nat.reduceSub,Array.replicate_succ,Array.replicate_zero,List.push_toArray,List.append_toArray,List.nil_append,List.cons_append]
 gi_upto_region 1 with fail
 have hB0:Below w.heap.size w (((w.alloc (.cells #[.int .i64 r,.slice (some ⟨b,off,none⟩) ns.length cap] 24)).alloc (.cells #[.int .i64 t.op,.int .i64 t.a,.int .i64 t.b] 57)).alloc (.cells #[.int .i64 0,.slice none 0 0,.slice none 0 0,.slice none 0 0,.slice none 0 0,.slice none 0 0] 195)):=(((Below.refl _ w).alloc (Nat.le_refl _) _).alloc (by simp) _).alloc (by simp;omega) _
 have p0:(((w.alloc (.cells #[.int .i64 r,.slice (some ⟨b,off,none⟩) ns.length cap] 24)).alloc (.cells #[.int .i64 t.op,.int .i64 t.a,.int .i64 t.b] 57)).alloc (.cells #[.int .i64 0,.slice none 0 0,.slice none 0 0,.slice none 0 0,.slice none 0 0,.slice none 0 0] 195)).heap[w.heap.size]?=some (.cells #[.int .i64 r,.slice (some ⟨b,off,none⟩) ns.length cap] 24 (0,0)):=(Below.heap_alloc _ _ _ (by simp;omega)).trans ((Below.heap_alloc _ _ _ (by simp)).trans (World.alloc_heap_new w _))
 have p1:(((w.alloc (.cells #[.int .i64 r,.slice (some ⟨b,off,none⟩) ns.length cap] 24)).alloc (.cells #[.int .i64 t.op,.int .i64 t.a,.int .i64 t.b] 57)).alloc (.cells #[.int .i64 0,.slice none 0 0,.slice none 0 0,.slice none 0 0,.slice none 0 0,.slice none 0 0] 195)).heap[w.heap.size+1]?=some (.cells #[.int .i64 t.op,.int .i64 t.a,.int .i64 t.b] 57 (0,0)):=by
  have:=World.alloc_heap_new (w.alloc (.cells #[.int .i64 r,.slice (some ⟨b,off,none⟩) ns.length cap] 24)) (.cells #[.int .i64 t.op,.int .i64 t.a,.int .i64 t.b] 57)
  rw [World.size_alloc] at this
  exact (Below.heap_alloc _ _ _ (by simp)).trans this
 have p2:(((w.alloc (.cells #[.int .i64 r,.slice (some ⟨b,off,none⟩) ns.length cap] 24)).alloc (.cells #[.int .i64 t.op,.int .i64 t.a,.int .i64 t.b] 57)).alloc (.cells #[.int .i64 0,.slice none 0 0,.slice none 0 0,.slice none 0 0,.slice none 0 0,.slice none 0 0] 195)).heap[w.heap.size+2]?=some (.cells #[.int .i64 0,.slice none 0 0,.slice none 0 0,.slice none 0 0,.slice none 0 0,.slice none 0 0] 195 (0,0)):=by
  have:=World.alloc_heap_new ((w.alloc (.cells #[.int .i64 r,.slice (some ⟨b,off,none⟩) ns.length cap] 24)).alloc (.cells #[.int .i64 t.op,.int .i64 t.a,.int .i64 t.b] 57)) (.cells #[.int .i64 0,.slice none 0 0,.slice none 0 0,.slice none 0 0,.slice none 0 0,.slice none 0 0] 195)
  rwa [World.size_alloc,World.size_alloc] at this
 generalize (((w.alloc (.cells #[.int .i64 r,.slice (some ⟨b,off,none⟩) ns.length cap] 24)).alloc (.cells #[.int .i64 t.op,.int .i64 t.a,.int .i64 t.b] 57)).alloc (.cells #[.int .i64 0,.slice none 0 0,.slice none 0 0,.slice none 0 0,.slice none 0 0,.slice none 0 0] 195))=W at hB0 p0 p1 p2 ⊢
 refine region_inv (by kernel_rfl) (LookInv w W r b off cap ns t) ?hg ?hsz ?h0 ?hs ?h1
 case hg =>
  intro ix o ho
  match ix,ho with
  | 0,ho | 1,ho | 2,ho | 3,ho | 4,ho | 5,ho | 6,ho | 7,ho=>simp at ho;subst ho;simp [Region.binds]
  | ix+8,ho=>simp at ho
 case hsz=>unfold LookInv;rintro listed a w' ⟨_,_,_,_,_,_,_,h,_⟩;simpa using h
 case h0 =>
  unfold LookInv
  refine ⟨_,_,_,_,_,_,_,by simp,rfl,Or.inl ⟨by simp,(Below.refl _ W).drew,by simp,by simp,by simp,by simp,by simp,by simp,by simp⟩⟩
 case hs =>
  intro listed a w' ix o hI
  unfold LookInv at hI
  revert hI
  rintro ⟨u5,u6,u7,u8,u9,u10,u11,hsz,rfl,hw⟩ hC ho hl' hd
  have hltn:ix<8:=(Array.getElem?_eq_some_iff.1 ho).1
  replace hl' :listed.getD ix false=false:=by
   simp only [Array.getD] at hl' ⊢
   rw [dif_pos (by omega)] at hl' ⊢;exact hl'
  have keep:∀ j,j≠ix→(listed.setIfInBounds ix true).getD j false=listed.getD j false:=fun j hj=>getD_set_ne false (fun e=>hj e.symm)
  have sett:(listed.setIfInBounds ix true).getD ix false=true:=by simp [hsz,hltn]
  have hsz' :(listed.setIfInBounds ix true).size=8:=by simp [hsz]
  rcases hw with ⟨g7,hB,e0,e1,e2,e3,e4,e5,e6⟩ | ⟨g7,hall,_⟩
  case inr =>
   exfalso
   by_cases e:ix=7
   ·subst e;rw [g7] at hl'; cases hl'
   ·rw [hall ix (by omega)] at hl'; cases hl'
  have hp0:=(hB.block _ (blk_lt p0)).trans p0
  have c0:=blk_cell hp0 0
  have c1:=blk_cell hp0 1
  simp at c0 c1
  have pl:=blk_lt hp0
  clear hp0
  match ix,hltn with
  | 0,_ =>
   simp at ho;subst ho
   clear hd
   go_simp
   unfold LookInv
   exact ⟨_,_,_,_,_,_,_,hsz', rfl,Or.inl ⟨(keep 7 (by omega)).trans g7,hB,fun _=>rfl,fun h=>e1 (by rwa [keep 1 (by omega)] at h),fun h=>e2 (by rwa [keep 2 (by omega)] at h),fun h=>e3 (by rwa [keep 3 (by omega)] at h),fun h=>e4 (by rwa [keep 4 (by omega)] at h),fun h=>e5 (by rwa [keep 5 (by omega)] at h),fun h=>e6 (by rwa [keep 6 (by omega)] at h)⟩⟩
  | 1,_ =>
   simp at ho;subst ho
   clear hd
   go_simp
   unfold LookInv
   exact ⟨_,_,_,_,_,_,_,hsz', rfl,Or.inl ⟨(keep 7 (by omega)).trans g7,hB,fun h=>e0 (by rwa [keep 0 (by omega)] at h),fun _=>rfl,fun h=>e2 (by rwa [keep 2 (by omega)] at h),fun h=>e3 (by rwa [keep 3 (by omega)] at h),fun h=>e4 (by rwa [keep 4 (by omega)] at h),fun h=>e5 (by rwa [keep 5 (by omega)] at h),fun h=>e6 (by rwa [keep 6 (by omega)] at h)⟩⟩
  | 3,_ =>
   simp at ho;subst ho
   clear hd
   go_simp
   unfold LookInv
   exact ⟨_,_,_,_,_,_,_,hsz', rfl,Or.inl ⟨(keep 7 (by omega)).trans g7,hB,fun h=>e0 (by rwa [keep 0 (by omega)] at h),fun h=>e1 (by rwa [keep 1 (by omega)] at h),fun h=>e2 (by rwa [keep 2 (by omega)] at h),fun _=>rfl,fun h=>e4 (by rwa [keep 4 (by omega)] at h),fun h=>e5 (by rwa [keep 5 (by omega)] at h),fun h=>e6 (by rwa [keep 6 (by omega)] at h)⟩⟩
  | 2,_ =>
   simp at ho;subst ho
   have d1:listed.getD 1 false=true:=hd ⟨1,.data⟩ (by simp) rfl
   obtain rfl:=(e1 d1).symm
   clear hd
   have hNw:=hN.below (hB0.trans (hB.mono hB0.size)) hN.lt
   go_simp
   refine ⟨trivial,(callsIn_wide.2 (linksNext_rows r b off cap ns w' hNw hc)).mono ?_⟩
   rintro e w2 ⟨rb1,rfl,hR,hb⟩
   have hB' :Below W.heap.size W w2:=hB.trans (hb.mono hB.size)
   unfold LookInv
   exact ⟨_,_,_,_,_,_,_,hsz', rfl,Or.inl ⟨(keep 7 (by omega)).trans g7,hB', fun h=>e0 (by rwa [keep 0 (by omega)] at h),fun h=>e1 (by rwa [keep 1 (by omega)] at h),fun _=>⟨rb1,rfl,hR⟩,fun h=>e3 (by rwa [keep 3 (by omega)] at h),fun h=>by obtain ⟨z,q1,q2⟩:=e4 (by rwa [keep 4 (by omega)] at h);exact ⟨z,q1,q2.below hb⟩,fun h=>absurd (hC 5 _ rfl (by rwa [keep 5 (by omega)] at h) ⟨2,.data⟩ (by simp) rfl) (by rw [hl'];simp),fun h=>by obtain ⟨z,q1,q2,q3⟩:=e6 (by rwa [keep 6 (by omega)] at h);exact ⟨z,q1,q2,(Below.block hb _ (blk_lt q3)).trans q3⟩⟩⟩
  | 4,_ =>
   simp at ho;subst ho
   have d3:listed.getD 3 false=true:=hd ⟨3,.data⟩ (by simp) rfl
   have d2:listed.getD 2 false=true:=hd ⟨2,.chain⟩ (by simp) rfl
   obtain rfl:=(e3 d3).symm
   clear hd
   have hNw:=hN.below (hB0.trans (hB.mono hB0.size)) hN.lt
   go_simp
   refine ⟨trivial,(callsIn_wide.2 (linksAhead_rows r b off cap ns w' hNw hc)).mono ?_⟩
   rintro e w2 ⟨rb2,rfl,hR,hb⟩
   have hB' :Below W.heap.size W w2:=hB.trans (hb.mono hB.size)
   unfold LookInv
   exact ⟨_,_,_,_,_,_,_,hsz', rfl,Or.inl ⟨(keep 7 (by omega)).trans g7,hB', fun h=>e0 (by rwa [keep 0 (by omega)] at h),fun h=>e1 (by rwa [keep 1 (by omega)] at h),fun h=>by obtain ⟨z,q1,q2⟩:=e2 (by rwa [keep 2 (by omega)] at h);exact ⟨z,q1,q2.below hb⟩,fun h=>e3 (by rwa [keep 3 (by omega)] at h),fun _=>⟨rb2,rfl,hR⟩,fun h=>absurd (hC 5 _ rfl (by rwa [keep 5 (by omega)] at h) ⟨4,.data⟩ (by simp) rfl) (by rw [hl'];simp),fun h=>by obtain ⟨z,q1,q2,q3⟩:=e6 (by rwa [keep 6 (by omega)] at h);exact ⟨z,q1,q2,(Below.block hb _ (blk_lt q3)).trans q3⟩⟩⟩
  | 5,_ =>
   simp at ho;subst ho
   have d0:listed.getD 0 false=true:=hd ⟨0,.data⟩ (by simp) rfl
   have d2:listed.getD 2 false=true:=hd ⟨2,.data⟩ (by simp) rfl
   have d4:listed.getD 4 false=true:=hd ⟨4,.data⟩ (by simp) rfl
   obtain rfl:=(e0 d0).symm
   obtain ⟨rb1,rfl,hR1⟩:=e2 d2
   obtain ⟨rb2,rfl,hR2⟩:=e4 d4
   clear hd
   go_simp
   unfold LookInv
   exact ⟨_,_,_,_,_,_,_,hsz', rfl,Or.inl ⟨(keep 7 (by omega)).trans g7,hB,fun h=>e0 (by rwa [keep 0 (by omega)] at h),fun h=>e1 (by rwa [keep 1 (by omega)] at h),fun h=>e2 (by rwa [keep 2 (by omega)] at h),fun h=>e3 (by rwa [keep 3 (by omega)] at h),fun h=>e4 (by rwa [keep 4 (by omega)] at h),fun _=>⟨_,_,rfl,rfl,rfl⟩,fun h=>e6 (by rwa [keep 6 (by omega)] at h)⟩⟩
  | 6,_ =>
   simp at ho;subst ho
   clear hd
   have hb:Below w'.heap.size w' (w'.alloc (.cells #[.int .i64 0,.slice none 0 0,.slice none 0 0,.slice none 0 0,.slice none 0 0,.slice none 0 0] 195)):=(Below.refl _ w').alloc (Nat.le_refl _) _
   have hB' :Below W.heap.size W (w'.alloc (.cells #[.int .i64 0,.slice none 0 0,.slice none 0 0,.slice none 0 0,.slice none 0 0,.slice none 0 0] 195)):=hB.trans (hb.mono hB.size)
   have hnew:=World.alloc_heap_new w' (.cells #[.int .i64 0,.slice none 0 0,.slice none 0 0,.slice none 0 0,.slice none 0 0,.slice none 0 0] 195)
   go_simp
   unfold LookInv
   exact ⟨_,_,_,_,_,_,_,hsz', rfl,Or.inl ⟨(keep 7 (by omega)).trans g7,hB', fun h=>e0 (by rwa [keep 0 (by omega)] at h),fun h=>e1 (by rwa [keep 1 (by omega)] at h),fun h=>by obtain ⟨z,q1,q2⟩:=e2 (by rwa [keep 2 (by omega)] at h);exact ⟨z,q1,q2.below hb⟩,fun h=>e3 (by rwa [keep 3 (by omega)] at h),fun h=>by obtain ⟨z,q1,q2⟩:=e4 (by rwa [keep 4 (by omega)] at h);exact ⟨z,q1,q2.below hb⟩,fun h=>e5 (by rwa [keep 5 (by omega)] at h),fun _=>⟨_,rfl,hB.size,hnew⟩⟩⟩
  | 7,_ =>
   simp at ho;subst ho
   have d6:listed.getD 6 false=true:=hd ⟨6,.data⟩ (by simp) rfl
   have d5:listed.getD 5 false=true:=hd ⟨5,.data⟩ (by simp) rfl
   have d0:listed.getD 0 false=true:=hd ⟨0,.phase⟩ (by simp) rfl
   have d1:listed.getD 1 false=true:=hd ⟨1,.phase⟩ (by simp) rfl
   have d2:listed.getD 2 false=true:=hd ⟨2,.phase⟩ (by simp) rfl
   have d3:listed.getD 3 false=true:=hd ⟨3,.phase⟩ (by simp) rfl
   have d4:listed.getD 4 false=true:=hd ⟨4,.phase⟩ (by simp) rfl
   obtain ⟨s,rfl,hsl,hsb⟩:=e6 d6
   obtain ⟨rb1,rb2,rfl,rfl,rfl⟩:=e5 d5
   obtain ⟨x1,ex1,hR1⟩:=e2 d2
   obtain ⟨x2,ex2,hR2⟩:=e4 d4
   obtain rfl:rb1=x1:=by simpa using ex1
   obtain rfl:rb2=x2:=by simpa using ex2
   clear hd
   have s0:=blk_cell hsb 0
   have s1:=blk_cell hsb 1
   have s2:=blk_cell hsb 2
   have s3:=blk_cell hsb 3
   have s4:=blk_cell hsb 4
   have s5:=blk_cell hsb 5
   simp at s0 s1 s2 s3 s4 s5
   have f0:=blk_frozen hsb 0
   have f1:=blk_frozen hsb 1
   have f2:=blk_frozen hsb 2
   have f3:=blk_frozen hsb 3
   have f4:=blk_frozen hsb 4
   have f5:=blk_frozen hsb 5
   have slt:=blk_lt hsb
   have HSB:=hide hsb
   clear hsb e0 e1 e2 e3 e4 e5 e6 ex1 ex2
   go_simp
   unfold LookInv
   refine ⟨_,_,_,_,_,_,_,hsz', rfl,Or.inr ⟨sett,fun j hj=>?_,s,rb1,rb2,rfl,hsl,?_,?_,?_,?_⟩⟩
   ·match j,hj with
    | 0,_=>exact (keep 0 (by omega)).trans d0
    | 1,_=>exact (keep 1 (by omega)).trans d1
    | 2,_=>exact (keep 2 (by omega)).trans d2
    | 3,_=>exact (keep 3 (by omega)).trans d3
    | 4,_=>exact (keep 4 (by omega)).trans d4
    | 5,_=>exact (keep 5 (by omega)).trans d5
    | 6,_=>exact (keep 6 (by omega)).trans d6
    | jx+7,hj=>exact absurd hj (by omega)
   ·exact blk_set6 HSB.out
   ·exact rowsT_set6 hR1 HSB.out (by decide) (by decide)
   ·exact rowsT_set6 hR2 HSB.out (by decide) (by decide)
   ·exact below_set6 hB hsl
 case h1 =>
  intro listed a w' hI
  unfold LookInv at hI
  revert hI
  rintro ⟨u5,u6,u7,u8,u9,u10,u11,hsz,rfl,hw⟩ hall
  rcases hw with ⟨g7,_⟩ | ⟨_,_,s,rb1,rb2,rfl,hsl,hsb,hR1,hR2,hB⟩
  ·rw [hall 7 (by decide)] at g7;cases g7
  clear hall
  have hNv:=hN.below (hB0.trans (hB.mono hB0.size)) hN.lt
  have hPv:=(hB.block _ (blk_lt p0)).trans p0
  have hTv:=(hB.block _ (blk_lt p1)).trans p1
  have hsr:w.heap.size+2<W.heap.size:=blk_lt p2
  have hea:=fun (U:World) (v4 v5:Value) (hU:Below W.heap.size W U)=>each_any (fun n=>bat (ns.map (rcB t)) n) 159 #[.pointer (some ⟨w.heap.size,0,none⟩),.pointer (some ⟨w.heap.size+1,0,none⟩)] r (some ⟨b,off,none⟩) ns.length cap (.slice (some ⟨rb1,0,none⟩) ns.length ns.length) (.slice (some ⟨rb2,0,none⟩) ns.length ns.length) v4 v5 U hl.2 eg1 (fun i hi X hX=>look1_any i _ _ r b off cap ns t X (hN.below (hB0.trans ((hU.trans (hX.mono hU.size)).mono hB0.size)) hN.lt) hi (((hU.trans (hX.mono hU.size)).block _ (blk_lt p0)).trans p0) (((hU.trans (hX.mono hU.size)).block _ (blk_lt p1)).trans p1) ht)
  have heb:=fun (U:World) (v4 v5:Value) (hU:Below W.heap.size W U)=>each_any (fun n=>bat (ns.map (kpB t)) n) 160 #[.pointer (some ⟨w.heap.size,0,none⟩),.pointer (some ⟨w.heap.size+1,0,none⟩)] r (some ⟨b,off,none⟩) ns.length cap (.slice (some ⟨rb1,0,none⟩) ns.length ns.length) (.slice (some ⟨rb2,0,none⟩) ns.length ns.length) v4 v5 U hl.2 eg2 (fun i hi X hX=>look2_any i _ _ r b off cap ns t X (hN.below (hB0.trans ((hU.trans (hX.mono hU.size)).mono hB0.size)) hN.lt) hi (((hU.trans (hX.mono hU.size)).block _ (blk_lt p0)).trans p0) (((hU.trans (hX.mono hU.size)).block _ (blk_lt p1)).trans p1) ht)
  simp only [rcl_eq] at hea
  simp only [kpl_eq] at heb
  have HEA:=hide' (hea w' (.slice none 0 0) (.slice none 0 0) hB)
  have HEB:=hide' heb
  have s0:=blk_cell hsb 0
  have s1:=blk_cell hsb 1
  have s2:=blk_cell hsb 2
  have s3:=blk_cell hsb 3
  have s4:=blk_cell hsb 4
  have s5:=blk_cell hsb 5
  simp at s0 s1 s2 s3 s4 s5
  have slt:=blk_lt hsb
  have HSB:=hide' hsb
  have HR1:=hide' hR1
  have HR2:=hide' hR2
  have HB:=hide' hB
  have HB0:=hide' hB0
  have HP2:=hide' p2
  clear hsb hR1 hR2 hB hB0 hea heb hNv hPv hTv p0 p1 p2 hN hc ht
  gi_upto_region 3 with (refine ⟨trivial,?_⟩;gi_at_call 158;refine (callsIn_wide.2 HEA.out).mono ?_;rintro e V1 ⟨v4,rfl,hv4,hb4⟩;obtain ⟨ka,kc,rfl⟩:=owns_slice hv4;have hs4:=(hb4.block _ slt).trans HSB.out;have t4:=blk_cell hs4 4;simp at t4;have u4:=blk_frozen hs4 4;have tlt:=blk_lt hs4)
  have hs5:(V1.setCell ⟨s,4,none⟩ (.slice ka ns.length kc)).heap[s]?=some (.cells #[.int .i64 r,.slice (some ⟨b,off,none⟩) ns.length cap,.slice (some ⟨rb1,0,none⟩) ns.length ns.length,.slice (some ⟨rb2,0,none⟩) ns.length ns.length,.slice ka ns.length kc,.slice none 0 0] 195 (0,0)):=by rw [blk_set _ hs4];simp
  have hBV:Below W.heap.size W (V1.setCell ⟨s,4,none⟩ (.slice ka ns.length kc)):=(HB.out.trans (hb4.mono HB.out.size)).setCell (p:=⟨s,4,none⟩) hsl _
  have m1:RowsT (V1.setCell ⟨s,4,none⟩ (.slice ka ns.length kc)) rb1 ns.length (nxl ns):=(HR1.out.below hb4).set hs4 (by decide) (by decide)
  have m2:RowsT (V1.setCell ⟨s,4,none⟩ (.slice ka ns.length kc)) rb2 ns.length (ahl ns):=(HR2.out.below hb4).set hs4 (by decide) (by decide)
  have m3:=owns_set (o:=4) (u:=.slice ka ns.length kc) (ownsRow_base hv4 (Nat.zero_le _)) hs4 (by decide)
  clear s0 s1 s2 s3 s4 s5 t4 u4 hs4 hv4 hb4 HEA
  generalize (V1.setCell ⟨s,4,none⟩ (.slice ka ns.length kc))=V2 at hs5 hBV m1 m2 m3 ⊢
  have HEC:=hide' (HEB.out V2 (.slice ka ns.length kc) (.slice none 0 0) hBV)
  have s0:=blk_cell hs5 0
  have s1:=blk_cell hs5 1
  have s2:=blk_cell hs5 2
  have s3:=blk_cell hs5 3
  have s4:=blk_cell hs5 4
  have s5:=blk_cell hs5 5
  simp at s0 s1 s2 s3 s4 s5
  have slt2:=blk_lt hs5
  have HSB2:=hide' hs5
  have HBV:=hide' hBV
  have M1:=hide' m1
  have M2:=hide' m2
  have M3:=hide' m3
  clear hs5 hBV m1 m2 m3
  gi_upto_region 4 with (refine ⟨trivial,?_⟩;gi_at_call 158;refine (callsIn_wide.2 HEC.out).mono ?_;rintro e V3 ⟨v5,rfl,hv5,hb5⟩;obtain ⟨pa,pc,rfl⟩:=owns_slice hv5;have hs6:=(hb5.block _ slt2).trans HSB2.out;have t5:=blk_cell hs6 5;simp at t5;have u5:=blk_frozen hs6 5;have tlt2:=blk_lt hs6)
  have hs7:(V3.setCell ⟨s,5,none⟩ (.slice pa ns.length pc)).heap[s]?=some (.cells #[.int .i64 r,.slice (some ⟨b,off,none⟩) ns.length cap,.slice (some ⟨rb1,0,none⟩) ns.length ns.length,.slice (some ⟨rb2,0,none⟩) ns.length ns.length,.slice ka ns.length kc,.slice pa ns.length pc] 195 (0,0)):=by rw [blk_set _ hs6];simp
  have hBV:Below W.heap.size W (V3.setCell ⟨s,5,none⟩ (.slice pa ns.length pc)):=(HBV.out.trans (hb5.mono HBV.out.size)).setCell (p:=⟨s,5,none⟩) hsl _
  have hM:SMT (V3.setCell ⟨s,5,none⟩ (.slice pa ns.length pc)) ns t rb1 rb2 (.slice ka ns.length kc) (.slice pa ns.length pc):=⟨(M1.out.below hb5).set hs6 (by decide) (by decide),(M2.out.below hb5).set hs6 (by decide) (by decide),owns_set (ownsRow_below M3.out hb5 (Nat.le_refl _)) hs6 (by decide),owns_set (ownsRow_base hv5 (Nat.zero_le _)) hs6 (by decide)⟩
  clear s0 s1 s2 s3 s4 s5 t5 u5 hs6 hv5 hb5 HEC HEB
  generalize (V3.setCell ⟨s,5,none⟩ (.slice pa ns.length pc))=V4 at hs7 hBV hM ⊢
  have s0:=blk_cell hs7 0
  have s1:=blk_cell hs7 1
  have s2:=blk_cell hs7 2
  have s3:=blk_cell hs7 3
  have s4:=blk_cell hs7 4
  have s5:=blk_cell hs7 5
  simp at s0 s1 s2 s3 s4 s5
  have slt3:=blk_lt hs7
  have hR4:=(hBV.block _ hsr).trans HP2.out
  have y0:=blk_cell hR4 0
  have y1:=blk_cell hR4 1
  have y2:=blk_cell hR4 2
  have y3:=blk_cell hR4 3
  have y4:=blk_cell hR4 4
  have y5:=blk_cell hR4 5
  simp at y0 y1 y2 y3 y4 y5
  have z0:=blk_frozen hR4 0
  have z1:=blk_frozen hR4 1
  have z2:=blk_frozen hR4 2
  have z3:=blk_frozen hR4 3
  have z4:=blk_frozen hR4 4
  have z5:=blk_frozen hR4 5
  have ylt:=blk_lt hR4
  have HR4:=hide' hR4
  have HBV4:=hide' hBV
  have HM:=hide' hM
  clear hs7 hBV hM hR4 hsr
  gi_wp2
  have hk:=blk_set6 (v0:=.int .i64 r) (v1:=.slice (some ⟨b,off,none⟩) ns.length cap) (v2:=.slice (some ⟨rb1,0,none⟩) ns.length ns.length) (v3:=.slice (some ⟨rb2,0,none⟩) ns.length ns.length) (v4:=.slice ka ns.length kc) (v5:=.slice pa ns.length pc) HR4.out
  have k0:=blk_cell hk 0
  have k1:=blk_cell hk 1
  have k2:=blk_cell hk 2
  have k3:=blk_cell hk 3
  have k4:=blk_cell hk 4
  have k5:=blk_cell hk 5
  simp at k0 k1 k2 k3 k4 k5
  refine bodyPost_ret (v:=.agg #[.int .i64 r,.slice (some ⟨b,off,none⟩) ns.length cap,.slice (some ⟨rb1,0,none⟩) ns.length ns.length,.slice (some ⟨rb2,0,none⟩) ns.length ns.length,.slice ka ns.length kc,.slice pa ns.length pc]) (by simp [results,Tryz.results134,go_sem,k0,k1,k2,k3,k4,k5]) rfl ⟨rb1,rb2,ka,pa,kc,pc,rfl,HM.out.set6 HR4.out (by decide) (by decide) (by decide),below_set6 (HB0.out.trans (HBV4.out.mono HB0.out.size)) (by omega)⟩
theorem tchk_zero {r:Int} {ns:List Nd} {t:Tm} (h:tchk r ns t=0):chk r ns=0∧(3≤t.op∧t.op≤8)∧((0≤t.a∧t.a<r)∧(0≤t.b∧t.b<r)):=by
 unfold tchk at h
 by_cases h1:chk r ns=0
 ·rw [if_pos h1] at h
  by_cases h2:3≤t.op∧t.op≤8
  ·rw [if_pos h2] at h
   by_cases h3:(0≤t.a∧t.a<r)∧(0≤t.b∧t.b<r)
   ·exact ⟨h1,h2,h3⟩
   ·rw [if_neg h3] at h;cases h
  ·rw [if_neg h2] at h;cases h
 ·rw [if_neg h1] at h;exact absurd h h1
set_option maxRecDepth 100000 in
theorem of_wrong (r:Int) (a:Option Addr) (cap:Nat) (ns:List Nd) (t:Tm) (w:World) (hN:SlN w a ns) (hc:tchk r ns t≠0) :
 Calls Tryz.prog 103 #[.agg #[.int .i64 r,.slice a ns.length cap],.agg #[.int .i64 t.op,.int .i64 t.a,.int .i64 t.b]] w fun e w' =>e=.returned (.tuple #[.agg #[.slice none 0 0,.slice none 0 0,.slice none 0 0,.slice none 0 0,.slice none 0 0,.slice none 0 0],.int .i64 (tchk r ns t)])∧Below w.heap.size w w' :=by
 have hck:=fun W (h:Below w.heap.size w W)=>tcheck_any r a cap ns t W (hN.below h)
 generalize tchk r ns t=C at hck hc ⊢
 have HCK:=hide hck
 clear hck
 have hCb:(C==0)=false:=by simp [hc]
 have hbA:Below w.heap.size w (((w.alloc (.cells #[.int .i64 r,.slice a ns.length cap] 24)).alloc (.cells #[.int .i64 t.op,.int .i64 t.a,.int .i64 t.b] 57)).alloc (.cells #[.slice none 0 0,.slice none 0 0,.slice none 0 0,.slice none 0 0,.slice none 0 0,.slice none 0 0] 164)):=(((Below.refl _ w).alloc (Nat.le_refl _) _).alloc (by simp) _).alloc (by simp;omega) _
 have p0:(((w.alloc (.cells #[.int .i64 r,.slice a ns.length cap] 24)).alloc (.cells #[.int .i64 t.op,.int .i64 t.a,.int .i64 t.b] 57)).alloc (.cells #[.slice none 0 0,.slice none 0 0,.slice none 0 0,.slice none 0 0,.slice none 0 0,.slice none 0 0] 164)).heap[w.heap.size]?=some (.cells #[.int .i64 r,.slice a ns.length cap] 24 (0,0)):=(Below.heap_alloc _ _ _ (by simp;omega)).trans ((Below.heap_alloc _ _ _ (by simp)).trans (World.alloc_heap_new w _))
 have p1:(((w.alloc (.cells #[.int .i64 r,.slice a ns.length cap] 24)).alloc (.cells #[.int .i64 t.op,.int .i64 t.a,.int .i64 t.b] 57)).alloc (.cells #[.slice none 0 0,.slice none 0 0,.slice none 0 0,.slice none 0 0,.slice none 0 0,.slice none 0 0] 164)).heap[w.heap.size+1]?=some (.cells #[.int .i64 t.op,.int .i64 t.a,.int .i64 t.b] 57 (0,0)):=by
  have:=World.alloc_heap_new (w.alloc (.cells #[.int .i64 r,.slice a ns.length cap] 24)) (.cells #[.int .i64 t.op,.int .i64 t.a,.int .i64 t.b] 57)
  rw [World.size_alloc] at this
  exact (Below.heap_alloc _ _ _ (by simp)).trans this
 have p2:(((w.alloc (.cells #[.int .i64 r,.slice a ns.length cap] 24)).alloc (.cells #[.int .i64 t.op,.int .i64 t.a,.int .i64 t.b] 57)).alloc (.cells #[.slice none 0 0,.slice none 0 0,.slice none 0 0,.slice none 0 0,.slice none 0 0,.slice none 0 0] 164)).heap[w.heap.size+2]?=some (.cells #[.slice none 0 0,.slice none 0 0,.slice none 0 0,.slice none 0 0,.slice none 0 0,.slice none 0 0] 164 (0,0)):=by
  have:=World.alloc_heap_new ((w.alloc (.cells #[.int .i64 r,.slice a ns.length cap] 24)).alloc (.cells #[.int .i64 t.op,.int .i64 t.a,.int .i64 t.b] 57)) (.cells #[.slice none 0 0,.slice none 0 0,.slice none 0 0,.slice none 0 0,.slice none 0 0,.slice none 0 0] 164)
  rwa [World.size_alloc,World.size_alloc] at this
 go_enter Tryz.func103,Tryz.ntmps103
 go_upto_region 1 with fail
 generalize (((w.alloc (.cells #[.int .i64 r,.slice a ns.length cap] 24)).alloc (.cells #[.int .i64 t.op,.int .i64 t.a,.int .i64 t.b] 57)).alloc (.cells #[.slice none 0 0,.slice none 0 0,.slice none 0 0,.slice none 0 0,.slice none 0 0,.slice none 0 0] 164))=W at hbA p0 p1 p2 ⊢
 rw [show w.heap.size+1+1=w.heap.size+2 from rfl]
 have q0:=blk_cell p0 0
 have q1:=blk_cell p0 1
 simp at q0 q1
 have t0:=blk_cell p1 0
 have t1:=blk_cell p1 1
 have t2:=blk_cell p1 2
 simp at t0 t1 t2
 have pl:=blk_lt p0
 have tl:=blk_lt p1
 have HB:=hide hbA
 have HP2:=hide p2
 clear hbA p0 p1 p2
 go_wp2_with fail
 refine (HCK.out _ HB.out).mono ?_
 rintro e w1 ⟨rfl,hb1⟩
 have hR:=((hb1.block _ (blk_lt HP2.out))).trans HP2.out
 have y0:=blk_cell hR 0
 have y1:=blk_cell hR 1
 have y2:=blk_cell hR 2
 have y3:=blk_cell hR 3
 have y4:=blk_cell hR 4
 have y5:=blk_cell hR 5
 simp at y0 y1 y2 y3 y4 y5
 have z0:=blk_frozen hR 0
 have z1:=blk_frozen hR 1
 have z2:=blk_frozen hR 2
 have z3:=blk_frozen hR 3
 have z4:=blk_frozen hR 4
 have z5:=blk_frozen hR 5
 have ylt:=blk_lt hR
 have HR:=hide hR
 have HB1:=hide (HB.out.trans (hb1.mono HB.out.size))
 clear hR hb1 q0 q1 t0 t1 t2
 go_wp2
 have hk:=blk_set6 (v0:=.slice none 0 0) (v1:=.slice none 0 0) (v2:=.slice none 0 0) (v3:=.slice none 0 0) (v4:=.slice none 0 0) (v5:=.slice none 0 0) HR.out
 have k0:=blk_cell hk 0
 have k1:=blk_cell hk 1
 have k2:=blk_cell hk 2
 have k3:=blk_cell hk 3
 have k4:=blk_cell hk 4
 have k5:=blk_cell hk 5
 simp at k0 k1 k2 k3 k4 k5
 exact bodyPost_ret (v:=.tuple #[.agg #[.slice none 0 0,.slice none 0 0,.slice none 0 0,.slice none 0 0,.slice none 0 0,.slice none 0 0],.int .i64 C]) (by simp [results,Tryz.results103,go_sem,k0,k1,k2,k3,k4,k5]) rfl ⟨rfl,below_set6 HB1.out (by omega)⟩
set_option maxRecDepth 100000 in
theorem of_right (r:Int) (b off cap:Nat) (ns:List Nd) (t:Tm) (w:World) (hN:NodesAt w b off ns) (hc:tchk r ns t=0) :
 Calls Tryz.prog 103 #[.agg #[.int .i64 r,.slice (some ⟨b,off,none⟩) ns.length cap],.agg #[.int .i64 t.op,.int .i64 t.a,.int .i64 t.b]] w fun e w' =>∃ a0 a1 a2 a3 a4 a5 c0 c1 c2 c3 c4 c5,e=.returned (.tuple #[.agg #[.slice a0 ns.length c0,.slice a1 ns.length c1,.slice a2 ns.length c2,.slice a3 ns.length c3,.slice a4 ns.length c4,.slice a5 ns.length c5],.int .i64 0])∧(w'.ownsRow w.heap.size 4 1 (.slice a0 ns.length c0) ns.length ((downL ns t).map Value.bool)∧w'.ownsRow w.heap.size 4 1 (.slice a1 ns.length c1) ns.length ((upL ns t).map Value.bool)∧w'.ownsRow w.heap.size 4 1 (.slice a2 ns.length c2) ns.length ((earlyL ns t).map Value.bool)∧w'.ownsRow w.heap.size 4 1 (.slice a3 ns.length c3) ns.length ((delayL ns t).map Value.bool)∧w'.ownsRow w.heap.size 4 1 (.slice a4 ns.length c4) ns.length ((lateL ns t).map Value.bool)∧w'.ownsRow w.heap.size 4 1 (.slice a5 ns.length c5) ns.length ((aloneL ns t).map Value.bool))∧Below w.heap.size w w' :=by
 have hck:=fun W (h:Below w.heap.size w W)=>tcheck_any r (some ⟨b,off,none⟩) cap ns t W (Or.inr ⟨b,off,rfl,hN.below h hN.lt⟩)
 rw [hc] at hck
 obtain ⟨hcr,hto,_⟩:=tchk_zero hc
 have hl:=(chk_zero hcr).1
 have hlk:=fun W (h:Below w.heap.size w W)=>callsIn_wide.1 (look_any r b off cap ns t W (hN.below h hN.lt) hcr hto)
 have HCK:=hide hck
 have HLK:=hide hlk
 have HN:=hide hN
 have HC:=hide hcr
 have HL:=hide hl
 clear hck hlk hN hcr hl hto
 have hbA:Below w.heap.size w (((w.alloc (.cells #[.int .i64 r,.slice (some ⟨b,off,none⟩) ns.length cap] 24)).alloc (.cells #[.int .i64 t.op,.int .i64 t.a,.int .i64 t.b] 57)).alloc (.cells #[.slice none 0 0,.slice none 0 0,.slice none 0 0,.slice none 0 0,.slice none 0 0,.slice none 0 0] 164)):=(((Below.refl _ w).alloc (Nat.le_refl _) _).alloc (by simp) _).alloc (by simp;omega) _
 have p0:(((w.alloc (.cells #[.int .i64 r,.slice (some ⟨b,off,none⟩) ns.length cap] 24)).alloc (.cells #[.int .i64 t.op,.int .i64 t.a,.int .i64 t.b] 57)).alloc (.cells #[.slice none 0 0,.slice none 0 0,.slice none 0 0,.slice none 0 0,.slice none 0 0,.slice none 0 0] 164)).heap[w.heap.size]?=some (.cells #[.int .i64 r,.slice (some ⟨b,off,none⟩) ns.length cap] 24 (0,0)):=(Below.heap_alloc _ _ _ (by simp;omega)).trans ((Below.heap_alloc _ _ _ (by simp)).trans (World.alloc_heap_new w _))
 have p1:(((w.alloc (.cells #[.int .i64 r,.slice (some ⟨b,off,none⟩) ns.length cap] 24)).alloc (.cells #[.int .i64 t.op,.int .i64 t.a,.int .i64 t.b] 57)).alloc (.cells #[.slice none 0 0,.slice none 0 0,.slice none 0 0,.slice none 0 0,.slice none 0 0,.slice none 0 0] 164)).heap[w.heap.size+1]?=some (.cells #[.int .i64 t.op,.int .i64 t.a,.int .i64 t.b] 57 (0,0)):=by
  have:=World.alloc_heap_new (w.alloc (.cells #[.int .i64 r,.slice (some ⟨b,off,none⟩) ns.length cap] 24)) (.cells #[.int .i64 t.op,.int .i64 t.a,.int .i64 t.b] 57)
  rw [World.size_alloc] at this
  exact (Below.heap_alloc _ _ _ (by simp)).trans this
 have p2:(((w.alloc (.cells #[.int .i64 r,.slice (some ⟨b,off,none⟩) ns.length cap] 24)).alloc (.cells #[.int .i64 t.op,.int .i64 t.a,.int .i64 t.b] 57)).alloc (.cells #[.slice none 0 0,.slice none 0 0,.slice none 0 0,.slice none 0 0,.slice none 0 0,.slice none 0 0] 164)).heap[w.heap.size+2]?=some (.cells #[.slice none 0 0,.slice none 0 0,.slice none 0 0,.slice none 0 0,.slice none 0 0,.slice none 0 0] 164 (0,0)):=by
  have:=World.alloc_heap_new ((w.alloc (.cells #[.int .i64 r,.slice (some ⟨b,off,none⟩) ns.length cap] 24)).alloc (.cells #[.int .i64 t.op,.int .i64 t.a,.int .i64 t.b] 57)) (.cells #[.slice none 0 0,.slice none 0 0,.slice none 0 0,.slice none 0 0,.slice none 0 0,.slice none 0 0] 164)
  rwa [World.size_alloc,World.size_alloc] at this
 go_enter Tryz.func103,Tryz.ntmps103
 go_upto_region 1 with fail
 generalize (((w.alloc (.cells #[.int .i64 r,.slice (some ⟨b,off,none⟩) ns.length cap] 24)).alloc (.cells #[.int .i64 t.op,.int .i64 t.a,.int .i64 t.b] 57)).alloc (.cells #[.slice none 0 0,.slice none 0 0,.slice none 0 0,.slice none 0 0,.slice none 0 0,.slice none 0 0] 164))=W at hbA p0 p1 p2 ⊢
 rw [show w.heap.size+1+1=w.heap.size+2 from rfl]
 have q0:=blk_cell p0 0
 have q1:=blk_cell p0 1
 simp at q0 q1
 have t0:=blk_cell p1 0
 have t1:=blk_cell p1 1
 have t2:=blk_cell p1 2
 simp at t0 t1 t2
 have pl:=blk_lt p0
 have tl:=blk_lt p1
 have HB:=hide hbA
 have HP0:=hide p0
 have HP1:=hide p1
 have HP2:=hide p2
 clear hbA p0 p1 p2
 go_wp2_with fail
 refine (HCK.out _ HB.out).mono ?_
 rintro e w1 ⟨rfl,hb1⟩
 have HB1:=hide (HB.out.trans (hb1.mono HB.out.size))
 have hP:=(hb1.block _ pl).trans HP0.out
 have hT:=(hb1.block _ tl).trans HP1.out
 have HR1:=hide ((hb1.block _ (blk_lt HP2.out)).trans HP2.out)
 clear hb1 q0 q1 t0 t1 t2 pl tl HB HP0 HP1 HP2
 have q0:=blk_cell hP 0
 have q1:=blk_cell hP 1
 simp at q0 q1
 have t0:=blk_cell hT 0
 have t1:=blk_cell hT 1
 have t2:=blk_cell hT 2
 simp at t0 t1 t2
 have pl:=blk_lt hP
 have tl:=blk_lt hT
 clear hP hT
 go_wp2_with fail
 refine (HLK.out _ HB1.out).mono ?_
 rintro e w2 ⟨rb1,rb2,ka,pa,kc,pc,rfl,hM,hb2⟩
 clear q0 q1 t0 t1 t2 pl tl
 have HB2:=hide (HB1.out.trans (hb2.mono HB1.out.size))
 have HR2:=hide ((hb2.block _ (blk_lt HR1.out)).trans HR1.out)
 have HM:=hide hM
 clear hM hb2 HB1 HR1 HCK HLK
 go_upto_region 6 with fail
 have hS:(w2.alloc (.cells #[.int .i64 r,.slice (some ⟨b,off,none⟩) ns.length cap,.slice (some ⟨rb1,0,none⟩) ns.length ns.length,.slice (some ⟨rb2,0,none⟩) ns.length ns.length,.slice ka ns.length kc,.slice pa ns.length pc] 195)).heap[w2.heap.size]?=some (.cells #[.int .i64 r,.slice (some ⟨b,off,none⟩) ns.length cap,.slice (some ⟨rb1,0,none⟩) ns.length ns.length,.slice (some ⟨rb2,0,none⟩) ns.length ns.length,.slice ka ns.length kc,.slice pa ns.length pc] 195 (0,0)):=World.alloc_heap_new w2 _
 have hbS:Below w2.heap.size w2 (w2.alloc (.cells #[.int .i64 r,.slice (some ⟨b,off,none⟩) ns.length cap,.slice (some ⟨rb1,0,none⟩) ns.length ns.length,.slice (some ⟨rb2,0,none⟩) ns.length ns.length,.slice ka ns.length kc,.slice pa ns.length pc] 195)):=(Below.refl _ w2).alloc (Nat.le_refl _) _
 have hMS:SMT (w2.alloc (.cells #[.int .i64 r,.slice (some ⟨b,off,none⟩) ns.length cap,.slice (some ⟨rb1,0,none⟩) ns.length ns.length,.slice (some ⟨rb2,0,none⟩) ns.length ns.length,.slice ka ns.length kc,.slice pa ns.length pc] 195)) ns t rb1 rb2 (.slice ka ns.length kc) (.slice pa ns.length pc):=HM.out.below hbS
 have hsz:(w2.alloc (.cells #[.int .i64 r,.slice (some ⟨b,off,none⟩) ns.length cap,.slice (some ⟨rb1,0,none⟩) ns.length ns.length,.slice (some ⟨rb2,0,none⟩) ns.length ns.length,.slice ka ns.length kc,.slice pa ns.length pc] 195)).heap.size=w2.heap.size+1:=World.size_alloc _ _
 generalize (w2.alloc (.cells #[.int .i64 r,.slice (some ⟨b,off,none⟩) ns.length cap,.slice (some ⟨rb1,0,none⟩) ns.length ns.length,.slice (some ⟨rb2,0,none⟩) ns.length ns.length,.slice ka ns.length kc,.slice pa ns.length pc] 195))=WS at hS hbS hMS hsz ⊢
 have hF0:=World.alloc_heap_new WS (.cells #[.slice none 0 0,.slice none 0 0,.slice none 0 0,.slice none 0 0,.slice none 0 0,.slice none 0 0] 164)
 have hbF:Below WS.heap.size WS (WS.alloc (.cells #[.slice none 0 0,.slice none 0 0,.slice none 0 0,.slice none 0 0,.slice none 0 0,.slice none 0 0] 164)):=(Below.refl _ WS).alloc (Nat.le_refl _) _
 have hF:(WS.alloc (.cells #[.slice none 0 0,.slice none 0 0,.slice none 0 0,.slice none 0 0,.slice none 0 0,.slice none 0 0] 164)).heap[w2.heap.size+1]?=some (.cells #[.slice none 0 0,.slice none 0 0,.slice none 0 0,.slice none 0 0,.slice none 0 0,.slice none 0 0] 164 (0,0)):=by rw [← hsz];exact hF0
 have hS' :(WS.alloc (.cells #[.slice none 0 0,.slice none 0 0,.slice none 0 0,.slice none 0 0,.slice none 0 0,.slice none 0 0] 164)).heap[w2.heap.size]?=some (.cells #[.int .i64 r,.slice (some ⟨b,off,none⟩) ns.length cap,.slice (some ⟨rb1,0,none⟩) ns.length ns.length,.slice (some ⟨rb2,0,none⟩) ns.length ns.length,.slice ka ns.length kc,.slice pa ns.length pc] 195 (0,0)):=(hbF.block _ (blk_lt hS)).trans hS
 have HB:=hide (HB2.out.trans ((hbS.trans (hbF.mono hbS.size)).mono HB2.out.size))
 have HR:=hide (((hbS.trans (hbF.mono hbS.size)).block _ (blk_lt HR2.out)).trans HR2.out)
 have HM0:=hide (hMS.below hbF)
 try rw [hsz]
 have H2:=hide HB2.out.size
 have H3:Hid (w.heap.size+2<w2.heap.size):=blk_lt HR2.out
 clear HB2 HR2 HM hS hbS hMS hF0 hbF hsz
 generalize (WS.alloc (.cells #[.slice none 0 0,.slice none 0 0,.slice none 0 0,.slice none 0 0,.slice none 0 0,.slice none 0 0] 164))=V0 at HB HR HM0 hF hS' ⊢
 have HF0:=hide hF
 have HS0:=hide hS'
 clear hF hS'
 have HCA:=hide (down_any r b off cap ns t rb1 rb2 ka pa kc pc V0 (HN.out.below HB.out HN.out.lt) HC.out HM0.out.read)
 have hS:=HS0.out
 have hF:=HF0.out
 have s0:=blk_cell hS 0
 have s1:=blk_cell hS 1
 have s2:=blk_cell hS 2
 have s3:=blk_cell hS 3
 have s4:=blk_cell hS 4
 have s5:=blk_cell hS 5
 simp at s0 s1 s2 s3 s4 s5
 have slt:=blk_lt hS
 have flt:=blk_lt hF
 clear hS hF
 go_upto_region 7 with (go_at_call 135;refine HCA.out.mono ?_;rintro e U ⟨v,rfl,hv,hb⟩;obtain ⟨a0,c0,rfl⟩:=owns_slice hv;have hfu:=(hb.block _ flt).trans HF0.out;have g0:=blk_cell hfu 0;simp at g0;have h0:=blk_frozen hfu 0;have flu:=blk_lt hfu)
 have hF' :(U.setCell ⟨w2.heap.size+1,0,none⟩ (.slice a0 ns.length c0)).heap[w2.heap.size+1]?=some (.cells #[.slice a0 ns.length c0,.slice none 0 0,.slice none 0 0,.slice none 0 0,.slice none 0 0,.slice none 0 0] 164 (0,0)):=by rw [blk_set _ hfu];simp
 have hS' :(U.setCell ⟨w2.heap.size+1,0,none⟩ (.slice a0 ns.length c0)).heap[w2.heap.size]?=some (.cells #[.int .i64 r,.slice (some ⟨b,off,none⟩) ns.length cap,.slice (some ⟨rb1,0,none⟩) ns.length ns.length,.slice (some ⟨rb2,0,none⟩) ns.length ns.length,.slice ka ns.length kc,.slice pa ns.length pc] 195 (0,0)):=blk_set_ne _ ((hb.block _ slt).trans HS0.out) (by omega)
 have hB' :Below w.heap.size w (U.setCell ⟨w2.heap.size+1,0,none⟩ (.slice a0 ns.length c0)):=(HB.out.trans (hb.mono HB.out.size)).setCell (p:=⟨w2.heap.size+1,0,none⟩) (by have:=H2.out;show _≤w2.heap.size+1;omega) _
 have hR' :(U.setCell ⟨w2.heap.size+1,0,none⟩ (.slice a0 ns.length c0)).heap[w.heap.size+2]?=some (.cells #[.slice none 0 0,.slice none 0 0,.slice none 0 0,.slice none 0 0,.slice none 0 0,.slice none 0 0] 164 (0,0)):=blk_set_ne _ ((hb.block _ (blk_lt HR.out)).trans HR.out) (by have:=H3.out;omega)
 have hM' :SMT (U.setCell ⟨w2.heap.size+1,0,none⟩ (.slice a0 ns.length c0)) ns t rb1 rb2 (.slice ka ns.length kc) (.slice pa ns.length pc):=(HM0.out.below hb).set hfu (by decide) (by decide) (by decide)
 have o0:=owns_set (o:=0) (u:=.slice a0 ns.length c0) (ownsRow_base (base' :=w.heap.size) hv HB.out.size) hfu (by decide)
 clear HB HR HCA hb hv hfu g0 h0 s0 s1 s2 s3 s4 s5  slt flt flu HS0 HF0 HM0
 generalize (U.setCell ⟨w2.heap.size+1,0,none⟩ (.slice a0 ns.length c0))=V1 at hF' hS' hB' hR' hM' o0 ⊢
 have HF1:=hide hF'
 have HS1:=hide hS'
 have HB:=hide hB'
 have HR:=hide hR'
 have HM1:=hide hM'
 have HO0:=hide o0
 clear hF' hS' hB' hR' hM' o0
 have HCA:=hide (up_any r b off cap ns t rb1 rb2 ka pa kc pc V1 (HN.out.below HB.out HN.out.lt) HC.out HM1.out.read)
 have hS:=HS1.out
 have hF:=HF1.out
 have s0:=blk_cell hS 0
 have s1:=blk_cell hS 1
 have s2:=blk_cell hS 2
 have s3:=blk_cell hS 3
 have s4:=blk_cell hS 4
 have s5:=blk_cell hS 5
 simp at s0 s1 s2 s3 s4 s5
 have slt:=blk_lt hS
 have flt:=blk_lt hF
 clear hS hF
 go_upto_region 8 with (go_at_call 136;refine HCA.out.mono ?_;rintro e U ⟨v,rfl,hv,hb⟩;obtain ⟨a1,c1,rfl⟩:=owns_slice hv;have hfu:=(hb.block _ flt).trans HF1.out;have g1:=blk_cell hfu 1;simp at g1;have h1:=blk_frozen hfu 1;have flu:=blk_lt hfu)
 have hF' :(U.setCell ⟨w2.heap.size+1,1,none⟩ (.slice a1 ns.length c1)).heap[w2.heap.size+1]?=some (.cells #[.slice a0 ns.length c0,.slice a1 ns.length c1,.slice none 0 0,.slice none 0 0,.slice none 0 0,.slice none 0 0] 164 (0,0)):=by rw [blk_set _ hfu];simp
 have hS' :(U.setCell ⟨w2.heap.size+1,1,none⟩ (.slice a1 ns.length c1)).heap[w2.heap.size]?=some (.cells #[.int .i64 r,.slice (some ⟨b,off,none⟩) ns.length cap,.slice (some ⟨rb1,0,none⟩) ns.length ns.length,.slice (some ⟨rb2,0,none⟩) ns.length ns.length,.slice ka ns.length kc,.slice pa ns.length pc] 195 (0,0)):=blk_set_ne _ ((hb.block _ slt).trans HS1.out) (by omega)
 have hB' :Below w.heap.size w (U.setCell ⟨w2.heap.size+1,1,none⟩ (.slice a1 ns.length c1)):=(HB.out.trans (hb.mono HB.out.size)).setCell (p:=⟨w2.heap.size+1,1,none⟩) (by have:=H2.out;show _≤w2.heap.size+1;omega) _
 have hR' :(U.setCell ⟨w2.heap.size+1,1,none⟩ (.slice a1 ns.length c1)).heap[w.heap.size+2]?=some (.cells #[.slice none 0 0,.slice none 0 0,.slice none 0 0,.slice none 0 0,.slice none 0 0,.slice none 0 0] 164 (0,0)):=blk_set_ne _ ((hb.block _ (blk_lt HR.out)).trans HR.out) (by have:=H3.out;omega)
 have hM' :SMT (U.setCell ⟨w2.heap.size+1,1,none⟩ (.slice a1 ns.length c1)) ns t rb1 rb2 (.slice ka ns.length kc) (.slice pa ns.length pc):=(HM1.out.below hb).set hfu (by decide) (by decide) (by decide)
 have o0:=owns_set (o:=1) (u:=.slice a1 ns.length c1) (ownsRow_below HO0.out hb (Nat.le_refl _)) hfu (by decide)
 have o1:=owns_set (o:=1) (u:=.slice a1 ns.length c1) (ownsRow_base (base' :=w.heap.size) hv HB.out.size) hfu (by decide)
 clear HB HR HCA hb hv hfu g1 h1 s0 s1 s2 s3 s4 s5  slt flt flu HS1 HF1 HM1 HO0
 generalize (U.setCell ⟨w2.heap.size+1,1,none⟩ (.slice a1 ns.length c1))=V2 at hF' hS' hB' hR' hM' o0 o1 ⊢
 have HF2:=hide hF'
 have HS2:=hide hS'
 have HB:=hide hB'
 have HR:=hide hR'
 have HM2:=hide hM'
 have HO0:=hide o0
 have HO1:=hide o1
 clear hF' hS' hB' hR' hM' o0 o1
 have HCA:=hide (earliest_any r b off cap ns t rb1 rb2 ka pa a0 a1 kc pc c0 c1 (.slice none 0 0) (.slice none 0 0) (.slice none 0 0) (.slice none 0 0) V2 HL.out.2 HM2.out.read (bools_owned HO0.out (solve_len _ _)) (bools_owned HO1.out (solve_len _ _)))
 have hS:=HS2.out
 have hF:=HF2.out
 have s0:=blk_cell hS 0
 have s1:=blk_cell hS 1
 have s2:=blk_cell hS 2
 have s3:=blk_cell hS 3
 have s4:=blk_cell hS 4
 have s5:=blk_cell hS 5
 simp at s0 s1 s2 s3 s4 s5
 have f0:=blk_cell hF 0
 have f1:=blk_cell hF 1
 have f2:=blk_cell hF 2
 have f3:=blk_cell hF 3
 have f4:=blk_cell hF 4
 have f5:=blk_cell hF 5
 simp at f0 f1 f2 f3 f4 f5
 have slt:=blk_lt hS
 have flt:=blk_lt hF
 clear hS hF
 go_upto_region 9 with (go_at_call 137;refine HCA.out.mono ?_;rintro e U ⟨v,rfl,hv,hb⟩;obtain ⟨a2,c2,rfl⟩:=owns_slice hv;have hfu:=(hb.block _ flt).trans HF2.out;have g2:=blk_cell hfu 2;simp at g2;have h2:=blk_frozen hfu 2;have flu:=blk_lt hfu)
 have hF' :(U.setCell ⟨w2.heap.size+1,2,none⟩ (.slice a2 ns.length c2)).heap[w2.heap.size+1]?=some (.cells #[.slice a0 ns.length c0,.slice a1 ns.length c1,.slice a2 ns.length c2,.slice none 0 0,.slice none 0 0,.slice none 0 0] 164 (0,0)):=by rw [blk_set _ hfu];simp
 have hS' :(U.setCell ⟨w2.heap.size+1,2,none⟩ (.slice a2 ns.length c2)).heap[w2.heap.size]?=some (.cells #[.int .i64 r,.slice (some ⟨b,off,none⟩) ns.length cap,.slice (some ⟨rb1,0,none⟩) ns.length ns.length,.slice (some ⟨rb2,0,none⟩) ns.length ns.length,.slice ka ns.length kc,.slice pa ns.length pc] 195 (0,0)):=blk_set_ne _ ((hb.block _ slt).trans HS2.out) (by omega)
 have hB' :Below w.heap.size w (U.setCell ⟨w2.heap.size+1,2,none⟩ (.slice a2 ns.length c2)):=(HB.out.trans (hb.mono HB.out.size)).setCell (p:=⟨w2.heap.size+1,2,none⟩) (by have:=H2.out;show _≤w2.heap.size+1;omega) _
 have hR' :(U.setCell ⟨w2.heap.size+1,2,none⟩ (.slice a2 ns.length c2)).heap[w.heap.size+2]?=some (.cells #[.slice none 0 0,.slice none 0 0,.slice none 0 0,.slice none 0 0,.slice none 0 0,.slice none 0 0] 164 (0,0)):=blk_set_ne _ ((hb.block _ (blk_lt HR.out)).trans HR.out) (by have:=H3.out;omega)
 have hM' :SMT (U.setCell ⟨w2.heap.size+1,2,none⟩ (.slice a2 ns.length c2)) ns t rb1 rb2 (.slice ka ns.length kc) (.slice pa ns.length pc):=(HM2.out.below hb).set hfu (by decide) (by decide) (by decide)
 have o0:=owns_set (o:=2) (u:=.slice a2 ns.length c2) (ownsRow_below HO0.out hb (Nat.le_refl _)) hfu (by decide)
 have o1:=owns_set (o:=2) (u:=.slice a2 ns.length c2) (ownsRow_below HO1.out hb (Nat.le_refl _)) hfu (by decide)
 have o2:=owns_set (o:=2) (u:=.slice a2 ns.length c2) (ownsRow_base (base' :=w.heap.size) hv HB.out.size) hfu (by decide)
 clear HB HR HCA hb hv hfu g2 h2 s0 s1 s2 s3 s4 s5 f0 f1 f2 f3 f4 f5 slt flt flu HS2 HF2 HM2 HO0 HO1
 generalize (U.setCell ⟨w2.heap.size+1,2,none⟩ (.slice a2 ns.length c2))=V3 at hF' hS' hB' hR' hM' o0 o1 o2 ⊢
 have HF3:=hide hF'
 have HS3:=hide hS'
 have HB:=hide hB'
 have HR:=hide hR'
 have HM3:=hide hM'
 have HO0:=hide o0
 have HO1:=hide o1
 have HO2:=hide o2
 clear hF' hS' hB' hR' hM' o0 o1 o2
 have HCA:=hide (delay_any r b off cap ns t rb1 rb2 ka pa a2 kc pc c2 (.slice a0 ns.length c0) (.slice a1 ns.length c1) (.slice none 0 0) (.slice none 0 0) (.slice none 0 0) V3 (HN.out.below HB.out HN.out.lt) HC.out HM3.out.read (bools_owned HO2.out (by simp [earlyL])))
 have hS:=HS3.out
 have hF:=HF3.out
 have s0:=blk_cell hS 0
 have s1:=blk_cell hS 1
 have s2:=blk_cell hS 2
 have s3:=blk_cell hS 3
 have s4:=blk_cell hS 4
 have s5:=blk_cell hS 5
 simp at s0 s1 s2 s3 s4 s5
 have f0:=blk_cell hF 0
 have f1:=blk_cell hF 1
 have f2:=blk_cell hF 2
 have f3:=blk_cell hF 3
 have f4:=blk_cell hF 4
 have f5:=blk_cell hF 5
 simp at f0 f1 f2 f3 f4 f5
 have slt:=blk_lt hS
 have flt:=blk_lt hF
 clear hS hF
 go_upto_region 10 with (go_at_call 138;refine HCA.out.mono ?_;rintro e U ⟨v,rfl,hv,hb⟩;obtain ⟨a3,c3,rfl⟩:=owns_slice hv;have hfu:=(hb.block _ flt).trans HF3.out;have g3:=blk_cell hfu 3;simp at g3;have h3:=blk_frozen hfu 3;have flu:=blk_lt hfu)
 have hF' :(U.setCell ⟨w2.heap.size+1,3,none⟩ (.slice a3 ns.length c3)).heap[w2.heap.size+1]?=some (.cells #[.slice a0 ns.length c0,.slice a1 ns.length c1,.slice a2 ns.length c2,.slice a3 ns.length c3,.slice none 0 0,.slice none 0 0] 164 (0,0)):=by rw [blk_set _ hfu];simp
 have hS' :(U.setCell ⟨w2.heap.size+1,3,none⟩ (.slice a3 ns.length c3)).heap[w2.heap.size]?=some (.cells #[.int .i64 r,.slice (some ⟨b,off,none⟩) ns.length cap,.slice (some ⟨rb1,0,none⟩) ns.length ns.length,.slice (some ⟨rb2,0,none⟩) ns.length ns.length,.slice ka ns.length kc,.slice pa ns.length pc] 195 (0,0)):=blk_set_ne _ ((hb.block _ slt).trans HS3.out) (by omega)
 have hB' :Below w.heap.size w (U.setCell ⟨w2.heap.size+1,3,none⟩ (.slice a3 ns.length c3)):=(HB.out.trans (hb.mono HB.out.size)).setCell (p:=⟨w2.heap.size+1,3,none⟩) (by have:=H2.out;show _≤w2.heap.size+1;omega) _
 have hR' :(U.setCell ⟨w2.heap.size+1,3,none⟩ (.slice a3 ns.length c3)).heap[w.heap.size+2]?=some (.cells #[.slice none 0 0,.slice none 0 0,.slice none 0 0,.slice none 0 0,.slice none 0 0,.slice none 0 0] 164 (0,0)):=blk_set_ne _ ((hb.block _ (blk_lt HR.out)).trans HR.out) (by have:=H3.out;omega)
 have hM' :SMT (U.setCell ⟨w2.heap.size+1,3,none⟩ (.slice a3 ns.length c3)) ns t rb1 rb2 (.slice ka ns.length kc) (.slice pa ns.length pc):=(HM3.out.below hb).set hfu (by decide) (by decide) (by decide)
 have o0:=owns_set (o:=3) (u:=.slice a3 ns.length c3) (ownsRow_below HO0.out hb (Nat.le_refl _)) hfu (by decide)
 have o1:=owns_set (o:=3) (u:=.slice a3 ns.length c3) (ownsRow_below HO1.out hb (Nat.le_refl _)) hfu (by decide)
 have o2:=owns_set (o:=3) (u:=.slice a3 ns.length c3) (ownsRow_below HO2.out hb (Nat.le_refl _)) hfu (by decide)
 have o3:=owns_set (o:=3) (u:=.slice a3 ns.length c3) (ownsRow_base (base' :=w.heap.size) hv HB.out.size) hfu (by decide)
 clear HB HR HCA hb hv hfu g3 h3 s0 s1 s2 s3 s4 s5 f0 f1 f2 f3 f4 f5 slt flt flu HS3 HF3 HM3 HO0 HO1 HO2
 generalize (U.setCell ⟨w2.heap.size+1,3,none⟩ (.slice a3 ns.length c3))=V4 at hF' hS' hB' hR' hM' o0 o1 o2 o3 ⊢
 have HF4:=hide hF'
 have HS4:=hide hS'
 have HB:=hide hB'
 have HR:=hide hR'
 have HM4:=hide hM'
 have HO0:=hide o0
 have HO1:=hide o1
 have HO2:=hide o2
 have HO3:=hide o3
 clear hF' hS' hB' hR' hM' o0 o1 o2 o3
 have HCA:=hide (latest_any r b off cap ns t rb1 rb2 ka pa a3 kc pc c3 (.slice a0 ns.length c0) (.slice a1 ns.length c1) (.slice a2 ns.length c2) (.slice none 0 0) (.slice none 0 0) V4 HL.out.2 HM4.out.read (bools_owned HO3.out (solve_len _ _)))
 have hS:=HS4.out
 have hF:=HF4.out
 have s0:=blk_cell hS 0
 have s1:=blk_cell hS 1
 have s2:=blk_cell hS 2
 have s3:=blk_cell hS 3
 have s4:=blk_cell hS 4
 have s5:=blk_cell hS 5
 simp at s0 s1 s2 s3 s4 s5
 have f0:=blk_cell hF 0
 have f1:=blk_cell hF 1
 have f2:=blk_cell hF 2
 have f3:=blk_cell hF 3
 have f4:=blk_cell hF 4
 have f5:=blk_cell hF 5
 simp at f0 f1 f2 f3 f4 f5
 have slt:=blk_lt hS
 have flt:=blk_lt hF
 clear hS hF
 go_upto_region 11 with (go_at_call 139;refine HCA.out.mono ?_;rintro e U ⟨v,rfl,hv,hb⟩;obtain ⟨a4,c4,rfl⟩:=owns_slice hv;have hfu:=(hb.block _ flt).trans HF4.out;have g4:=blk_cell hfu 4;simp at g4;have h4:=blk_frozen hfu 4;have flu:=blk_lt hfu)
 have hF' :(U.setCell ⟨w2.heap.size+1,4,none⟩ (.slice a4 ns.length c4)).heap[w2.heap.size+1]?=some (.cells #[.slice a0 ns.length c0,.slice a1 ns.length c1,.slice a2 ns.length c2,.slice a3 ns.length c3,.slice a4 ns.length c4,.slice none 0 0] 164 (0,0)):=by rw [blk_set _ hfu];simp
 have hS' :(U.setCell ⟨w2.heap.size+1,4,none⟩ (.slice a4 ns.length c4)).heap[w2.heap.size]?=some (.cells #[.int .i64 r,.slice (some ⟨b,off,none⟩) ns.length cap,.slice (some ⟨rb1,0,none⟩) ns.length ns.length,.slice (some ⟨rb2,0,none⟩) ns.length ns.length,.slice ka ns.length kc,.slice pa ns.length pc] 195 (0,0)):=blk_set_ne _ ((hb.block _ slt).trans HS4.out) (by omega)
 have hB' :Below w.heap.size w (U.setCell ⟨w2.heap.size+1,4,none⟩ (.slice a4 ns.length c4)):=(HB.out.trans (hb.mono HB.out.size)).setCell (p:=⟨w2.heap.size+1,4,none⟩) (by have:=H2.out;show _≤w2.heap.size+1;omega) _
 have hR' :(U.setCell ⟨w2.heap.size+1,4,none⟩ (.slice a4 ns.length c4)).heap[w.heap.size+2]?=some (.cells #[.slice none 0 0,.slice none 0 0,.slice none 0 0,.slice none 0 0,.slice none 0 0,.slice none 0 0] 164 (0,0)):=blk_set_ne _ ((hb.block _ (blk_lt HR.out)).trans HR.out) (by have:=H3.out;omega)
 have hM' :SMT (U.setCell ⟨w2.heap.size+1,4,none⟩ (.slice a4 ns.length c4)) ns t rb1 rb2 (.slice ka ns.length kc) (.slice pa ns.length pc):=(HM4.out.below hb).set hfu (by decide) (by decide) (by decide)
 have o0:=owns_set (o:=4) (u:=.slice a4 ns.length c4) (ownsRow_below HO0.out hb (Nat.le_refl _)) hfu (by decide)
 have o1:=owns_set (o:=4) (u:=.slice a4 ns.length c4) (ownsRow_below HO1.out hb (Nat.le_refl _)) hfu (by decide)
 have o2:=owns_set (o:=4) (u:=.slice a4 ns.length c4) (ownsRow_below HO2.out hb (Nat.le_refl _)) hfu (by decide)
 have o3:=owns_set (o:=4) (u:=.slice a4 ns.length c4) (ownsRow_below HO3.out hb (Nat.le_refl _)) hfu (by decide)
 have o4:=owns_set (o:=4) (u:=.slice a4 ns.length c4) (ownsRow_base (base' :=w.heap.size) hv HB.out.size) hfu (by decide)
 clear HB HR HCA hb hv hfu g4 h4 s0 s1 s2 s3 s4 s5 f0 f1 f2 f3 f4 f5 slt flt flu HS4 HF4 HM4 HO0 HO1 HO2 HO3
 generalize (U.setCell ⟨w2.heap.size+1,4,none⟩ (.slice a4 ns.length c4))=V5 at hF' hS' hB' hR' hM' o0 o1 o2 o3 o4 ⊢
 have HF5:=hide hF'
 have HS5:=hide hS'
 have HB:=hide hB'
 have HR:=hide hR'
 have HM5:=hide hM'
 have HO0:=hide o0
 have HO1:=hide o1
 have HO2:=hide o2
 have HO3:=hide o3
 have HO4:=hide o4
 clear hF' hS' hB' hR' hM' o0 o1 o2 o3 o4
 have HCA:=hide (alone_any r b off cap ns t rb1 rb2 ka pa a4 kc pc c4 (.slice a0 ns.length c0) (.slice a1 ns.length c1) (.slice a2 ns.length c2) (.slice a3 ns.length c3) (.slice none 0 0) V5 (HN.out.below HB.out HN.out.lt) HC.out HM5.out.read (bools_owned HO4.out (by simp [lateL])))
 have hS:=HS5.out
 have hF:=HF5.out
 have s0:=blk_cell hS 0
 have s1:=blk_cell hS 1
 have s2:=blk_cell hS 2
 have s3:=blk_cell hS 3
 have s4:=blk_cell hS 4
 have s5:=blk_cell hS 5
 simp at s0 s1 s2 s3 s4 s5
 have f0:=blk_cell hF 0
 have f1:=blk_cell hF 1
 have f2:=blk_cell hF 2
 have f3:=blk_cell hF 3
 have f4:=blk_cell hF 4
 have f5:=blk_cell hF 5
 simp at f0 f1 f2 f3 f4 f5
 have slt:=blk_lt hS
 have flt:=blk_lt hF
 clear hS hF
 go_upto_region 12 with (go_at_call 140;refine HCA.out.mono ?_;rintro e U ⟨v,rfl,hv,hb⟩;obtain ⟨a5,c5,rfl⟩:=owns_slice hv;have hfu:=(hb.block _ flt).trans HF5.out;have g5:=blk_cell hfu 5;simp at g5;have h5:=blk_frozen hfu 5;have flu:=blk_lt hfu)
 have hF' :(U.setCell ⟨w2.heap.size+1,5,none⟩ (.slice a5 ns.length c5)).heap[w2.heap.size+1]?=some (.cells #[.slice a0 ns.length c0,.slice a1 ns.length c1,.slice a2 ns.length c2,.slice a3 ns.length c3,.slice a4 ns.length c4,.slice a5 ns.length c5] 164 (0,0)):=by rw [blk_set _ hfu];simp
 have hS' :(U.setCell ⟨w2.heap.size+1,5,none⟩ (.slice a5 ns.length c5)).heap[w2.heap.size]?=some (.cells #[.int .i64 r,.slice (some ⟨b,off,none⟩) ns.length cap,.slice (some ⟨rb1,0,none⟩) ns.length ns.length,.slice (some ⟨rb2,0,none⟩) ns.length ns.length,.slice ka ns.length kc,.slice pa ns.length pc] 195 (0,0)):=blk_set_ne _ ((hb.block _ slt).trans HS5.out) (by omega)
 have hB' :Below w.heap.size w (U.setCell ⟨w2.heap.size+1,5,none⟩ (.slice a5 ns.length c5)):=(HB.out.trans (hb.mono HB.out.size)).setCell (p:=⟨w2.heap.size+1,5,none⟩) (by have:=H2.out;show _≤w2.heap.size+1;omega) _
 have hR' :(U.setCell ⟨w2.heap.size+1,5,none⟩ (.slice a5 ns.length c5)).heap[w.heap.size+2]?=some (.cells #[.slice none 0 0,.slice none 0 0,.slice none 0 0,.slice none 0 0,.slice none 0 0,.slice none 0 0] 164 (0,0)):=blk_set_ne _ ((hb.block _ (blk_lt HR.out)).trans HR.out) (by have:=H3.out;omega)
 have hM' :SMT (U.setCell ⟨w2.heap.size+1,5,none⟩ (.slice a5 ns.length c5)) ns t rb1 rb2 (.slice ka ns.length kc) (.slice pa ns.length pc):=(HM5.out.below hb).set hfu (by decide) (by decide) (by decide)
 have o0:=owns_set (o:=5) (u:=.slice a5 ns.length c5) (ownsRow_below HO0.out hb (Nat.le_refl _)) hfu (by decide)
 have o1:=owns_set (o:=5) (u:=.slice a5 ns.length c5) (ownsRow_below HO1.out hb (Nat.le_refl _)) hfu (by decide)
 have o2:=owns_set (o:=5) (u:=.slice a5 ns.length c5) (ownsRow_below HO2.out hb (Nat.le_refl _)) hfu (by decide)
 have o3:=owns_set (o:=5) (u:=.slice a5 ns.length c5) (ownsRow_below HO3.out hb (Nat.le_refl _)) hfu (by decide)
 have o4:=owns_set (o:=5) (u:=.slice a5 ns.length c5) (ownsRow_below HO4.out hb (Nat.le_refl _)) hfu (by decide)
 have o5:=owns_set (o:=5) (u:=.slice a5 ns.length c5) (ownsRow_base (base' :=w.heap.size) hv HB.out.size) hfu (by decide)
 clear HB HR HCA hb hv hfu g5 h5 s0 s1 s2 s3 s4 s5 f0 f1 f2 f3 f4 f5 slt flt flu HS5 HF5 HM5 HO0 HO1 HO2 HO3 HO4
 generalize (U.setCell ⟨w2.heap.size+1,5,none⟩ (.slice a5 ns.length c5))=V6 at hF' hS' hB' hR' hM' o0 o1 o2 o3 o4 o5 ⊢
 have HF6:=hide hF'
 have HS6:=hide hS'
 have HB:=hide hB'
 have HR:=hide hR'
 have HM6:=hide hM'
 have HO0:=hide o0
 have HO1:=hide o1
 have HO2:=hide o2
 have HO3:=hide o3
 have HO4:=hide o4
 have HO5:=hide o5
 clear hF' hS' hB' hR' hM' o0 o1 o2 o3 o4 o5
 have hF:=HF6.out
 have hR:=HR.out
 have f0:=blk_cell hF 0
 have f1:=blk_cell hF 1
 have f2:=blk_cell hF 2
 have f3:=blk_cell hF 3
 have f4:=blk_cell hF 4
 have f5:=blk_cell hF 5
 simp at f0 f1 f2 f3 f4 f5
 have y0:=blk_cell hR 0
 have y1:=blk_cell hR 1
 have y2:=blk_cell hR 2
 have y3:=blk_cell hR 3
 have y4:=blk_cell hR 4
 have y5:=blk_cell hR 5
 simp at y0 y1 y2 y3 y4 y5
 have z0:=blk_frozen hR 0
 have z1:=blk_frozen hR 1
 have z2:=blk_frozen hR 2
 have z3:=blk_frozen hR 3
 have z4:=blk_frozen hR 4
 have z5:=blk_frozen hR 5
 have flt:=blk_lt hF
 have ylt:=blk_lt hR
 clear hF hR
 go_wp2
 have hk:=blk_set6 (v0:=.slice a0 ns.length c0) (v1:=.slice a1 ns.length c1) (v2:=.slice a2 ns.length c2) (v3:=.slice a3 ns.length c3) (v4:=.slice a4 ns.length c4) (v5:=.slice a5 ns.length c5) HR.out
 have k0:=blk_cell hk 0
 have k1:=blk_cell hk 1
 have k2:=blk_cell hk 2
 have k3:=blk_cell hk 3
 have k4:=blk_cell hk 4
 have k5:=blk_cell hk 5
 simp at k0 k1 k2 k3 k4 k5
 exact bodyPost_ret (v:=.tuple #[.agg #[.slice a0 ns.length c0,.slice a1 ns.length c1,.slice a2 ns.length c2,.slice a3 ns.length c3,.slice a4 ns.length c4,.slice a5 ns.length c5],.int .i64 0]) (by simp [results,Tryz.results103,go_sem,k0,k1,k2,k3,k4,k5]) rfl ⟨a0,a1,a2,a3,a4,a5,c0,c1,c2,c3,c4,c5,rfl,⟨owns_set6 HO0.out HR.out (by decide),owns_set6 HO1.out HR.out (by decide),owns_set6 HO2.out HR.out (by decide),owns_set6 HO3.out HR.out (by decide),owns_set6 HO4.out HR.out (by decide),owns_set6 HO5.out HR.out (by decide)⟩,below_set6 HB.out (by omega)⟩
theorem blk_set2 {w:World} {B:Nat} {x0 x1 v0 v1:Value} {t:TypeId} (h:w.heap[B]?=some (.cells #[x0,x1] t (0,0))):((w.setCell ⟨B,0,none⟩ v0).setCell ⟨B,1,none⟩ v1).heap[B]?=some (.cells #[v0,v1] t (0,0)):=by
 rw [blk_set _ (blk_set _ h)];simp
theorem below_set2 {w u:World} {B:Nat} {v0 v1:Value} (h:Below w.heap.size w u) (hB:w.heap.size≤B):Below w.heap.size w ((u.setCell ⟨B,0,none⟩ v0).setCell ⟨B,1,none⟩ v1) :=
 (h.setCell (p:=⟨B,0,none⟩) hB v0).setCell (p:=⟨B,1,none⟩) hB v1
set_option maxRecDepth 100000 in
theorem lazy_wrong (r:Int) (a:Option Addr) (cap:Nat) (ns:List Nd) (t:Tm) (w:World) (hN:SlN w a ns) (hc:tchk r ns t≠0) :
 Calls Tryz.prog 77 #[.agg #[.int .i64 r,.slice a ns.length cap],.agg #[.int .i64 t.op,.int .i64 t.a,.int .i64 t.b]] w fun e w' =>e=.returned (.tuple #[.agg #[.slice none 0 0,.slice none 0 0],.int .i64 (tchk r ns t)])∧Below w.heap.size w w' :=by
 have HOF:=hide (fun W (h:Below w.heap.size w W)=>of_wrong r a cap ns t W (hN.below h) hc)
 have hCb:(tchk r ns t==0)=false:=by simp [hc]
 have hCn:(tchk r ns t != 0)=true:=by simp [hc]
 clear hc hN
 generalize tchk r ns t=C at *
 have hbA:Below w.heap.size w (((w.alloc (.cells #[.int .i64 r,.slice a ns.length cap] 24)).alloc (.cells #[.int .i64 t.op,.int .i64 t.a,.int .i64 t.b] 57)).alloc (.cells #[.slice none 0 0,.slice none 0 0] 138)):=((((Below.refl _ w).alloc (Nat.le_refl _) _).alloc (by simp) _).alloc (by simp;omega) _)
 have p0:(((w.alloc (.cells #[.int .i64 r,.slice a ns.length cap] 24)).alloc (.cells #[.int .i64 t.op,.int .i64 t.a,.int .i64 t.b] 57)).alloc (.cells #[.slice none 0 0,.slice none 0 0] 138)).heap[w.heap.size]?=some (.cells #[.int .i64 r,.slice a ns.length cap] 24 (0,0)):=by
  have:=World.alloc_heap_new w (.cells #[.int .i64 r,.slice a ns.length cap] 24)
  exact ((Below.heap_alloc _ _ _ (by simp;try omega)).trans (((Below.heap_alloc _ _ _ (by simp;try omega)).trans (this))))
 have p1:(((w.alloc (.cells #[.int .i64 r,.slice a ns.length cap] 24)).alloc (.cells #[.int .i64 t.op,.int .i64 t.a,.int .i64 t.b] 57)).alloc (.cells #[.slice none 0 0,.slice none 0 0] 138)).heap[w.heap.size+1]?=some (.cells #[.int .i64 t.op,.int .i64 t.a,.int .i64 t.b] 57 (0,0)):=by
  have:=World.alloc_heap_new (w.alloc (.cells #[.int .i64 r,.slice a ns.length cap] 24)) (.cells #[.int .i64 t.op,.int .i64 t.a,.int .i64 t.b] 57)
  simp only [World.size_alloc] at this
  exact ((Below.heap_alloc _ _ _ (by simp;try omega)).trans (this))
 have p2:(((w.alloc (.cells #[.int .i64 r,.slice a ns.length cap] 24)).alloc (.cells #[.int .i64 t.op,.int .i64 t.a,.int .i64 t.b] 57)).alloc (.cells #[.slice none 0 0,.slice none 0 0] 138)).heap[w.heap.size+2]?=some (.cells #[.slice none 0 0,.slice none 0 0] 138 (0,0)):=by
  have:=World.alloc_heap_new ((w.alloc (.cells #[.int .i64 r,.slice a ns.length cap] 24)).alloc (.cells #[.int .i64 t.op,.int .i64 t.a,.int .i64 t.b] 57)) (.cells #[.slice none 0 0,.slice none 0 0] 138)
  simp only [World.size_alloc] at this
  exact this
 go_enter Tryz.func77,Tryz.ntmps77
 go_upto_region 1 with fail
 generalize (((w.alloc (.cells #[.int .i64 r,.slice a ns.length cap] 24)).alloc (.cells #[.int .i64 t.op,.int .i64 t.a,.int .i64 t.b] 57)).alloc (.cells #[.slice none 0 0,.slice none 0 0] 138))=W at hbA p0 p1 p2 ⊢
 try rw [show w.heap.size+1+1=w.heap.size+2 from rfl]
 have q0:=blk_cell p0 0
 have q1:=blk_cell p0 1
 simp at q0 q1
 have t0:=blk_cell p1 0
 have t1:=blk_cell p1 1
 have t2:=blk_cell p1 2
 simp at t0 t1 t2
 have pl:=blk_lt p0
 have tl:=blk_lt p1
 have HB:=hide hbA
 have HR:=hide p2
 clear hbA p0 p1 p2
 go_wp2_with fail
 refine (HOF.out _ HB.out).mono ?_
 rintro e w1 ⟨rfl,hb1⟩
 have hR:=(hb1.block _ (blk_lt HR.out)).trans HR.out
 have y0:=blk_cell hR 0
 have y1:=blk_cell hR 1
 simp at y0 y1
 have z0:=blk_frozen hR 0
 have z1:=blk_frozen hR 1
 have ylt:=blk_lt hR
 have HR1:=hide hR
 have HB1:=hide (HB.out.trans (hb1.mono HB.out.size))
 clear hR hb1 q0 q1 t0 t1 t2 pl tl HB HR HOF
 have hbF:Below w1.heap.size w1 (w1.alloc (.cells #[.slice none 0 0,.slice none 0 0,.slice none 0 0,.slice none 0 0,.slice none 0 0,.slice none 0 0] 164)):=(Below.refl _ w1).alloc (Nat.le_refl _) _
 have HR2:=hide ((hbF.block _ ylt).trans HR1.out)
 have HB2:=hide (HB1.out.trans (hbF.mono HB1.out.size))
 clear hbF
 go_wp2
 have hk0:=blk_set2 (v0:=.slice none 0 0) (v1:=.slice none 0 0) HR1.out
 have hB5:=below_set2 (v0:=.slice none 0 0) (v1:=.slice none 0 0) HB1.out (B:=w.heap.size+2) (by omega)
 have hk:=(Below.heap_alloc _ (.cells #[.slice none 0 0,.slice none 0 0,.slice none 0 0,.slice none 0 0,.slice none 0 0,.slice none 0 0] 164) _ (blk_lt hk0)).trans hk0
 have k0:=blk_cell hk 0
 have k1:=blk_cell hk 1
 simp at k0 k1
 exact bodyPost_ret (v:=.tuple #[.agg #[.slice none 0 0,.slice none 0 0],.int .i64 C]) (by simp [results,Tryz.results77,go_sem,k0,k1]) rfl ⟨rfl,hB5.alloc hB5.size _⟩
set_option maxRecDepth 100000 in
theorem lazy_right (r:Int) (b off cap:Nat) (ns:List Nd) (t:Tm) (w:World) (hN:NodesAt w b off ns) (hc:tchk r ns t=0) :
 Calls Tryz.prog 77 #[.agg #[.int .i64 r,.slice (some ⟨b,off,none⟩) ns.length cap],.agg #[.int .i64 t.op,.int .i64 t.a,.int .i64 t.b]] w fun e w' =>∃ a1 c1 a2 c2,e=.returned (.tuple #[.agg #[.slice a1 ns.length c1,.slice a2 ns.length c2],.int .i64 0])∧w'.ownsRow w.heap.size 4 1 (.slice a1 ns.length c1) ns.length ((lazyPut ns t).map Value.bool)∧w'.ownsRow w.heap.size 4 1 (.slice a2 ns.length c2) ns.length ((lazyTake ns t).map Value.bool)∧Below w.heap.size w w' :=by
 have HOF:=hide (fun W (h:Below w.heap.size w W)=>of_right r b off cap ns t W (hN.below h hN.lt) hc)
 obtain ⟨hcr,hto,_⟩:=tchk_zero hc
 have HL:=hide (chk_zero hcr).1
 have HTO:=hide hto
 have HN:=hide hN
 clear hc hN hcr hto
 have hbA:Below w.heap.size w (((w.alloc (.cells #[.int .i64 r,.slice (some ⟨b,off,none⟩) ns.length cap] 24)).alloc (.cells #[.int .i64 t.op,.int .i64 t.a,.int .i64 t.b] 57)).alloc (.cells #[.slice none 0 0,.slice none 0 0] 138)):=((((Below.refl _ w).alloc (Nat.le_refl _) _).alloc (by simp) _).alloc (by simp;omega) _)
 have p0:(((w.alloc (.cells #[.int .i64 r,.slice (some ⟨b,off,none⟩) ns.length cap] 24)).alloc (.cells #[.int .i64 t.op,.int .i64 t.a,.int .i64 t.b] 57)).alloc (.cells #[.slice none 0 0,.slice none 0 0] 138)).heap[w.heap.size]?=some (.cells #[.int .i64 r,.slice (some ⟨b,off,none⟩) ns.length cap] 24 (0,0)):=by
  have:=World.alloc_heap_new w (.cells #[.int .i64 r,.slice (some ⟨b,off,none⟩) ns.length cap] 24)
  exact ((Below.heap_alloc _ _ _ (by simp;try omega)).trans (((Below.heap_alloc _ _ _ (by simp;try omega)).trans (this))))
 have p1:(((w.alloc (.cells #[.int .i64 r,.slice (some ⟨b,off,none⟩) ns.length cap] 24)).alloc (.cells #[.int .i64 t.op,.int .i64 t.a,.int .i64 t.b] 57)).alloc (.cells #[.slice none 0 0,.slice none 0 0] 138)).heap[w.heap.size+1]?=some (.cells #[.int .i64 t.op,.int .i64 t.a,.int .i64 t.b] 57 (0,0)):=by
  have:=World.alloc_heap_new (w.alloc (.cells #[.int .i64 r,.slice (some ⟨b,off,none⟩) ns.length cap] 24)) (.cells #[.int .i64 t.op,.int .i64 t.a,.int .i64 t.b] 57)
  simp only [World.size_alloc] at this
  exact ((Below.heap_alloc _ _ _ (by simp;try omega)).trans (this))
 have p2:(((w.alloc (.cells #[.int .i64 r,.slice (some ⟨b,off,none⟩) ns.length cap] 24)).alloc (.cells #[.int .i64 t.op,.int .i64 t.a,.int .i64 t.b] 57)).alloc (.cells #[.slice none 0 0,.slice none 0 0] 138)).heap[w.heap.size+2]?=some (.cells #[.slice none 0 0,.slice none 0 0] 138 (0,0)):=by
  have:=World.alloc_heap_new ((w.alloc (.cells #[.int .i64 r,.slice (some ⟨b,off,none⟩) ns.length cap] 24)).alloc (.cells #[.int .i64 t.op,.int .i64 t.a,.int .i64 t.b] 57)) (.cells #[.slice none 0 0,.slice none 0 0] 138)
  simp only [World.size_alloc] at this
  exact this
 go_enter Tryz.func77,Tryz.ntmps77
 go_upto_region 1 with fail
 generalize (((w.alloc (.cells #[.int .i64 r,.slice (some ⟨b,off,none⟩) ns.length cap] 24)).alloc (.cells #[.int .i64 t.op,.int .i64 t.a,.int .i64 t.b] 57)).alloc (.cells #[.slice none 0 0,.slice none 0 0] 138))=W at hbA p0 p1 p2 ⊢
 try rw [show w.heap.size+1+1=w.heap.size+2 from rfl]
 have q0:=blk_cell p0 0
 have q1:=blk_cell p0 1
 simp at q0 q1
 have t0:=blk_cell p1 0
 have t1:=blk_cell p1 1
 have t2:=blk_cell p1 2
 simp at t0 t1 t2
 have pl:=blk_lt p0
 have tl:=blk_lt p1
 have HB:=hide hbA
 have HP:=hide p0
 have HT:=hide p1
 have HR:=hide p2
 clear hbA p0 p1 p2
 go_wp2_with fail
 refine (HOF.out _ HB.out).mono ?_
 rintro e w1 ⟨a0,a1,a2,a3,a4,a5,c0,c1,c2,c3,c4,c5,rfl,⟨o0,o1,o2,o3,o4,o5⟩,hb1⟩
 have hbF:Below w1.heap.size w1 (w1.alloc (.cells #[.slice a0 ns.length c0,.slice a1 ns.length c1,.slice a2 ns.length c2,.slice a3 ns.length c3,.slice a4 ns.length c4,.slice a5 ns.length c5] 164)):=(Below.refl _ w1).alloc (Nat.le_refl _) _
 have hF:(w1.alloc (.cells #[.slice a0 ns.length c0,.slice a1 ns.length c1,.slice a2 ns.length c2,.slice a3 ns.length c3,.slice a4 ns.length c4,.slice a5 ns.length c5] 164)).heap[w1.heap.size]?=some (.cells #[.slice a0 ns.length c0,.slice a1 ns.length c1,.slice a2 ns.length c2,.slice a3 ns.length c3,.slice a4 ns.length c4,.slice a5 ns.length c5] 164 (0,0)):=World.alloc_heap_new w1 _
 have HBW:=hide (hb1.trans (hbF.mono hb1.size))
 have HB2:=hide (HB.out.trans (HBW.out.mono HB.out.size))
 have Y0:Hid (BoolsAt (w1.alloc (.cells #[.slice a0 ns.length c0,.slice a1 ns.length c1,.slice a2 ns.length c2,.slice a3 ns.length c3,.slice a4 ns.length c4,.slice a5 ns.length c5] 164)) a0 (downL ns t)):=(bools_owned o0 (solve_len ns _)).below hbF
 have Y1:Hid (BoolsAt (w1.alloc (.cells #[.slice a0 ns.length c0,.slice a1 ns.length c1,.slice a2 ns.length c2,.slice a3 ns.length c3,.slice a4 ns.length c4,.slice a5 ns.length c5] 164)) a1 (upL ns t)):=(bools_owned o1 (solve_len ns _)).below hbF
 have Y2:Hid (BoolsAt (w1.alloc (.cells #[.slice a0 ns.length c0,.slice a1 ns.length c1,.slice a2 ns.length c2,.slice a3 ns.length c3,.slice a4 ns.length c4,.slice a5 ns.length c5] 164)) a2 (earlyL ns t)):=(bools_owned o2 (by simp [earlyL])).below hbF
 have Y3:Hid (BoolsAt (w1.alloc (.cells #[.slice a0 ns.length c0,.slice a1 ns.length c1,.slice a2 ns.length c2,.slice a3 ns.length c3,.slice a4 ns.length c4,.slice a5 ns.length c5] 164)) a3 (delayL ns t)):=(bools_owned o3 (solve_len ns _)).below hbF
 have Y4:Hid (BoolsAt (w1.alloc (.cells #[.slice a0 ns.length c0,.slice a1 ns.length c1,.slice a2 ns.length c2,.slice a3 ns.length c3,.slice a4 ns.length c4,.slice a5 ns.length c5] 164)) a4 (lateL ns t)):=(bools_owned o4 (by simp [lateL])).below hbF
 have Y5:Hid (BoolsAt (w1.alloc (.cells #[.slice a0 ns.length c0,.slice a1 ns.length c1,.slice a2 ns.length c2,.slice a3 ns.length c3,.slice a4 ns.length c4,.slice a5 ns.length c5] 164)) a5 (aloneL ns t)):=(bools_owned o5 (solve_len ns _)).below hbF
 have hP:=(HBW.out.block _ pl).trans HP.out
 have hT:=(HBW.out.block _ tl).trans HT.out
 have HR2:=hide ((HBW.out.block _ (blk_lt HR.out)).trans HR.out)
 have hFs:w.heap.size+2<w1.heap.size:=by have h1:=blk_lt HR.out;have h2:=hb1.size;omega
 clear o0 o1 o2 o3 o4 o5 hb1 q0 q1 t0 t1 t2 pl tl HB HR HP HT HOF HBW
 go_upto_region 6 with fail
 generalize (w1.alloc (.cells #[.slice a0 ns.length c0,.slice a1 ns.length c1,.slice a2 ns.length c2,.slice a3 ns.length c3,.slice a4 ns.length c4,.slice a5 ns.length c5] 164))=V at hF hbF HB2 Y0 Y1 Y2 Y3 Y4 Y5 hP hT HR2 ⊢
 generalize w1.heap.size=FB at *
 have q0:=blk_cell hP 0
 have q1:=blk_cell hP 1
 simp at q0 q1
 have pl:=blk_lt hP
 have HPL:=hide (places_any (fun n=>bat (lateL ns t) n&&!bat (aloneL ns t) n) (fun n=>bat (rcl ns t) n&&!(bat (lateL ns t) n&&bat (aloneL ns t) n)) 104 105 #[.pointer (some ⟨FB,0,none⟩)] #[.pointer (some ⟨w.heap.size,0,none⟩),.pointer (some ⟨w.heap.size+1,0,none⟩),.pointer (some ⟨FB,0,none⟩)] r (some ⟨b,off,none⟩) ns.length cap V (by have:=HL.out;omega) (enters_of Tryz.func104 (by kernel_rfl) rfl) (enters_of Tryz.func105 (by kernel_rfl) rfl) (fun i hi U hU=>(lazy1_any i FB ns.length (lateL ns t) (aloneL ns t) a4 a5 c4 c5 U (by rw [blk_cell ((hU.block _ (blk_lt hF)).trans hF)];rfl) (by rw [blk_cell ((hU.block _ (blk_lt hF)).trans hF)];rfl) (blk_lt ((hU.block _ (blk_lt hF)).trans hF)) (Y4.out.below hU) (Y5.out.below hU) (by simp [lateL]) (solve_len ns _) hi).mono fun e w' h=>⟨h.1,by rw [h.2];exact Below.refl _ _⟩) (fun i hi U hU=>lazy2_any i w.heap.size (w.heap.size+1) FB r b off cap ns t (lateL ns t) (aloneL ns t) a4 a5 c4 c5 U (HN.out.below (HB2.out.trans (hU.mono HB2.out.size)) HN.out.lt) hi ((hU.block _ (blk_lt hP)).trans hP) ((hU.block _ (blk_lt hT)).trans hT) HTO.out (blk_lt ((hU.block _ (blk_lt hF)).trans hF)) (by rw [blk_cell ((hU.block _ (blk_lt hF)).trans hF)];rfl) (by rw [blk_cell ((hU.block _ (blk_lt hF)).trans hF)];rfl) (Y4.out.below hU) (Y5.out.below hU) (by simp [lateL]) (solve_len ns _)))
 have HRV:=hide (blk_lt HR2.out)
 clear hF hbF hT
 go_wp2_with fail
 refine HPL.out.mono ?_
 rintro e w2 ⟨x1,d1,x2,d2,rfl,hV1,hV2,hb2⟩
 have hR:=(hb2.block _ (blk_lt HR2.out)).trans HR2.out
 have y0:=blk_cell hR 0
 have y1:=blk_cell hR 1
 simp at y0 y1
 have z0:=blk_frozen hR 0
 have z1:=blk_frozen hR 1
 have ylt:=blk_lt hR
 have HR3:=hide hR
 have HB3:=hide (HB2.out.trans (hb2.mono HB2.out.size))
 have HV1:=hide (ownsRow_base hV1 (base' :=w.heap.size) HB2.out.size)
 have HV2:=hide (ownsRow_base hV2 (base' :=w.heap.size) HB2.out.size)
 clear hR hb2 q0 q1 pl hV1 hV2 HPL
 go_wp2
 have hk:=blk_set2 (v0:=.slice x1 ns.length d1) (v1:=.slice x2 ns.length d2) HR3.out
 have T1:=owns_set (o:=1) (u:=.slice x2 ns.length d2) (owns_set (o:=0) (u:=.slice x1 ns.length d1) HV1.out HR3.out (by decide)) (blk_set (i:=0) (.slice x1 ns.length d1) HR3.out) (by decide)
 have T2:=owns_set (o:=1) (u:=.slice x2 ns.length d2) (owns_set (o:=0) (u:=.slice x1 ns.length d1) HV2.out HR3.out (by decide)) (blk_set (i:=0) (.slice x1 ns.length d1) HR3.out) (by decide)
 have k0:=blk_cell hk 0
 have k1:=blk_cell hk 1
 simp at k0 k1
 exact bodyPost_ret (v:=.tuple #[.agg #[.slice x1 ns.length d1,.slice x2 ns.length d2],.int .i64 0]) (by simp [results,Tryz.results77,go_sem,k0,k1]) rfl ⟨x1,d1,x2,d2,rfl,T1,T2,below_set2 HB3.out (by omega)⟩
theorem clone_fitM (b off cap:Nat) (ns:List Nd) (w:World) (hN:NodesAt w b off ns) (hl:1≤ns.length∧ns.length≤512) :
 Calls Tryz.prog 15 #[.slice (some ⟨b,off,none⟩) ns.length cap] w fun e w' =>∃ cb cc,e=.returned (.slice (some ⟨cb,0,none⟩) ns.length cc)∧w'.ownsRow w.heap.size 48 6 (.slice (some ⟨cb,0,none⟩) ns.length cc) ns.length (ns.flatMap encNd)∧Below w.heap.size w w' :=by
 refine (callsIn_wide.1 (clone_in 1 b off cap ns w hN hl)).mono ?_
 rintro e w' ⟨v,rfl,hv,hB⟩
 rcases hv.2 with ⟨_,q⟩ | ⟨g,vc,cur,rfl,_⟩
 ·omega
 ·exact ⟨g,vc,rfl,hv,hB⟩
theorem nodes_ownM {w:World} {base cb cc:Nat} {e:TypeId} {ns:List Nd} (h:w.ownsRow base e 6 (.slice (some ⟨cb,0,none⟩) ns.length cc) ns.length (ns.flatMap encNd)) (hl:1≤ns.length):NodesAt w cb 0 ns:=by
 obtain ⟨a,c,e,hs⟩:=nodes_of_owns h
 cases e
 obtain ⟨b', o', e,hn⟩:=hs.some hl
 cases e
 exact hn
theorem own_curM {w:World} {base g cap n:Nat} {xs:List Value} (h:w.ownsRow base 48 6 (.slice (some ⟨g,0,none⟩) n cap) n xs):∃ cur,w.heap[g]?=some (.cells cur 48 (0,0))∧base≤g:=by
 rcases h.2 with ⟨q,_⟩ | ⟨g', c,cur,q,a1,a2,_⟩
 ·cases q
 ·cases q;exact ⟨cur,a2,a1⟩
def tkTo (ns:List Nd) (tak:List Bool) (h:Int) (k:Nat):List Nd:=(List.range ns.length).map fun i=>if i<k then tkN ns tak h i else nd ns i
theorem tkTo_len (ns:List Nd) (tak:List Bool) (h:Int) (k:Nat):(tkTo ns tak h k).length=ns.length:=by simp [tkTo]
theorem tkTo_zero (ns:List Nd) (tak:List Bool) (h:Int):tkTo ns tak h 0=ns:=by
 apply List.ext_getElem?
 intro i
 by_cases hi:i<ns.length
 ·rw [get_nd hi];simp [tkTo,hi]
 ·rw [List.getElem?_eq_none (by simp [tkTo];omega),List.getElem?_eq_none (by omega)]
theorem tkTo_all (ns:List Nd) (tak:List Bool) (h:Int):tkTo ns tak h ns.length=(List.range ns.length).map (tkN ns tak h):=by
 apply List.map_congr_left
 intro i hi
 simp [List.mem_range.1 hi]
theorem tkTo_no {ns:List Nd} {tak:List Bool} {h:Int} {k:Nat} (hp:bat tak k=false):tkTo ns tak h (k+1)=tkTo ns tak h k:=by
 apply List.map_congr_left
 intro i hi
 by_cases e:i=k
 ·subst e;simp [tkN,hp]
 ·by_cases h1:i<k
  ·rw [if_pos h1,if_pos (by omega)]
  ·rw [if_neg h1,if_neg (by omega)]
theorem tkTo_yes {ns:List Nd} {tak:List Bool} {h:Int} {k:Nat} (hk:k<ns.length) (hp:bat tak k=true):tkTo ns tak h (k+1)=(tkTo ns tak h k).set k ⟨2,(nd ns k).d,h,0,(nd ns k).t,0⟩:=by
 apply List.ext_getElem?
 intro i
 by_cases hi:i<ns.length
 ·by_cases e:i=k
  ·subst e
   rw [List.getElem?_set_self (by rw [tkTo_len];exact hi)]
   simp [tkTo,hi,tkN,hp]
  ·rw [List.getElem?_set_ne (fun q=>e q.symm)]
   simp only [tkTo,List.getElem?_map,List.getElem?_range hi,Option.map_some]
   by_cases h1:i<k
   ·rw [if_pos h1,if_pos (by omega)]
   ·rw [if_neg h1,if_neg (by omega)]
 ·rw [List.getElem?_eq_none (by simp [tkTo];omega),List.getElem?_eq_none (by simp [tkTo];omega)]
set_option maxRecDepth 100000 in
theorem withTaken_any (b off cap:Nat) (ns:List Nd) (ta:Option Addr) (tc:Nat) (tak:List Bool) (h:Int) (w:World) (hN:NodesAt w b off ns) (hl:1≤ns.length∧ns.length≤256) (ht:BoolsAt w ta tak) (e1:tak.length=ns.length) :
 Calls Tryz.prog 111 #[.slice (some ⟨b,off,none⟩) ns.length cap,.slice ta ns.length tc,.int .i64 h] w fun e w' =>∃ cb cc,e=.returned (.slice (some ⟨cb,0,none⟩) ns.length cc)∧w'.ownsRow w.heap.size 48 6 (.slice (some ⟨cb,0,none⟩) ns.length cc) ns.length (((List.range ns.length).map (tkN ns tak h)).flatMap encNd)∧Below w.heap.size w w' :=by
 have HCL:=hide (clone_fitM b off cap ns w hN (by omega))
 have HN:=hide hN
 have HTK:=hide ht
 have HTL:=hide e1
 clear hN ht e1
 go_enter Tryz.func111,Tryz.ntmps111
 go_wp2_with fail
 refine HCL.out.mono ?_
 rintro e w1 ⟨cb,cc,rfl,hV,hb1⟩
 have HV:=hide hV
 have HB1:=hide hb1
 clear hV hb1 HCL
 go_wp2_with fail
 go_loopw [14] (fun i wr=>∃ k:Nat,k≤ns.length∧i=.int .i64 k∧wr.ownsRow w.heap.size 48 6 (.slice (some ⟨cb,0,none⟩) ns.length cc) ns.length ((tkTo ns tak h k).flatMap encNd)∧Below w.heap.size w wr) (fun i _=>ns.length-(intOf i).toNat)
 case atStart=>exact ⟨0,Nat.zero_le _,rfl,by rw [tkTo_zero];exact HV.out,HB1.out⟩
 case round =>
  obtain ⟨k,hk,rfl,hown,hb⟩:=hrel
  have hsz:=hb.size
  by_cases hlt:k<ns.length
  ·have hx:=get_nd hlt
   have hN2:=HN.out.below hb HN.out.lt
   have c0:=hN2.c0 k _ hx
   have c1:=hN2.c1 k _ hx
   have c2:=hN2.c2 k _ hx
   have c3:=hN2.c3 k _ hx
   have c4:=hN2.c4 k _ hx
   have c5:=hN2.c5 k _ hx
   have bl:=hN2.lt
   obtain ⟨b3,o3,rfl,l3,v3⟩:=bools_cell HTK.out (k:=k) (by rw [HTL.out];exact hlt)
   have v4:wr.cell? ⟨b3,o3+k,none⟩=some (.bool (bat tak k)):=by rw [World.cell?_of_block (hb.block _ l3)];exact v3
   have l4:b3<wr.heap.size:=Nat.lt_of_lt_of_le l3 hsz
   have hki:(k:Int)<(ns.length:Int):=by omega
   have hS:wr.heap.size<(wr.alloc (.cells #[.int .i64 (nd ns k).op,.int .i64 (nd ns k).d,.int .i64 (nd ns k).a,.int .i64 (nd ns k).b,.int .i64 (nd ns k).t,.int .i64 (nd ns k).e] 48)).heap.size:=by simp
   have hownA:=hown.alloc (.cells #[.int .i64 (nd ns k).op,.int .i64 (nd ns k).d,.int .i64 (nd ns k).a,.int .i64 (nd ns k).b,.int .i64 (nd ns k).t,.int .i64 (nd ns k).e] 48)
   have HBA:=hide (hb.alloc hsz (.cells #[.int .i64 (nd ns k).op,.int .i64 (nd ns k).d,.int .i64 (nd ns k).a,.int .i64 (nd ns k).b,.int .i64 (nd ns k).t,.int .i64 (nd ns k).e] 48))
   have hzn:=World.alloc_heap_new wr (.cells #[.int .i64 (nd ns k).op,.int .i64 (nd ns k).d,.int .i64 (nd ns k).a,.int .i64 (nd ns k).b,.int .i64 (nd ns k).t,.int .i64 (nd ns k).e] 48)
   have hbn:=(Below.refl wr.heap.size wr).alloc (Nat.le_refl _) (.cells #[.int .i64 (nd ns k).op,.int .i64 (nd ns k).d,.int .i64 (nd ns k).a,.int .i64 (nd ns k).b,.int .i64 (nd ns k).t,.int .i64 (nd ns k).e] 48)
   have v5:(wr.alloc (.cells #[.int .i64 (nd ns k).op,.int .i64 (nd ns k).d,.int .i64 (nd ns k).a,.int .i64 (nd ns k).b,.int .i64 (nd ns k).t,.int .i64 (nd ns k).e] 48)).cell? ⟨b3,o3+k,none⟩=some (.bool (bat tak k)):=by rw [World.cell?_of_block (hbn.block _ l4)];exact v4
   have l5:b3<(wr.alloc (.cells #[.int .i64 (nd ns k).op,.int .i64 (nd ns k).d,.int .i64 (nd ns k).a,.int .i64 (nd ns k).b,.int .i64 (nd ns k).t,.int .i64 (nd ns k).e] 48)).heap.size:=by simp;omega
   have HOA:=hide hownA
   have HLT:=hide hlt
   have hgk:(tkTo ns tak h k)[k]?=some (nd (tkTo ns tak h k) k):=get_nd (by rw [tkTo_len];exact hlt)
   have hNd:NodesAt (wr.alloc (.cells #[.int .i64 (nd ns k).op,.int .i64 (nd ns k).d,.int .i64 (nd ns k).a,.int .i64 (nd ns k).b,.int .i64 (nd ns k).t,.int .i64 (nd ns k).e] 48)) cb 0 (tkTo ns tak h k):=nodes_ownM (by rw [tkTo_len];exact hownA) (by rw [tkTo_len];exact hl.1)
   obtain ⟨cur,hcur,hge⟩:=own_curM hownA
   have d0:=hNd.c0 k _ hgk
   have d1:=hNd.c1 k _ hgk
   have d2:=hNd.c2 k _ hgk
   have d3:=hNd.c3 k _ hgk
   have d4:=hNd.c4 k _ hgk
   have d5:=hNd.c5 k _ hgk
   simp only [Nat.zero_add] at d0 d1 d2 d3 d4 d5
   have dl:=hNd.lt
   have g0:=blk_frozen hcur (k*6)
   have g1:=blk_frozen hcur (k*6+1)
   have g2:=blk_frozen hcur (k*6+2)
   have g3:=blk_frozen hcur (k*6+3)
   have g4:=blk_frozen hcur (k*6+4)
   have g5:=blk_frozen hcur (k*6+5)
   have HYES:Hid (bat tak k=true→tkTo ns tak h (k+1)=(tkTo ns tak h k).set k ⟨2,(nd ns k).d,h,0,(nd ns k).t,0⟩):=fun hp=>tkTo_yes hlt hp
   have HNO:Hid (bat tak k=false→tkTo ns tak h (k+1)=tkTo ns tak h k):=fun hp=>tkTo_no hp
   have HWR:=hide (owns_node (y:=⟨2,(nd ns k).d,h,0,(nd ns k).t,0⟩) (by rw [tkTo_len];exact hownA) (by rw [tkTo_len];exact hlt))
   clear hown hownA hx hN2 v3 v4 l3 l4 hgk hNd hcur hbn hb
   generalize nd (tkTo ns tak h k) k=z at d0 d1 d2 d3 d4 d5
   generalize bat tak k=Q at v5 HYES HNO
   go_upto_region 5 with fail
   generalize (wr.alloc (.cells #[.int .i64 (nd ns k).op,.int .i64 (nd ns k).d,.int .i64 (nd ns k).a,.int .i64 (nd ns k).b,.int .i64 (nd ns k).t,.int .i64 (nd ns k).e] 48))=WA at hS HOA HBA v5 l5 d0 d1 d2 d3 d4 d5 dl g0 g1 g2 g3 g4 g5 HWR hzn ⊢
   generalize wr.heap.size=XB at *
   have x1:=blk_cell hzn 1
   have x4:=blk_cell hzn 4
   simp at x1 x4
   clear hzn
   clear c0 c1 c2 c3 c4 c5 bl
   cases Q
   ·clear HYES HWR
    go_wp2_with fail
    go_roundw
    case rel=>exact ⟨k+1,by omega,by go_num,by rw [HNO.out rfl];exact HOA.out,HBA.out⟩
    case measure=>simp [intOf];omega
   ·have HE:=hide (HYES.out rfl)
    clear HNO HYES
    go_wp2_with fail
    go_roundw
    case rel =>
     refine ⟨k+1,by omega,by go_num,?_,HBA.out.trans (six_below WA k ⟨2,(nd ns k).d,h,0,(nd ns k).t,0⟩ hge)⟩
     rw [HE.out]
     have:=HWR.out
     rw [List.length_set,tkTo_len] at this
     exact this
    case measure=>simp [intOf];omega
  ·have ek:k=ns.length:=by omega
   subst ek
   rw [tkTo_all] at hown
   have HO:=hide hown
   have HB:=hide hb
   clear hown hb
   go_wp2
   go_ret
   exact ⟨cb,cc,rfl,HO.out,HB.out⟩
set_option maxRecDepth 100000 in
theorem withPut_any (g0 cap0:Nat) (ns:List Nd) (pa:Option Addr) (pc:Nat) (put tak:List Bool) (t:Tm) (h:Int) (w0 w:World) (hb0:Below w0.heap.size w0 w)
 (hO:w.ownsRow w0.heap.size 48 6 (.slice (some ⟨g0,0,none⟩) ns.length cap0) ns.length (((List.range ns.length).map (tkN ns tak h)).flatMap encNd))
 (hl:1≤ns.length∧ns.length≤256) (hp:BoolsAt w0 pa put) (e1:put.length=ns.length) :
 Calls Tryz.prog 110 #[.slice (some ⟨g0,0,none⟩) ns.length cap0,.slice pa ns.length pc,.agg #[.int .i64 t.op,.int .i64 t.a,.int .i64 t.b],.int .i64 h] w fun e w' =>∃ g cp,e=.returned (.slice (some ⟨g,0,none⟩) (apN ns t put tak h).length cp)∧w'.ownsRow w0.heap.size 48 6 (.slice (some ⟨g,0,none⟩) (apN ns t put tak h).length cp) (apN ns t put tak h).length ((apN ns t put tak h).flatMap encNd)∧Below w0.heap.size w0 w' :=by
 obtain ⟨i0,hi0,hz0,hz1,hz2⟩:=info_parts info_node
 have hbA:Below w0.heap.size w0 (w.alloc (.cells #[.int .i64 t.op,.int .i64 t.a,.int .i64 t.b] 57)):=hb0.alloc hb0.size _
 have hT0:(w.alloc (.cells #[.int .i64 t.op,.int .i64 t.a,.int .i64 t.b] 57)).heap[w.heap.size]?=some (.cells #[.int .i64 t.op,.int .i64 t.a,.int .i64 t.b] 57 (0,0)):=World.alloc_heap_new w _
 have hO1:=hO.alloc (.cells #[.int .i64 t.op,.int .i64 t.a,.int .i64 t.b] 57)
 rw [← apTo_zero ns t put tak h] at hO1
 have HPB:=hide hp
 have HPL:=hide e1
 have hwl:w0.heap.size≤w.heap.size:=hb0.size
 clear hp e1 hO hb0
 go_enter Tryz.func110,Tryz.ntmps110
 go_upto_region 1 with fail
 generalize (w.alloc (.cells #[.int .i64 t.op,.int .i64 t.a,.int .i64 t.b] 57))=W at hbA hT0 hO1 ⊢
 generalize w.heap.size=TB at *
 have HT0:=hide hT0
 have HO1:=hide hO1
 have HBA:=hide hbA
 have HLL:Hid ((apTo ns t put tak h 0).length=ns.length):=by rw [Hid,apTo_len];simp [keptI]
 clear hT0 hO1 hbA
 go_upto_region 2 with fail
 go_loopw [0,14] (fun v i wr=>∃ k g cp:Nat,k≤ns.length∧i=.int .i64 k∧v=.slice (some ⟨g,0,none⟩) (apTo ns t put tak h k).length cp∧wr.ownsRow w0.heap.size 48 6 (.slice (some ⟨g,0,none⟩) (apTo ns t put tak h k).length cp) (apTo ns t put tak h k).length ((apTo ns t put tak h k).flatMap encNd)∧wr.heap[TB]?=some (.cells #[.int .i64 t.op,.int .i64 t.a,.int .i64 t.b] 57 (0,0))∧Below w0.heap.size w0 wr) (fun _ i _=>ns.length-(intOf i).toNat)
 case atStart=>exact ⟨0,g0,cap0,Nat.zero_le _,rfl,by rw [HLL.out],by rw [HLL.out];exact HO1.out,HT0.out,HBA.out⟩
 case round =>
  obtain ⟨k,g,cp,hk,rfl,rfl,hown,hT,hb⟩:=hrel
  have hsz:=hb.size
  by_cases hlt:k<ns.length
  ·have hAL:(apTo ns t put tak h k).length=ns.length+(keptI put k).length:=apTo_len ns t put tak h k
   have hKL:=keptI_len put k
   have hkA:k<(apTo ns t put tak h k).length:=by omega
   have hA512:(apTo ns t put tak h k).length≤512:=by omega
   have hgk:=get_nd hkA
   have hNd:NodesAt wr g 0 (apTo ns t put tak h k):=nodes_ownM hown (by omega)
   have HTK:Hid (nd (apTo ns t put tak h k) k=tkN ns tak h k):=by rw [Hid,nd_apTo hlt,if_neg (by omega)]
   have c0:=hNd.c0 k _ hgk
   have c1:=hNd.c1 k _ hgk
   have c2:=hNd.c2 k _ hgk
   have c3:=hNd.c3 k _ hgk
   have c4:=hNd.c4 k _ hgk
   have c5:=hNd.c5 k _ hgk
   simp only [Nat.zero_add] at c0 c1 c2 c3 c4 c5
   have gl:=hNd.lt
   obtain ⟨b3,o3,rfl,l3,v3⟩:=bools_cell (HPB.out.below hb) (k:=k) (by rw [HPL.out];exact hlt)
   have hki:(k:Int)<(ns.length:Int):=by omega
   have hkai:(k:Int)<((apTo ns t put tak h k).length:Int):=by omega
   obtain ⟨cur,hcur,hge⟩:=own_curM hown
   have hne:=boxed_ne hT hcur (by decide)
   have HOW:=hide hown
   have HT:=hide hT
   have HB:=hide hb
   have HYES:Hid (bat put k=true→apTo ns t put tak h (k+1)=(apTo ns t put tak h k++[tkN ns tak h k]).set k (ptN t h (apTo ns t put tak h k).length)):=fun hp=>apTo_yes hlt hp
   have HNO:Hid (bat put k=false→apTo ns t put tak h (k+1)=apTo ns t put tak h k):=fun hp=>apTo_no hp
   have HCUR:=hide hcur
   have HGE:=hide hge
   have HNE:=hide hne
   clear hown hT hb hgk hNd hcur hge hne hAL hKL
   generalize bat put k=Q at v3 HYES HNO
   generalize nd (apTo ns t put tak h k) k=z at c0 c1 c2 c3 c4 c5 HTK
   have HKA:=hide hkA
   have HAI:=hide hkai
   cases Q
   ·have HE:=hide (HNO.out rfl)
    clear HNO HYES c0 c1 c2 c3 c4 c5
    go_wp2_with fail
    go_roundw
    case rel=>exact ⟨k+1,g,cp,by omega,by go_num,by rw [HE.out],by rw [HE.out];exact HOW.out,HT.out,HB.out⟩
    case measure=>simp [intOf];omega
   ·have HE:=hide (HYES.out rfl)
    clear HNO HYES
    have HM:=hide hA512
    have hm5:(apTo ns t put tak h k).length≤512:=hA512
    generalize hms:apTo ns t put tak h k=ms at HOW HE HKA HAI HM hA512 hkA hkai hm5 ⊢
    clear hms
    go_upto_region 7 with (at_builtin;refine wpList_append_own _ rfl (.tmp 22) (.tmp 27) 22 rfl w0.heap.size 48 i0 _ 6 48 Tryz.underlying22 hi0 hz0 hz1 hz2 rfl (by decide) _ _ _ rfl (HOW.out.alloc _) ⟨wr.heap.size,0,none⟩ 1 1 (encNd z) rfl rfl ?c1 ?c2 ?c3 ?c4 ?c5 ?_)
    case c1 =>
     intro j u hj
     match j,hj with
     | 0,hj=>simp [encNd] at hj;subst hj;simp [Addr.add]
     | 1,hj=>simp [encNd] at hj;subst hj;simp [Addr.add]
     | 2,hj=>simp [encNd] at hj;subst hj;simp [Addr.add]
     | 3,hj=>simp [encNd] at hj;subst hj;simp [Addr.add]
     | 4,hj=>simp [encNd] at hj;subst hj;simp [Addr.add]
     | 5,hj=>simp [encNd] at hj;subst hj;simp [Addr.add]
     | j+6,hj=>simp [encNd] at hj
    case c2=>exact fun u hu=>encNd_one [z] u (by simpa using hu)
    case c3=>unfold maxLen;omega
    case c4=>omega
    case c5=>simp;omega
    intro v' w4 hown5 hg4 hni
    have hlt1:=HOW.out.lt
    have hB4:Below w0.heap.size w0 w4:=(HB.out.alloc hsz _).grown hg4 (by simp;omega) (fun k hk=>(hlt1 k hk).1)
    obtain ⟨g', cp', rfl⟩:∃ g' cp', v' =.slice (some ⟨g', 0,none⟩) (ms.length+1) cp' :=by
     rcases hown5.2 with ⟨_,q⟩ | ⟨g', vc,cur,rfl,_⟩
     ·omega
     ·exact ⟨g', vc,rfl⟩
    have hT4:w4.heap[TB]?=some (.cells #[.int .i64 t.op,.int .i64 t.a,.int .i64 t.b] 57 (0,0)):=by
     rw [hg4.block TB (by have:=blk_lt HT.out;simp;omega) (by simp [Value.ownBlock];exact HNE.out),Below.heap_alloc _ _ _ (blk_lt HT.out)]
     exact HT.out
    have hl6:(ms++[z]).length=ms.length+1:=by simp
    have hown6:w4.ownsRow w0.heap.size 48 6 (.slice (some ⟨g', 0,none⟩) (ms++[z]).length cp') (ms++[z]).length ((ms++[z]).flatMap encNd):=by
     rw [hl6,List.flatMap_append];simpa using hown5
    rw [← hl6]
    rw [← HTK.out] at HE
    clear hown5 hg4 hni hlt1 c0 c1 c2 c3 c4 c5 l3 v3
    have hk6:k<(ms++[z]).length:=by rw [hl6];omega
    have hk6i:(k:Int)<((ms++[z]).length:Int):=by omega
    have HLN:Hid ((ms.length:Int)=(ms.length:Int)):=rfl
    have hml:ms.length≤512:=hm5
    have hNd:=nodes_ownM hown6 (by rw [hl6];omega)
    have hgk:=get_nd hk6
    have d0:=hNd.c0 k _ hgk
    have d1:=hNd.c1 k _ hgk
    have d2:=hNd.c2 k _ hgk
    have d3:=hNd.c3 k _ hgk
    have d4:=hNd.c4 k _ hgk
    have d5:=hNd.c5 k _ hgk
    simp only [Nat.zero_add] at d0 d1 d2 d3 d4 d5
    obtain ⟨cur4,hcur4,hge4⟩:=own_curM hown6
    have dl:=blk_lt hcur4
    have g0:=blk_frozen hcur4 (k*6)
    have g1:=blk_frozen hcur4 (k*6+1)
    have g2:=blk_frozen hcur4 (k*6+2)
    have g3:=blk_frozen hcur4 (k*6+3)
    have g4:=blk_frozen hcur4 (k*6+4)
    have g5:=blk_frozen hcur4 (k*6+5)
    have HWR:=hide (owns_node (y:=ptN t h ms.length) hown6 hk6)
    have HTW:=hide ((six_other (y:=ptN t h ms.length) (j:=k) (w:=w4) (boxed_ne hT4 hcur4 (by decide))).trans hT4)
    have t0:=blk_cell hT4 0
    have t1:=blk_cell hT4 1
    have t2:=blk_cell hT4 2
    simp at t0 t1 t2
    have tl:=blk_lt hT4
    have HB4:=hide (hB4.trans (six_below w4 k (ptN t h ms.length) hge4))
    generalize nd (ms++[z]) k=y at d0 d1 d2 d3 d4 d5
    have HL6:=hide hl6
    clear hNd hgk hown6 hcur4 hT4 hB4 hk6 hl6 HOW HT HB HCUR hml HLN
    generalize hL:(ms++[z]).length=L6 at hk6i HL6 ⊢
    have HL:=hide hL
    clear hL
    go_wp2_with fail
    go_roundw
    case rel =>
     have e:(apTo ns t put tak h (k+1)).length=L6:=by rw [HE.out,List.length_set,HL.out]
     refine ⟨k+1,g', cp', by omega,by go_num,by rw [e],?_,HTW.out,HB4.out⟩
     have:=HWR.out
     rw [← HE.out] at this
     exact this
    case measure=>simp [intOf];omega
  ·have ek:k=ns.length:=by omega
   subst ek
   have HO:=hide hown
   have HB:=hide hb
   have HA:Hid (apTo ns t put tak h ns.length=apN ns t put tak h):=rfl
   rw [HA.out] at HO ⊢
   clear hown hb hT
   go_wp2
   go_ret
   exact ⟨g,cp,rfl,HO.out,HB.out⟩
set_option maxRecDepth 100000 in
theorem indexB_any (a:Option Addr) (cap:Nat) (l:List Bool) (w:World) (hl:BoolsAt w a l) (hn:l.length≤512) :
 Calls Tryz.prog 108 #[.slice a l.length cap,.bool true] w fun e w' =>(∃ i:Int,e=.returned (.int .i64 i)∧(0≤i↔l.any id=true))∧w' =w:=by
 have HL:=hide hl
 clear hl
 go_enter Tryz.func108,Tryz.ntmps108
 go_wp2_with fail
 go_loopw [8] (fun i wr=>∃ k:Nat,k≤l.length∧i=.int .i64 k∧(∀ j,j<k→bat l j=false)∧wr=w) (fun i _=>l.length-(intOf i).toNat)
 case atStart=>exact ⟨0,Nat.zero_le _,rfl,fun j hj=>absurd hj (by omega),rfl⟩
 case round =>
  obtain ⟨k,hk,rfl,hall,rfl⟩:=hrel
  by_cases hlt:k<l.length
  ·obtain ⟨b3,o3,rfl,l3,v3⟩:=bools_cell HL.out (k:=k) hlt
   have hki:(k:Int)<(l.length:Int):=by omega
   have HA:=hide hall
   have HLT:=hide hlt
   clear hall
   cases hq:bat l k
   ·rw [hq] at v3
    have HQ:=hide hq
    clear hq
    go_wp2_with fail
    go_roundw
    case rel=>exact ⟨k+1,by omega,by go_num,fun j hj=>by
     by_cases e:j=k
     ·subst e;exact HQ.out
     ·exact HA.out j (by omega),trivial⟩
    case measure=>simp [intOf];omega
   ·rw [hq] at v3
    have HQ:=hide hq
    clear hq
    go_wp2
    go_ret
    refine ⟨⟨k,rfl,?_⟩,rfl⟩
    refine ⟨fun _=>?_,fun _=>by omega⟩
    rw [List.any_eq_true]
    have h1:=HLT.out
    refine ⟨true,?_,rfl⟩
    have:=HQ.out
    rw [bat,List.getD_eq_getElem?_getD,List.getElem?_eq_getElem h1,Option.getD_some] at this
    rw [← this];exact List.getElem_mem h1
  ·have ek:k=l.length:=by omega
   subst ek
   have HA:=hide hall
   clear hall
   go_wp2
   go_ret
   refine ⟨⟨-1,rfl,?_⟩,rfl⟩
   refine ⟨fun h=>absurd h (by omega),fun h=>?_⟩
   rw [List.any_eq_true] at h
   obtain ⟨x,hx,h2⟩:=h
   obtain ⟨i,hi,rfl⟩:=List.getElem_of_mem hx
   have:=HA.out i hi
   rw [bat,List.getD_eq_getElem?_getD,List.getElem?_eq_getElem hi,Option.getD_some] at this
   rw [this] at h2
   cases h2
theorem containsB_any (a:Option Addr) (cap:Nat) (l:List Bool) (w:World) (hl:BoolsAt w a l) (hn:l.length≤512) :
 Calls Tryz.prog 78 #[.slice a l.length cap,.bool true] w fun e w' =>e=.returned (.bool (l.any id))∧w' =w:=by
 have HI:=hide (indexB_any a cap l w hl hn)
 clear hl
 go_enter Tryz.func78,Tryz.ntmps78
 go_wp2_with fail
 refine HI.out.mono ?_
 rintro e w1 ⟨⟨i,rfl,hi⟩,rfl⟩
 by_cases h0:0≤i
 ·have HX:=hide (hi.1 h0)
  clear hi
  go_wp2
  go_ret
  exact ⟨ret_bool HX.out.symm,rfl⟩
 ·have:l.any id=false:=by
   cases h:l.any id
   ·rfl
   ·exact absurd (hi.2 h) h0
  have HX:=hide this
  clear hi this
  go_wp2
  go_ret
  exact ⟨ret_bool (by rw [HX.out];simpa using h0),rfl⟩
set_option maxRecDepth 100000 in
theorem fits_yes (r:Int) (b off cap:Nat) (ns:List Nd) (t:Tm) (pa ta:Option Addr) (pc tc:Nat) (put tak:List Bool) (w:World) (hN:NodesAt w b off ns) (hl:ns.length≤256) (hto:3≤t.op∧t.op≤8) (e1:put.length=ns.length) (e2:tak.length=ns.length) (ht:BoolsAt w ta tak) (hT:TakeOk ns t tak) :
 Calls Tryz.prog 109 #[.agg #[.int .i64 r,.slice (some ⟨b,off,none⟩) ns.length cap],.agg #[.int .i64 t.op,.int .i64 t.a,.int .i64 t.b],.agg #[.slice pa put.length pc,.slice ta tak.length tc]] w fun e w' =>e=.returned (.bool true)∧Below w.heap.size w w' :=by
 rw [e1,e2]
 have HE2:=hide e2
 have HN:=hide hN
 have HTK:=hide ht
 have HTT:=hide hT
 have HTO:=hide hto
 clear e1 e2 hN ht hT hto
 have hbA:Below w.heap.size w (((w.alloc (.cells #[.int .i64 r,.slice (some ⟨b,off,none⟩) ns.length cap] 24)).alloc (.cells #[.int .i64 t.op,.int .i64 t.a,.int .i64 t.b] 57)).alloc (.cells #[.slice pa ns.length pc,.slice ta ns.length tc] 138)):=((((Below.refl _ w).alloc (Nat.le_refl _) _).alloc (by simp) _).alloc (by simp;omega) _)
 have p0:(((w.alloc (.cells #[.int .i64 r,.slice (some ⟨b,off,none⟩) ns.length cap] 24)).alloc (.cells #[.int .i64 t.op,.int .i64 t.a,.int .i64 t.b] 57)).alloc (.cells #[.slice pa ns.length pc,.slice ta ns.length tc] 138)).heap[w.heap.size]?=some (.cells #[.int .i64 r,.slice (some ⟨b,off,none⟩) ns.length cap] 24 (0,0)):=by
  have:=World.alloc_heap_new w (.cells #[.int .i64 r,.slice (some ⟨b,off,none⟩) ns.length cap] 24)
  exact ((Below.heap_alloc _ _ _ (by simp;try omega)).trans (((Below.heap_alloc _ _ _ (by simp;try omega)).trans (this))))
 have p1:(((w.alloc (.cells #[.int .i64 r,.slice (some ⟨b,off,none⟩) ns.length cap] 24)).alloc (.cells #[.int .i64 t.op,.int .i64 t.a,.int .i64 t.b] 57)).alloc (.cells #[.slice pa ns.length pc,.slice ta ns.length tc] 138)).heap[w.heap.size+1]?=some (.cells #[.int .i64 t.op,.int .i64 t.a,.int .i64 t.b] 57 (0,0)):=by
  have:=World.alloc_heap_new (w.alloc (.cells #[.int .i64 r,.slice (some ⟨b,off,none⟩) ns.length cap] 24)) (.cells #[.int .i64 t.op,.int .i64 t.a,.int .i64 t.b] 57)
  simp only [World.size_alloc] at this
  exact ((Below.heap_alloc _ _ _ (by simp;try omega)).trans (this))
 have p2:(((w.alloc (.cells #[.int .i64 r,.slice (some ⟨b,off,none⟩) ns.length cap] 24)).alloc (.cells #[.int .i64 t.op,.int .i64 t.a,.int .i64 t.b] 57)).alloc (.cells #[.slice pa ns.length pc,.slice ta ns.length tc] 138)).heap[w.heap.size+2]?=some (.cells #[.slice pa ns.length pc,.slice ta ns.length tc] 138 (0,0)):=by
  have:=World.alloc_heap_new ((w.alloc (.cells #[.int .i64 r,.slice (some ⟨b,off,none⟩) ns.length cap] 24)).alloc (.cells #[.int .i64 t.op,.int .i64 t.a,.int .i64 t.b] 57)) (.cells #[.slice pa ns.length pc,.slice ta ns.length tc] 138)
  simp only [World.size_alloc] at this
  exact this
 go_enter Tryz.func109,Tryz.ntmps109
 go_upto_region 1 with fail
 generalize (((w.alloc (.cells #[.int .i64 r,.slice (some ⟨b,off,none⟩) ns.length cap] 24)).alloc (.cells #[.int .i64 t.op,.int .i64 t.a,.int .i64 t.b] 57)).alloc (.cells #[.slice pa ns.length pc,.slice ta ns.length tc] 138))=W at hbA p0 p1 p2 ⊢
 try rw [show w.heap.size+1+1=w.heap.size+2 from rfl]
 have q0:=blk_cell p0 0
 have q1:=blk_cell p0 1
 simp at q0 q1
 have y0:=blk_cell p2 0
 have y1:=blk_cell p2 1
 simp at y0 y1
 have pl:=blk_lt p0
 have yl:=blk_lt p2
 have HB:=hide hbA
 have HP:=hide p0
 have HQ:=hide p1
 clear hbA p0 p1 p2
 go_upto_region 4 with fail
 clear q0 q1 y0 y1 pl yl
 go_loopw [28] (fun i wr=>∃ k:Nat,k≤ns.length∧i=.int .i64 k∧Below W.heap.size W wr) (fun i _=>ns.length-(intOf i).toNat)
 case atStart=>exact ⟨0,Nat.zero_le _,rfl,Below.refl _ _⟩
 case round =>
  obtain ⟨k,hk,rfl,hb⟩:=hrel
  have hBw:=HB.out.trans (hb.mono HB.out.size)
  have hsz:=hBw.size
  by_cases hlt:k<ns.length
  ·have hx:=get_nd hlt
   have hki:(k:Int)<(ns.length:Int):=by omega
   obtain ⟨b3,o3,rfl,l3,v3⟩:=bools_cell (HTK.out.below hBw) (k:=k) (by rw [HE2.out];exact hlt)
   have HS:Hid (∀ u:World,Below wr.heap.size wr u→u.cell? ⟨w.heap.size,0,none⟩=some (.int .i64 r)∧u.cell? ⟨w.heap.size,1,none⟩=some (.slice (some ⟨b,off,none⟩) ns.length cap)∧u.cell? ⟨w.heap.size+1,0,none⟩=some (.int .i64 t.op)∧u.cell? ⟨w.heap.size+1,1,none⟩=some (.int .i64 t.a)∧u.cell? ⟨w.heap.size+1,2,none⟩=some (.int .i64 t.b)∧u.cell? ⟨b,off+k*6,none⟩=some (.int .i64 (nd ns k).op)∧u.cell? ⟨b,off+k*6+1,none⟩=some (.int .i64 (nd ns k).d)∧u.cell? ⟨b,off+k*6+2,none⟩=some (.int .i64 (nd ns k).a)∧u.cell? ⟨b,off+k*6+3,none⟩=some (.int .i64 (nd ns k).b)∧u.cell? ⟨b,off+k*6+4,none⟩=some (.int .i64 (nd ns k).t)∧u.cell? ⟨b,off+k*6+5,none⟩=some (.int .i64 (nd ns k).e)):=fun u h=>by
    have h' :=hb.trans (h.mono hb.size)
    have k1:=(h'.block _ (blk_lt HP.out)).trans HP.out
    have k2:=(h'.block _ (blk_lt HQ.out)).trans HQ.out
    have k3:=HN.out.below (HB.out.trans (h'.mono HB.out.size)) HN.out.lt
    refine ⟨?_,?_,?_,?_,?_,k3.c0 k _ hx,k3.c1 k _ hx,k3.c2 k _ hx,k3.c3 k _ hx,k3.c4 k _ hx,k3.c5 k _ hx⟩
    ·rw [blk_cell k1];rfl
    ·rw [blk_cell k1];rfl
    ·rw [blk_cell k2];rfl
    ·rw [blk_cell k2];rfl
    ·rw [blk_cell k2];rfl
   have HR:Hid (bat tak k=true→rcB t (nd ns k)=true):=fun h=>HTT.out k hlt h
   have bl:=Nat.lt_of_lt_of_le HN.out.lt hsz
   have wl:w.heap.size<wr.heap.size:=Nat.lt_of_lt_of_le (blk_lt HP.out) hb.size
   have wl1:w.heap.size+1<wr.heap.size:=Nat.lt_of_lt_of_le (blk_lt HQ.out) hb.size
   have HBR:=hide hb
   clear hx hb hBw
   generalize bat tak k=Q at v3 HR
   cases Q
   ·clear HR
    go_upto_region 6 with fail
    refine wp_region_held_drew (S:=(fun u=>u.cell? ⟨w.heap.size,0,none⟩=some (.int .i64 r)∧u.cell? ⟨w.heap.size,1,none⟩=some (.slice (some ⟨b,off,none⟩) ns.length cap)∧u.cell? ⟨w.heap.size+1,0,none⟩=some (.int .i64 t.op)∧u.cell? ⟨w.heap.size+1,1,none⟩=some (.int .i64 t.a)∧u.cell? ⟨w.heap.size+1,2,none⟩=some (.int .i64 t.b)∧u.cell? ⟨b,off+k*6,none⟩=some (.int .i64 (nd ns k).op)∧u.cell? ⟨b,off+k*6+1,none⟩=some (.int .i64 (nd ns k).d)∧u.cell? ⟨b,off+k*6+2,none⟩=some (.int .i64 (nd ns k).a)∧u.cell? ⟨b,off+k*6+3,none⟩=some (.int .i64 (nd ns k).b)∧u.cell? ⟨b,off+k*6+4,none⟩=some (.int .i64 (nd ns k).t)∧u.cell? ⟨b,off+k*6+5,none⟩=some (.int .i64 (nd ns k).e))) (by as_aux_lemma=>kernel_rfl) (by (try dsimp only);first | (with_reducible exact HS.out _ hB2) | exact HS.out _ (Below.refl _ wr).drew | exact HS.out _ (Below.refl _ wr)) (fun hHeld=>?_)
    refine tky 0 ⟨some 33,.move (.tmp 8),4, "move.go:127", #[],none⟩ (v:=?_) ?_ ?_
    rotate_left 1
    ·intro w hSw;(try dsimp only at hSw);go_simp;all_goals with_reducible rfl
    (try simp only [Act.put,PM1,PM2,PM3])
    refine tky 1 ⟨some 34,.move (.tmp 33),4, "move.go:127", #[⟨0,.data⟩],none⟩ (v:=?_) ?_ ?_
    rotate_left 1
    ·intro w hSw;(try dsimp only at hSw);go_simp;all_goals with_reducible rfl
    (try simp only [Act.put,PM1,PM2,PM3])
    refine tkn 2 ⟨some 35,.fieldAddr 24 (.tmp 3) 1,0, "move.go:127", #[⟨1,.guard⟩],some (1,true)⟩ ?_
    (try simp only [Act.put,PM1,PM2,PM3])
    refine tkn 3 ⟨some 36,.load 22 (.tmp 35),22, "move.go:127", #[⟨2,.data⟩,⟨1,.guard⟩],some (1,true)⟩ ?_
    (try simp only [Act.put,PM1,PM2,PM3])
    refine tkn 4 ⟨some 37,.move (.tmp 7),3, "move.go:127", #[⟨1,.guard⟩],some (1,true)⟩ ?_
    (try simp only [Act.put,PM1,PM2,PM3])
    refine tkn 5 ⟨some 38,.indexAddr 22 (.tmp 36) (.tmp 37),0, "move.go:127", #[⟨3,.data⟩,⟨4,.data⟩,⟨1,.guard⟩],some (1,true)⟩ ?_
    (try simp only [Act.put,PM1,PM2,PM3])
    refine tkn 6 ⟨some 39,.load 48 (.tmp 38),48, "move.go:127", #[⟨5,.data⟩,⟨1,.guard⟩],some (1,true)⟩ ?_
    (try simp only [Act.put,PM1,PM2,PM3])
    refine tkn 7 ⟨some 40,.load 57 (.tmp 4),57, "move.go:127", #[⟨1,.guard⟩],some (1,true)⟩ ?_
    (try simp only [Act.put,PM1,PM2,PM3])
    refine tkn 8 ⟨some 41,.call { callee:=.value (.func 106),args:=#[.tmp 39,.tmp 40],argTypes:=#[48,57] },4, "move.go:127", #[⟨6,.data⟩,⟨7,.data⟩,⟨1,.chain⟩,⟨1,.guard⟩],some (1,true)⟩ ?_
    (try simp only [Act.put,PM1,PM2,PM3])
    refine tkn 9 ⟨some 42,.unOp Go.UnOp.not 4 (.tmp 41),4, "move.go:127", #[⟨8,.data⟩,⟨1,.guard⟩],some (1,true)⟩ ?_
    (try simp only [Act.put,PM1,PM2,PM3])
    refine tky 10 ⟨some 43,.pick (.tmp 34) (.tmp 42) (.const (Go.Value.bool false)),4, "move.go:127", #[⟨1,.data⟩,⟨9,.data⟩],none⟩ (v:=?_) ?_ ?_
    rotate_left 1
    ·intro w hSw;(try dsimp only at hSw);go_simp;all_goals with_reducible rfl
    (try simp only [Act.put,PM1,PM2,PM3])
    refine wpAnyH_done (by as_aux_lemma=>kernel_rfl) ?_ _
    go_wp2_with fail
    go_roundw
    case rel=>exact ⟨k+1,by omega,by go_num,HBR.out.drew⟩
    case measure=>simp [intOf];omega
   ·have hr:=HR.out rfl
    have HRC:=hide hr
    clear HR hr
    go_upto_region 6 with fail
    go_region_held3 (fun u=>u.cell? ⟨w.heap.size,0,none⟩=some (.int .i64 r)∧u.cell? ⟨w.heap.size,1,none⟩=some (.slice (some ⟨b,off,none⟩) ns.length cap)∧u.cell? ⟨w.heap.size+1,0,none⟩=some (.int .i64 t.op)∧u.cell? ⟨w.heap.size+1,1,none⟩=some (.int .i64 t.a)∧u.cell? ⟨w.heap.size+1,2,none⟩=some (.int .i64 t.b)∧u.cell? ⟨b,off+k*6,none⟩=some (.int .i64 (nd ns k).op)∧u.cell? ⟨b,off+k*6+1,none⟩=some (.int .i64 (nd ns k).d)∧u.cell? ⟨b,off+k*6+2,none⟩=some (.int .i64 (nd ns k).a)∧u.cell? ⟨b,off+k*6+3,none⟩=some (.int .i64 (nd ns k).b)∧u.cell? ⟨b,off+k*6+4,none⟩=some (.int .i64 (nd ns k).t)∧u.cell? ⟨b,off+k*6+5,none⟩=some (.int .i64 (nd ns k).e)) (with_reducible refine HS.out _ ?_;first | with_reducible exact hB2 | with_reducible exact (Below.refl _ wr).drew | with_reducible exact (Below.refl _ wr)) (first
     | (go_at_call 106;refine (sreckons_any (nd ns k) t _ HTO.out).mono ?_;rintro e wa ⟨rfl,hba⟩;have hB2:Below wr.heap.size wr wa:=(by first | exact (Below.refl _ wr).drew.trans hba | exact hba);rw [HRC.out]))
    go_wp2_with fail
    go_roundw
    case rel=>exact ⟨k+1,by omega,by go_num,HBR.out.trans (hB2.mono HBR.out.size)⟩
    case measure=>simp [intOf];omega
  ·have ek:k=ns.length:=by omega
   subst ek
   have HBW:=hide hBw
   clear hb hBw
   go_wp2
   go_ret
   exact ⟨rfl,HBW.out⟩
end Go.Proofs.YtkkolclmfcmfbaaGreatDoor
