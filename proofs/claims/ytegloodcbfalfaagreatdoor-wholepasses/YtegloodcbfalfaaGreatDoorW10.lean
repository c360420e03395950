/-
  Of the proof of WholePasses: FK, PC, XA, TV, TU, TY, HA.
-/
import Derived.Test.YtegloodcbfalfaaGreatDoorW1
import Derived.Test.YtegloodcbfalfaaGreatDoorW3
import Derived.Test.YtegloodcbfalfaaGreatDoorW5
import Derived.Test.YtegloodcbfalfaaGreatDoorW6
import Derived.Test.YtegloodcbfalfaaGreatDoorW7
import Derived.Test.YtegloodcbfalfaaGreatDoorW9
set_option linter.unusedVariables false
set_option linter.unusedSimpArgs false
set_option maxHeartbeats 40000000
set_option maxRecDepth 100000
namespace Go.Proofs.YtegloodcbfalfaaGreatDoor
open Go.RowKit Go.Shelf
theorem qF {w:World} {b:Nat} {x0 x1 x2 x3 x4 x5 v0 v1 v2 v3 v4 v5:Value} {t:TypeId} {fr:Nat × Nat} (h:w.heap[b]?=some (.cells #[x0,x1,x2,x3,x4,x5] t fr)):((((((w.setCell ⟨b,0,none⟩ v0).setCell ⟨b,1,none⟩ v1).setCell ⟨b,2,none⟩ v2).setCell ⟨b,3,none⟩ v3).setCell ⟨b,4,none⟩ v4).setCell ⟨b,5,none⟩ v5).heap[b]?=some (.cells #[v0,v1,v2,v3,v4,v5] t fr):=by
 rw [aG _ (aG _ (aG _ (aG _ (aG _ (aG _ h)))))];simp
theorem jY {w:World} {base b:Nat} {e t:TypeId} {size:Nat} {v:Value} {n:Nat} {xs:List Value} {cs:Array Value} {v0 v1 v2 v3 v4 v5:Value} (h:w.ownsRow base e size v n xs) (hb:w.heap[b]?=some (.cells cs t (0,0))) (hte:t≠e):((((((w.setCell ⟨b,0,none⟩ v0).setCell ⟨b,1,none⟩ v1).setCell ⟨b,2,none⟩ v2).setCell ⟨b,3,none⟩ v3).setCell ⟨b,4,none⟩ v4).setCell ⟨b,5,none⟩ v5).ownsRow base e size v n xs :=
 aI (aI (aI (aI (aI (aI h hb hte) (aG _ hb) hte) (aG _ (aG _ hb)) hte) (aG _ (aG _ (aG _ hb))) hte) (aG _ (aG _ (aG _ (aG _ hb)))) hte) (aG _ (aG _ (aG _ (aG _ (aG _ hb))))) hte
theorem rG {w:World} {rb L b:Nat} {F:Nat→List Nat} {cs:Array Value} {t:TypeId} {v0 v1 v2 v3 v4 v5:Value} (h:fQ w rb L F) (hb:w.heap[b]?=some (.cells cs t (0,0))) (h1:t≠25) (h2:t≠3):fQ ((((((w.setCell ⟨b,0,none⟩ v0).setCell ⟨b,1,none⟩ v1).setCell ⟨b,2,none⟩ v2).setCell ⟨b,3,none⟩ v3).setCell ⟨b,4,none⟩ v4).setCell ⟨b,5,none⟩ v5) rb L F :=
 (((((h.set hb h1 h2).set (aG _ hb) h1 h2).set (aG _ (aG _ hb)) h1 h2).set (aG _ (aG _ (aG _ hb))) h1 h2).set (aG _ (aG _ (aG _ (aG _ hb)))) h1 h2).set (aG _ (aG _ (aG _ (aG _ (aG _ hb))))) h1 h2
theorem lC {B:Nat} {w0 w:World} {b:Nat} {v0 v1 v2 v3 v4 v5:Value} (h:Below B w0 w) (hb:B≤b):Below B w0 ((((((w.setCell ⟨b,0,none⟩ v0).setCell ⟨b,1,none⟩ v1).setCell ⟨b,2,none⟩ v2).setCell ⟨b,3,none⟩ v3).setCell ⟨b,4,none⟩ v4).setCell ⟨b,5,none⟩ v5) :=
 (((((h.setCell (p:=⟨b,0,none⟩) hb _).setCell (p:=⟨b,1,none⟩) hb _).setCell (p:=⟨b,2,none⟩) hb _).setCell (p:=⟨b,3,none⟩) hb _).setCell (p:=⟨b,4,none⟩) hb _).setCell (p:=⟨b,5,none⟩) hb _
structure LY (w:World) (ns:List Nd) (t:Tm) (rb1 cK:Nat) (v4 v5:Value):Prop where
 nx:fQ w rb1 ns.length (iQ ns)
 ah:fQ w cK ns.length (gJ ns)
 rk:w.ownsRow 0 4 1 v4 ns.length ((nC ns t).map Value.bool)
 kp:w.ownsRow 0 4 1 v5 ns.length ((yS ns t).map Value.bool)
theorem LY.below {w w' :World} {ns:List Nd} {t:Tm} {rb1 cK:Nat} {v4 v5:Value} (h:LY w ns t rb1 cK v4 v5) (hb:Below w.heap.size w w'):LY w' ns t rb1 cK v4 v5 :=
 ⟨h.nx.below hb,h.ah.below hb,ownsRow_below h.rk hb dD,ownsRow_below h.kp hb dD⟩
theorem LY.set {w:World} {ns:List Nd} {t:Tm} {rb1 cK b o:Nat} {v4 v5 u:Value} {cs:Array Value} {ty:TypeId} (h:LY w ns t rb1 cK v4 v5) (hb:w.heap[b]?=some (.cells cs ty (0,0))) (h1:ty≠25) (h2:ty≠3) (h3:ty≠4):LY (w.setCell ⟨b,o,none⟩ u) ns t rb1 cK v4 v5 :=
 ⟨h.nx.set hb h1 h2,h.ah.set hb h1 h2,aI h.rk hb h3,aI h.kp hb h3⟩
theorem LY.a9X {w:World} {ns:List Nd} {t:Tm} {rb1 cK b:Nat} {v4' v5' v0 v1 v2 v3 v4 v5:Value} {cs:Array Value} {ty:TypeId} (h:LY w ns t rb1 cK v4' v5') (hb:w.heap[b]?=some (.cells cs ty (0,0))) (h1:ty≠25) (h2:ty≠3) (h3:ty≠4):LY ((((((w.setCell ⟨b,0,none⟩ v0).setCell ⟨b,1,none⟩ v1).setCell ⟨b,2,none⟩ v2).setCell ⟨b,3,none⟩ v3).setCell ⟨b,4,none⟩ v4).setCell ⟨b,5,none⟩ v5) ns t rb1 cK v4' v5' :=
 ⟨rG h.nx hb h1 h2,rG h.ah hb h1 h2,jY h.rk hb h3,jY h.kp hb h3⟩
theorem LY.read {w:World} {ns:List Nd} {t:Tm} {rb1 cK kc pc:Nat} {ka pa:Option Addr} (h:LY w ns t rb1 cK (.slice ka ns.length kc) (.slice pa ns.length pc)):SM w ns t rb1 cK ka pa :=
 ⟨h.nx.read,h.ah.read,bC h.rk (uM _ _),bC h.kp (xC _ _)⟩
theorem MH (x:List Bool):(List.range x.length).map (aM x)=x:=by
 refine List.ext_getElem aQ fun i h1 h2=>?_
 simp [aM,h2]
theorem aXU (ns:List Nd) (t:Tm):(List.range ns.length).map (fun n=>aM (ns.map (nP t)) n)=nC ns t:=by
 have:=MH (ns.map (nP t))
 rwa [List.length_map] at this
theorem aXV (ns:List Nd) (t:Tm):(List.range ns.length).map (fun n=>aM (ns.map (vE t)) n)=yS ns t:=by
 have:=MH (ns.map (vE t))
 rwa [List.length_map] at this
def jD (w W:World) (r:Int) (b off cap:Nat) (ns:List Nd) (t:Tm) (listed:Array Bool) (a:Act) (w' :World):Prop:=∃ u5 u6 u7 u8 u9 u10 u11:Value,listed.size=8∧a={ tmps:=#[.agg #[.int .i64 r,.slice (some ⟨b,off,none⟩) ns.length cap],.agg #[.int .i64 t.op,.int .i64 t.a,.int .i64 t.b],.pointer (some ⟨w.heap.size,0,none⟩),.pointer (some ⟨w.heap.size+1,0,none⟩),.pointer (some ⟨w.heap.size+2,0,none⟩),u5,u6,u7,u8,u9,u10,u11,undef,undef,undef,undef,undef,undef,undef,undef,undef],defers:=[] }∧((listed.getD 7 false=false∧Below W.heap.size W w' ∧(listed.getD 0 false=true→u6=.agg #[.int .i64 r,.slice (some ⟨b,off,none⟩) ns.length cap])∧(listed.getD 1 false=true→u7=.agg #[.int .i64 r,.slice (some ⟨b,off,none⟩) ns.length cap])∧(listed.getD 2 false=true→∃ rb1,u8=.slice (some ⟨rb1,0,none⟩) ns.length ns.length∧fQ w' rb1 ns.length (iQ ns))∧(listed.getD 3 false=true→u9=.agg #[.int .i64 r,.slice (some ⟨b,off,none⟩) ns.length cap])∧(listed.getD 4 false=true→∃ cK,u10=.slice (some ⟨cK,0,none⟩) ns.length ns.length∧fQ w' cK ns.length (gJ ns))∧(listed.getD 5 false=true→∃ rb1 cK,u8=.slice (some ⟨rb1,0,none⟩) ns.length ns.length∧u10=.slice (some ⟨cK,0,none⟩) ns.length ns.length∧u11=.agg #[.int .i64 r,.slice (some ⟨b,off,none⟩) ns.length cap,.slice (some ⟨rb1,0,none⟩) ns.length ns.length,.slice (some ⟨cK,0,none⟩) ns.length ns.length,.slice none 0 0,.slice none 0 0])∧(listed.getD 6 false=true→∃ s,u5=.pointer (some ⟨s,0,none⟩)∧W.heap.size≤s∧w'.heap[s]?=some (.cells #[.int .i64 0,.slice none 0 0,.slice none 0 0,.slice none 0 0,.slice none 0 0,.slice none 0 0] 208 (0,0))))∨(listed.getD 7 false=true∧(∀ j,j<7→listed.getD j false=true)∧∃ s rb1 cK,u5=.pointer (some ⟨s,0,none⟩)∧W.heap.size≤s∧w'.heap[s]?=some (.cells #[.int .i64 r,.slice (some ⟨b,off,none⟩) ns.length cap,.slice (some ⟨rb1,0,none⟩) ns.length ns.length,.slice (some ⟨cK,0,none⟩) ns.length ns.length,.slice none 0 0,.slice none 0 0] 208 (0,0))∧fQ w' rb1 ns.length (iQ ns)∧fQ w' cK ns.length (gJ ns)∧Below W.heap.size W w'))
theorem aNO (r:Int) (b off cap:Nat) (ns:List Nd) (t:Tm) (w:World) (hN:aH w b off ns) (hc:bM r ns=0) (ht:3≤t.op∧t.op≤8) :
 CallsIn Fence.wide 1 Tryz.prog 164 #[.agg #[.int .i64 r,.slice (some ⟨b,off,none⟩) ns.length cap],.agg #[.int .i64 t.op,.int .i64 t.a,.int .i64 t.b]] w fun e w' =>∃ rb1 cK ka pa kc pc,e=.returned (.agg #[.int .i64 r,.slice (some ⟨b,off,none⟩) ns.length cap,.slice (some ⟨rb1,0,none⟩) ns.length ns.length,.slice (some ⟨cK,0,none⟩) ns.length ns.length,.slice ka ns.length kc,.slice pa ns.length pc])∧LY w' ns t rb1 cK (.slice ka ns.length kc) (.slice pa ns.length pc)∧Below w.heap.size w w' :=by
 have hl:=(bB hc).1
 have eg1:∀ args w,(callFunc 193 args).run Tryz.prog w=.ok (.enter 193 args) w:=enters_of Tryz.func193 fJ rfl
 have eg2:∀ args w,(callFunc 194 args).run Tryz.prog w=.ok (.enter 194 args) w:=enters_of Tryz.func194 fJ rfl
 refine callsIn_of_wp Tryz.func164 rfl trivial ?_ rfl
 simp only [Tryz.ntmps164,List.size_toArray,List.length_cons,List.length_nil,Nat.reduceAdd,Nat.reduceSub,Array.replicate_succ,Array.replicate_zero,List.push_toArray,List.append_toArray,List.nil_append,List.cons_append]
 gi_upto_region 1 with fail
 obtain ⟨W,jU,hB0,p0,p1,p2⟩:=JE w (.cells #[.int .i64 r,.slice (some ⟨b,off,none⟩) ns.length cap] 24) (.cells #[.int .i64 t.op,.int .i64 t.a,.int .i64 t.b] 59) (.cells #[.int .i64 0,.slice none 0 0,.slice none 0 0,.slice none 0 0,.slice none 0 0,.slice none 0 0] 208)
 rw [jU.out]
 clear jU
 refine DZ fJ (jD w W r b off cap ns t) ?hg ?hsz ?h0 ?hs ?h1
 case hg =>
  intro ix o ho
  match ix,ho with
  | 0,ho | 1,ho | 2,ho | 3,ho | 4,ho | 5,ho | 6,ho | 7,ho=>simp at ho;subst ho;simp [Region.binds]
  | ix+8,ho=>simp at ho
 case hsz=>unfold jD;rintro listed a w' ⟨_,_,_,_,_,_,_,h,_⟩;simpa using h
 case h0 =>
  unfold jD
  refine ⟨_,_,_,_,_,_,_,aQ,rfl,Or.inl ⟨aQ,(Below.refl _ W).drew,aQ,aQ,aQ,aQ,aQ,aQ,aQ⟩⟩
 case hs =>
  intro listed a w' ix o hI
  unfold jD at hI
  revert hI
  rintro ⟨u5,u6,u7,u8,u9,u10,u11,hsz,rfl,hw⟩ hC ho hl' hd
  have aMP:ix<8:=(Array.getElem?_eq_some_iff.1 ho).1
  replace hl' :listed.getD ix false=false:=by
   simp only [Array.getD] at hl' ⊢
   rw [dif_pos aF] at hl' ⊢;exact hl'
  have keep:∀ j,j≠ix→(listed.setIfInBounds ix true).getD j false=listed.getD j false:=fun j hj=>getD_set_ne false (fun e=>hj e.symm)
  have aMQ:(listed.setIfInBounds ix true).getD ix false=true:=by simp [hsz,aMP]
  have hsz' :(listed.setIfInBounds ix true).size=8:=by simp [hsz]
  rcases hw with ⟨g7,hB,e0,e1,e2,e3,e4,e5,e6⟩ | ⟨g7,hall,_⟩
  case inr =>
   exfalso
   by_cases e:ix=7
   ·subst e;rw [g7] at hl'; cases hl'
   ·rw [hall ix aF] at hl'; cases hl'
  have hp0:=bP hB p0
  have c0:=aA hp0 0
  have c1:=aA hp0 1
  simp at c0 c1
  have pl:=aD hp0
  clear hp0
  match ix,aMP with
  | 0,_ =>
   simp at ho;subst ho
   clear hd
   go_simp
   unfold jD
   exact ⟨_,_,_,_,_,_,_,hsz', rfl,Or.inl ⟨(keep 7 aF).trans g7,hB,fun _=>rfl,fun h=>e1 (by rwa [keep 1 aF] at h),fun h=>e2 (by rwa [keep 2 aF] at h),fun h=>e3 (by rwa [keep 3 aF] at h),fun h=>e4 (by rwa [keep 4 aF] at h),fun h=>e5 (by rwa [keep 5 aF] at h),fun h=>e6 (by rwa [keep 6 aF] at h)⟩⟩
  | 1,_ =>
   simp at ho;subst ho
   clear hd
   go_simp
   unfold jD
   exact ⟨_,_,_,_,_,_,_,hsz', rfl,Or.inl ⟨(keep 7 aF).trans g7,hB,fun h=>e0 (by rwa [keep 0 aF] at h),fun _=>rfl,fun h=>e2 (by rwa [keep 2 aF] at h),fun h=>e3 (by rwa [keep 3 aF] at h),fun h=>e4 (by rwa [keep 4 aF] at h),fun h=>e5 (by rwa [keep 5 aF] at h),fun h=>e6 (by rwa [keep 6 aF] at h)⟩⟩
  | 3,_ =>
   simp at ho;subst ho
   clear hd
   go_simp
   unfold jD
   exact ⟨_,_,_,_,_,_,_,hsz', rfl,Or.inl ⟨(keep 7 aF).trans g7,hB,fun h=>e0 (by rwa [keep 0 aF] at h),fun h=>e1 (by rwa [keep 1 aF] at h),fun h=>e2 (by rwa [keep 2 aF] at h),fun _=>rfl,fun h=>e4 (by rwa [keep 4 aF] at h),fun h=>e5 (by rwa [keep 5 aF] at h),fun h=>e6 (by rwa [keep 6 aF] at h)⟩⟩
  | 2,_ =>
   simp at ho;subst ho
   have d1:listed.getD 1 false=true:=hd ⟨1,.data⟩ aQ rfl
   obtain rfl:=(e1 d1).symm
   clear hd
   have FX:=hN.below (bG hB0 hB) hN.lt
   go_simp
   refine ⟨trivial,(callsIn_wide.2 (kM r b off cap ns w' FX hc)).mono ?_⟩
   rintro e w2 ⟨rb1,rfl,hR,hb⟩
   have hB' :Below W.heap.size W w2:=bG hB hb
   unfold jD
   exact ⟨_,_,_,_,_,_,_,hsz', rfl,Or.inl ⟨(keep 7 aF).trans g7,hB', fun h=>e0 (by rwa [keep 0 aF] at h),fun h=>e1 (by rwa [keep 1 aF] at h),fun _=>⟨rb1,rfl,hR⟩,fun h=>e3 (by rwa [keep 3 aF] at h),fun h=>by obtain ⟨z,q1,q2⟩:=e4 (by rwa [keep 4 aF] at h);exact ⟨z,q1,q2.below hb⟩,fun h=>absurd (hC 5 _ rfl (by rwa [keep 5 aF] at h) ⟨2,.data⟩ aQ rfl) (by rw [hl'];simp),fun h=>by obtain ⟨z,q1,q2,q3⟩:=e6 (by rwa [keep 6 aF] at h);exact ⟨z,q1,q2,(Below.block hb _ (aD q3)).trans q3⟩⟩⟩
  | 4,_ =>
   simp at ho;subst ho
   have d3:listed.getD 3 false=true:=hd ⟨3,.data⟩ aQ rfl
   have d2:listed.getD 2 false=true:=hd ⟨2,.chain⟩ aQ rfl
   obtain rfl:=(e3 d3).symm
   clear hd
   have FX:=hN.below (bG hB0 hB) hN.lt
   go_simp
   refine ⟨trivial,(callsIn_wide.2 (jR r b off cap ns w' FX hc)).mono ?_⟩
   rintro e w2 ⟨cK,rfl,hR,hb⟩
   have hB' :Below W.heap.size W w2:=bG hB hb
   unfold jD
   exact ⟨_,_,_,_,_,_,_,hsz', rfl,Or.inl ⟨(keep 7 aF).trans g7,hB', fun h=>e0 (by rwa [keep 0 aF] at h),fun h=>e1 (by rwa [keep 1 aF] at h),fun h=>by obtain ⟨z,q1,q2⟩:=e2 (by rwa [keep 2 aF] at h);exact ⟨z,q1,q2.below hb⟩,fun h=>e3 (by rwa [keep 3 aF] at h),fun _=>⟨cK,rfl,hR⟩,fun h=>absurd (hC 5 _ rfl (by rwa [keep 5 aF] at h) ⟨4,.data⟩ aQ rfl) (by rw [hl'];simp),fun h=>by obtain ⟨z,q1,q2,q3⟩:=e6 (by rwa [keep 6 aF] at h);exact ⟨z,q1,q2,(Below.block hb _ (aD q3)).trans q3⟩⟩⟩
  | 5,_ =>
   simp at ho;subst ho
   have d0:listed.getD 0 false=true:=hd ⟨0,.data⟩ aQ rfl
   have d2:listed.getD 2 false=true:=hd ⟨2,.data⟩ aQ rfl
   have d4:listed.getD 4 false=true:=hd ⟨4,.data⟩ aQ rfl
   obtain rfl:=(e0 d0).symm
   obtain ⟨rb1,rfl,hR1⟩:=e2 d2
   obtain ⟨cK,rfl,hR2⟩:=e4 d4
   clear hd
   go_simp
   unfold jD
   exact ⟨_,_,_,_,_,_,_,hsz', rfl,Or.inl ⟨(keep 7 aF).trans g7,hB,fun h=>e0 (by rwa [keep 0 aF] at h),fun h=>e1 (by rwa [keep 1 aF] at h),fun h=>e2 (by rwa [keep 2 aF] at h),fun h=>e3 (by rwa [keep 3 aF] at h),fun h=>e4 (by rwa [keep 4 aF] at h),fun _=>⟨_,_,rfl,rfl,rfl⟩,fun h=>e6 (by rwa [keep 6 aF] at h)⟩⟩
  | 6,_ =>
   simp at ho;subst ho
   clear hd
   have hb:Below w'.heap.size w' (w'.alloc (.cells #[.int .i64 0,.slice none 0 0,.slice none 0 0,.slice none 0 0,.slice none 0 0,.slice none 0 0] 208)):=(Below.refl _ w').alloc dD _
   have hB' :Below W.heap.size W (w'.alloc (.cells #[.int .i64 0,.slice none 0 0,.slice none 0 0,.slice none 0 0,.slice none 0 0,.slice none 0 0] 208)):=bG hB hb
   have hnew:=World.alloc_heap_new w' (.cells #[.int .i64 0,.slice none 0 0,.slice none 0 0,.slice none 0 0,.slice none 0 0,.slice none 0 0] 208)
   go_simp
   unfold jD
   exact ⟨_,_,_,_,_,_,_,hsz', rfl,Or.inl ⟨(keep 7 aF).trans g7,hB', fun h=>e0 (by rwa [keep 0 aF] at h),fun h=>e1 (by rwa [keep 1 aF] at h),fun h=>by obtain ⟨z,q1,q2⟩:=e2 (by rwa [keep 2 aF] at h);exact ⟨z,q1,q2.below hb⟩,fun h=>e3 (by rwa [keep 3 aF] at h),fun h=>by obtain ⟨z,q1,q2⟩:=e4 (by rwa [keep 4 aF] at h);exact ⟨z,q1,q2.below hb⟩,fun h=>e5 (by rwa [keep 5 aF] at h),fun _=>⟨_,rfl,hB.size,hnew⟩⟩⟩
  | 7,_ =>
   simp at ho;subst ho
   have d6:listed.getD 6 false=true:=hd ⟨6,.data⟩ aQ rfl
   have d5:listed.getD 5 false=true:=hd ⟨5,.data⟩ aQ rfl
   have d0:listed.getD 0 false=true:=hd ⟨0,.phase⟩ aQ rfl
   have d1:listed.getD 1 false=true:=hd ⟨1,.phase⟩ aQ rfl
   have d2:listed.getD 2 false=true:=hd ⟨2,.phase⟩ aQ rfl
   have d3:listed.getD 3 false=true:=hd ⟨3,.phase⟩ aQ rfl
   have d4:listed.getD 4 false=true:=hd ⟨4,.phase⟩ aQ rfl
   obtain ⟨s,rfl,hsl,hsb⟩:=e6 d6
   obtain ⟨rb1,cK,rfl,rfl,rfl⟩:=e5 d5
   obtain ⟨x1,ex1,hR1⟩:=e2 d2
   obtain ⟨x2,ex2,hR2⟩:=e4 d4
   obtain rfl:rb1=x1:=by simpa using ex1
   obtain rfl:cK=x2:=by simpa using ex2
   clear hd
   have s0:=aA hsb 0
   have s1:=aA hsb 1
   have s2:=aA hsb 2
   have s3:=aA hsb 3
   have s4:=aA hsb 4
   have s5:=aA hsb 5
   simp at s0 s1 s2 s3 s4 s5
   have f0:=aC hsb 0
   have f1:=aC hsb 1
   have f2:=aC hsb 2
   have f3:=aC hsb 3
   have f4:=aC hsb 4
   have f5:=aC hsb 5
   have MI:=aD hsb
   have HSB:=aB hsb
   clear hsb e0 e1 e2 e3 e4 e5 e6 ex1 ex2
   go_simp
   unfold jD
   refine ⟨_,_,_,_,_,_,_,hsz', rfl,Or.inr ⟨aMQ,fun j hj=>?_,s,rb1,cK,rfl,hsl,?_,?_,?_,?_⟩⟩
   ·match j,hj with
    | 0,_=>exact (keep 0 aF).trans d0
    | 1,_=>exact (keep 1 aF).trans d1
    | 2,_=>exact (keep 2 aF).trans d2
    | 3,_=>exact (keep 3 aF).trans d3
    | 4,_=>exact (keep 4 aF).trans d4
    | 5,_=>exact (keep 5 aF).trans d5
    | 6,_=>exact (keep 6 aF).trans d6
    | jx+7,hj=>exact absurd hj aF
   ·exact qF HSB.out
   ·exact rG hR1 HSB.out aL aL
   ·exact rG hR2 HSB.out aL aL
   ·exact lC hB hsl
 case h1 =>
  intro listed a w' hI
  unfold jD at hI
  revert hI
  rintro ⟨u5,u6,u7,u8,u9,u10,u11,hsz,rfl,hw⟩ hall
  rcases hw with ⟨g7,_⟩ | ⟨_,_,s,rb1,cK,rfl,hsl,hsb,hR1,hR2,hB⟩
  ·rw [hall 7 aL] at g7;cases g7
  clear hall
  have hNv:=hN.below (bG hB0 hB) hN.lt
  have hPv:=bP hB p0
  have hTv:=bP hB p1
  have hsr:w.heap.size+2<W.heap.size:=aD p2
  have hea:=fun (U:World) (v4 v5:Value) (hU:Below W.heap.size W U)=>lX (fun n=>aM (ns.map (nP t)) n) 193 #[.pointer (some ⟨w.heap.size,0,none⟩),.pointer (some ⟨w.heap.size+1,0,none⟩)] r (some ⟨b,off,none⟩) ns.length cap (.slice (some ⟨rb1,0,none⟩) ns.length ns.length) (.slice (some ⟨cK,0,none⟩) ns.length ns.length) v4 v5 U hl.2 eg1 (fun i hi X hX=>aHG i _ _ r b off cap ns t X (hN.below (hB0.trans ((bG hU hX).mono hB0.size)) hN.lt) hi (((bG hU hX).block _ (aD p0)).trans p0) (((bG hU hX).block _ (aD p1)).trans p1) ht)
  have heb:=fun (U:World) (v4 v5:Value) (hU:Below W.heap.size W U)=>lX (fun n=>aM (ns.map (vE t)) n) 194 #[.pointer (some ⟨w.heap.size,0,none⟩),.pointer (some ⟨w.heap.size+1,0,none⟩)] r (some ⟨b,off,none⟩) ns.length cap (.slice (some ⟨rb1,0,none⟩) ns.length ns.length) (.slice (some ⟨cK,0,none⟩) ns.length ns.length) v4 v5 U hl.2 eg2 (fun i hi X hX=>aHH i _ _ r b off cap ns t X (hN.below (hB0.trans ((bG hU hX).mono hB0.size)) hN.lt) hi (((bG hU hX).block _ (aD p0)).trans p0) (((bG hU hX).block _ (aD p1)).trans p1) ht)
  simp only [aXU] at hea
  simp only [aXV] at heb
  have HEA:=aR (hea w' (.slice none 0 0) (.slice none 0 0) hB)
  have HEB:=aR heb
  have s0:=aA hsb 0
  have s1:=aA hsb 1
  have s2:=aA hsb 2
  have s3:=aA hsb 3
  have s4:=aA hsb 4
  have s5:=aA hsb 5
  simp at s0 s1 s2 s3 s4 s5
  have MI:=aD hsb
  have HSB:=aR hsb
  have HR1:=aR hR1
  have HR2:=aR hR2
  have HB:=aR hB
  have HB0:=aR hB0
  have rT:=aR p2
  clear hsb hR1 hR2 hB hB0 hea heb hNv hPv hTv p0 p1 p2 hN hc ht
  gi_upto_region 3 with (refine ⟨trivial,?_⟩;gi_at_call 192;refine (callsIn_wide.2 HEA.out).mono ?_;rintro e V1 ⟨v4,rfl,hv4,hb4⟩;obtain ⟨ka,kc,rfl⟩:=aU hv4;have hs4:=(hb4.block _ MI).trans HSB.out;have t4:=aA hs4 4;simp at t4;have u4:=aC hs4 4;have tlt:=aD hs4)
  have hs5:(V1.setCell ⟨s,4,none⟩ (.slice ka ns.length kc)).heap[s]?=some (.cells #[.int .i64 r,.slice (some ⟨b,off,none⟩) ns.length cap,.slice (some ⟨rb1,0,none⟩) ns.length ns.length,.slice (some ⟨cK,0,none⟩) ns.length ns.length,.slice ka ns.length kc,.slice none 0 0] 208 (0,0)):=by rw [aG _ hs4];simp
  have hBV:Below W.heap.size W (V1.setCell ⟨s,4,none⟩ (.slice ka ns.length kc)):=(bG HB.out hb4).setCell (p:=⟨s,4,none⟩) hsl _
  have m1:fQ (V1.setCell ⟨s,4,none⟩ (.slice ka ns.length kc)) rb1 ns.length (iQ ns):=(HR1.out.below hb4).set hs4 aL aL
  have m2:fQ (V1.setCell ⟨s,4,none⟩ (.slice ka ns.length kc)) cK ns.length (gJ ns):=(HR2.out.below hb4).set hs4 aL aL
  have m3:=aI (o:=4) (u:=.slice ka ns.length kc) (aK hv4 (Nat.zero_le _)) hs4 aL
  clear s0 s1 s2 s3 s4 s5 t4 u4 hs4 hv4 hb4 HEA
  generalize (V1.setCell ⟨s,4,none⟩ (.slice ka ns.length kc))=V2 at hs5 hBV m1 m2 m3 ⊢
  have HEC:=aR (HEB.out V2 (.slice ka ns.length kc) (.slice none 0 0) hBV)
  have s0:=aA hs5 0
  have s1:=aA hs5 1
  have s2:=aA hs5 2
  have s3:=aA hs5 3
  have s4:=aA hs5 4
  have s5:=aA hs5 5
  simp at s0 s1 s2 s3 s4 s5
  have a9Y:=aD hs5
  have a9Z:=aR hs5
  have ZT:=aR hBV
  have M1:=aR m1
  have M2:=aR m2
  have M3:=aR m3
  clear hs5 hBV m1 m2 m3
  gi_upto_region 4 with (refine ⟨trivial,?_⟩;gi_at_call 192;refine (callsIn_wide.2 HEC.out).mono ?_;rintro e V3 ⟨v5,rfl,hv5,hb5⟩;obtain ⟨pa,pc,rfl⟩:=aU hv5;have hs6:=(hb5.block _ a9Y).trans a9Z.out;have t5:=aA hs6 5;simp at t5;have u5:=aC hs6 5;have bJZ:=aD hs6)
  have hs7:(V3.setCell ⟨s,5,none⟩ (.slice pa ns.length pc)).heap[s]?=some (.cells #[.int .i64 r,.slice (some ⟨b,off,none⟩) ns.length cap,.slice (some ⟨rb1,0,none⟩) ns.length ns.length,.slice (some ⟨cK,0,none⟩) ns.length ns.length,.slice ka ns.length kc,.slice pa ns.length pc] 208 (0,0)):=by rw [aG _ hs6];simp
  have hBV:Below W.heap.size W (V3.setCell ⟨s,5,none⟩ (.slice pa ns.length pc)):=(bG ZT.out hb5).setCell (p:=⟨s,5,none⟩) hsl _
  have hM:LY (V3.setCell ⟨s,5,none⟩ (.slice pa ns.length pc)) ns t rb1 cK (.slice ka ns.length kc) (.slice pa ns.length pc):=⟨(M1.out.below hb5).set hs6 aL aL,(M2.out.below hb5).set hs6 aL aL,aI (ownsRow_below M3.out hb5 dD) hs6 aL,aI (aK hv5 (Nat.zero_le _)) hs6 aL⟩
  clear s0 s1 s2 s3 s4 s5 t5 u5 hs6 hv5 hb5 HEC HEB
  generalize (V3.setCell ⟨s,5,none⟩ (.slice pa ns.length pc))=V4 at hs7 hBV hM ⊢
  have s0:=aA hs7 0
  have s1:=aA hs7 1
  have s2:=aA hs7 2
  have s3:=aA hs7 3
  have s4:=aA hs7 4
  have s5:=aA hs7 5
  simp at s0 s1 s2 s3 s4 s5
  have bKA:=aD hs7
  have hR4:=(hBV.block _ hsr).trans rT.out
  have y0:=aA hR4 0
  have y1:=aA hR4 1
  have y2:=aA hR4 2
  have y3:=aA hR4 3
  have y4:=aA hR4 4
  have y5:=aA hR4 5
  simp at y0 y1 y2 y3 y4 y5
  have z0:=aC hR4 0
  have z1:=aC hR4 1
  have z2:=aC hR4 2
  have z3:=aC hR4 3
  have z4:=aC hR4 4
  have z5:=aC hR4 5
  have ylt:=aD hR4
  have HR4:=aR hR4
  have bAA:=aR hBV
  have HM:=aR hM
  clear hs7 hBV hM hR4 hsr
  gi_wp2
  have hk:=qF (v0:=.int .i64 r) (v1:=.slice (some ⟨b,off,none⟩) ns.length cap) (v2:=.slice (some ⟨rb1,0,none⟩) ns.length ns.length) (v3:=.slice (some ⟨cK,0,none⟩) ns.length ns.length) (v4:=.slice ka ns.length kc) (v5:=.slice pa ns.length pc) HR4.out
  have k0:=aA hk 0
  have k1:=aA hk 1
  have k2:=aA hk 2
  have k3:=aA hk 3
  have k4:=aA hk 4
  have k5:=aA hk 5
  simp at k0 k1 k2 k3 k4 k5
  refine bodyPost_ret (v:=.agg #[.int .i64 r,.slice (some ⟨b,off,none⟩) ns.length cap,.slice (some ⟨rb1,0,none⟩) ns.length ns.length,.slice (some ⟨cK,0,none⟩) ns.length ns.length,.slice ka ns.length kc,.slice pa ns.length pc]) (by simp [results,Tryz.results164,go_sem,k0,k1,k2,k3,k4,k5]) rfl ⟨rb1,cK,ka,pa,kc,pc,rfl,HM.out.a9X HR4.out aL aL aL,lC (bG HB0.out bAA.out) aF⟩
theorem qG {r:Int} {ns:List Nd} {t:Tm} (h:iP r ns t=0):bM r ns=0∧(3≤t.op∧t.op≤8)∧((0≤t.a∧t.a<r)∧(0≤t.b∧t.b<r)):=by
 unfold iP at h
 by_cases h1:bM r ns=0
 ·rw [if_pos h1] at h
  by_cases h2:3≤t.op∧t.op≤8
  ·rw [if_pos h2] at h
   by_cases h3:(0≤t.a∧t.a<r)∧(0≤t.b∧t.b<r)
   ·exact ⟨h1,h2,h3⟩
   ·rw [if_neg h3] at h;cases h
  ·rw [if_neg h2] at h;cases h
 ·rw [if_neg h1] at h;exact absurd h h1
theorem WZ (r:Int) (a:Option Addr) (cap:Nat) (ns:List Nd) (t:Tm) (w:World) (hN:pI w a ns) (hc:iP r ns t≠0) :
 Calls Tryz.prog 125 #[.agg #[.int .i64 r,.slice a ns.length cap],.agg #[.int .i64 t.op,.int .i64 t.a,.int .i64 t.b]] w fun e w' =>e=.returned (.tuple #[.agg #[.slice none 0 0,.slice none 0 0,.slice none 0 0,.slice none 0 0,.slice none 0 0,.slice none 0 0],.int .i64 (iP r ns t)])∧Below w.heap.size w w' :=by
 have hck:=fun W (h:Below w.heap.size w W)=>FW r a cap ns t W (hN.below h)
 generalize iP r ns t=C at hck hc ⊢
 have wX:=aB hck
 clear hck
 have hCb:(C==0)=false:=by simp [hc]
 obtain ⟨W,oG,hbA,p0,p1,p2⟩:=JE w (.cells #[.int .i64 r,.slice a ns.length cap] 24) (.cells #[.int .i64 t.op,.int .i64 t.a,.int .i64 t.b] 59) (.cells #[.slice none 0 0,.slice none 0 0,.slice none 0 0,.slice none 0 0,.slice none 0 0,.slice none 0 0] 159)
 go_enter Tryz.func125,Tryz.ntmps125
 go_upto_region 1 with fail
 rw [oG.out]
 clear oG
 rw [show w.heap.size+1+1=w.heap.size+2 from rfl]
 have q0:=aA p0 0
 have q1:=aA p0 1
 simp at q0 q1
 have t0:=aA p1 0
 have t1:=aA p1 1
 have t2:=aA p1 2
 simp at t0 t1 t2
 have pl:=aD p0
 have tl:=aD p1
 have HB:=aB hbA
 have rT:=aB p2
 clear hbA p0 p1 p2
 go_wp2_with fail
 refine (wX.out _ HB.out).mono ?_
 rintro e w1 ⟨rfl,hb1⟩
 have hR:=((hb1.block _ (aD rT.out))).trans rT.out
 have y0:=aA hR 0
 have y1:=aA hR 1
 have y2:=aA hR 2
 have y3:=aA hR 3
 have y4:=aA hR 4
 have y5:=aA hR 5
 simp at y0 y1 y2 y3 y4 y5
 have z0:=aC hR 0
 have z1:=aC hR 1
 have z2:=aC hR 2
 have z3:=aC hR 3
 have z4:=aC hR 4
 have z5:=aC hR 5
 have ylt:=aD hR
 have HR:=aB hR
 have HB1:=aB (bG HB.out hb1)
 clear hR hb1 q0 q1 t0 t1 t2
 go_wp2
 have hk:=qF (v0:=.slice none 0 0) (v1:=.slice none 0 0) (v2:=.slice none 0 0) (v3:=.slice none 0 0) (v4:=.slice none 0 0) (v5:=.slice none 0 0) HR.out
 have k0:=aA hk 0
 have k1:=aA hk 1
 have k2:=aA hk 2
 have k3:=aA hk 3
 have k4:=aA hk 4
 have k5:=aA hk 5
 simp at k0 k1 k2 k3 k4 k5
 exact bodyPost_ret (v:=.tuple #[.agg #[.slice none 0 0,.slice none 0 0,.slice none 0 0,.slice none 0 0,.slice none 0 0,.slice none 0 0],.int .i64 C]) (by simp [results,Tryz.results125,go_sem,k0,k1,k2,k3,k4,k5]) rfl ⟨rfl,lC HB1.out aF⟩
theorem XC (r:Int) (b off cap:Nat) (ns:List Nd) (t:Tm) (w:World) (hN:aH w b off ns) (hc:iP r ns t=0) :
 Calls Tryz.prog 125 #[.agg #[.int .i64 r,.slice (some ⟨b,off,none⟩) ns.length cap],.agg #[.int .i64 t.op,.int .i64 t.a,.int .i64 t.b]] w fun e w' =>∃ a0 a1 a2 a3 a4 a5 c0 c1 c2 c3 c4 c5,e=.returned (.tuple #[.agg #[.slice a0 ns.length c0,.slice a1 ns.length c1,.slice a2 ns.length c2,.slice a3 ns.length c3,.slice a4 ns.length c4,.slice a5 ns.length c5],.int .i64 0])∧(w'.ownsRow w.heap.size 4 1 (.slice a0 ns.length c0) ns.length ((dG ns t).map Value.bool)∧w'.ownsRow w.heap.size 4 1 (.slice a1 ns.length c1) ns.length ((sV ns t).map Value.bool)∧w'.ownsRow w.heap.size 4 1 (.slice a2 ns.length c2) ns.length ((dA ns t).map Value.bool)∧w'.ownsRow w.heap.size 4 1 (.slice a3 ns.length c3) ns.length ((dH ns t).map Value.bool)∧w'.ownsRow w.heap.size 4 1 (.slice a4 ns.length c4) ns.length ((dI ns t).map Value.bool)∧w'.ownsRow w.heap.size 4 1 (.slice a5 ns.length c5) ns.length ((fA ns t).map Value.bool))∧Below w.heap.size w w' :=by
 have hck:=fun W (h:Below w.heap.size w W)=>FW r (some ⟨b,off,none⟩) cap ns t W (Or.inr ⟨b,off,rfl,hN.below h hN.lt⟩)
 rw [hc] at hck
 obtain ⟨hcr,hto,_⟩:=qG hc
 have hl:=(bB hcr).1
 have hlk:=fun W (h:Below w.heap.size w W)=>callsIn_wide.1 (aNO r b off cap ns t W (hN.below h hN.lt) hcr hto)
 have wX:=aB hck
 have HLK:=aB hlk
 have HN:=aB hN
 have HC:=aB hcr
 have HL:=aB hl
 clear hck hlk hN hcr hl hto
 obtain ⟨W,yL,hbA,p0,p1,p2⟩:=JE w (.cells #[.int .i64 r,.slice (some ⟨b,off,none⟩) ns.length cap] 24) (.cells #[.int .i64 t.op,.int .i64 t.a,.int .i64 t.b] 59) (.cells #[.slice none 0 0,.slice none 0 0,.slice none 0 0,.slice none 0 0,.slice none 0 0,.slice none 0 0] 159)
 go_enter Tryz.func125,Tryz.ntmps125
 go_upto_region 1 with fail
 rw [yL.out]
 clear yL
 rw [show w.heap.size+1+1=w.heap.size+2 from rfl]
 have q0:=aA p0 0
 have q1:=aA p0 1
 simp at q0 q1
 have t0:=aA p1 0
 have t1:=aA p1 1
 have t2:=aA p1 2
 simp at t0 t1 t2
 have pl:=aD p0
 have tl:=aD p1
 have HB:=aB hbA
 have HP0:=aB p0
 have kH:=aB p1
 have rT:=aB p2
 clear hbA p0 p1 p2
 go_wp2_with fail
 refine (wX.out _ HB.out).mono ?_
 rintro e w1 ⟨rfl,hb1⟩
 have HB1:=aB (bG HB.out hb1)
 have hP:=(hb1.block _ pl).trans HP0.out
 have hT:=(hb1.block _ tl).trans kH.out
 have HR1:=aB (bP hb1 rT.out)
 clear hb1 q0 q1 t0 t1 t2 pl tl HB HP0 kH rT
 have q0:=aA hP 0
 have q1:=aA hP 1
 simp at q0 q1
 have t0:=aA hT 0
 have t1:=aA hT 1
 have t2:=aA hT 2
 simp at t0 t1 t2
 have pl:=aD hP
 have tl:=aD hT
 clear hP hT
 go_wp2_with fail
 refine (HLK.out _ HB1.out).mono ?_
 rintro e w2 ⟨rb1,cK,ka,pa,kc,pc,rfl,hM,hb2⟩
 clear q0 q1 t0 t1 t2 pl tl
 have HB2:=aB (bG HB1.out hb2)
 have HR2:=aB (bP hb2 HR1.out)
 have HM:=aB hM
 clear hM hb2 HB1 HR1 wX HLK
 go_upto_region 6 with fail
 have hS:(w2.alloc (.cells #[.int .i64 r,.slice (some ⟨b,off,none⟩) ns.length cap,.slice (some ⟨rb1,0,none⟩) ns.length ns.length,.slice (some ⟨cK,0,none⟩) ns.length ns.length,.slice ka ns.length kc,.slice pa ns.length pc] 208)).heap[w2.heap.size]?=some (.cells #[.int .i64 r,.slice (some ⟨b,off,none⟩) ns.length cap,.slice (some ⟨rb1,0,none⟩) ns.length ns.length,.slice (some ⟨cK,0,none⟩) ns.length ns.length,.slice ka ns.length kc,.slice pa ns.length pc] 208 (0,0)):=World.alloc_heap_new w2 _
 have hbS:Below w2.heap.size w2 (w2.alloc (.cells #[.int .i64 r,.slice (some ⟨b,off,none⟩) ns.length cap,.slice (some ⟨rb1,0,none⟩) ns.length ns.length,.slice (some ⟨cK,0,none⟩) ns.length ns.length,.slice ka ns.length kc,.slice pa ns.length pc] 208)):=dY
 have hMS:LY (w2.alloc (.cells #[.int .i64 r,.slice (some ⟨b,off,none⟩) ns.length cap,.slice (some ⟨rb1,0,none⟩) ns.length ns.length,.slice (some ⟨cK,0,none⟩) ns.length ns.length,.slice ka ns.length kc,.slice pa ns.length pc] 208)) ns t rb1 cK (.slice ka ns.length kc) (.slice pa ns.length pc):=HM.out.below hbS
 have hsz:(w2.alloc (.cells #[.int .i64 r,.slice (some ⟨b,off,none⟩) ns.length cap,.slice (some ⟨rb1,0,none⟩) ns.length ns.length,.slice (some ⟨cK,0,none⟩) ns.length ns.length,.slice ka ns.length kc,.slice pa ns.length pc] 208)).heap.size=w2.heap.size+1:=World.size_alloc _ _
 generalize (w2.alloc (.cells #[.int .i64 r,.slice (some ⟨b,off,none⟩) ns.length cap,.slice (some ⟨rb1,0,none⟩) ns.length ns.length,.slice (some ⟨cK,0,none⟩) ns.length ns.length,.slice ka ns.length kc,.slice pa ns.length pc] 208))=WS at hS hbS hMS hsz ⊢
 have hF0:=World.alloc_heap_new WS (.cells #[.slice none 0 0,.slice none 0 0,.slice none 0 0,.slice none 0 0,.slice none 0 0,.slice none 0 0] 159)
 have hbF:Below WS.heap.size WS (WS.alloc (.cells #[.slice none 0 0,.slice none 0 0,.slice none 0 0,.slice none 0 0,.slice none 0 0,.slice none 0 0] 159)):=dY
 have hF:(WS.alloc (.cells #[.slice none 0 0,.slice none 0 0,.slice none 0 0,.slice none 0 0,.slice none 0 0,.slice none 0 0] 159)).heap[w2.heap.size+1]?=some (.cells #[.slice none 0 0,.slice none 0 0,.slice none 0 0,.slice none 0 0,.slice none 0 0,.slice none 0 0] 159 (0,0)):=by rw [← hsz];exact hF0
 have hS' :(WS.alloc (.cells #[.slice none 0 0,.slice none 0 0,.slice none 0 0,.slice none 0 0,.slice none 0 0,.slice none 0 0] 159)).heap[w2.heap.size]?=some (.cells #[.int .i64 r,.slice (some ⟨b,off,none⟩) ns.length cap,.slice (some ⟨rb1,0,none⟩) ns.length ns.length,.slice (some ⟨cK,0,none⟩) ns.length ns.length,.slice ka ns.length kc,.slice pa ns.length pc] 208 (0,0)):=bP hbF hS
 have HB:=aB (HB2.out.trans ((bG hbS hbF).mono HB2.out.size))
 have HR:=aB (((bG hbS hbF).block _ (aD HR2.out)).trans HR2.out)
 have HM0:=aB (hMS.below hbF)
 try rw [hsz]
 have H2:=aB HB2.out.size
 have H3:Hid (w.heap.size+2<w2.heap.size):=aD HR2.out
 clear HB2 HR2 HM hS hbS hMS hF0 hbF hsz
 generalize (WS.alloc (.cells #[.slice none 0 0,.slice none 0 0,.slice none 0 0,.slice none 0 0,.slice none 0 0,.slice none 0 0] 159))=V0 at HB HR HM0 hF hS' ⊢
 have HF0:=aB hF
 have HS0:=aB hS'
 clear hF hS'
 have XD:=aB (aNK r b off cap ns t rb1 cK ka pa kc pc V0 (HN.out.below HB.out HN.out.lt) HC.out HM0.out.read)
 have hS:=HS0.out
 have hF:=HF0.out
 have s0:=aA hS 0
 have s1:=aA hS 1
 have s2:=aA hS 2
 have s3:=aA hS 3
 have s4:=aA hS 4
 have s5:=aA hS 5
 simp at s0 s1 s2 s3 s4 s5
 have MI:=aD hS
 have SF:=aD hF
 clear hS hF
 go_upto_region 7 with (go_at_call 165;refine XD.out.mono ?_;rintro e U ⟨v,rfl,hv,hb⟩;obtain ⟨a0,c0,rfl⟩:=aU hv;have hfu:=(hb.block _ SF).trans HF0.out;have g0:=aA hfu 0;simp at g0;have h0:=aC hfu 0;have flu:=aD hfu)
 have hF' :(U.setCell ⟨w2.heap.size+1,0,none⟩ (.slice a0 ns.length c0)).heap[w2.heap.size+1]?=some (.cells #[.slice a0 ns.length c0,.slice none 0 0,.slice none 0 0,.slice none 0 0,.slice none 0 0,.slice none 0 0] 159 (0,0)):=by rw [aG _ hfu];simp
 have hS' :(U.setCell ⟨w2.heap.size+1,0,none⟩ (.slice a0 ns.length c0)).heap[w2.heap.size]?=some (.cells #[.int .i64 r,.slice (some ⟨b,off,none⟩) ns.length cap,.slice (some ⟨rb1,0,none⟩) ns.length ns.length,.slice (some ⟨cK,0,none⟩) ns.length ns.length,.slice ka ns.length kc,.slice pa ns.length pc] 208 (0,0)):=aN _ ((hb.block _ MI).trans HS0.out) aF
 have hB' :Below w.heap.size w (U.setCell ⟨w2.heap.size+1,0,none⟩ (.slice a0 ns.length c0)):=(bG HB.out hb).setCell (p:=⟨w2.heap.size+1,0,none⟩) (by have:=H2.out;show _≤w2.heap.size+1;omega) _
 have hR' :(U.setCell ⟨w2.heap.size+1,0,none⟩ (.slice a0 ns.length c0)).heap[w.heap.size+2]?=some (.cells #[.slice none 0 0,.slice none 0 0,.slice none 0 0,.slice none 0 0,.slice none 0 0,.slice none 0 0] 159 (0,0)):=aN _ (bP hb HR.out) (by have:=H3.out;omega)
 have hM' :LY (U.setCell ⟨w2.heap.size+1,0,none⟩ (.slice a0 ns.length c0)) ns t rb1 cK (.slice ka ns.length kc) (.slice pa ns.length pc):=(HM0.out.below hb).set hfu aL aL aL
 have o0:=aI (o:=0) (u:=.slice a0 ns.length c0) (aK (base' :=w.heap.size) hv HB.out.size) hfu aL
 clear HB HR XD hb hv hfu g0 h0 s0 s1 s2 s3 s4 s5  MI SF flu HS0 HF0 HM0
 generalize (U.setCell ⟨w2.heap.size+1,0,none⟩ (.slice a0 ns.length c0))=V1 at hF' hS' hB' hR' hM' o0 ⊢
 have HF1:=aB hF'
 have HS1:=aB hS'
 have HB:=aB hB'
 have HR:=aB hR'
 have qV:=aB hM'
 have XE:=aB o0
 clear hF' hS' hB' hR' hM' o0
 have XD:=aB (aXS r b off cap ns t rb1 cK ka pa kc pc V1 (HN.out.below HB.out HN.out.lt) HC.out qV.out.read)
 have hS:=HS1.out
 have hF:=HF1.out
 have s0:=aA hS 0
 have s1:=aA hS 1
 have s2:=aA hS 2
 have s3:=aA hS 3
 have s4:=aA hS 4
 have s5:=aA hS 5
 simp at s0 s1 s2 s3 s4 s5
 have MI:=aD hS
 have SF:=aD hF
 clear hS hF
 go_upto_region 8 with (go_at_call 166;refine XD.out.mono ?_;rintro e U ⟨v,rfl,hv,hb⟩;obtain ⟨a1,c1,rfl⟩:=aU hv;have hfu:=(hb.block _ SF).trans HF1.out;have g1:=aA hfu 1;simp at g1;have h1:=aC hfu 1;have flu:=aD hfu)
 have hF' :(U.setCell ⟨w2.heap.size+1,1,none⟩ (.slice a1 ns.length c1)).heap[w2.heap.size+1]?=some (.cells #[.slice a0 ns.length c0,.slice a1 ns.length c1,.slice none 0 0,.slice none 0 0,.slice none 0 0,.slice none 0 0] 159 (0,0)):=by rw [aG _ hfu];simp
 have hS' :(U.setCell ⟨w2.heap.size+1,1,none⟩ (.slice a1 ns.length c1)).heap[w2.heap.size]?=some (.cells #[.int .i64 r,.slice (some ⟨b,off,none⟩) ns.length cap,.slice (some ⟨rb1,0,none⟩) ns.length ns.length,.slice (some ⟨cK,0,none⟩) ns.length ns.length,.slice ka ns.length kc,.slice pa ns.length pc] 208 (0,0)):=aN _ ((hb.block _ MI).trans HS1.out) aF
 have hB' :Below w.heap.size w (U.setCell ⟨w2.heap.size+1,1,none⟩ (.slice a1 ns.length c1)):=(bG HB.out hb).setCell (p:=⟨w2.heap.size+1,1,none⟩) (by have:=H2.out;show _≤w2.heap.size+1;omega) _
 have hR' :(U.setCell ⟨w2.heap.size+1,1,none⟩ (.slice a1 ns.length c1)).heap[w.heap.size+2]?=some (.cells #[.slice none 0 0,.slice none 0 0,.slice none 0 0,.slice none 0 0,.slice none 0 0,.slice none 0 0] 159 (0,0)):=aN _ (bP hb HR.out) (by have:=H3.out;omega)
 have hM' :LY (U.setCell ⟨w2.heap.size+1,1,none⟩ (.slice a1 ns.length c1)) ns t rb1 cK (.slice ka ns.length kc) (.slice pa ns.length pc):=(qV.out.below hb).set hfu aL aL aL
 have o0:=aI (o:=1) (u:=.slice a1 ns.length c1) (ownsRow_below XE.out hb dD) hfu aL
 have o1:=aI (o:=1) (u:=.slice a1 ns.length c1) (aK (base' :=w.heap.size) hv HB.out.size) hfu aL
 clear HB HR XD hb hv hfu g1 h1 s0 s1 s2 s3 s4 s5  MI SF flu HS1 HF1 qV XE
 generalize (U.setCell ⟨w2.heap.size+1,1,none⟩ (.slice a1 ns.length c1))=V2 at hF' hS' hB' hR' hM' o0 o1 ⊢
 have HF2:=aB hF'
 have HS2:=aB hS'
 have HB:=aB hB'
 have HR:=aB hR'
 have YZ:=aB hM'
 have XE:=aB o0
 have BF:=aB o1
 clear hF' hS' hB' hR' hM' o0 o1
 have XD:=aB (QE r b off cap ns t rb1 cK ka pa a0 a1 kc pc c0 c1 (.slice none 0 0) (.slice none 0 0) (.slice none 0 0) (.slice none 0 0) V2 HL.out.2 YZ.out.read (bC XE.out (fI _ _)) (bC BF.out (fI _ _)))
 have hS:=HS2.out
 have hF:=HF2.out
 have s0:=aA hS 0
 have s1:=aA hS 1
 have s2:=aA hS 2
 have s3:=aA hS 3
 have s4:=aA hS 4
 have s5:=aA hS 5
 simp at s0 s1 s2 s3 s4 s5
 have f0:=aA hF 0
 have f1:=aA hF 1
 have f2:=aA hF 2
 have f3:=aA hF 3
 have f4:=aA hF 4
 have f5:=aA hF 5
 simp at f0 f1 f2 f3 f4 f5
 have MI:=aD hS
 have SF:=aD hF
 clear hS hF
 go_upto_region 9 with (go_at_call 167;refine XD.out.mono ?_;rintro e U ⟨v,rfl,hv,hb⟩;obtain ⟨a2,c2,rfl⟩:=aU hv;have hfu:=(hb.block _ SF).trans HF2.out;have g2:=aA hfu 2;simp at g2;have h2:=aC hfu 2;have flu:=aD hfu)
 have hF' :(U.setCell ⟨w2.heap.size+1,2,none⟩ (.slice a2 ns.length c2)).heap[w2.heap.size+1]?=some (.cells #[.slice a0 ns.length c0,.slice a1 ns.length c1,.slice a2 ns.length c2,.slice none 0 0,.slice none 0 0,.slice none 0 0] 159 (0,0)):=by rw [aG _ hfu];simp
 have hS' :(U.setCell ⟨w2.heap.size+1,2,none⟩ (.slice a2 ns.length c2)).heap[w2.heap.size]?=some (.cells #[.int .i64 r,.slice (some ⟨b,off,none⟩) ns.length cap,.slice (some ⟨rb1,0,none⟩) ns.length ns.length,.slice (some ⟨cK,0,none⟩) ns.length ns.length,.slice ka ns.length kc,.slice pa ns.length pc] 208 (0,0)):=aN _ ((hb.block _ MI).trans HS2.out) aF
 have hB' :Below w.heap.size w (U.setCell ⟨w2.heap.size+1,2,none⟩ (.slice a2 ns.length c2)):=(bG HB.out hb).setCell (p:=⟨w2.heap.size+1,2,none⟩) (by have:=H2.out;show _≤w2.heap.size+1;omega) _
 have hR' :(U.setCell ⟨w2.heap.size+1,2,none⟩ (.slice a2 ns.length c2)).heap[w.heap.size+2]?=some (.cells #[.slice none 0 0,.slice none 0 0,.slice none 0 0,.slice none 0 0,.slice none 0 0,.slice none 0 0] 159 (0,0)):=aN _ (bP hb HR.out) (by have:=H3.out;omega)
 have hM' :LY (U.setCell ⟨w2.heap.size+1,2,none⟩ (.slice a2 ns.length c2)) ns t rb1 cK (.slice ka ns.length kc) (.slice pa ns.length pc):=(YZ.out.below hb).set hfu aL aL aL
 have o0:=aI (o:=2) (u:=.slice a2 ns.length c2) (ownsRow_below XE.out hb dD) hfu aL
 have o1:=aI (o:=2) (u:=.slice a2 ns.length c2) (ownsRow_below BF.out hb dD) hfu aL
 have o2:=aI (o:=2) (u:=.slice a2 ns.length c2) (aK (base' :=w.heap.size) hv HB.out.size) hfu aL
 clear HB HR XD hb hv hfu g2 h2 s0 s1 s2 s3 s4 s5 f0 f1 f2 f3 f4 f5 MI SF flu HS2 HF2 YZ XE BF
 generalize (U.setCell ⟨w2.heap.size+1,2,none⟩ (.slice a2 ns.length c2))=V3 at hF' hS' hB' hR' hM' o0 o1 o2 ⊢
 have HF3:=aB hF'
 have HS3:=aB hS'
 have HB:=aB hB'
 have HR:=aB hR'
 have KH:=aB hM'
 have XE:=aB o0
 have BF:=aB o1
 have DV:=aB o2
 clear hF' hS' hB' hR' hM' o0 o1 o2
 have XD:=aB (aHO r b off cap ns t rb1 cK ka pa a2 kc pc c2 (.slice a0 ns.length c0) (.slice a1 ns.length c1) (.slice none 0 0) (.slice none 0 0) (.slice none 0 0) V3 (HN.out.below HB.out HN.out.lt) HC.out KH.out.read (bC DV.out (by simp [dA])))
 have hS:=HS3.out
 have hF:=HF3.out
 have s0:=aA hS 0
 have s1:=aA hS 1
 have s2:=aA hS 2
 have s3:=aA hS 3
 have s4:=aA hS 4
 have s5:=aA hS 5
 simp at s0 s1 s2 s3 s4 s5
 have f0:=aA hF 0
 have f1:=aA hF 1
 have f2:=aA hF 2
 have f3:=aA hF 3
 have f4:=aA hF 4
 have f5:=aA hF 5
 simp at f0 f1 f2 f3 f4 f5
 have MI:=aD hS
 have SF:=aD hF
 clear hS hF
 go_upto_region 10 with (go_at_call 168;refine XD.out.mono ?_;rintro e U ⟨v,rfl,hv,hb⟩;obtain ⟨a3,c3,rfl⟩:=aU hv;have hfu:=(hb.block _ SF).trans HF3.out;have g3:=aA hfu 3;simp at g3;have h3:=aC hfu 3;have flu:=aD hfu)
 have hF' :(U.setCell ⟨w2.heap.size+1,3,none⟩ (.slice a3 ns.length c3)).heap[w2.heap.size+1]?=some (.cells #[.slice a0 ns.length c0,.slice a1 ns.length c1,.slice a2 ns.length c2,.slice a3 ns.length c3,.slice none 0 0,.slice none 0 0] 159 (0,0)):=by rw [aG _ hfu];simp
 have hS' :(U.setCell ⟨w2.heap.size+1,3,none⟩ (.slice a3 ns.length c3)).heap[w2.heap.size]?=some (.cells #[.int .i64 r,.slice (some ⟨b,off,none⟩) ns.length cap,.slice (some ⟨rb1,0,none⟩) ns.length ns.length,.slice (some ⟨cK,0,none⟩) ns.length ns.length,.slice ka ns.length kc,.slice pa ns.length pc] 208 (0,0)):=aN _ ((hb.block _ MI).trans HS3.out) aF
 have hB' :Below w.heap.size w (U.setCell ⟨w2.heap.size+1,3,none⟩ (.slice a3 ns.length c3)):=(bG HB.out hb).setCell (p:=⟨w2.heap.size+1,3,none⟩) (by have:=H2.out;show _≤w2.heap.size+1;omega) _
 have hR' :(U.setCell ⟨w2.heap.size+1,3,none⟩ (.slice a3 ns.length c3)).heap[w.heap.size+2]?=some (.cells #[.slice none 0 0,.slice none 0 0,.slice none 0 0,.slice none 0 0,.slice none 0 0,.slice none 0 0] 159 (0,0)):=aN _ (bP hb HR.out) (by have:=H3.out;omega)
 have hM' :LY (U.setCell ⟨w2.heap.size+1,3,none⟩ (.slice a3 ns.length c3)) ns t rb1 cK (.slice ka ns.length kc) (.slice pa ns.length pc):=(KH.out.below hb).set hfu aL aL aL
 have o0:=aI (o:=3) (u:=.slice a3 ns.length c3) (ownsRow_below XE.out hb dD) hfu aL
 have o1:=aI (o:=3) (u:=.slice a3 ns.length c3) (ownsRow_below BF.out hb dD) hfu aL
 have o2:=aI (o:=3) (u:=.slice a3 ns.length c3) (ownsRow_below DV.out hb dD) hfu aL
 have o3:=aI (o:=3) (u:=.slice a3 ns.length c3) (aK (base' :=w.heap.size) hv HB.out.size) hfu aL
 clear HB HR XD hb hv hfu g3 h3 s0 s1 s2 s3 s4 s5 f0 f1 f2 f3 f4 f5 MI SF flu HS3 HF3 KH XE BF DV
 generalize (U.setCell ⟨w2.heap.size+1,3,none⟩ (.slice a3 ns.length c3))=V4 at hF' hS' hB' hR' hM' o0 o1 o2 o3 ⊢
 have HF4:=aB hF'
 have HS4:=aB hS'
 have HB:=aB hB'
 have HR:=aB hR'
 have HM4:=aB hM'
 have XE:=aB o0
 have BF:=aB o1
 have DV:=aB o2
 have HO3:=aB o3
 clear hF' hS' hB' hR' hM' o0 o1 o2 o3
 have XD:=aB (aBX r b off cap ns t rb1 cK ka pa a3 kc pc c3 (.slice a0 ns.length c0) (.slice a1 ns.length c1) (.slice a2 ns.length c2) (.slice none 0 0) (.slice none 0 0) V4 HL.out.2 HM4.out.read (bC HO3.out (fI _ _)))
 have hS:=HS4.out
 have hF:=HF4.out
 have s0:=aA hS 0
 have s1:=aA hS 1
 have s2:=aA hS 2
 have s3:=aA hS 3
 have s4:=aA hS 4
 have s5:=aA hS 5
 simp at s0 s1 s2 s3 s4 s5
 have f0:=aA hF 0
 have f1:=aA hF 1
 have f2:=aA hF 2
 have f3:=aA hF 3
 have f4:=aA hF 4
 have f5:=aA hF 5
 simp at f0 f1 f2 f3 f4 f5
 have MI:=aD hS
 have SF:=aD hF
 clear hS hF
 go_upto_region 11 with (go_at_call 169;refine XD.out.mono ?_;rintro e U ⟨v,rfl,hv,hb⟩;obtain ⟨a4,c4,rfl⟩:=aU hv;have hfu:=(hb.block _ SF).trans HF4.out;have g4:=aA hfu 4;simp at g4;have h4:=aC hfu 4;have flu:=aD hfu)
 have hF' :(U.setCell ⟨w2.heap.size+1,4,none⟩ (.slice a4 ns.length c4)).heap[w2.heap.size+1]?=some (.cells #[.slice a0 ns.length c0,.slice a1 ns.length c1,.slice a2 ns.length c2,.slice a3 ns.length c3,.slice a4 ns.length c4,.slice none 0 0] 159 (0,0)):=by rw [aG _ hfu];simp
 have hS' :(U.setCell ⟨w2.heap.size+1,4,none⟩ (.slice a4 ns.length c4)).heap[w2.heap.size]?=some (.cells #[.int .i64 r,.slice (some ⟨b,off,none⟩) ns.length cap,.slice (some ⟨rb1,0,none⟩) ns.length ns.length,.slice (some ⟨cK,0,none⟩) ns.length ns.length,.slice ka ns.length kc,.slice pa ns.length pc] 208 (0,0)):=aN _ ((hb.block _ MI).trans HS4.out) aF
 have hB' :Below w.heap.size w (U.setCell ⟨w2.heap.size+1,4,none⟩ (.slice a4 ns.length c4)):=(bG HB.out hb).setCell (p:=⟨w2.heap.size+1,4,none⟩) (by have:=H2.out;show _≤w2.heap.size+1;omega) _
 have hR' :(U.setCell ⟨w2.heap.size+1,4,none⟩ (.slice a4 ns.length c4)).heap[w.heap.size+2]?=some (.cells #[.slice none 0 0,.slice none 0 0,.slice none 0 0,.slice none 0 0,.slice none 0 0,.slice none 0 0] 159 (0,0)):=aN _ (bP hb HR.out) (by have:=H3.out;omega)
 have hM' :LY (U.setCell ⟨w2.heap.size+1,4,none⟩ (.slice a4 ns.length c4)) ns t rb1 cK (.slice ka ns.length kc) (.slice pa ns.length pc):=(HM4.out.below hb).set hfu aL aL aL
 have o0:=aI (o:=4) (u:=.slice a4 ns.length c4) (ownsRow_below XE.out hb dD) hfu aL
 have o1:=aI (o:=4) (u:=.slice a4 ns.length c4) (ownsRow_below BF.out hb dD) hfu aL
 have o2:=aI (o:=4) (u:=.slice a4 ns.length c4) (ownsRow_below DV.out hb dD) hfu aL
 have o3:=aI (o:=4) (u:=.slice a4 ns.length c4) (ownsRow_below HO3.out hb dD) hfu aL
 have o4:=aI (o:=4) (u:=.slice a4 ns.length c4) (aK (base' :=w.heap.size) hv HB.out.size) hfu aL
 clear HB HR XD hb hv hfu g4 h4 s0 s1 s2 s3 s4 s5 f0 f1 f2 f3 f4 f5 MI SF flu HS4 HF4 HM4 XE BF DV HO3
 generalize (U.setCell ⟨w2.heap.size+1,4,none⟩ (.slice a4 ns.length c4))=V5 at hF' hS' hB' hR' hM' o0 o1 o2 o3 o4 ⊢
 have HF5:=aB hF'
 have HS5:=aB hS'
 have HB:=aB hB'
 have HR:=aB hR'
 have HM5:=aB hM'
 have XE:=aB o0
 have BF:=aB o1
 have DV:=aB o2
 have HO3:=aB o3
 have JH:=aB o4
 clear hF' hS' hB' hR' hM' o0 o1 o2 o3 o4
 have XD:=aB (aHP r b off cap ns t rb1 cK ka pa a4 kc pc c4 (.slice a0 ns.length c0) (.slice a1 ns.length c1) (.slice a2 ns.length c2) (.slice a3 ns.length c3) (.slice none 0 0) V5 (HN.out.below HB.out HN.out.lt) HC.out HM5.out.read (bC JH.out (by simp [dI])))
 have hS:=HS5.out
 have hF:=HF5.out
 have s0:=aA hS 0
 have s1:=aA hS 1
 have s2:=aA hS 2
 have s3:=aA hS 3
 have s4:=aA hS 4
 have s5:=aA hS 5
 simp at s0 s1 s2 s3 s4 s5
 have f0:=aA hF 0
 have f1:=aA hF 1
 have f2:=aA hF 2
 have f3:=aA hF 3
 have f4:=aA hF 4
 have f5:=aA hF 5
 simp at f0 f1 f2 f3 f4 f5
 have MI:=aD hS
 have SF:=aD hF
 clear hS hF
 go_upto_region 12 with (go_at_call 170;refine XD.out.mono ?_;rintro e U ⟨v,rfl,hv,hb⟩;obtain ⟨a5,c5,rfl⟩:=aU hv;have hfu:=(hb.block _ SF).trans HF5.out;have g5:=aA hfu 5;simp at g5;have h5:=aC hfu 5;have flu:=aD hfu)
 have hF' :(U.setCell ⟨w2.heap.size+1,5,none⟩ (.slice a5 ns.length c5)).heap[w2.heap.size+1]?=some (.cells #[.slice a0 ns.length c0,.slice a1 ns.length c1,.slice a2 ns.length c2,.slice a3 ns.length c3,.slice a4 ns.length c4,.slice a5 ns.length c5] 159 (0,0)):=by rw [aG _ hfu];simp
 have hS' :(U.setCell ⟨w2.heap.size+1,5,none⟩ (.slice a5 ns.length c5)).heap[w2.heap.size]?=some (.cells #[.int .i64 r,.slice (some ⟨b,off,none⟩) ns.length cap,.slice (some ⟨rb1,0,none⟩) ns.length ns.length,.slice (some ⟨cK,0,none⟩) ns.length ns.length,.slice ka ns.length kc,.slice pa ns.length pc] 208 (0,0)):=aN _ ((hb.block _ MI).trans HS5.out) aF
 have hB' :Below w.heap.size w (U.setCell ⟨w2.heap.size+1,5,none⟩ (.slice a5 ns.length c5)):=(bG HB.out hb).setCell (p:=⟨w2.heap.size+1,5,none⟩) (by have:=H2.out;show _≤w2.heap.size+1;omega) _
 have hR' :(U.setCell ⟨w2.heap.size+1,5,none⟩ (.slice a5 ns.length c5)).heap[w.heap.size+2]?=some (.cells #[.slice none 0 0,.slice none 0 0,.slice none 0 0,.slice none 0 0,.slice none 0 0,.slice none 0 0] 159 (0,0)):=aN _ (bP hb HR.out) (by have:=H3.out;omega)
 have hM' :LY (U.setCell ⟨w2.heap.size+1,5,none⟩ (.slice a5 ns.length c5)) ns t rb1 cK (.slice ka ns.length kc) (.slice pa ns.length pc):=(HM5.out.below hb).set hfu aL aL aL
 have o0:=aI (o:=5) (u:=.slice a5 ns.length c5) (ownsRow_below XE.out hb dD) hfu aL
 have o1:=aI (o:=5) (u:=.slice a5 ns.length c5) (ownsRow_below BF.out hb dD) hfu aL
 have o2:=aI (o:=5) (u:=.slice a5 ns.length c5) (ownsRow_below DV.out hb dD) hfu aL
 have o3:=aI (o:=5) (u:=.slice a5 ns.length c5) (ownsRow_below HO3.out hb dD) hfu aL
 have o4:=aI (o:=5) (u:=.slice a5 ns.length c5) (ownsRow_below JH.out hb dD) hfu aL
 have o5:=aI (o:=5) (u:=.slice a5 ns.length c5) (aK (base' :=w.heap.size) hv HB.out.size) hfu aL
 clear HB HR XD hb hv hfu g5 h5 s0 s1 s2 s3 s4 s5 f0 f1 f2 f3 f4 f5 MI SF flu HS5 HF5 HM5 XE BF DV HO3 JH
 generalize (U.setCell ⟨w2.heap.size+1,5,none⟩ (.slice a5 ns.length c5))=V6 at hF' hS' hB' hR' hM' o0 o1 o2 o3 o4 o5 ⊢
 have HF6:=aB hF'
 have HS6:=aB hS'
 have HB:=aB hB'
 have HR:=aB hR'
 have HM6:=aB hM'
 have XE:=aB o0
 have BF:=aB o1
 have DV:=aB o2
 have HO3:=aB o3
 have JH:=aB o4
 have RZ:=aB o5
 clear hF' hS' hB' hR' hM' o0 o1 o2 o3 o4 o5
 have hF:=HF6.out
 have hR:=HR.out
 have f0:=aA hF 0
 have f1:=aA hF 1
 have f2:=aA hF 2
 have f3:=aA hF 3
 have f4:=aA hF 4
 have f5:=aA hF 5
 simp at f0 f1 f2 f3 f4 f5
 have y0:=aA hR 0
 have y1:=aA hR 1
 have y2:=aA hR 2
 have y3:=aA hR 3
 have y4:=aA hR 4
 have y5:=aA hR 5
 simp at y0 y1 y2 y3 y4 y5
 have z0:=aC hR 0
 have z1:=aC hR 1
 have z2:=aC hR 2
 have z3:=aC hR 3
 have z4:=aC hR 4
 have z5:=aC hR 5
 have SF:=aD hF
 have ylt:=aD hR
 clear hF hR
 go_wp2
 have hk:=qF (v0:=.slice a0 ns.length c0) (v1:=.slice a1 ns.length c1) (v2:=.slice a2 ns.length c2) (v3:=.slice a3 ns.length c3) (v4:=.slice a4 ns.length c4) (v5:=.slice a5 ns.length c5) HR.out
 have k0:=aA hk 0
 have k1:=aA hk 1
 have k2:=aA hk 2
 have k3:=aA hk 3
 have k4:=aA hk 4
 have k5:=aA hk 5
 simp at k0 k1 k2 k3 k4 k5
 exact bodyPost_ret (v:=.tuple #[.agg #[.slice a0 ns.length c0,.slice a1 ns.length c1,.slice a2 ns.length c2,.slice a3 ns.length c3,.slice a4 ns.length c4,.slice a5 ns.length c5],.int .i64 0]) (by simp [results,Tryz.results125,go_sem,k0,k1,k2,k3,k4,k5]) rfl ⟨a0,a1,a2,a3,a4,a5,c0,c1,c2,c3,c4,c5,rfl,⟨jY XE.out HR.out aL,jY BF.out HR.out aL,jY DV.out HR.out aL,jY HO3.out HR.out aL,jY JH.out HR.out aL,jY RZ.out HR.out aL⟩,lC HB.out aF⟩
theorem tC (r:Int) (a:Option Addr) (cap:Nat) (ns:List Nd) (t:Tm) (w:World) (hN:pI w a ns) :
 Calls Tryz.prog 74 #[.agg #[.int .i64 r,.slice a ns.length cap],.agg #[.int .i64 t.op,.int .i64 t.a,.int .i64 t.b]] w fun e w' =>e=.returned (.int .i64 (iP r ns t))∧Below w.heap.size w w' :=by
 have HF:Hid (iP r ns t=if bM r ns=0 then (if 3≤t.op∧t.op≤8 then (if (0≤t.a∧t.a<r)∧(0≤t.b∧t.b<r) then 0 else 3) else 4) else bM r ns):=rfl
 generalize iP r ns t=C at HF ⊢
 have HN:=aB hN
 clear hN
 obtain ⟨W0,zW,hb0,hp0,hq0⟩:=VP w (.cells #[.int .i64 r,.slice a ns.length cap] 24) (.cells #[.int .i64 t.op,.int .i64 t.a,.int .i64 t.b] 59)
 go_enter Tryz.func74,Tryz.ntmps74
 go_upto_region 1 with fail
 rw [zW.out]
 clear zW
 have p0:=aA hp0 0
 have p1:=aA hp0 1
 have pl:=aD hp0
 have ql:=aD hq0
 simp at p0 p1
 have HB0:=aB hb0
 have HQ:=aB hq0
 have HP:=aB hp0
 clear hb0 hp0 hq0
 go_upto_region 2 with (go_at_call 15;refine (lJ r a cap ns _ (HN.out.below HB0.out)).mono ?_;rintro e w1 ⟨rfl,hb1⟩)
 have hB1:Below w.heap.size w w1:=bG HB0.out hb1
 have hp1:=(hb1.block _ pl).trans HP.out
 have hq1:=(hb1.block _ ql).trans HQ.out
 clear p0 p1 pl ql hb1 HP HQ HB0
 by_cases hc:bM r ns=0
 ·have hr:=(bB hc).2.1
  rw [hc]
  have z0:=aA hp1 0
  have y0:=aA hq1 0
  have y1:=aA hq1 1
  have y2:=aA hq1 2
  simp at z0 y0 y1 y2
  have pl:=aD hp1
  have ql:=aD hq1
  have HC:=aB hc
  clear hp1 hq1 hc
  have hw:IntKind.i64.wrap (r-1)=r-1:=by rw [IntWalk.i64_left];unfold wrap64;omega
  have HR:Hid (1≤r∧r≤64):=hr
  clear hr
  have H38:Hid (wi t.op 3 8=decide (3≤t.op∧t.op≤8)):=by show _=_;simp [wi]
  have HA:Hid (wi t.a 0 (r-1)=decide (0≤t.a∧t.a<r)):=by show _=_;simp only [wi];rw [Bool.eq_iff_iff];simp;omega
  have HBb:Hid (wi t.b 0 (r-1)=decide (0≤t.b∧t.b<r)):=by show _=_;simp only [wi];rw [Bool.eq_iff_iff];simp;omega
  have hre:=zF t.op w1
  have hwa:=dZ t.a 0 (r-1) w1
  have hwb:=dZ t.b 0 (r-1) w1
  generalize wi t.op 3 8=Q at H38 hre
  generalize wi t.a 0 (r-1)=QA at HA hwa
  generalize wi t.b 0 (r-1)=QB at HBb hwb
  have HRE:=aB hre
  have HWA:=aB hwa
  have HWB:=aB hwb
  clear hre hwa hwb
  cases Q
  ·go_wp2_with (first | (go_at_call 73;refine HRE.out.mono ?_;rintro e w2 ⟨rfl,rfl⟩))
   go_ret
   refine ⟨bU ?_,hB1⟩
   rw [HF.out,if_pos HC.out,if_neg (of_decide_eq_false H38.out.symm)]
  ·cases QA
   ·go_wp2_with (first | (go_at_call 73;refine HRE.out.mono ?_;rintro e w2 ⟨rfl,rfl⟩) | (go_at_call 16;refine HWA.out.mono ?_;rintro e w2 ⟨rfl,rfl⟩))
    go_ret
    refine ⟨bU ?_,hB1⟩
    rw [HF.out,if_pos HC.out,if_pos (of_decide_eq_true H38.out.symm),if_neg (fun h=>of_decide_eq_false HA.out.symm h.1)]
   ·cases QB
    ·go_wp2_with (first | (go_at_call 73;refine HRE.out.mono ?_;rintro e w2 ⟨rfl,rfl⟩) | (go_at_call 16;(first | with_reducible refine HWA.out.mono ?_ | with_reducible refine HWB.out.mono ?_);rintro e w2 ⟨rfl,rfl⟩))
     go_ret
     refine ⟨bU ?_,hB1⟩
     rw [HF.out,if_pos HC.out,if_pos (of_decide_eq_true H38.out.symm),if_neg (fun h=>of_decide_eq_false HBb.out.symm h.2)]
    ·go_wp2_with (first | (go_at_call 73;refine HRE.out.mono ?_;rintro e w2 ⟨rfl,rfl⟩) | (go_at_call 16;(first | with_reducible refine HWA.out.mono ?_ | with_reducible refine HWB.out.mono ?_);rintro e w2 ⟨rfl,rfl⟩))
     go_ret
     refine ⟨bU ?_,hB1⟩
     rw [HF.out,if_pos HC.out,if_pos (of_decide_eq_true H38.out.symm),if_pos ⟨of_decide_eq_true HA.out.symm,of_decide_eq_true HBb.out.symm⟩]
 ·have HC:=aB hc
  have hne:¬ (bM r ns=0):=hc
  clear hp1 hq1
  go_wp2
  go_ret
  refine ⟨bU ?_,hB1⟩
  rw [HF.out,if_neg HC.out]
theorem bQ {w:World} {B:Nat} {x0 x1 v0 v1:Value} {t:TypeId} (h:w.heap[B]?=some (.cells #[x0,x1] t (0,0))):((w.setCell ⟨B,0,none⟩ v0).setCell ⟨B,1,none⟩ v1).heap[B]?=some (.cells #[v0,v1] t (0,0)):=by
 rw [aG _ (aG _ h)];simp
theorem aW {w u:World} {B:Nat} {v0 v1:Value} (h:Below w.heap.size w u) (hB:w.heap.size≤B):Below w.heap.size w ((u.setCell ⟨B,0,none⟩ v0).setCell ⟨B,1,none⟩ v1) :=
 (h.setCell (p:=⟨B,0,none⟩) hB v0).setCell (p:=⟨B,1,none⟩) hB v1
theorem aCC (r:Int) (a:Option Addr) (cap:Nat) (ns:List Nd) (t:Tm) (w:World) (hN:pI w a ns) (hc:iP r ns t≠0) :
 Calls Tryz.prog 101 #[.agg #[.int .i64 r,.slice a ns.length cap],.agg #[.int .i64 t.op,.int .i64 t.a,.int .i64 t.b]] w fun e w' =>e=.returned (.tuple #[.agg #[.slice none 0 0,.slice none 0 0],.int .i64 (iP r ns t)])∧Below w.heap.size w w' :=by
 have HOF:=aB (fun W (h:Below w.heap.size w W)=>WZ r a cap ns t W (hN.below h) hc)
 have hCb:(iP r ns t==0)=false:=by simp [hc]
 have hCn:(iP r ns t != 0)=true:=by simp [hc]
 clear hc hN
 generalize iP r ns t=C at *
 obtain ⟨W,jU,hbA,p0,p1,p2⟩:=JE w (.cells #[.int .i64 r,.slice a ns.length cap] 24) (.cells #[.int .i64 t.op,.int .i64 t.a,.int .i64 t.b] 59) (.cells #[.slice none 0 0,.slice none 0 0] 126)
 go_enter Tryz.func101,Tryz.ntmps101
 go_upto_region 1 with fail
 rw [jU.out]
 clear jU
 try rw [show w.heap.size+1+1=w.heap.size+2 from rfl]
 have q0:=aA p0 0
 have q1:=aA p0 1
 simp at q0 q1
 have t0:=aA p1 0
 have t1:=aA p1 1
 have t2:=aA p1 2
 simp at t0 t1 t2
 have pl:=aD p0
 have tl:=aD p1
 have HB:=aB hbA
 have HR:=aB p2
 clear hbA p0 p1 p2
 go_wp2_with fail
 refine (HOF.out _ HB.out).mono ?_
 rintro e w1 ⟨rfl,hb1⟩
 have hR:=bP hb1 HR.out
 have y0:=aA hR 0
 have y1:=aA hR 1
 simp at y0 y1
 have z0:=aC hR 0
 have z1:=aC hR 1
 have ylt:=aD hR
 have HR1:=aB hR
 have HB1:=aB (bG HB.out hb1)
 clear hR hb1 q0 q1 t0 t1 t2 pl tl HB HR HOF
 have hbF:Below w1.heap.size w1 (w1.alloc (.cells #[.slice none 0 0,.slice none 0 0,.slice none 0 0,.slice none 0 0,.slice none 0 0,.slice none 0 0] 159)):=dY
 have HR2:=aB ((hbF.block _ ylt).trans HR1.out)
 have HB2:=aB (bG HB1.out hbF)
 clear hbF
 go_wp2
 have hk0:=bQ (v0:=.slice none 0 0) (v1:=.slice none 0 0) HR1.out
 have hB5:=aW (v0:=.slice none 0 0) (v1:=.slice none 0 0) HB1.out (B:=w.heap.size+2) aF
 have hk:=(Below.heap_alloc _ (.cells #[.slice none 0 0,.slice none 0 0,.slice none 0 0,.slice none 0 0,.slice none 0 0,.slice none 0 0] 159) _ (aD hk0)).trans hk0
 have k0:=aA hk 0
 have k1:=aA hk 1
 simp at k0 k1
 exact bodyPost_ret (v:=.tuple #[.agg #[.slice none 0 0,.slice none 0 0],.int .i64 C]) (by simp [results,Tryz.results101,go_sem,k0,k1]) rfl ⟨rfl,hB5.alloc hB5.size _⟩
theorem FY (r:Int) (b off cap:Nat) (ns:List Nd) (t:Tm) (w:World) (hN:aH w b off ns) (hc:iP r ns t=0) :
 Calls Tryz.prog 101 #[.agg #[.int .i64 r,.slice (some ⟨b,off,none⟩) ns.length cap],.agg #[.int .i64 t.op,.int .i64 t.a,.int .i64 t.b]] w fun e w' =>∃ a1 c1 a2 c2,e=.returned (.tuple #[.agg #[.slice a1 ns.length c1,.slice a2 ns.length c2],.int .i64 0])∧w'.ownsRow w.heap.size 4 1 (.slice a1 ns.length c1) ns.length ((bK ns t).map Value.bool)∧w'.ownsRow w.heap.size 4 1 (.slice a2 ns.length c2) ns.length ((aZ ns t).map Value.bool)∧Below w.heap.size w w' :=by
 have HOF:=aB (fun W (h:Below w.heap.size w W)=>XC r b off cap ns t W (hN.below h hN.lt) hc)
 obtain ⟨hcr,hto,_⟩:=qG hc
 have HL:=aB (bB hcr).1
 have HTO:=aB hto
 have HN:=aB hN
 clear hc hN hcr hto
 obtain ⟨W,zW,hbA,p0,p1,p2⟩:=JE w (.cells #[.int .i64 r,.slice (some ⟨b,off,none⟩) ns.length cap] 24) (.cells #[.int .i64 t.op,.int .i64 t.a,.int .i64 t.b] 59) (.cells #[.slice none 0 0,.slice none 0 0] 126)
 go_enter Tryz.func101,Tryz.ntmps101
 go_upto_region 1 with fail
 rw [zW.out]
 clear zW
 try rw [show w.heap.size+1+1=w.heap.size+2 from rfl]
 have q0:=aA p0 0
 have q1:=aA p0 1
 simp at q0 q1
 have t0:=aA p1 0
 have t1:=aA p1 1
 have t2:=aA p1 2
 simp at t0 t1 t2
 have pl:=aD p0
 have tl:=aD p1
 have HB:=aB hbA
 have HP:=aB p0
 have HT:=aB p1
 have HR:=aB p2
 clear hbA p0 p1 p2
 go_wp2_with fail
 refine (HOF.out _ HB.out).mono ?_
 rintro e w1 ⟨a0,a1,a2,a3,a4,a5,c0,c1,c2,c3,c4,c5,rfl,⟨o0,o1,o2,o3,o4,o5⟩,hb1⟩
 have hbF:Below w1.heap.size w1 (w1.alloc (.cells #[.slice a0 ns.length c0,.slice a1 ns.length c1,.slice a2 ns.length c2,.slice a3 ns.length c3,.slice a4 ns.length c4,.slice a5 ns.length c5] 159)):=dY
 have hF:(w1.alloc (.cells #[.slice a0 ns.length c0,.slice a1 ns.length c1,.slice a2 ns.length c2,.slice a3 ns.length c3,.slice a4 ns.length c4,.slice a5 ns.length c5] 159)).heap[w1.heap.size]?=some (.cells #[.slice a0 ns.length c0,.slice a1 ns.length c1,.slice a2 ns.length c2,.slice a3 ns.length c3,.slice a4 ns.length c4,.slice a5 ns.length c5] 159 (0,0)):=World.alloc_heap_new w1 _
 have iX:=aB (bG hb1 hbF)
 have HB2:=aB (bG HB.out iX.out)
 have Y0:Hid (aJ (w1.alloc (.cells #[.slice a0 ns.length c0,.slice a1 ns.length c1,.slice a2 ns.length c2,.slice a3 ns.length c3,.slice a4 ns.length c4,.slice a5 ns.length c5] 159)) a0 (dG ns t)):=(bC o0 (fI ns _)).below hbF
 have Y1:Hid (aJ (w1.alloc (.cells #[.slice a0 ns.length c0,.slice a1 ns.length c1,.slice a2 ns.length c2,.slice a3 ns.length c3,.slice a4 ns.length c4,.slice a5 ns.length c5] 159)) a1 (sV ns t)):=(bC o1 (fI ns _)).below hbF
 have Y2:Hid (aJ (w1.alloc (.cells #[.slice a0 ns.length c0,.slice a1 ns.length c1,.slice a2 ns.length c2,.slice a3 ns.length c3,.slice a4 ns.length c4,.slice a5 ns.length c5] 159)) a2 (dA ns t)):=(bC o2 (by simp [dA])).below hbF
 have Y3:Hid (aJ (w1.alloc (.cells #[.slice a0 ns.length c0,.slice a1 ns.length c1,.slice a2 ns.length c2,.slice a3 ns.length c3,.slice a4 ns.length c4,.slice a5 ns.length c5] 159)) a3 (dH ns t)):=(bC o3 (fI ns _)).below hbF
 have Y4:Hid (aJ (w1.alloc (.cells #[.slice a0 ns.length c0,.slice a1 ns.length c1,.slice a2 ns.length c2,.slice a3 ns.length c3,.slice a4 ns.length c4,.slice a5 ns.length c5] 159)) a4 (dI ns t)):=(bC o4 (by simp [dI])).below hbF
 have Y5:Hid (aJ (w1.alloc (.cells #[.slice a0 ns.length c0,.slice a1 ns.length c1,.slice a2 ns.length c2,.slice a3 ns.length c3,.slice a4 ns.length c4,.slice a5 ns.length c5] 159)) a5 (fA ns t)):=(bC o5 (fI ns _)).below hbF
 have hP:=(iX.out.block _ pl).trans HP.out
 have hT:=(iX.out.block _ tl).trans HT.out
 have HR2:=aB (bP iX.out HR.out)
 have hFs:w.heap.size+2<w1.heap.size:=by have h1:=aD HR.out;have h2:=hb1.size;omega
 clear o0 o1 o2 o3 o4 o5 hb1 q0 q1 t0 t1 t2 pl tl HB HR HP HT HOF iX
 go_upto_region 6 with fail
 generalize (w1.alloc (.cells #[.slice a0 ns.length c0,.slice a1 ns.length c1,.slice a2 ns.length c2,.slice a3 ns.length c3,.slice a4 ns.length c4,.slice a5 ns.length c5] 159))=V at hF hbF HB2 Y0 Y1 Y2 Y3 Y4 Y5 hP hT HR2 ⊢
 generalize w1.heap.size=FB at *
 have q0:=aA hP 0
 have q1:=aA hP 1
 simp at q0 q1
 have pl:=aD hP
 have HPL:=aB (aBW (fun n=>aM (dI ns t) n&&!aM (fA ns t) n) (fun n=>aM (nC ns t) n&&!(aM (dI ns t) n&&aM (fA ns t) n)) 126 127 #[.pointer (some ⟨FB,0,none⟩)] #[.pointer (some ⟨w.heap.size,0,none⟩),.pointer (some ⟨w.heap.size+1,0,none⟩),.pointer (some ⟨FB,0,none⟩)] r (some ⟨b,off,none⟩) ns.length cap V (by have:=HL.out;omega) (enters_of Tryz.func126 fJ rfl) (enters_of Tryz.func127 fJ rfl) (fun i hi U hU=>(aHM i FB ns.length (dI ns t) (fA ns t) a4 a5 c4 c5 U (by rw [aA (bP hU hF)];rfl) (by rw [aA (bP hU hF)];rfl) (aD (bP hU hF)) (Y4.out.below hU) (Y5.out.below hU) (by simp [dI]) (fI ns _) hi).mono fun e w' h=>⟨h.1,by rw [h.2];exact Below.refl _ _⟩) (fun i hi U hU=>aHN i w.heap.size (w.heap.size+1) FB r b off cap ns t (dI ns t) (fA ns t) a4 a5 c4 c5 U (HN.out.below (bG HB2.out hU) HN.out.lt) hi (bP hU hP) (bP hU hT) HTO.out (aD (bP hU hF)) (by rw [aA (bP hU hF)];rfl) (by rw [aA (bP hU hF)];rfl) (Y4.out.below hU) (Y5.out.below hU) (by simp [dI]) (fI ns _)))
 have HRV:=aB (aD HR2.out)
 clear hF hbF hT
 go_wp2_with fail
 refine HPL.out.mono ?_
 rintro e w2 ⟨x1,d1,x2,d2,rfl,hV1,hV2,hb2⟩
 have hR:=bP hb2 HR2.out
 have y0:=aA hR 0
 have y1:=aA hR 1
 simp at y0 y1
 have z0:=aC hR 0
 have z1:=aC hR 1
 have ylt:=aD hR
 have HR3:=aB hR
 have HB3:=aB (bG HB2.out hb2)
 have jU:=aB (aK hV1 (base' :=w.heap.size) HB2.out.size)
 have oG:=aB (aK hV2 (base' :=w.heap.size) HB2.out.size)
 clear hR hb2 q0 q1 pl hV1 hV2 HPL
 go_wp2
 have hk:=bQ (v0:=.slice x1 ns.length d1) (v1:=.slice x2 ns.length d2) HR3.out
 have T1:=aI (o:=1) (u:=.slice x2 ns.length d2) (aI (o:=0) (u:=.slice x1 ns.length d1) jU.out HR3.out aL) (aG (i:=0) (.slice x1 ns.length d1) HR3.out) aL
 have T2:=aI (o:=1) (u:=.slice x2 ns.length d2) (aI (o:=0) (u:=.slice x1 ns.length d1) oG.out HR3.out aL) (aG (i:=0) (.slice x1 ns.length d1) HR3.out) aL
 have k0:=aA hk 0
 have k1:=aA hk 1
 simp at k0 k1
 exact bodyPost_ret (v:=.tuple #[.agg #[.slice x1 ns.length d1,.slice x2 ns.length d2],.int .i64 0]) (by simp [results,Tryz.results101,go_sem,k0,k1]) rfl ⟨x1,d1,x2,d2,rfl,T1,T2,aW HB3.out aF⟩
theorem bAK (w:World) (o0 o1 o2:Obj):∃ W,Hid (((w.alloc o0).alloc o1).alloc o2=W)∧Below w.heap.size w W∧W.heap[w.heap.size]?=some o0∧W.heap[w.heap.size+1]?=some o1∧W.heap[w.heap.size+2]?=some o2:=by
 refine ⟨_,rfl,((dY).alloc aQ _).alloc bF _,?_,?_,?_⟩
 ·exact (Below.heap_alloc _ _ _ bF).trans ((Below.heap_alloc _ _ _ aQ).trans (World.alloc_heap_new w _))
 ·have:=World.alloc_heap_new (w.alloc o0) o1
  rw [World.size_alloc] at this
  exact (Below.heap_alloc _ _ _ aQ).trans this
 ·have:=World.alloc_heap_new ((w.alloc o0).alloc o1) o2
  rwa [World.size_alloc,World.size_alloc] at this
theorem tla {P:Program} {ops:Array Oper} {Q:Exit→Act→World→Prop} {md:Region.Mode} {S:World→Prop} {s fuel:Nat} {listed:Array Bool} {a a' :Act} {w w' :World} {oi:Oper} {v xv v' :Value} (i:Nat) (x y:Operand) (t:TypeId)
 (hr:(Builtin.append_ #[t,t] oi.type #[v,xv]).run P w=.ok v' w') (hS:S w') (h:S w' →wpAnyL P md ops Q S s fuel (listed.setIfInBounds i true) a' w') (hi:ops[i]?=some oi:=by rfl) (ho:oi.op=.call { callee:=.builtin .append,args:=#[x,y],argTypes:=#[t,t] }:=by rfl) (hx:a.eval x=v:=by rfl) (hy:a.eval y=xv:=by rfl) (hw:Region.wanted oi (yielded ops a.tmps)=true:=by as_aux_lemma=>kernel_rfl) (ha:a.put oi.dst v' =a' :=by (try simp only [Act.put,EH,EI,EJ]);rfl) (hrd:Region.ready md ops listed=[i]:=by as_aux_lemma=>kernel_rfl):wpAnyL P md ops Q S s (fuel+1) listed a w:=by
 refine tlr i (fun K hK=>?_) hi hrd
 rw [if_pos hw]
 unfold Oper.wp execOp
 simp only [ho,resolve,invoke,builtin,Sem.run_bind,Sem.run_pure,Result.andThen_ok,List.map_toArray,List.map_cons,List.map_nil,hx,hy,hr]
 show K (a.put oi.dst v') w'
 rw [ha]
 exact hK.out _ _ hS h
theorem aCD:(Tryz.prog.info? 4).map (fun i=>(i.zero,i.size,i.bytes))=some (some (.bool false),1,1):=by kernel_rfl
theorem aEJ {w:World} {base:Nat} {v:Value} {l:List Bool} (ty:TypeId) (h:w.ownsRow base 4 1 v l.length (l.map Value.bool)) (hb:base≤w.heap.size) (hl:l.length≤256) (z:Bool) :
 ∃ v' w', (Builtin.append_ #[73,73] ty #[v,.slice (some ⟨w.heap.size,0,none⟩) 1 1]).run Tryz.prog (w.alloc (.cells #[.bool z] 4))=.ok v' w' ∧w'.ownsRow base 4 1 v' (l++[z]).length ((l++[z]).map Value.bool)∧(w.alloc (.cells #[.bool z] 4)).grownBy w' v.ownBlock∧(v'.ownBlock=v.ownBlock∨v'.ownBlock=some (w.heap.size+1))∧Below base w w' :=by
 obtain ⟨i0,hi,hz0,hz1,hz2⟩:=info_parts aCD
 obtain ⟨v', w', hr,hv,hg,-,hat⟩:=run_append_own_at (P:=Tryz.prog) (w.alloc (.cells #[.bool z] 4)) base 73 ty 4 i0 (.bool false) 1 1 Tryz.underlying73 hi hz0 hz1 hz2 rfl aL v l.length (l.map Value.bool) (h.alloc _) ⟨w.heap.size,0,none⟩ 1 1 [.bool z] aQ (by
  intro j u hu
  match j,hu with
  | 0,hu =>
   simp at hu
   subst hu
   simp [Addr.add]
  | j+1,hu=>simp at hu) (by
   intro u hu
   simp at hu
   subst hu
   rfl) (by unfold maxLen;omega) aF bF
 refine ⟨v', w', hr,?_,hg,?_,((Below.refl base w).alloc hb _).grown hg bF (fun k e=>(eQ h k e).1)⟩
 ·rw [List.length_append,List.map_append];exact hv
 ·rw [World.size_alloc] at hat;exact hat
structure LZ (w1 w:World) (v1 v2:Value) (l1 l2:List Bool):Prop where
 box:w.heap[w1.heap.size]?=some (.cells #[v1,v2] 126 (0,0))
 r1:w.ownsRow (w1.heap.size+1) 4 1 v1 l1.length (l1.map Value.bool)
 r2:w.ownsRow (w1.heap.size+1) 4 1 v2 l2.length (l2.map Value.bool)
 dj:∀ g,v1.ownBlock=some g→v2.ownBlock≠some g
 bel:Below w1.heap.size w1 w
theorem LZ.drew {w1 w:World} {v1 v2:Value} {l1 l2:List Bool} (h:LZ w1 w v1 v2 l1 l2):LZ w1 w.drew v1 v2 l1 l2:=⟨h.box,h.r1,h.r2,h.dj,h.bel.drew⟩
theorem LZ.below {w1 w w' :World} {v1 v2:Value} {l1 l2:List Bool} (h:LZ w1 w v1 v2 l1 l2) (hb:Below w.heap.size w w'):LZ w1 w' v1 v2 l1 l2 :=
 ⟨bP hb h.box,ownsRow_below h.r1 hb dD,ownsRow_below h.r2 hb dD,h.dj,bG h.bel hb⟩
theorem LZ.app1 {w1 w:World} {v1 v2:Value} {l1 l2:List Bool} (h:LZ w1 w v1 v2 l1 l2) (ty:TypeId) (n:Nat) (hn:l1.length=n) (hl:n≤256) (z:Bool) :
 ∃ va vc w', (Builtin.append_ #[73,73] ty #[v1,.slice (some ⟨w.heap.size,0,none⟩) 1 1]).run Tryz.prog (w.alloc (.cells #[.bool z] 4))=.ok (.slice va (n+1) vc) w' ∧Below (w1.heap.size+1) w w' ∧LZ w1 (w'.setCell ⟨w1.heap.size,0,none⟩ (.slice va (n+1) vc)) (.slice va (n+1) vc) v2 (l1++[z]) l2:=by
 subst hn
 have hb:=aD h.box
 obtain ⟨v', w', hr,hv,hg,hat,hB⟩:=aEJ ty h.r1 hb hl z
 obtain ⟨va,vc,ET⟩:=aU hv
 rw [show (l1++[z]).length=l1.length+1 by simp] at ET
 subst ET
 have hx:=(hB.block w1.heap.size (Nat.lt_succ_self _)).trans h.box
 refine ⟨va,vc,w', hr,hB,?_,aI hv hx aL,aI (kZ (h.r2.alloc _) hg (fun g e e' =>h.dj g e' e)) hx aL,fun g e=>?_,(h.bel.trans (hB.mono (Nat.le_succ _))).setCell (p:=⟨w1.heap.size,0,none⟩) dD _⟩
 ·rw [aG _ hx];simp
 ·rcases hat with e1 | e1 <;> rw [e1] at e
  ·exact h.dj g e
  ·intro q
   have:=(eQ h.r2 g q).2.1
   simp at e
   omega
theorem LZ.bAL {w1 w:World} {v1 v2:Value} {l1 l2:List Bool} (h:LZ w1 w v1 v2 l1 l2) (ty:TypeId) (n:Nat) (hn:l2.length=n) (hl:n≤256) (z:Bool) :
 ∃ va vc w', (Builtin.append_ #[73,73] ty #[v2,.slice (some ⟨w.heap.size,0,none⟩) 1 1]).run Tryz.prog (w.alloc (.cells #[.bool z] 4))=.ok (.slice va (n+1) vc) w' ∧Below (w1.heap.size+1) w w' ∧LZ w1 (w'.setCell ⟨w1.heap.size,1,none⟩ (.slice va (n+1) vc)) v1 (.slice va (n+1) vc) l1 (l2++[z]):=by
 subst hn
 have hb:=aD h.box
 obtain ⟨v', w', hr,hv,hg,hat,hB⟩:=aEJ ty h.r2 hb hl z
 obtain ⟨va,vc,ET⟩:=aU hv
 rw [show (l2++[z]).length=l2.length+1 by simp] at ET
 subst ET
 have hx:=(hB.block w1.heap.size (Nat.lt_succ_self _)).trans h.box
 refine ⟨va,vc,w', hr,hB,?_,aI (kZ (h.r1.alloc _) hg (fun g e e' =>h.dj g e e')) hx aL,aI hv hx aL,fun g e q=>?_,(h.bel.trans (hB.mono (Nat.le_succ _))).setCell (p:=⟨w1.heap.size,1,none⟩) dD _⟩
 ·rw [aG _ hx];simp
 ·rcases hat with e1 | e1 <;> rw [e1] at q
  ·exact h.dj g e q
  ·have:=(eQ h.r1 g e).2.1
   simp at q
   omega
theorem LZ.new (w1:World):LZ w1 (w1.alloc (.cells #[.slice none 0 0,.slice none 0 0] 126)) (.slice none 0 0) (.slice none 0 0) [] [] :=
 ⟨World.alloc_heap_new w1 _,World.ownsRow_nil _ _ _ _,World.ownsRow_nil _ _ _ _,fun g e=>by simp [Value.ownBlock] at e,dY⟩
theorem MJ {w:World} {x k:Nat} {l:List Bool} (h:w.heap[x]?=some (.cells (l.map Value.bool).toArray 4 (0,0))) (hk:k<l.length):w.cell? ⟨x,k,none⟩=some (.bool (aM l k)):=by
 rw [aA h,List.getElem?_toArray,List.getElem?_map,kE hk];rfl
def upTo (f:Nat→Bool) (k:Nat):List Bool:=(List.range k).map f
theorem MK (f:Nat→Bool) (k:Nat):upTo f (k+1)=upTo f k++[f k]:=by simp [upTo,List.range_succ]
theorem tF (f:Nat→Bool) (k:Nat):(upTo f k).length=k:=by simp [upTo]
theorem aNR {w w1:World} {b R:Nat} {v:Value} {l:List Bool} {n:Nat} {x0 x1:Value} (h:w.ownsRow (w1.heap.size+1) 4 1 v l.length (l.map Value.bool)) (hR:w.heap[R]?=some (.cells #[x0,x1] 126 (0,0))) (hb:b+2<w1.heap.size) (hl:l.length=n) (u0 u1:Value):((w.setCell ⟨R,0,none⟩ u0).setCell ⟨R,1,none⟩ u1).ownsRow b 4 1 v n (l.map Value.bool):=by
 subst hl
 exact aI (aI (aK h aF) hR aL) (aG _ hR) aL
end Go.Proofs.YtegloodcbfalfaaGreatDoor
namespace Go.Proofs.YtegloodcbfalfaaGreatDoor
open Go
def fr (n:Nat) (f:Nat→Value):Array Value:=Array.ofFn (n:=n) (fun i=>f i.1)
def upd (f:Nat→Value) (i:Nat) (v:Value):Nat→Value:=fun k=>if k=i then v else f k
theorem upd_same (f:Nat→Value) (i:Nat) (v:Value):upd f i v i=v:=by simp [upd]
theorem upd_ne (f:Nat→Value) (i k:Nat) (v:Value) (h:k≠i):upd f i v k=f k:=by simp [upd,h]
theorem uN (n:Nat) (f:Nat→Value):(fr n f).size=n:=by simp [fr]
theorem QF {n:Nat} (f:Nat→Value) {k:Nat} (h:k<n):(fr n f)[k]?=some (f k):=by
 simp [fr,Array.getElem?_ofFn,h]
theorem aXX (n:Nat) (f:Nat→Value) (i:Nat) (v:Value):(fr n f).setIfInBounds i v=fr n (upd f i v):=by
 apply Array.ext
 ·rw [Array.size_setIfInBounds,uN,uN]
 ·intro k h1 h2
  rw [uN] at h2
  apply Option.some.inj
  rw [← Array.getElem?_eq_getElem h1,← Array.getElem?_eq_getElem (by rw [uN];exact h2),QF _ h2,Array.getElem?_setIfInBounds,uN]
  by_cases e:i=k
  ·rw [if_pos e,if_pos aF,e,upd_same]
  ·rw [if_neg e,QF f h2,upd_ne _ _ _ _ (Ne.symm e)]
theorem a3M (T:Array Value):T=fr T.size (fun k=>T.getD k undef):=by
 apply Array.ext
 ·simp [fr]
 ·intro k h1 h2
  simp [fr,Array.getD,h1]
theorem ML {P:Program} {c:Code} {Q:Exit→Act→World→Prop} {T:Array Value} {ds:List Deferred} {w:World} (h:∀ f:Nat→Value,(∀ k,f k=T.getD k undef)→Code.wp P c Q ⟨fr T.size f,ds⟩ w):Code.wp P c Q ⟨T,ds⟩ w:=by
 have:=h (fun k=>T.getD k undef) (fun _=>rfl)
 rw [← a3M T] at this
 exact this
def wr1 (T:Array Value) (g:Nat→Value) (s:Nat):Nat→Array Value
 | 0=>T
 | n+1=>(wr1 T g s n).setIfInBounds (s+n) (g (s+n))
theorem tH (T:Array Value) (g:Nat→Value) (s:Nat):∀ n,(wr1 T g s n).size=T.size
 | 0=>rfl
 | n+1=>by rw [wr1,Array.size_setIfInBounds,tH T g s n]
theorem aEK (T:Array Value) (g:Nat→Value) (s:Nat):∀ n k,k<T.size→(wr1 T g s n)[k]?=if s≤k∧k<s+n then some (g k) else T[k]?
 | 0,k,h=>by rw [if_neg aF];rfl
 | n+1,k,h=>by
  rw [wr1,Array.getElem?_setIfInBounds,tH]
  by_cases e:s+n=k
  ·rw [if_pos e,if_pos aF,if_pos aF,e]
  ·rw [if_neg e,aEK T g s n k h]
   by_cases q:s≤k∧k<s+n
   ·rw [if_pos q,if_pos aF]
   ·rw [if_neg q,if_neg aF]
theorem xJ {T:Array Value} {f g:Nat→Value} (s n:Nat) (hf:∀ k,f k=T.getD k undef) (hg:∀ k,k<s∨s+n≤k→g k=f k):fr T.size g=wr1 T g s n:=by
 apply Array.ext
 ·rw [uN,tH]
 ·intro k h1 h2
  rw [tH] at h2
  have a1:(fr T.size g)[k]?=some (g k):=QF g h2
  have a2:=aEK T g s n k h2
  apply Option.some.inj
  rw [← Array.getElem?_eq_getElem h1,← Array.getElem?_eq_getElem (by rw [tH];exact h2),a1,a2]
  split
  ·rfl
  ·rw [hg k aF,hf k,Array.getD_eq_getD_getElem?,Array.getElem?_eq_getElem h2];rfl
structure vS (F:(Nat→Value)→Array Value):Prop where
 get:∀ f k,k<429→(F f)[k]?=some (f k)
 set:∀ f i v,(F f).setIfInBounds i v=F (upd f i v)
theorem MM:vS (fr 429):=⟨fun f k h=>QF f h,fun f i v=>aXX 429 f i v⟩
section
variable {P:Program} {ops:Array Oper} {Q:Exit→Act→World→Prop} {md:Region.Mode} {S:World→Prop} {fuel:Nat} {listed:Array Bool} {w:World} {oi:Oper} {v:Value} {d:Nat} {F:(Nat→Value)→Array Value} {f:Nat→Value} {ds:List Deferred}
theorem tfw (i:Nat) (hF:vS F) (h:wpAnyH P md ops Q S fuel (listed.setIfInBounds i true) ⟨F (upd f d v),ds⟩ w) (hi:ops[i]?=some oi:=by rfl) (hd:oi.dst=some d:=by rfl) (hw:Region.wanted oi (yielded ops (F f))=true:=by first | rfl | (simp [Region.wanted,yielded,hF.get,upd, *];done) | (simp [Region.wanted,yielded,hF.get,upd, *];exact fun h=>nomatch h))
 (hv:∀ w,S w→(execOp (⟨F f,ds⟩:Act).eval oi).run P w=.ok (.value v) w:=by intro w hSw;(try dsimp only at hSw);go_simp;all_goals with_reducible rfl)
 (hQ:∀ c a w,Q (.panic c) (a.put (some d) v) w→Q (.panic c) a w:=by exact hQp _ _) (hs:Region.noSelect ops=true:=by as_aux_lemma=>kernel_rfl) (hf:Region.free md ops listed i=true:=by as_aux_lemma=>kernel_rfl) (hr:(Region.ready md ops listed).contains i=true:=by as_aux_lemma=>kernel_rfl) (hS:S w:=by assumption):wpAnyH P md ops Q S (fuel+1) listed ⟨F f,ds⟩ w :=
 wpAnyH_take hi hs hf hr (by rw [hd];exact hQ) (Or.inl ⟨hw,hv⟩) hS (by rw [hd];show wpAnyH P md ops Q S fuel _ ⟨(F f).setIfInBounds d _,ds⟩ w;rw [hF.set];exact h)
theorem tfx (i:Nat) (hF:vS F) (h:wpAnyH P md ops Q S fuel (listed.setIfInBounds i true) ⟨F (upd f d undef),ds⟩ w) (hi:ops[i]?=some oi:=by rfl) (hd:oi.dst=some d:=by rfl) (hw:Region.wanted oi (yielded ops (F f))=false:=by first | rfl | (simp [Region.wanted,yielded,hF.get,upd, *];done) | (simp [Region.wanted,yielded,hF.get,upd, *];exact fun h=>nomatch h))
 (hQ:∀ c a w,Q (.panic c) (a.put (some d) undef) w→Q (.panic c) a w:=by exact hQp _ _) (hs:Region.noSelect ops=true:=by as_aux_lemma=>kernel_rfl) (hf:Region.free md ops listed i=true:=by as_aux_lemma=>kernel_rfl) (hr:(Region.ready md ops listed).contains i=true:=by as_aux_lemma=>kernel_rfl) (hS:S w:=by assumption):wpAnyH P md ops Q S (fuel+1) listed ⟨F f,ds⟩ w :=
 wpAnyH_take (v:=undef) hi hs hf hr (by rw [hd];exact hQ) (Or.inr ⟨hw,rfl⟩) hS (by rw [hd];show wpAnyH P md ops Q S fuel _ ⟨(F f).setIfInBounds d _,ds⟩ w;rw [hF.set];exact h)
theorem tfv {k:Nat} (hF:vS F) (h:wpAnyH P md ops Q S fuel ((listed.setIfInBounds k true).setIfInBounds (k+1) true) ⟨F (upd f d v),ds⟩ w) (hi:ops[k+1]?=some oi:=by rfl) (hd:oi.dst=some d:=by rfl) (hw:Region.wanted oi (yielded ops (F f))=true:=by first | rfl | (simp [Region.wanted,yielded,hF.get,upd, *];done) | (simp [Region.wanted,yielded,hF.get,upd, *];exact fun h=>nomatch h))
 (hv:∀ w,S w→(execOp (⟨F f,ds⟩:Act).eval oi).run P w=.ok (.value v) w:=by intro w hSw;(try dsimp only at hSw);go_simp;all_goals with_reducible rfl)
 (hQ:∀ c a w,Q (.panic c) (a.put (some d) v) w→Q (.panic c) a w:=by exact hQp _ _) (hs:Region.noSelect ops=true:=by as_aux_lemma=>kernel_rfl) (hf:Region.free md ops (listed.setIfInBounds k true) (k+1)=true:=by as_aux_lemma=>kernel_rfl) (hr:(Region.ready md ops (listed.setIfInBounds k true)).contains (k+1)=true:=by as_aux_lemma=>kernel_rfl) (hS:S w:=by assumption):wpAnyH P md ops Q S (fuel+1) (listed.setIfInBounds k true) ⟨F f,ds⟩ w :=
 tfw (k+1) hF h hi hd hw hv hQ hs hf hr hS
theorem tfu {k:Nat} (hF:vS F) (h:wpAnyH P md ops Q S fuel ((listed.setIfInBounds k true).setIfInBounds (k+1) true) ⟨F (upd f d undef),ds⟩ w) (hi:ops[k+1]?=some oi:=by rfl) (hd:oi.dst=some d:=by rfl) (hw:Region.wanted oi (yielded ops (F f))=false:=by first | rfl | (simp [Region.wanted,yielded,hF.get,upd, *];done) | (simp [Region.wanted,yielded,hF.get,upd, *];exact fun h=>nomatch h))
 (hQ:∀ c a w,Q (.panic c) (a.put (some d) undef) w→Q (.panic c) a w:=by exact hQp _ _) (hs:Region.noSelect ops=true:=by as_aux_lemma=>kernel_rfl) (hf:Region.free md ops (listed.setIfInBounds k true) (k+1)=true:=by as_aux_lemma=>kernel_rfl) (hr:(Region.ready md ops (listed.setIfInBounds k true)).contains (k+1)=true:=by as_aux_lemma=>kernel_rfl) (hS:S w:=by assumption):wpAnyH P md ops Q S (fuel+1) (listed.setIfInBounds k true) ⟨F f,ds⟩ w :=
 tfx (k+1) hF h hi hd hw hQ hs hf hr hS
end
section
variable {P:Program} {ops:Array Oper} {Q:Exit→Act→World→Prop} {md:Region.Mode} {S:World→Prop} {s fuel:Nat} {listed:Array Bool} {w:World} {oi:Oper} {v:Value} {d:Nat} {F:(Nat→Value)→Array Value} {f:Nat→Value} {ds:List Deferred} {a:Act}
theorem tgw (i:Nat) (hF:vS F) (h:wpAnyL P md ops Q S s fuel (listed.setIfInBounds i true) ⟨F (upd f d v),ds⟩ w) (hi:ops[i]?=some oi:=by rfl) (hd:oi.dst=some d:=by rfl) (hw:Region.wanted oi (yielded ops (F f))=true:=by first | rfl | (simp [Region.wanted,yielded,hF.get,upd, *];done) | (simp [Region.wanted,yielded,hF.get,upd, *];exact fun h=>nomatch h))
 (hv:∀ w,S w→(execOp (⟨F f,ds⟩:Act).eval oi).run P w=.ok (.value v) w:=by intro w hSw;(try dsimp only at hSw);go_simp;all_goals with_reducible rfl)
 (hQ:∀ c a w,Q (.panic c) (a.put (some d) v) w→Q (.panic c) a w:=by exact hQp _ _) (hs:(Region.noSelect ops&&Region.free md ops listed i&&(Region.ready md ops listed).contains i&&waits md ops s i&&!listed.getD s true)=true:=by as_aux_lemma=>kernel_rfl) (hS:S w:=by assumption):wpAnyL P md ops Q S s (fuel+1) listed ⟨F f,ds⟩ w :=
 tlw i h hi hw hv (by rw [hd];show (⟨(F f).setIfInBounds d v,ds⟩:Act)=_;rw [hF.set]) (by rw [hd];exact hQ) hs hS
theorem tgx (i:Nat) (hF:vS F) (h:wpAnyL P md ops Q S s fuel (listed.setIfInBounds i true) ⟨F (upd f d undef),ds⟩ w) (hi:ops[i]?=some oi:=by rfl) (hd:oi.dst=some d:=by rfl) (hw:Region.wanted oi (yielded ops (F f))=false:=by first | rfl | (simp [Region.wanted,yielded,hF.get,upd, *];done) | (simp [Region.wanted,yielded,hF.get,upd, *];exact fun h=>nomatch h))
 (hQ:∀ c a w,Q (.panic c) (a.put (some d) undef) w→Q (.panic c) a w:=by exact hQp _ _) (hs:(Region.noSelect ops&&Region.free md ops listed i&&(Region.ready md ops listed).contains i&&waits md ops s i&&!listed.getD s true)=true:=by as_aux_lemma=>kernel_rfl) (hS:S w:=by assumption):wpAnyL P md ops Q S s (fuel+1) listed ⟨F f,ds⟩ w :=
 tlx i h hi hw (by rw [hd];show (⟨(F f).setIfInBounds d undef,ds⟩:Act)=_;rw [hF.set]) (by rw [hd];exact hQ) hs hS
theorem tgv {k:Nat} (hF:vS F) (h:wpAnyL P md ops Q S s fuel ((listed.setIfInBounds k true).setIfInBounds (k+1) true) ⟨F (upd f d v),ds⟩ w) (hi:ops[k+1]?=some oi:=by rfl) (hd:oi.dst=some d:=by rfl) (hw:Region.wanted oi (yielded ops (F f))=true:=by first | rfl | (simp [Region.wanted,yielded,hF.get,upd, *];done) | (simp [Region.wanted,yielded,hF.get,upd, *];exact fun h=>nomatch h))
 (hv:∀ w,S w→(execOp (⟨F f,ds⟩:Act).eval oi).run P w=.ok (.value v) w:=by intro w hSw;(try dsimp only at hSw);go_simp;all_goals with_reducible rfl)
 (hQ:∀ c a w,Q (.panic c) (a.put (some d) v) w→Q (.panic c) a w:=by exact hQp _ _) (hs:(Region.noSelect ops&&Region.free md ops (listed.setIfInBounds k true) (k+1)&&(Region.ready md ops (listed.setIfInBounds k true)).contains (k+1)&&waits md ops s (k+1)&&!(listed.setIfInBounds k true).getD s true)=true:=by as_aux_lemma=>kernel_rfl) (hS:S w:=by assumption):wpAnyL P md ops Q S s (fuel+1) (listed.setIfInBounds k true) ⟨F f,ds⟩ w :=
 tgw (k+1) hF h hi hd hw hv hQ hs hS
theorem tgu {k:Nat} (hF:vS F) (h:wpAnyL P md ops Q S s fuel ((listed.setIfInBounds k true).setIfInBounds (k+1) true) ⟨F (upd f d undef),ds⟩ w) (hi:ops[k+1]?=some oi:=by rfl) (hd:oi.dst=some d:=by rfl) (hw:Region.wanted oi (yielded ops (F f))=false:=by first | rfl | (simp [Region.wanted,yielded,hF.get,upd, *];done) | (simp [Region.wanted,yielded,hF.get,upd, *];exact fun h=>nomatch h))
 (hQ:∀ c a w,Q (.panic c) (a.put (some d) undef) w→Q (.panic c) a w:=by exact hQp _ _) (hs:(Region.noSelect ops&&Region.free md ops (listed.setIfInBounds k true) (k+1)&&(Region.ready md ops (listed.setIfInBounds k true)).contains (k+1)&&waits md ops s (k+1)&&!(listed.setIfInBounds k true).getD s true)=true:=by as_aux_lemma=>kernel_rfl) (hS:S w:=by assumption):wpAnyL P md ops Q S s (fuel+1) (listed.setIfInBounds k true) ⟨F f,ds⟩ w :=
 tgx (k+1) hF h hi hd hw hQ hs hS
theorem tgr {k:Nat} (h:∀ K' :Act→World→Prop,Go.Shut (∀ a w,S w→(S w→wpAnyL P md ops Q S s fuel ((listed.setIfInBounds k true).setIfInBounds (k+1) true) a w)→K' a w)→if Region.wanted oi (yielded ops a.tmps)=true then Oper.wp P oi a w K' Q else K' (a.put oi.dst undef) w) (hi:ops[k+1]?=some oi:=by rfl) (hr:Region.ready md ops (listed.setIfInBounds k true)=[k+1]:=by as_aux_lemma=>kernel_rfl):wpAnyL P md ops Q S s (fuel+1) (listed.setIfInBounds k true) a w:=tlr (k+1) h hi hr
theorem tfr {k:Nat} (h:∀ K' :Act→World→Prop,Go.Shut (∀ a w,S w→(S w→wpAnyH P md ops Q S fuel ((listed.setIfInBounds k true).setIfInBounds (k+1) true) a w)→K' a w)→if Region.wanted oi (yielded ops a.tmps)=true then Oper.wp P oi a w K' Q else K' (a.put oi.dst undef) w) (hi:ops[k+1]?=some oi:=by rfl) (hr:Region.ready md ops (listed.setIfInBounds k true)=[k+1]:=by as_aux_lemma=>kernel_rfl):wpAnyH P md ops Q S (fuel+1) (listed.setIfInBounds k true) a w:=tkr (k+1) h hi hr
end
section
variable {P:Program} {ops:Array Oper} {Q:Exit→Act→World→Prop} {md:Region.Mode} {S:World→Prop} {fuel:Nat} {listed:Array Bool} {a a' :Act} {w:World} {oi:Oper} {v:Value}
theorem thw (i:Nat) (h:wpAnyH P md ops Q S fuel (listed.setIfInBounds i true) a' w) (hi:ops[i]?=some oi:=by rfl) (hw:Region.wanted oi (yielded ops a.tmps)=true:=by as_aux_lemma=>kernel_rfl)
 (hv:∀ w,S w→(execOp a.eval oi).run P w=.ok (.value v) w:=by intro w hSw;(try dsimp only at hSw);go_simp;all_goals with_reducible rfl) (ha:a.put oi.dst v=a' :=by (try simp only [Act.put,List.getElem_toArray,List.getElem_cons_zero,List.getElem_cons_succ,EH,EI,EJ]);rfl)
 (hQ:∀ c a w,Q (.panic c) (a.put oi.dst v) w→Q (.panic c) a w:=by first | exact hQp _ _ | exact fun _ _ _ h=>h) (hs:Region.noSelect ops=true:=by as_aux_lemma=>kernel_rfl) (hf:Region.free md ops listed i=true:=by as_aux_lemma=>kernel_rfl) (hr:(Region.ready md ops listed).contains i=true:=by as_aux_lemma=>kernel_rfl) (hS:S w:=by assumption):wpAnyH P md ops Q S (fuel+1) listed a w :=
 wpAnyH_take hi hs hf hr hQ (Or.inl ⟨hw,hv⟩) hS (by rw [ha];exact h)
theorem thx (i:Nat) (h:wpAnyH P md ops Q S fuel (listed.setIfInBounds i true) a' w) (hi:ops[i]?=some oi:=by rfl) (hw:Region.wanted oi (yielded ops a.tmps)=false:=by as_aux_lemma=>kernel_rfl) (ha:a.put oi.dst undef=a' :=by (try simp only [Act.put,List.getElem_toArray,List.getElem_cons_zero,List.getElem_cons_succ,EH,EI,EJ]);rfl)
 (hQ:∀ c a w,Q (.panic c) (a.put oi.dst undef) w→Q (.panic c) a w:=by first | exact hQp _ _ | exact fun _ _ _ h=>h) (hs:Region.noSelect ops=true:=by as_aux_lemma=>kernel_rfl) (hf:Region.free md ops listed i=true:=by as_aux_lemma=>kernel_rfl) (hr:(Region.ready md ops listed).contains i=true:=by as_aux_lemma=>kernel_rfl) (hS:S w:=by assumption):wpAnyH P md ops Q S (fuel+1) listed a w :=
 wpAnyH_take (v:=undef) hi hs hf hr hQ (Or.inr ⟨hw,rfl⟩) hS (by rw [ha];exact h)
theorem thv {k:Nat} (h:wpAnyH P md ops Q S fuel ((listed.setIfInBounds k true).setIfInBounds (k+1) true) a' w) (hi:ops[k+1]?=some oi:=by rfl) (hw:Region.wanted oi (yielded ops a.tmps)=true:=by as_aux_lemma=>kernel_rfl)
 (hv:∀ w,S w→(execOp a.eval oi).run P w=.ok (.value v) w:=by intro w hSw;(try dsimp only at hSw);go_simp;all_goals with_reducible rfl) (ha:a.put oi.dst v=a' :=by (try simp only [Act.put,List.getElem_toArray,List.getElem_cons_zero,List.getElem_cons_succ,EH,EI,EJ]);rfl)
 (hQ:∀ c a w,Q (.panic c) (a.put oi.dst v) w→Q (.panic c) a w:=by first | exact hQp _ _ | exact fun _ _ _ h=>h) (hs:Region.noSelect ops=true:=by as_aux_lemma=>kernel_rfl) (hf:Region.free md ops (listed.setIfInBounds k true) (k+1)=true:=by as_aux_lemma=>kernel_rfl) (hr:(Region.ready md ops (listed.setIfInBounds k true)).contains (k+1)=true:=by as_aux_lemma=>kernel_rfl) (hS:S w:=by assumption):wpAnyH P md ops Q S (fuel+1) (listed.setIfInBounds k true) a w :=
 thw (k+1) h hi hw hv ha hQ hs hf hr hS
theorem thu {k:Nat} (h:wpAnyH P md ops Q S fuel ((listed.setIfInBounds k true).setIfInBounds (k+1) true) a' w) (hi:ops[k+1]?=some oi:=by rfl) (hw:Region.wanted oi (yielded ops a.tmps)=false:=by as_aux_lemma=>kernel_rfl) (ha:a.put oi.dst undef=a' :=by (try simp only [Act.put,List.getElem_toArray,List.getElem_cons_zero,List.getElem_cons_succ,EH,EI,EJ]);rfl)
 (hQ:∀ c a w,Q (.panic c) (a.put oi.dst undef) w→Q (.panic c) a w:=by first | exact hQp _ _ | exact fun _ _ _ h=>h) (hs:Region.noSelect ops=true:=by as_aux_lemma=>kernel_rfl) (hf:Region.free md ops (listed.setIfInBounds k true) (k+1)=true:=by as_aux_lemma=>kernel_rfl) (hr:(Region.ready md ops (listed.setIfInBounds k true)).contains (k+1)=true:=by as_aux_lemma=>kernel_rfl) (hS:S w:=by assumption):wpAnyH P md ops Q S (fuel+1) (listed.setIfInBounds k true) a w :=
 thx (k+1) h hi hw ha hQ hs hf hr hS
end
end Go.Proofs.YtegloodcbfalfaaGreatDoor
namespace Go.Proofs.YtegloodcbfalfaaGreatDoor
theorem aSO {ns:List Nd} {t:Tm} {n:Nat} (h:n<ns.length):aM (nC ns t) n=nP t (nd ns n):=by
 rw [nC,cZ (eU h)]
end Go.Proofs.YtegloodcbfalfaaGreatDoor
