/-
  Whatever program, term and list of places hoistwaylaw.MovePlaces is handed, it returns true and leaves its arguments as they were: Lazy, Busy and Rival answer what the document's own reckoning answers, errors too. No condition.
-/
import Derived.Test.YtnbdnbcnlgnicaaGreatP9
import Derived.Test.YtnbdnbcnlgnicaaGreatP12
import Derived.Test.YtnbdnbcnlgnicaaGreatP16
set_option linter.unusedVariables false
set_option linter.unusedSimpArgs false
set_option maxHeartbeats 40000000
namespace Go.Proofs.YtnbdnbcnlgnicaaGreat
open Go.ChangeShapes Go.WideShapes Go.ChangeAt Go.RowKit
theorem boolsT_of {w:World} {base n c:Nat} {a:Option Addr} {xs:List Bool} (h:w.ownsRow base 4 1 (.slice a n c) n (xs.map Value.bool)) (hl:xs.length=n):BoolsT w a xs:=by
 obtain ⟨a', c', e,hb⟩:=boolsT_own h hl
 cases e
 exact hb
theorem busyPut_eqX (ns:List Nd) (t:Tm):busyPut ns t=earlyL ns t:=range_len (by simp [earlyL])
theorem busyTake_eqX (ns:List Nd) (t:Tm):busyTake ns t=rcl ns t:=range_len (by simp [rcl])
theorem lzp_len (ns:List Nd) (t:Tm):(lazyPut ns t).length=ns.length:=by simp [lazyPut]
theorem lzt_len (ns:List Nd) (t:Tm):(lazyTake ns t).length=ns.length:=by simp [lazyTake]
theorem ear_len (ns:List Nd) (t:Tm):(earlyL ns t).length=ns.length:=by simp [earlyL]
theorem rcl_lenX (ns:List Nd) (t:Tm):(rcl ns t).length=ns.length:=by simp [rcl]
theorem rvp_len (ns:List Nd) (t:Tm) (us:List Bool):(rivPut ns t us).length=ns.length:=by simp [rivPut]
theorem rvt_len (ns:List Nd) (t:Tm) (us:List Bool):(rivTake ns t us).length=ns.length:=by simp [rivTake]
theorem movePlaces_any (r:Int) (a:Option Addr) (cap:Nat) (ns:List Nd) (t:Tm) (ua:Option Addr) (uc:Nat) (us:List Bool) (w:World) (hN:SlN w a ns) (hP:BoolsAt w ua us) (hpc:us.length≤uc) (hpl:us.length≤9223372036854775807) :
 Calls Tryz.prog 3 #[.agg #[.int .i64 r,.slice a ns.length cap],.agg #[.int .i64 t.op,.int .i64 t.a,.int .i64 t.b],.slice ua us.length uc] w fun e w' =>e=.returned (.bool true)∧Below w.heap.size w w' :=by
 by_cases hc:tchk r ns t=0
 ·have hcr:=(tchk_zero hc).1
  have hl:=(chk_zero hcr).1
  obtain ⟨b,off,rfl,hB⟩:=hN.some hl.1
  have l1:=lzp_len ns t
  have l2:=lzt_len ns t
  have l3:=ear_len ns t
  have l4:=rcl_lenX ns t
  have l5:=rvp_len ns t us
  have l6:=rvt_len ns t us
  have HLZ:∀ W,Below w.heap.size w W→Calls Tryz.prog 4 #[.agg #[.int .i64 r,.slice (some ⟨b,off,none⟩) ns.length cap],.agg #[.int .i64 t.op,.int .i64 t.a,.int .i64 t.b]] W fun e w' =>∃ a1 c1 a2 c2,e=.returned (.tuple #[.agg #[.slice a1 (lazyPut ns t).length c1,.slice a2 (lazyTake ns t).length c2],.int .i64 0])∧BoolsT w' a1 (lazyPut ns t)∧BoolsT w' a2 (lazyTake ns t)∧Below W.heap.size W w' :=fun W h=>by
   refine (lazy_right r b off cap ns t W (hB.below h hB.lt) hc).mono ?_
   rintro e w' ⟨a1,c1,a2,c2,rfl,o1,o2,hb⟩
   exact ⟨a1,c1,a2,c2,by rw [l1,l2],boolsT_of o1 l1,boolsT_of o2 l2,hb⟩
  have HBU:∀ W,Below w.heap.size w W→Calls Tryz.prog 5 #[.agg #[.int .i64 r,.slice (some ⟨b,off,none⟩) ns.length cap],.agg #[.int .i64 t.op,.int .i64 t.a,.int .i64 t.b]] W fun e w' =>∃ a1 c1 a2 c2,e=.returned (.tuple #[.agg #[.slice a1 (earlyL ns t).length c1,.slice a2 (rcl ns t).length c2],.int .i64 0])∧BoolsT w' a1 (earlyL ns t)∧BoolsT w' a2 (rcl ns t)∧Below W.heap.size W w' :=fun W h=>by
   refine (busy_right r b off cap ns t W (hB.below h hB.lt) hc).mono ?_
   rintro e w' ⟨a1,c1,a2,c2,rfl,o1,o2,hb⟩
   rw [busyPut_eqX] at o1
   rw [busyTake_eqX] at o2
   exact ⟨a1,c1,a2,c2,by rw [l3,l4],boolsT_of o1 l3,boolsT_of o2 l4,hb⟩
  have HFE:∀ W,Below w.heap.size w W→Calls Tryz.prog 7 #[.agg #[.int .i64 r,.slice (some ⟨b,off,none⟩) ns.length cap],.agg #[.int .i64 t.op,.int .i64 t.a,.int .i64 t.b]] W fun e w' =>e=.returned (.int .i64 0)∧Below W.heap.size W w' :=fun W h=>by
   have:=factsError_any r (some ⟨b,off,none⟩) cap ns t W (hN.below h)
   rwa [hc] at this
  have HLO:∀ W,(0:Int)=0→Below w.heap.size w W→Calls Tryz.prog 8 #[.agg #[.int .i64 r,.slice (some ⟨b,off,none⟩) ns.length cap],.agg #[.int .i64 t.op,.int .i64 t.a,.int .i64 t.b]] W fun e w' =>∃ a1 c1 a2 c2,e=.returned (.agg #[.slice a1 (lazyPut ns t).length c1,.slice a2 (lazyTake ns t).length c2])∧BoolsT w' a1 (lazyPut ns t)∧BoolsT w' a2 (lazyTake ns t)∧Below W.heap.size W w' :=fun W _ h=>by
   refine (lazyOf_any r b off cap ns t W (hB.below h hB.lt) hcr).mono ?_
   rintro e w' ⟨v1,v2,rfl,o1,o2,hb⟩
   obtain ⟨a1,c1,rfl,y1⟩:=boolsT_own o1 l1
   obtain ⟨a2,c2,rfl,y2⟩:=boolsT_own o2 l2
   exact ⟨a1,c1,a2,c2,rfl,y1,y2,hb⟩
  have HBO:∀ W,(0:Int)=0→Below w.heap.size w W→Calls Tryz.prog 9 #[.agg #[.int .i64 r,.slice (some ⟨b,off,none⟩) ns.length cap],.agg #[.int .i64 t.op,.int .i64 t.a,.int .i64 t.b]] W fun e w' =>∃ a1 c1 a2 c2,e=.returned (.agg #[.slice a1 (earlyL ns t).length c1,.slice a2 (rcl ns t).length c2])∧BoolsT w' a1 (earlyL ns t)∧BoolsT w' a2 (rcl ns t)∧Below W.heap.size W w' :=fun W _ h=>by
   refine (busyOf_any r b off cap ns t W (hB.below h hB.lt) hcr).mono ?_
   rintro e w' ⟨x1,v2,rfl,o1,o2,hb⟩
   obtain ⟨a2,c2,rfl,y2⟩:=boolsT_own o2 l4
   exact ⟨_,_,a2,c2,by rw [l3],boolsT_blk o1,y2,hb⟩
  by_cases hu:us.length=ns.length
  ·refine lawPlaces r _ cap ns t ua uc us.length w 0 0 _ _ _ _ (rivPut ns t us) (rivTake ns t us) (by omega) (by omega) (by omega) (by omega) (by omega) (by omega) HLZ HBU (fun W h=>?_) HFE HLO HBO (fun W _ h=>?_) (fun q=>absurd rfl q) (fun q=>absurd rfl q) (by rw [if_pos rfl,if_pos hu])
   ·refine (rival_right r b off cap ns t ua uc us W (hB.below h hB.lt) hc (hP.below h) hu).mono ?_
    rintro e w' ⟨a1,c1,a2,c2,rfl,o1,o2,hb⟩
    exact ⟨a1,c1,a2,c2,by rw [l5,l6],boolsT_of o1 l5,boolsT_of o2 l6,hb⟩
   ·refine (rivalOf_any r b off cap ns t ua uc us W (hB.below h hB.lt) hcr (hP.below h) hu).mono ?_
    rintro e w' ⟨v1,v2,rfl,o1,o2,hb⟩
    obtain ⟨a1,c1,rfl,y1⟩:=boolsT_own o1 l5
    obtain ⟨a2,c2,rfl,y2⟩:=boolsT_own o2 l6
    exact ⟨a1,c1,a2,c2,rfl,y1,y2,hb⟩
  ·refine lawPlaces r _ cap ns t ua uc us.length w 0 1 _ _ _ _ [] [] (by omega) (by omega) (by omega) (by omega) (by simp) (by simp) HLZ HBU (fun W h=>?_) HFE HLO HBO (fun W q h=>absurd q (by decide)) (fun q=>absurd rfl q) (fun q=>⟨rfl,rfl⟩) (by rw [if_pos rfl,if_neg hu])
   refine (rival_form r b off cap ns t ua uc us W (hB.below h hB.lt) hc hu).mono ?_
   rintro e w' ⟨rfl,hb⟩
   exact ⟨none,0,none,0,rfl,Or.inl rfl,Or.inl rfl,hb⟩
 ·have HX:∀ (f:FuncId) (W:World) (args:Array Value),Calls Tryz.prog f args W (fun e w' =>e=.returned (.tuple #[.agg #[.slice none 0 0,.slice none 0 0],.int .i64 (tchk r ns t)])∧Below W.heap.size W w')→Calls Tryz.prog f args W fun e w' =>∃ a1 c1 a2 c2,e=.returned (.tuple #[.agg #[.slice a1 ([]:List Bool).length c1,.slice a2 ([]:List Bool).length c2],.int .i64 (tchk r ns t)])∧BoolsT w' a1 []∧BoolsT w' a2 []∧Below W.heap.size W w' :=fun f W args h=>h.mono fun e w' hh=>⟨none,0,none,0,hh.1,Or.inl rfl,Or.inl rfl,hh.2⟩
  exact lawPlaces r a cap ns t ua uc us.length w (tchk r ns t) (tchk r ns t) [] [] [] [] [] [] (by simp) (by simp) (by simp) (by simp) (by simp) (by simp)
   (fun W h=>HX _ _ _ (lazy_wrong r a cap ns t W (hN.below h) hc)) (fun W h=>HX _ _ _ (busy_wrong r a cap ns t W (hN.below h) hc)) (fun W h=>HX _ _ _ (rival_wrong r a cap ns t ua us.length uc W (hN.below h) hc)) (fun W h=>factsError_any r a cap ns t W (hN.below h))
   (fun W q h=>absurd q hc) (fun W q h=>absurd q hc) (fun W q h=>absurd q hc) (fun q=>⟨rfl,rfl,rfl,rfl⟩) (fun q=>⟨rfl,rfl⟩) (by rw [if_neg hc])
set_option maxRecDepth 100000 in
theorem movePlaces_lifted (os:Os) (started:os.Started) (H:Type) (enc:TypeId × Value→H) :
 ReturnsInHanded {} Tryz.checked os 3 .any (Rows.movePlacesSpec.pre6 enc Tryz.prog Tryz.f3 Rows.movePlacesRow.domain false) (Rows.movePlacesSpec.post enc Tryz.prog Tryz.f3 false true false false):=by
 refine returnsInHanded_of_change (C:=Tryz.checked) own started (by kernel_rfl) Tryz.func3
  (ChangeSpec.witness6 (enc:=enc) (C:=Tryz.checked) false ⟨#[],#[.agg #[.int .i64 0,.slice none 0 0],.agg #[.int .i64 0,.int .i64 0,.int .i64 0],.slice none 0 0],[]⟩ 8 (by kernel_rfl) (by kernel_rfl) (by kernel_rfl) (by kernel_rfl)) ?_
 intro W base args ds gs before hval0 hW hcnd _
 have hval:∀ (j:Nat) t v,Tryz.f3.params[j]?=some t→args[j]?=some v→Value.okWide Tryz.prog W .any base t v:=hval0
 have hW' :=hW
 obtain ⟨p,q,hA0,hV,rfl,hfz,hnd⟩:=hW
 have hA:DataW.TrodAll enc Tryz.prog W 0 (fun _=>true) true Tryz.f3.params.toList args.toList ds p:=hA0
 rw [Tryz.params3] at hA hval
 obtain ⟨v0,vs0,d0,ds0,p0,q0,hargs,rfl,rfl,h0,r0⟩:=trodAll_cons hA
 obtain ⟨v1,vs1,d1,ds1,p1,q1,rfl,rfl,rfl,h1,r1⟩:=trodAll_cons r0
 obtain ⟨v2,vs2,d2,ds2,p2,q2,rfl,rfl,rfl,h2,r2⟩:=trodAll_cons r1
 obtain ⟨rfl,rfl,rfl⟩:=trodAll_nil r2
 obtain rfl:args=#[v0,v1,v2]:=by cases args;simp_all
 obtain ⟨rfl,rfl⟩:=trodVars_none hV
 have k0:=h0
 have lt0:∀ x∈p0,x.block<W.heap.size:=by obtain ⟨m,hm⟩:=k0;exact DataW.trod_lt m _ _ _ hm
 have k1:=h1
 have lt1:∀ x∈p1,x.block<W.heap.size:=by obtain ⟨m,hm⟩:=k1;exact DataW.trod_lt m _ _ _ hm
 have k2:=h2
 have lt2:∀ x∈p2,x.block<W.heap.size:=by obtain ⟨m,hm⟩:=k2;exact DataW.trod_lt m _ _ _ hm
 obtain ⟨r,a,cap,ns,rfl,hN,hl⟩:=open_prog (hval 0 24 v0 rfl rfl) h0
 obtain ⟨tm,rfl⟩:=open_term (hval 1 26 v1 rfl rfl) h1
 obtain ⟨ba,bc,put,rfl,hP,hpl,hpc⟩:=open_boolsM (hval 2 27 v2 rfl rfl) h2
 clear hA0 hval0
 refine (movePlaces_any r a cap ns tm ba bc put W hN hP hpc hpl).mono fun e W' ⟨he,bel⟩=>?_
 subst he
 exact ⟨_,rfl,_,_,_,[],_,[],hW', trodAll_mk1 (shut_bool Tryz.underlying4 _),(trodAll_cons_mk (Below.trod laidOut (by kernel_rfl) (of_decide_eq_true (by kernel_rfl)) k0 bel lt0) (trodAll_cons_mk (Below.trod laidOut (by kernel_rfl) (of_decide_eq_true (by kernel_rfl)) k1 bel lt1) (trodAll_cons_mk (Below.trod laidOut (by kernel_rfl) (of_decide_eq_true (by kernel_rfl)) k2 bel lt2) trodAll_mk0))),rfl,bel.frame _,fun h=>by cases h⟩
theorem movePlaces_over:Rows.movePlacesRow.holds Tryz.pinned (OpenSpec.ofChange Rows.movePlacesSpec) :=
 OpenClaim.holds_of_wide 3 Tryz.f3 rfl rfl rfl rfl rfl rfl rfl ⟨rfl,rfl,rfl,rfl,rfl⟩ rfl rfl rfl rfl rfl (by kernel_rfl) Tryz.func3 (by kernel_rfl)
  (of_decide_eq_true (by kernel_rfl)) (by unfold Func.isWrapper;first | (rw [if_pos (by decide +kernel)];kernel_rfl) | (rw [if_neg (by decide +kernel)];exact ⟨rfl,rfl⟩))
  (fun os started H enc _=>movePlaces_lifted os started H enc)
theorem movePlaces_holds:Rows.MovePlacesSaid:=movePlaces_over
#print axioms movePlaces_holds
end Go.Proofs.YtnbdnbcnlgnicaaGreat
