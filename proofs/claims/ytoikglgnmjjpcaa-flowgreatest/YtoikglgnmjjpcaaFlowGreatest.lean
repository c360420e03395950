/-
  Whatever program, flow and list of answers hoistwaylaw.FlowGreatest is handed, it returns true and leaves its arguments as they were: what flow.Solve answers holds, and says yes wherever any answer does that holds. No condition.
-/
import Derived.Test.YtoikglgnmjjpcaaMN
import Derived.Test.YtoikglgnmjjpcaaYF
namespace Go.Proofs.Ytoikglgnmjjpcaa
open Go.ChangeShapes Go.WideShapes Go.ChangeAt Go.RowKit
set_option linter.unusedVariables false

theorem flowGreatest_any (r : Int) (a : Option Addr) (cap : Nat) (ns : List Nd) (f : Flw) (a1 a2 a3 a4 xa : Option Addr) (c1 c2 c3 c4 xc : Nat) (x : List Bool) (w : World) (hN : SlN w a ns) (h1 : BoolsAt w a1 f.gen) (h2 : BoolsAt w a2 f.pass) (h3 : BoolsAt w a3 f.plus) (h4 : BoolsAt w a4 f.lets) (hx : BoolsAt w xa x) :
    Calls Try.prog 10 #[.agg #[.int .i64 r, .slice a ns.length cap], .agg #[.bool f.back, .bool f.empty, .slice a1 f.gen.length c1, .slice a2 f.pass.length c2, .slice a3 f.plus.length c3, .slice a4 f.lets.length c4], .slice xa x.length xc] w fun e w' => e = .returned (.bool true) ∧ Below w.heap.size w w' := by
  by_cases hc : fchk r ns f = 0
  · obtain ⟨b, off, rfl, hN'⟩ := hN.some (chk_zero (fchk_zero hc).1).1.1
    by_cases hxl : x.length = ns.length
    · exact flowGreatest_right r b off cap ns f a1 a2 a3 a4 xa c1 c2 c3 c4 xc x w hN' hc h1 h2 h3 h4 hx hxl
    · exact flowGreatest_form r b off cap ns f a1 a2 a3 a4 xa c1 c2 c3 c4 xc x w hN' hc h1 h2 h3 h4 hx hxl
  · exact flowGreatest_wrong r a cap ns f a1 a2 a3 a4 xa c1 c2 c3 c4 x.length xc w hN hc

set_option maxRecDepth 100000 in
theorem flowGreatest_lifted (os : Os) (started : os.Started) (H : Type) (enc : TypeId × Value → H) :
    ReturnsInHanded {} Try.checked os 10 .any (Rows.flowGreatestSpec.pre6 enc Try.prog Try.f10 Rows.flowGreatestRow.domain false) (Rows.flowGreatestSpec.post enc Try.prog Try.f10 false true false false) := by
  refine returnsInHanded_of_change (C := Try.checked) own started (by kernel_rfl) Try.func10
    (ChangeSpec.witness6 (enc := enc) (C := Try.checked) false ⟨#[], #[.agg #[.int .i64 0, .slice none 0 0], .agg #[.bool false, .bool false, .slice none 0 0, .slice none 0 0, .slice none 0 0, .slice none 0 0], .slice none 0 0], []⟩ 8 (by kernel_rfl) (by kernel_rfl) (by kernel_rfl) (by kernel_rfl)) ?_
  intro W base args ds gs before hval0 hW hcnd _
  have hval : ∀ (j : Nat) t v, Try.f10.params[j]? = some t → args[j]? = some v → Value.okWide Try.prog W .any base t v := hval0
  have hW' := hW
  obtain ⟨p, q, hA0, hV, rfl, hfz, hnd⟩ := hW
  have hA : DataW.TrodAll enc Try.prog W 0 (fun _ => true) true Try.f10.params.toList args.toList ds p := hA0
  rw [Try.params10] at hA hval
  obtain ⟨v0, vs0, d0, ds0, p0, q0, hargs, rfl, rfl, h0, r0⟩ := trodAll_cons hA
  obtain ⟨v1, vs1, d1, ds1, p1, q1, rfl, rfl, rfl, h1, r1⟩ := trodAll_cons r0
  obtain ⟨v2, vs2, d2, ds2, p2, q2, rfl, rfl, rfl, h2, r2⟩ := trodAll_cons r1
  obtain ⟨rfl, rfl, rfl⟩ := trodAll_nil r2
  obtain rfl : args = #[v0, v1, v2] := by cases args; simp_all
  obtain ⟨rfl, rfl⟩ := trodVars_none hV
  have k0 := h0
  have lt0 : ∀ x ∈ p0, x.block < W.heap.size := by obtain ⟨m, hm⟩ := k0; exact DataW.trod_lt m _ _ _ hm
  have k1 := h1
  have lt1 : ∀ x ∈ p1, x.block < W.heap.size := by obtain ⟨m, hm⟩ := k1; exact DataW.trod_lt m _ _ _ hm
  have k2 := h2
  have lt2 : ∀ x ∈ p2, x.block < W.heap.size := by obtain ⟨m, hm⟩ := k2; exact DataW.trod_lt m _ _ _ hm
  obtain ⟨r, a, cap, ns, rfl, hN, hl⟩ := open_prog (hval 0 24 v0 rfl rfl) h0
  obtain ⟨f, a1, a2, a3, a4, c1, c2, c3, c4, rfl, b1, b2, b3, b4⟩ := open_flow (hval 1 66 v1 rfl rfl) h1
  obtain ⟨xa, xc, x, rfl, hx⟩ := open_bools_arg (hval 2 53 v2 rfl rfl) h2
  clear hA0 hval0
  refine (flowGreatest_any r a cap ns f a1 a2 a3 a4 xa c1 c2 c3 c4 xc x W hN b1 b2 b3 b4 hx).mono fun e W' ⟨he, bel⟩ => ?_
  subst he
  exact ⟨_, rfl, _, _, _, [], _, [], hW', trodAll_mk1 (shut_bool Try.underlying4 _), (trodAll_cons_mk (Below.trod laidOut (by kernel_rfl) (of_decide_eq_true (by kernel_rfl)) k0 bel lt0) (trodAll_cons_mk (Below.trod laidOut (by kernel_rfl) (of_decide_eq_true (by kernel_rfl)) k1 bel lt1) (trodAll_cons_mk (Below.trod laidOut (by kernel_rfl) (of_decide_eq_true (by kernel_rfl)) k2 bel lt2) trodAll_mk0))), rfl, bel.frame _, fun h => by cases h⟩

theorem flowGreatest_over : Rows.flowGreatestRow.holds Try.pinned (OpenSpec.ofChange Rows.flowGreatestSpec) :=
  OpenClaim.holds_of_wide 10 Try.f10 rfl rfl rfl rfl rfl rfl rfl ⟨rfl, rfl, rfl, rfl, rfl⟩ rfl rfl rfl rfl rfl (by kernel_rfl) Try.func10 (by kernel_rfl)
    (of_decide_eq_true (by kernel_rfl)) (by unfold Func.isWrapper; first | (rw [if_pos (by decide +kernel)]; kernel_rfl) | (rw [if_neg (by decide +kernel)]; exact ⟨rfl, rfl⟩))
    (fun os started H enc _ => flowGreatest_lifted os started H enc)

theorem flowGreatest_holds : Rows.FlowGreatestSaid := flowGreatest_over
#print axioms flowGreatest_holds
end Go.Proofs.Ytoikglgnmjjpcaa
