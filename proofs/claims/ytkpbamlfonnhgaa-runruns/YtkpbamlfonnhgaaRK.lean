/-
  run.machine.step, whole: one node of a right program is done.
-/
import Derived.Test.YtkpbamlfonnhgaaRF
import Derived.Test.YtkpbamlfonnhgaaRG
import Derived.Test.YtkpbamlfonnhgaaRH
import Derived.Test.YtkpbamlfonnhgaaRI
import Derived.Test.YtkpbamlfonnhgaaRJ
import Derived.Test.YtkpbamlfonnhgaaZ
namespace Go.Proofs.Ytkpbamlfonnhgaa
open Go.RowKit Go.Maps Go.ChangeMaps
set_option linter.unusedVariables false

/-- What a right program's node is. -/
structure NodeOk (r : Int) (len : Nat) (x : Nd) : Prop where
  op : 0 ≤ x.op ∧ x.op ≤ 12
  d : 1 ≤ x.op → x.op ≤ 9 → 0 ≤ x.d ∧ x.d < r
  a : x.op ≠ 0 → x.op ≠ 1 → x.op ≠ 9 → 0 ≤ x.a ∧ x.a < r
  b : 3 ≤ x.op → x.op ≤ 8 → 0 ≤ x.b ∧ x.b < r
  t : 0 ≤ x.t ∧ x.t < len
  e : x.op = 11 → 0 ≤ x.e ∧ x.e < len

theorem node_ok {r : Int} {ns : List Nd} (h : chk r ns = 0) {x : Nd} (hx : x ∈ ns) : NodeOk r ns.length x := by
  obtain ⟨hl, hr, hk, hi, hn⟩ := chk_zero h
  have hop := wi_iff.1 (hk x hx)
  have h1 := hi x hx
  have h2 := hn x hx
  simp only [fieldsOk, kvs, List.all_cons, List.all_nil, Bool.and_true, Bool.and_eq_true] at h1 h2
  obtain ⟨q0, q1, q2, q3, q4⟩ := h1
  obtain ⟨n0, n1, n2, n3, n4⟩ := h2
  refine ⟨hop, fun a b => ?_, fun a b c => ?_, fun a b => ?_, ?_, fun a => ?_⟩
  · simp only [k0, wi_true a b, if_true, inB] at q0
    have := wi_iff.1 q0; omega
  · have e : (wi x.op 2 8 || wi x.op 10 12) = true := by
      rw [Bool.or_eq_true, wi_iff, wi_iff]; omega
    simp only [k1, if_neg b, e, if_true, inB] at q1
    have := wi_iff.1 q1; omega
  · simp only [k2, wi_true a b, if_true, inB] at q2
    have := wi_iff.1 q2; omega
  · by_cases e : x.op = 12
    · rw [k3_val (hk x hx), if_pos e] at n3
      simp [noF] at n3
      omega
    · have := then_ok h hx e; omega
  · have := else_ok h hx a; omega

theorem stp_regs (x : Nd) (s : St) : (stp x s).regs.length = s.regs.length := by
  unfold stp; repeat' split
  all_goals simp [setR]

theorem stp_pc {r : Int} {ns : List Nd} {x : Nd} (h : NodeOk r ns.length x) (s : St) : (stp x s).pc < ns.length := by
  have ht := h.t
  unfold stp; repeat' split
  all_goals (try (simp only; omega))
  rename_i h11 _
  have he := h.e h11
  simp only; omega

/-- One node is done. -/
theorem step_any {r : Int} {B s mb rb mp nb noff ncap rc : Nat} {ns : List Nd} {w : World} {σ : St} {v : Value} {ia : Option Addr} {ic n : Nat} {D : DataW Unit} (M : MA B s mb rb mp nb noff ncap rc ns w σ v ia ic n D) {x : Nd} (hx : ns[σ.pc]? = some x) (hlen : ns.length ≤ 256) (hlt : σ.steps < 131072) (hk : NodeOk r ns.length x) (hr : r = σ.regs.length) :
    Calls Try.prog 71 #[.pointer (some ⟨mb, 0, none⟩)] w fun e w' => e = .returned (.tuple #[]) ∧ ∃ v' ia' ic' n' D', MA B s mb rb mp nb noff ncap rc ns w' (stp x σ) v' ia' ic' n' D' ∧ Below B w w' := by
  have ht := hk.t.1
  have hop := hk.op
  by_cases h0 : x.op = 0
  · exact step_skip M hx hlen hlt ht h0
  by_cases h1 : x.op = 1
  · exact step_set M hx hlen hlt ht h1 (by have := hk.d; unfold InR; omega)
  by_cases h2 : x.op = 2
  · exact step_copy M hx hlen hlt ht h2 (by have := hk.d; unfold InR; omega) (by have := hk.a; unfold InR; omega)
  by_cases h9 : x.op = 9
  · exact step_inn M hx hlen hlt ht h9 (by have := hk.d; unfold InR; omega)
  by_cases h10 : x.op = 10
  · exact step_out M hx hlen hlt ht h10 (by have := hk.a; unfold InR; omega)
  by_cases h11 : x.op = 11
  · exact step_iff M hx hlen hlt ht h11 (by have := hk.a; unfold InR; omega) (hk.e h11).1
  by_cases h12 : x.op = 12
  · exact step_end M hx hlen hlt ht h12 (by have := hk.a; unfold InR; omega)
  · exact step_arith M hx hlen hlt ht (by omega) (by have := hk.d; unfold InR; omega) (by have := hk.a; unfold InR; omega) (by have := hk.b; unfold InR; omega)
end Go.Proofs.Ytkpbamlfonnhgaa
