/-
  Plain facts on programs that are right: their nodes' fields.
-/
import Derived.Test.YtkpbamlfonnhgaaD
import Derived.Test.YtkpbamlfonnhgaaR
namespace Go.Proofs.Ytkpbamlfonnhgaa
open Go.RowKit
set_option linter.unusedVariables false

theorem chk_zero {r : Int} {ns : List Nd} (h : chk r ns = 0) : (1 ≤ ns.length ∧ ns.length ≤ 256) ∧ (1 ≤ r ∧ r ≤ 64) ∧ (∀ x ∈ ns, kn x.op = true) ∧ (∀ x ∈ ns, fieldsOk (inB r ns.length) x = true) ∧ (∀ x ∈ ns, fieldsOk noF x = true) := by
  unfold chk at h
  split at h
  · rename_i h1
    rw [Bool.and_eq_true, wi_iff, wi_iff] at h1
    split at h
    · rename_i h2
      split at h
      · rename_i h3
        split at h
        · rename_i h4
          rw [List.all_eq_true] at h2 h3 h4
          exact ⟨by omega, h1.2, h2, h3, h4⟩
        · omega
      · omega
    · omega
  · omega

theorem k3_val {op : Int} (h : kn op = true) : k3 op = if op = 12 then 0 else 3 := by
  have := wi_iff.1 h
  unfold k3
  by_cases h12 : op = 12
  · subst h12; rfl
  · rw [if_neg h12, if_pos (wi_true (by omega) (by omega))]

theorem then_ok {r : Int} {ns : List Nd} (h : chk r ns = 0) {x : Nd} (hx : x ∈ ns) (h12 : x.op ≠ 12) : 1 ≤ x.t ∧ x.t ≤ (ns.length : Int) - 1 := by
  obtain ⟨_, _, hk, hi, _⟩ := chk_zero h
  have h1 := hi x hx
  simp only [fieldsOk, kvs, List.all_cons, List.all_nil, Bool.and_true, Bool.and_eq_true] at h1
  have h3 := h1.2.2.2.1
  rw [k3_val (hk x hx), if_neg h12] at h3
  simpa [inB, wi] using h3

theorem else_ok {r : Int} {ns : List Nd} (h : chk r ns = 0) {x : Nd} (hx : x ∈ ns) (h11 : x.op = 11) : 1 ≤ x.e ∧ x.e ≤ (ns.length : Int) - 1 := by
  obtain ⟨_, _, hk, hi, _⟩ := chk_zero h
  have h1 := hi x hx
  simp only [fieldsOk, kvs, List.all_cons, List.all_nil, Bool.and_true, Bool.and_eq_true] at h1
  have h4 := h1.2.2.2.2
  simp only [k4, if_pos h11] at h4
  simpa [inB, wi] using h4

theorem exl_ok {r : Int} {ns : List Nd} (h : chk r ns = 0) {x : Nd} (hx : x ∈ ns) : exl x = pick (ldB x) ns.length :=
  exl_pick x ns.length ((chk_zero h).2.2.1 x hx) (then_ok h hx) (else_ok h hx)

/-- What is wrong with a program and a node's number. -/
def chkN (r : Int) (ns : List Nd) (n : Int) : Int := if chk r ns = 0 then if wi n 0 ((ns.length : Int) - 1) then 0 else 3 else chk r ns

/-- The nodes where node n goes on; none where something is wrong. -/
def nexts (r : Int) (ns : List Nd) (n : Int) : List Int := if chkN r ns n = 0 then match ns[n.toNat]? with | some x => pick (ldB x) ns.length | none => [] else []
def aheads (r : Int) (ns : List Nd) (n : Int) : List Int := if chkN r ns n = 0 then pick (ahB ns n.toNat) ns.length else []

theorem chkN_zero {r : Int} {ns : List Nd} {n : Int} (h : chkN r ns n = 0) : chk r ns = 0 ∧ ∃ k : Nat, n = k ∧ k < ns.length := by
  unfold chkN at h
  split at h
  · rename_i h1
    split at h
    · rename_i h2
      rw [wi_iff] at h2
      exact ⟨h1, n.toNat, by omega, by omega⟩
    · omega
  · rename_i h1; exact absurd h h1

end Go.Proofs.Ytkpbamlfonnhgaa
