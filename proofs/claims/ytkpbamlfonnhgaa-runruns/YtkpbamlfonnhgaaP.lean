/-
  More plain functions on numbers and lists.
-/
import Derived.Test.YtkpbamlfonnhgaaM
namespace Go.Proofs.Ytkpbamlfonnhgaa

/-- The numbers below k at which p says yes. -/
def pick (p : Nat → Bool) (k : Nat) : List Int := ((List.range k).filter p).map (fun m : Nat => (m : Int))

theorem pick_zero (p : Nat → Bool) : pick p 0 = [] := rfl
theorem pick_yes {p : Nat → Bool} {k : Nat} (h : p k = true) : pick p (k + 1) = pick p k ++ [(k : Int)] := by
  simp [pick, List.range_succ, List.filter_append, h]
theorem pick_no {p : Nat → Bool} {k : Nat} (h : p k = false) : pick p (k + 1) = pick p k := by
  simp [pick, List.range_succ, List.filter_append, h]
theorem pick_len (p : Nat → Bool) (k : Nat) : (pick p k).length ≤ k := by
  simp only [pick, List.length_map]
  exact Nat.le_trans (List.length_filter_le _ _) (by simp)

/-- May a node go on at node m? -/
def ldB (x : Nd) (m : Nat) : Bool := (x.op != 12 && x.t == (m : Int)) || (x.op == 11 && x.e == (m : Int))

end Go.Proofs.Ytkpbamlfonnhgaa
