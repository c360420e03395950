/-
  More plain functions on numbers and lists.
-/
import Derived.Test.YtoikglgnmjjpcaaDoorM
namespace Go.Proofs.YtoikglgnmjjpcaaDoor

/-- The numbers below k at which p says yes. -/
def pick (p : Nat → Bool) (k : Nat) : List Int := ((List.range k).filter p).map (fun m : Nat => (m : Int))

theorem pick_zero (p : Nat → Bool) : pick p 0 = [] := rfl
theorem pick_yes {p : Nat → Bool} {k : Nat} (h : p k = true) : pick p (k + 1) = pick p k ++ [(k : Int)] := by
  simp [pick, List.range_succ, List.filter_append, h]
theorem pick_no {p : Nat → Bool} {k : Nat} (h : p k = false) : pick p (k + 1) = pick p k := by
  simp [pick, List.range_succ, List.filter_append, h]
theorem pick_len (p : Nat → Bool) (k : Nat) : (pick p k).length ≤ k := by
  simp only [pick, List.length_map]
  exact Nat.le_trans (List.length_filter_le _ _) (by simp)

/-- May a node go on at node m? -/
def ldB (x : Nd) (m : Nat) : Bool := (x.op != 12 && x.t == (m : Int)) || (x.op == 11 && x.e == (m : Int))

/-- Does node m go on at node n? -/
def ahB (ns : List Nd) (n : Nat) (m : Nat) : Bool := match ns[m]? with | some y => ldB y n | none => false

theorem ahB_at {ns : List Nd} {n m : Nat} {y : Nd} (h : ns[m]? = some y) : ahB ns n m = ldB y n := by simp [ahB, h]

end Go.Proofs.YtoikglgnmjjpcaaDoor
