/-
  The small functions of hoistway, each walked: what a call gives back and what it does to the world.
-/
import Derived.Test.YtoikglgnmjjpcaaDoorRows
import Derived.Test.YtoikglgnmjjpcaaDoorM
import Derived.WalkKit
import Derived.WalkSpells
import Derived.WalkLawsBesides
namespace Go.Proofs.YtoikglgnmjjpcaaDoor
open Go.RowKit
set_option linter.unusedVariables false

theorem ret_bool {a b : Bool} (h : a = b) : Ending.returned (.bool a) = .returned (.bool b) := by rw [h]
theorem ret_int {k : IntKind} {a b : Int} (h : a = b) : Ending.returned (.int k a) = .returned (.int k b) := by rw [h]

set_option maxHeartbeats 400000 in
theorem rwithin_any (n l h : Int) (w : World) :
    Calls Tryd.prog 18 #[.int .i64 n, .int .i64 l, .int .i64 h] w fun e w' => e = .returned (.bool (wi n l h)) ∧ w' = w := by
  go_enter Tryd.func18, Tryd.ntmps18
  go_wp2
  all_goals go_ret
  · rename_i hx; exact ⟨ret_bool (by simp [wi, hx]), rfl⟩
  · rename_i hx; exact ⟨ret_bool (by simp [wi]; intro h; omega), rfl⟩

set_option maxHeartbeats 400000 in
theorem pwithin_any (n l h : Int) (w : World) :
    Calls Tryd.prog 27 #[.int .i64 n, .int .i64 l, .int .i64 h] w fun e w' => e = .returned (.bool (wi n l h)) ∧ w' = w := by
  go_enter Tryd.func27, Tryd.ntmps27
  go_wp2
  all_goals go_ret
  · rename_i hx; exact ⟨ret_bool (by simp [wi, hx]), rfl⟩
  · rename_i hx; exact ⟨ret_bool (by simp [wi]; intro h; omega), rfl⟩

set_option maxHeartbeats 1000000 in
theorem of_any (op : Int) (w : World) :
    Calls Tryd.prog 35 #[.int .i64 op] w fun e w' => e = .returned (.tuple #[.agg #[.int .i64 (k0 op), .int .i64 (k1 op), .int .i64 (k2 op), .int .i64 (k3 op), .int .i64 (k4 op)], .bool (kn op)]) ∧ Below w.heap.size w w' := by
  rcases op_cases op with (rfl | rfl | rfl | rfl | rfl | rfl | rfl | rfl | rfl | rfl | rfl | rfl | rfl) | hx
  case inr =>
    obtain ⟨e0, e1, e2, e3, e4, e5⟩ := kinds_unknown hx
    rw [e0, e1, e2, e3, e4, e5]
    clear e0 e1 e2 e3 e4 e5
    go_enter Tryd.func35, Tryd.ntmps35
    go_wp2
    exact bodyPost_ret (v := .tuple #[.agg #[.int .i64 0, .int .i64 0, .int .i64 0, .int .i64 0, .int .i64 0], .bool false]) (by simp [results, Tryd.results35, go_sem]) rfl ⟨rfl, (Below.refl _ _).alloc (Nat.le_refl _) _⟩
  all_goals
    go_enter Tryd.func35, Tryd.ntmps35
    go_wp2
    refine bodyPost_ret (v := .tuple #[.agg #[.int .i64 (k0 _), .int .i64 (k1 _), .int .i64 (k2 _), .int .i64 (k3 _), .int .i64 (k4 _)], .bool (kn _)]) ?_ rfl ⟨rfl, (Below.refl _ _).alloc (Nat.le_refl _) _⟩
    simp [results, Tryd.results35, go_sem, k0, k1, k2, k3, k4, kn, wi]
end Go.Proofs.YtoikglgnmjjpcaaDoor
