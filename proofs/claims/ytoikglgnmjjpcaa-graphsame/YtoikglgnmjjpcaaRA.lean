/-
  run.value and hoistwayref.Reckon, walked.
-/
import Derived.Test.YtoikglgnmjjpcaaB
import Derived.Test.YtoikglgnmjjpcaaS
import Derived.Test.YtoikglgnmjjpcaaMR
namespace Go.Proofs.Ytoikglgnmjjpcaa
open Go.RowKit
set_option linter.unusedVariables false

set_option maxHeartbeats 400000 in
theorem value_any (op a b : Int) (w : World) :
    Calls Try.prog 129 #[.int .i64 op, .int .i64 a, .int .i64 b] w fun e w' => e = .returned (.int .i64 (rk op a b)) ∧ w' = w := by
  go_enter Try.func129, Try.ntmps129
  go_wp2
  all_goals go_ret
  all_goals refine ⟨ret_int ?_, rfl⟩
  all_goals simp_all [rk]

set_option maxHeartbeats 400000 in
theorem reckon_any (op a b : Int) (w : World) :
    Calls Try.prog 73 #[.int .i64 op, .int .i64 a, .int .i64 b] w fun e w' => e = .returned (.int .i64 (rk op a b)) ∧ w' = w := by
  go_enter Try.func73, Try.ntmps73
  go_wp2
  all_goals go_ret
  all_goals refine ⟨ret_int ?_, rfl⟩
  all_goals simp_all [rk]

end Go.Proofs.Ytoikglgnmjjpcaa
