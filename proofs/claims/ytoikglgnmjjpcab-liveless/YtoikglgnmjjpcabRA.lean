/-
  run.value and hoistwayref.Reckon, walked.
-/
import Derived.Test.YtoikglgnmjjpcabB
import Derived.Test.YtoikglgnmjjpcabS
import Derived.Test.YtoikglgnmjjpcabMR
namespace Go.Proofs.Ytoikglgnmjjpcab
open Go.RowKit
set_option linter.unusedVariables false

set_option maxHeartbeats 400000 in
theorem value_any (op a b : Int) (w : World) :
    Calls Try.prog 56 #[.int .i64 op, .int .i64 a, .int .i64 b] w fun e w' => e = .returned (.int .i64 (rk op a b)) ∧ w' = w := by
  go_enter Try.func56, Try.ntmps56
  go_wp2
  all_goals go_ret
  all_goals refine ⟨ret_int ?_, rfl⟩
  all_goals simp_all [rk]

end Go.Proofs.Ytoikglgnmjjpcab
