/-
  hoistwayref.AheadOf, prog.checkNode, prog.Next and prog.Ahead, walked.
-/
import Derived.Test.YtoikglgnmjjpcabG
import Derived.Test.YtoikglgnmjjpcabZ
namespace Go.Proofs.Ytoikglgnmjjpcab
open Go.RowKit
set_option linter.unusedVariables false

end Go.Proofs.Ytoikglgnmjjpcab
