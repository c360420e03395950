/-
  run.value and hoistwayref.Reckon, walked.
-/
import Derived.Test.YtoikglgnmjjpcaaDoorB
import Derived.Test.YtoikglgnmjjpcaaDoorS
import Derived.Test.YtoikglgnmjjpcaaDoorMR
namespace Go.Proofs.YtoikglgnmjjpcaaDoor
open Go.RowKit
set_option linter.unusedVariables false

end Go.Proofs.YtoikglgnmjjpcaaDoor
