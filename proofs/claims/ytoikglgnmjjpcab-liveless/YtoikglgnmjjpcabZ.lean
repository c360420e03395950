/-
  Plain facts on programs that are right: they lie in MP.
-/
import Derived.Test.YtoikglgnmjjpcabD
import Derived.Test.YtoikglgnmjjpcabMP
namespace Go.Proofs.Ytoikglgnmjjpcab

end Go.Proofs.Ytoikglgnmjjpcab
