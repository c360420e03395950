/-
  Plain facts on programs that are right: they lie in MP.
-/
import Derived.Test.YtoikglgnmjjpcaaD
import Derived.Test.YtoikglgnmjjpcaaMP
namespace Go.Proofs.Ytoikglgnmjjpcaa

end Go.Proofs.Ytoikglgnmjjpcaa
