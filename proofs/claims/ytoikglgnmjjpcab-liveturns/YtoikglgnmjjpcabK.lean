/-
  prog.Ahead, walked.
-/
import Derived.Test.YtoikglgnmjjpcabLD
import Derived.Test.YtoikglgnmjjpcabLG
namespace Go.Proofs.Ytoikglgnmjjpcab
open Go.RowKit Go.Shelf
set_option linter.unusedVariables false

theorem linksAhead_any (r : Int) (b off cap : Nat) (ns : List Nd) (w : World) (hN : NodesAt w b off ns) (hc : chk r ns = 0) :
    Calls Try.prog 40 #[.agg #[.int .i64 r, .slice (some ⟨b, off, none⟩) ns.length cap]] w fun e w' => ∃ rb vs, e = .returned (.slice (some ⟨rb, 0, none⟩) ns.length ns.length) ∧ RowsAt w' w.heap.size rb ns.length vs (fun m => pick (ahB ns m) ns.length) ∧ Below w.heap.size w w' :=
  callsIn_wide.1 (linksAhead_in 4 (by decide) r b off cap ns w hN hc)

end Go.Proofs.Ytoikglgnmjjpcab
