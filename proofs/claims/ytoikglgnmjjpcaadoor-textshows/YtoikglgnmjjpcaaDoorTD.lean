/-
  strings.Builder's WriteString, off the shelf, by what strings.Join's laying holds.
-/
import Derived.Test.YtoikglgnmjjpcaaDoorA
import Derived.Test.YtoikglgnmjjpcaaDoorSh
namespace Go.Proofs.YtoikglgnmjjpcaaDoor
open Go.RowKit Go.Shelf
set_option linter.unusedVariables false

theorem bwrite_any (B b : Nat) (bs : List Value) (s : ByteArray) (w : World) (h : Lib.IsBuilder 42 5 B b bs w) (hlen : bs.length + s.size ≤ 140737488355328) (hBw : B ≤ w.heap.size) :
    Calls Tryd.prog 14 #[.pointer (some ⟨b, 0, none⟩), .string s] w fun e w' => e = .returned (.tuple #[.int .i64 s.size, .nilIface]) ∧ (Lib.BuilderAt 42 5 B b (.pointer (some ⟨b, 0, none⟩)) (bs ++ Lib.strCells s) w' ∧ Below B w w') :=
  Any.Builder_WriteString (ρ := Tryd.lays156_ren) { Tryd.lays156 with } Tryd.Builder_Extra_156 B b bs s w h hlen hBw

end Go.Proofs.YtoikglgnmjjpcaaDoor
