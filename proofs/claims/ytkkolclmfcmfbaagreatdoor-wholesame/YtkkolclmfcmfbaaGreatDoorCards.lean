/-
  DERIVED. GIVEN WITH THE SEED: THE CARDS: each row of YtkkolclmfcmfbaaGreatDoorRows.lean that lists a variable, with what it lists TIED to the program's text (the seventh form; the later family's looks); each row that meets fmt, with fmt's text TOLD by the authors' own Lean function (tested against real Go, not proved from fmt's source: count such statements apart). THE CARD IS WHAT COUNTS. Prove the row's statement (the work); the ties are given (YtkkolclmfcmfbaaGreatDoorTie.lean); close each card by the builder's one call (the guide's Derived/Test/ToyasCard.lean, 'card_holds'). Laid BY PROGRAM, IN A SANDBOX (cutbox-door.mjs). By AI agents, Wed Nov 11 2026. No macro, syntax, notation, axiom, sorry.
-/
import Derived.Test.YtkkolclmfcmfbaaGreatDoorRows
import GoSem.ClaimSeven
namespace Go.Proofs.YtkkolclmfcmfbaaGreatDoor
namespace Rows

/-- THE TIED CARD OF 'hoistwaylaw.WholeSame'. -/
def wholeSameCard : Claim7 := { stood := { row := wholeSameRow, standIns := [], harness := (true, "09987034242ac3c0f5f91b0a5655744399761d3b6458a95faa7969cf82e49dde"), looks := true }, kinds := [], alts := [], laidByText := true, laidKinds := [.data, .data, .data, .data, .sentinel, .sentinel, .pinned], laidTests := true, laidLooks := .later }
def WholeSameCardSaid : Prop := Claim7.holds Tryz.pinned (.plain (OpenSpec.ofChange wholeSameSpec)) wholeSameCard

/-- THE SECOND FORM's CARD OF 'hoistwaylaw.WholeSame'. -/
def wholeSameUptoCard : Claim7 := { stood := { row := wholeSameUptoRow, standIns := [], harness := (true, "09987034242ac3c0f5f91b0a5655744399761d3b6458a95faa7969cf82e49dde"), looks := true }, kinds := [], alts := [], laidByText := true, laidKinds := [.data, .data, .data, .data, .sentinel, .sentinel, .pinned], laidTests := true, laidLooks := .later }
def WholeSameUptoCardSaid : Prop := Claim7.holds Tryz.pinned (.plain (OpenSpec.upto wholeSameSpec)) wholeSameUptoCard
end Rows
end Go.Proofs.YtkkolclmfcmfbaaGreatDoor
