/-
  No cell of these rows narrows 'for every input' (looked for: loops, veiled, ifaces, maps, wideKeys, modest, calm, conditions, laid).
  DERIVED. THE GIVEN ROWS OF THIS SEAT. 3 by the template 'for every input the law returns true; each argument reads behind the call as it read before'; 0 by the template 'total and deterministic' (their statements: YtoikglgnmjjpcabTotals.lean).
  GIVEN WITH THE SEED: the statements are not yours to turn. If you find one false, say at which input.
  Laid BY PROGRAM, IN A SANDBOX (cutbox-rows.mjs): the forced cells as the released guide's own fill.sh prints them over the translation 02eda7f736bc1862… (all of the seat's roots in one cut). By AI agents, Wed Nov 11 2026. No macro, syntax, notation, axiom, sorry.
-/
import Derived.Test.YtoikglgnmjjpcabChecked
import GoSem.Claim
import GoSem.ClaimJoined
import GoSem.ClaimMapViews
import Derived.JoinedTies
import Derived.KernelRfl
namespace Go.Proofs.Ytoikglgnmjjpcab
/- THE CELL 'sum', in the pinned program and in every row, IS THE sha256 OF THE DUMP (.gsa) THAT YtoikglgnmjjpcabProg.lean LOADS. Nothing in Lean hashes anything: it is a label: what it is worth is what the hold of that sum in a sandbox is worth. -/
noncomputable def Try.pinned : Pinned := { name := "ytoikglgnmjjpcab", sum := "02eda7f736bc1862c2ec9ed0fe322a8cd6d755508dc117016508cd7cb8e85b98", checked := Try.checked }
namespace Rows
def none {H : Type} : Left H := { results := [], args := [] }

/-- 'hoistwaylaw.LiveTurns': WHATEVER THE INPUT: true; the input reads as it did. -/
def liveTurnsSpec : ChangeSpec := { name := "liveTurns", fn := fun _ => fun
  | [d] => { results := [.lit (.bool true)], args := [d] }
  | _ => none }
def liveTurnsRow : OpenClaim := { program := "ytoikglgnmjjpcab", sum := "02eda7f736bc1862c2ec9ed0fe322a8cd6d755508dc117016508cd7cb8e85b98", func := "hoistway/hoistwaylaw.LiveTurns", spec := "liveTurns", unfollowed := true, recurses := true, plainKeys := false, apart := false }
def LiveTurnsSaid : Prop := liveTurnsRow.holds Try.pinned (OpenSpec.ofChange liveTurnsSpec)

/-- ITS FALSE NEIGHBOUR: 'it returns false'. Refute it at one input. -/
def liveTurnsWrong : ChangeSpec := { name := "liveTurns", fn := fun _ => fun
  | [d] => { results := [.lit (.bool false)], args := [d] }
  | _ => none }
def LiveTurnsWrongFalsely : Prop := liveTurnsRow.holds Try.pinned (OpenSpec.ofChange liveTurnsWrong)

/-- 'hoistwaylaw.LiveSame': WHATEVER THE INPUT: true; the input reads as it did. -/
def liveSameSpec : ChangeSpec := { name := "liveSame", fn := fun _ => fun
  | [d1, d2, d3] => { results := [.lit (.bool true)], args := [d1, d2, d3] }
  | _ => none }
def liveSameRow : OpenClaim := { program := "ytoikglgnmjjpcab", sum := "02eda7f736bc1862c2ec9ed0fe322a8cd6d755508dc117016508cd7cb8e85b98", func := "hoistway/hoistwaylaw.LiveSame", spec := "liveSame", unfollowed := true, recurses := true, plainKeys := false, apart := false }
def LiveSameSaid : Prop := liveSameRow.holds Try.pinned (OpenSpec.ofChange liveSameSpec)

/-- ITS FALSE NEIGHBOUR: 'it returns false'. Refute it at one input. -/
def liveSameWrong : ChangeSpec := { name := "liveSame", fn := fun _ => fun
  | [d1, d2, d3] => { results := [.lit (.bool false)], args := [d1, d2, d3] }
  | _ => none }
def LiveSameWrongFalsely : Prop := liveSameRow.holds Try.pinned (OpenSpec.ofChange liveSameWrong)

/-- 'hoistwaylaw.LiveLess': WHATEVER THE INPUT: true; the input reads as it did. -/
def liveLessSpec : ChangeSpec := { name := "liveLess", fn := fun _ => fun
  | [d1, d2, d3, d4, d5] => { results := [.lit (.bool true)], args := [d1, d2, d3, d4, d5] }
  | _ => none }
def liveLessRow : OpenClaim := { program := "ytoikglgnmjjpcab", sum := "02eda7f736bc1862c2ec9ed0fe322a8cd6d755508dc117016508cd7cb8e85b98", func := "hoistway/hoistwaylaw.LiveLess", spec := "liveLess", unfollowed := true, recurses := true, plainKeys := false, apart := false }
def LiveLessSaid : Prop := liveLessRow.holds Try.pinned (OpenSpec.ofChange liveLessSpec)

/-- ITS FALSE NEIGHBOUR: 'it returns false'. Refute it at one input. -/
def liveLessWrong : ChangeSpec := { name := "liveLess", fn := fun _ => fun
  | [d1, d2, d3, d4, d5] => { results := [.lit (.bool false)], args := [d1, d2, d3, d4, d5] }
  | _ => none }
def LiveLessWrongFalsely : Prop := liveLessRow.holds Try.pinned (OpenSpec.ofChange liveLessWrong)

/- THE SECOND FORM. 'bulk': how many values and letters a reading holds, each counted each time it is reached (what is shared counts as often as it is met; a slice's spare places count too). A statement '..UptoSaid' is the law's where the arguments, and the package variables that the reading takes, are together of bulk at most 1048576: NARROWER than '..Said'. Prove '..Said' where nothing that the law and all that it calls make is longer than what came in: it says more and counts as full. Else prove '..UptoSaid'. A law counts once. -/
mutual
def uptoBulk {H : Type} : DataW H → Nat
  | .lit (.string bytes) => bytes.length + 1
  | .lit _ => 1
  | .nil => 1
  | .ptr d => uptoBulk d + 1
  | .slice elems spare => uptoBulkAll elems + uptoBulkAll spare + 1
  | .agg parts => uptoBulkAll parts + 1
  | .iface _ d => uptoBulk d + 1
  | .map entries => uptoBulkEntries entries + 1
  | .held _ => 1
def uptoBulkAll {H : Type} : List (DataW H) → Nat
  | [] => 0
  | d :: r => uptoBulk d + uptoBulkAll r
def uptoBulkEntries {H : Type} : List (Lit × DataW H) → Nat
  | [] => 0
  | x :: r => uptoBulkEntry x + uptoBulkEntries r
def uptoBulkEntry {H : Type} : Lit × DataW H → Nat
  | (.string bytes, d) => bytes.length + uptoBulk d + 1
  | (_, d) => uptoBulk d + 1
 end
def uptoSmall : (H : Type) → List (DataW H) → Bool := fun _ ds => decide (uptoBulkAll ds ≤ 1048576)
def OpenSpec.upto (s : _root_.Go.ChangeSpec) : _root_.Go.OpenSpec := { _root_.Go.OpenSpec.ofChange s with cond := some uptoSmall }

/-- 'hoistwaylaw.LiveTurns', WHERE WHAT IT READS IS OF BULK AT MOST 1048576: true; the input reads as it did. -/
def liveTurnsUptoRow : OpenClaim := { program := "ytoikglgnmjjpcab", sum := "02eda7f736bc1862c2ec9ed0fe322a8cd6d755508dc117016508cd7cb8e85b98", func := "hoistway/hoistwaylaw.LiveTurns", spec := "liveTurns", unfollowed := true, recurses := true, plainKeys := false, apart := false, narrowed := true }
def LiveTurnsUptoSaid : Prop := liveTurnsUptoRow.holds Try.pinned (OpenSpec.upto liveTurnsSpec)

/-- 'hoistwaylaw.LiveSame', WHERE WHAT IT READS IS OF BULK AT MOST 1048576: true; the input reads as it did. -/
def liveSameUptoRow : OpenClaim := { program := "ytoikglgnmjjpcab", sum := "02eda7f736bc1862c2ec9ed0fe322a8cd6d755508dc117016508cd7cb8e85b98", func := "hoistway/hoistwaylaw.LiveSame", spec := "liveSame", unfollowed := true, recurses := true, plainKeys := false, apart := false, narrowed := true }
def LiveSameUptoSaid : Prop := liveSameUptoRow.holds Try.pinned (OpenSpec.upto liveSameSpec)

/-- 'hoistwaylaw.LiveLess', WHERE WHAT IT READS IS OF BULK AT MOST 1048576: true; the input reads as it did. -/
def liveLessUptoRow : OpenClaim := { program := "ytoikglgnmjjpcab", sum := "02eda7f736bc1862c2ec9ed0fe322a8cd6d755508dc117016508cd7cb8e85b98", func := "hoistway/hoistwaylaw.LiveLess", spec := "liveLess", unfollowed := true, recurses := true, plainKeys := false, apart := false, narrowed := true }
def LiveLessUptoSaid : Prop := liveLessUptoRow.holds Try.pinned (OpenSpec.upto liveLessSpec)

end Rows
end Go.Proofs.Ytoikglgnmjjpcab
