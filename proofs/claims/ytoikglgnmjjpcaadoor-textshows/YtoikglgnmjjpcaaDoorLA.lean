/-
  links.Exits: the iterator over a node's exits, and what it owes to whoever ranges over it.
-/
import Derived.RangeFuncNested
import Derived.RangeFuncBound
import Derived.RangeFuncCalls
import Derived.RangeFuncLeaves
import Derived.Shelf.Abstract
import Derived.Shelf.RegionOpen
import Derived.OwnWalkIn
import Derived.TacticsInMore
import Derived.LoopNIn
import Derived.LoopIn
import Derived.Test.YtoikglgnmjjpcaaDoorA
import Derived.Test.YtoikglgnmjjpcaaDoorGD
namespace Go.Proofs.YtoikglgnmjjpcaaDoor
open Go.RowKit Go.Shelf
set_option linter.unusedVariables false

attribute [local go_sem] Oper.semAt_some

theorem hide' {p : Prop} (h : p) : Hid p := h

/-- An exit of a node. -/
abbrev Ex (x : Nd) := { m : Int // m ∈ exo x }
def exoA (x : Nd) : List (Ex x) := (exo x).attach
def exv {x : Nd} (l : List (Ex x)) : List Int := l.map (·.1)
theorem exv_nil {x : Nd} : exv ([] : List (Ex x)) = [] := rfl
theorem exv_snoc {x : Nd} (l : List (Ex x)) (y : Ex x) : exv (l ++ [y]) = exv l ++ [y.1] := by simp [exv]
theorem exoA_map (x : Nd) : (exoA x).map (·.1) = exo x := by simp [exoA]
theorem exv_all (x : Nd) : exv (exoA x) = exo x := exoA_map x
theorem exv_len {x : Nd} (l : List (Ex x)) : (exv l).length = l.length := by simp [exv]
theorem exoA_len (x : Nd) : (exoA x).length = (exo x).length := by simp [exoA]
theorem exo_len (x : Nd) : (exo x).length ≤ 2 := by
  unfold exo; repeat' split
  all_goals simp

/-- The node's box. -/
def NodeBox (w : World) (B : Nat) (x : Nd) : Prop := w.heap[B]? = some (.cells #[.int .i64 x.op, .int .i64 x.d, .int .i64 x.a, .int .i64 x.b, .int .i64 x.t, .int .i64 x.e] 49 (0, 0))
theorem NodeBox.lt {w : World} {B : Nat} {x : Nd} (h : NodeBox w B x) : B < w.heap.size := (Array.getElem?_eq_some_iff.1 h).1
theorem NodeBox.c0 {w : World} {B : Nat} {x : Nd} (h : NodeBox w B x) : w.cell? ⟨B, 0, none⟩ = some (.int .i64 x.op) := by simp [World.cell?, show w.heap[B]? = _ from h]
theorem NodeBox.c4 {w : World} {B : Nat} {x : Nd} (h : NodeBox w B x) : w.cell? ⟨B, 4, none⟩ = some (.int .i64 x.t) := by simp [World.cell?, show w.heap[B]? = _ from h]
theorem NodeBox.c5 {w : World} {B : Nat} {x : Nd} (h : NodeBox w B x) : w.cell? ⟨B, 5, none⟩ = some (.int .i64 x.e) := by simp [World.cell?, show w.heap[B]? = _ from h]
theorem NodeBox.below {w w' : World} {B n₀ : Nat} {x : Nd} (h : NodeBox w B x) (hb : Below n₀ w w') (hB : B < n₀) : NodeBox w' B x := (hb.block B hB).trans h

/-- What a round keeps for the iterator: the node's box, and the kinds that it has laid for itself. -/
structure KT (B : Nat) (A C : World) : Prop where
  box : C.heap[B]? = A.heap[B]?
  kinds : ∀ (k : Nat) vs fr, A.heap[k]? = some (.cells vs 68 fr) → C.heap[k]? = A.heap[k]?

theorem KT.refl (B : Nat) (A : World) : KT B A A := ⟨rfl, fun _ _ _ _ => rfl⟩
theorem KT.trans {B : Nat} {A C E : World} (h : KT B A C) (k : KT B C E) : KT B A E :=
  ⟨k.box.trans h.box, fun i vs fr e => by
    have h1 := h.kinds i vs fr e
    rw [k.kinds i vs fr (h1.trans e), h1]⟩
theorem KT.of_below {B : Nat} {A C : World} (h : Below A.heap.size A C) (hB : B < A.heap.size) : KT B A C :=
  ⟨h.block B hB, fun i vs fr e => h.block i (Array.getElem?_eq_some_iff.1 e).1⟩
theorem KT.grown {B : Nat} {A C : World} {row : Option Nat} (hg : A.grownBy C row) (hB : B < A.heap.size) (hr : ∀ g, row = some g → g ≠ B ∧ ∃ vs t fr, A.heap[g]? = some (.cells vs t fr) ∧ t ≠ 68) : KT B A C :=
  ⟨hg.block B hB fun e => (hr B e.symm).1 rfl, fun i vs fr e => hg.block i (Array.getElem?_eq_some_iff.1 e).1 fun e2 => by
    obtain ⟨_, vs', t, fr', h1, h2⟩ := hr i e2.symm
    rw [h1] at e
    cases e
    exact h2 rfl⟩
theorem KT.setCell {B : Nat} {A : World} {b o : Nat} {vs : Array Value} {t : TypeId} {fr : Nat × Nat} (h : A.heap[b]? = some (.cells vs t fr)) (ht : t ≠ 68) (hb : b ≠ B) (v : Value) : KT B A (A.setCell ⟨b, o, none⟩ v) :=
  ⟨Below.heap_setCell _ _ _ B fun e2 => hb e2.symm, fun i vs' fr' e => Below.heap_setCell _ _ _ i fun e2 => by
    simp only at e2
    subst e2
    rw [h] at e
    cases e
    exact ht rfl⟩
theorem KT.putObj {B : Nat} {w : World} (hB : B < w.heap.size) (W : World) (l : Nat) (o o' : Obj) (hl : w.heap.size ≤ l) (h : W.heap[l]? = some o) (hc : o.isCells = false) (_ : o.isWalk = false) : KT B W (W.putObj l o') :=
  ⟨World.putObj_heap_other (by omega), fun i vs fr e => World.putObj_heap_other fun e2 => by
    subst e2
    rw [h] at e
    cases e
    cases hc⟩
theorem KT.node {B : Nat} {A C : World} {x : Nd} (h : KT B A C) (hx : NodeBox A B x) : NodeBox C B x := h.box.trans hx

theorem k3_ne {op : Int} (h : ¬ (0 ≤ op ∧ op ≤ 11)) : (k3 op == 3) = false := by
  have : wi op 0 11 = false := wi_false (by omega)
  simp [k3, this]
theorem k3_eq {op : Int} (h : 0 ≤ op ∧ op ≤ 11) : k3 op = 3 := by
  simp [k3, wi_true h.1 h.2]

theorem grown_of_below {w w' : World} (h : Below w.heap.size w w') (row : Option Nat) : w.grownBy w' row := ⟨h.os, h.tape, h.output, h.size, fun k hk _ => h.block k hk⟩

theorem abides_below {α : Type} {B : Nat} {J : List α → World → Prop} (hJ : AbidesFrom B J) {s : List α} {w w' : World} (h : J s w) (hb : Below w.heap.size w w') : J s w' :=
  hJ s w w' none h (grown_of_below hb none) (fun r e => by cases e)

theorem exoA_nil {x : Nd} (h : exo x = []) : exoA x = [] := by
  have := exoA_len x; rw [h] at this; exact List.eq_nil_of_length_eq_zero this
theorem exoA_one {x : Nd} {a : Int} (h : exo x = [a]) : ∃ ha : a ∈ exo x, exoA x = [⟨a, ha⟩] := by
  refine ⟨by rw [h]; simp, ?_⟩
  have hm := (exoA_map x).trans h
  cases e : exoA x with
  | nil => rw [e] at hm; simp at hm
  | cons y l =>
    rw [e] at hm
    simp only [List.map_cons, List.cons.injEq, List.map_eq_nil_iff] at hm
    obtain ⟨h1, h2⟩ := hm
    subst h2
    congr 1; exact Subtype.ext h1
theorem exoA_two {x : Nd} {a b : Int} (h : exo x = [a, b]) : ∃ (ha : a ∈ exo x) (hb : b ∈ exo x), exoA x = [⟨a, ha⟩, ⟨b, hb⟩] := by
  refine ⟨by rw [h]; simp, by rw [h]; simp, ?_⟩
  have hm := (exoA_map x).trans h
  cases e : exoA x with
  | nil => rw [e] at hm; simp at hm
  | cons y l =>
    rw [e] at hm
    cases l with
    | nil => simp at hm
    | cons z l =>
      simp only [List.map_cons, List.cons.injEq, List.map_eq_nil_iff] at hm
      obtain ⟨h1, h2, h3⟩ := hm
      subst h3
      congr 1
      · exact Subtype.ext h1
      · congr 1; exact Subtype.ext h2

theorem nodeBox_new (w : World) (x : Nd) : NodeBox (w.alloc (.cells #[.int .i64 x.op, .int .i64 x.d, .int .i64 x.a, .int .i64 x.b, .int .i64 x.t, .int .i64 x.e] 49)) w.heap.size x := World.alloc_heap_new w _

end Go.Proofs.YtoikglgnmjjpcaaDoor
