/-
  Ranges over a function inside a plain loop: the marks that they leave behind, one a round.
-/
import Derived.Test.YtoikglgnmjjpcabLC
import Derived.Deep.OwnRows
namespace Go.Proofs.Ytoikglgnmjjpcab
open Go.RowKit Go.Shelf
set_option linter.unusedVariables false

def markD (D : Nat) : Deferred := { target := .collected D, args := #[] }

/-- The blocks of the loops that have run, each empty. -/
structure Marks (ds : List Nat) (W : World) : Prop where
  nodup : ds.Nodup
  here : ∀ D ∈ ds, W.heap[D]? = some (.deferred (some []))

theorem Marks.nil (W : World) : Marks [] W := ⟨List.nodup_nil, fun D h => by cases h⟩
theorem Marks.lt {ds : List Nat} {W : World} (h : Marks ds W) {D : Nat} (hD : D ∈ ds) : D < W.heap.size := (Array.getElem?_eq_some_iff.1 (h.here D hD)).1
theorem Marks.cons {ds : List Nat} {W : World} (h : Marks ds W) {D : Nat} (hD : W.heap[D]? = some (.deferred (some []))) (hn : ∀ E ∈ ds, E < D) : Marks (D :: ds) W :=
  ⟨List.nodup_cons.2 ⟨fun hm => Nat.lt_irrefl _ (hn D hm), h.nodup⟩, fun E hE => by
    rcases List.mem_cons.1 hE with rfl | hE
    · exact hD
    · exact h.here E hE⟩
/-- A step that turns no block but cells, and new ones. -/
theorem Marks.keep {ds : List Nat} {W W' : World} (h : Marks ds W) (hk : ∀ k o, W.heap[k]? = some o → o.isCells = false → k ∈ ds → W'.heap[k]? = some o) : Marks ds W' :=
  ⟨h.nodup, fun D hD => hk D _ (h.here D hD) rfl hD⟩
theorem Marks.grown {ds : List Nat} {W W' : World} {row : Option Nat} (h : Marks ds W) (hg : W.grownBy W' row) (hr : ∀ r, row = some r → r ∉ ds) : Marks ds W' :=
  h.keep fun k o hk _ hm => (hg.block k (Array.getElem?_eq_some_iff.1 hk).1 fun e => hr k e.symm hm).trans hk
theorem Marks.below {ds : List Nat} {W W' : World} (h : Marks ds W) (hb : Below W.heap.size W W') : Marks ds W' := h.grown (grown_of_below hb none) (fun r e => by cases e)
theorem Marks.others {ds : List Nat} {W W' : World} (h : Marks ds W) (hk : KeepsOthers W W') : Marks ds W' := h.keep fun k o h1 h2 _ => hk.same k o h1 h2

/-- The marks' blocks have been shut. -/
structure Shut (B : Nat) (W W' : World) : Prop where
  below : Below B W W'
  cells : ∀ (k : Nat) (o : Obj), W.heap[k]? = some o → o.isCells = true → W'.heap[k]? = some o

theorem Shut.refl (B : Nat) (W : World) : Shut B W W := ⟨Below.refl _ _, fun _ _ h _ => h⟩

theorem leaves_marks {F : Fence} {n : Nat} {P : Program} {fn : Func} {tmps : Array Value} {R : Ending → World → Prop} {B : Nat} : ∀ (ds : List Nat) (W : World), Marks ds W → (∀ D ∈ ds, B ≤ D) →
    (∀ W', Shut B W W' → LeavesInM F n P fn tmps R [] .returning W') → LeavesInM F n P fn tmps R (ds.map markD) .returning W
  | [], W, _, _, h => h W (Shut.refl _ _)
  | D :: ds, W, hm, hB, h => by
    have hD := hm.here D (by simp)
    have hlt := hm.lt (D := D) (by simp)
    have hg := grownBy_putObj' W D (.deferred none)
    have hnd := List.nodup_cons.1 hm.nodup
    refine ⟨by simp, .inl ⟨D, _, rfl, run_takeDeferred hD, ?_⟩⟩
    refine leaves_marks ds _ ⟨hnd.2, fun E hE => ?_⟩ (fun E hE => hB E (by simp [hE])) fun W' hs => h W' ⟨?_, fun k o hk ho => ?_⟩
    · have hne : E ≠ D := fun e => hnd.1 (e ▸ hE)
      exact (World.putObj_heap_other hne).trans (hm.here E (by simp [hE]))
    · exact ((Below.refl B W).grown hg (by have := hB D (by simp); omega) (fun k e => by cases e; exact hB D (by simp))).trans hs.below
    · refine hs.cells k o ((World.putObj_heap_other fun e => ?_).trans hk) ho
      subst e
      rw [hD] at hk
      cases hk
      cases ho

theorem Shut.owns {B : Nat} {W W' : World} (h : Shut B W W') {base : Nat} {e : TypeId} {size : Nat} {v : Value} {n : Nat} {xs : List Value} (ho : W.ownsRow base e size v n xs) : W'.ownsRow base e size v n xs := by
  obtain ⟨hl, h3⟩ := ho
  refine ⟨hl, ?_⟩
  rcases h3 with h3 | ⟨g', cap', cur', rfl, a1, a2, a3⟩
  · exact Or.inl h3
  · exact Or.inr ⟨g', cap', cur', rfl, a1, h.cells _ _ a2 rfl, a3⟩

theorem Shut.rows {B : Nat} {W W' : World} (h : Shut B W W') {base rb L : Nat} {vs : List Value} {f : Nat → List Int} (hr : RowsAt W base rb L vs f) : RowsAt W' base rb L vs f :=
  ⟨h.cells _ _ hr.blk rfl, hr.len, fun m v hv => h.owns (hr.own m v hv), hr.apart⟩

end Go.Proofs.Ytoikglgnmjjpcab
