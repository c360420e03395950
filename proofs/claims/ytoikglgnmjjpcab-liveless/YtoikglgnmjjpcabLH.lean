/-
  graph.Reach, walked.
-/
import Derived.Test.YtoikglgnmjjpcabLI
import Derived.Test.YtoikglgnmjjpcabGV
import Derived.Test.YtoikglgnmjjpcabD
import Derived.Stop.RegionWithIn
import Derived.Sort.CutIn
namespace Go.Proofs.Ytoikglgnmjjpcab
open Go.RowKit Go.Shelf
set_option linter.unusedVariables false

attribute [local go_sem] Oper.semAt_some

theorem info_bool : (Try.prog.info? 4).map (fun i => (i.zero, i.size, i.bytes)) = some (some (.bool false), 1, 1) := by kernel_rfl

theorem made_bools (n : Nat) : madeCells #[Value.bool false] n = ((List.replicate n false).map Value.bool).toArray := by
  apply Array.ext'
  rw [toList_madeCells_one]
  simp

/-- Reach's two lists in memory. -/
structure RM (w : World) (base q cb L : Nat) (x : List Bool) (cs : List Int) (vc : Value) : Prop where
  row : w.heap[q]? = some (.cells (x.map Value.bool).toArray 4 (0, 0))
  rbx : Boxed w (q + 1) 71 (.slice (some ⟨q, 0, none⟩) L L)
  cbx : Boxed w cb 36 vc
  come : w.ownsRow base 3 1 vc cs.length (cs.map (Value.int .i64))

theorem RM.kept {w w' : World} {base q cb L : Nat} {x : List Bool} {cs : List Int} {vc : Value} (h : RM w base q cb L x cs vc) {row : Option Nat} (hg : w.grownBy w' row) (hr : ∀ r, row = some r → ∃ o : Obj, w.heap[r]? = some o ∧ o.isCells = false) : RM w' base q cb L x cs vc := by
  have hcl : ∀ (b : Nat) (o : Obj), w.heap[b]? = some o → o.isCells = true → some b ≠ row := fun b o h1 h2 e => by
    obtain ⟨o', h3, h4⟩ := hr b e.symm
    rw [h1] at h3; cases h3; rw [h2] at h4; cases h4
  refine ⟨(hg.block q (blk_lt h.row) (hcl _ _ h.row rfl)).trans h.row, h.rbx.kept hg (hcl _ _ h.rbx rfl), h.cbx.kept hg (hcl _ _ h.cbx rfl), h.come.kept hg ?_⟩
  rcases h.come.2 with ⟨rfl, _⟩ | ⟨g, cap, cur, rfl, _, hgb, _⟩
  · exact .inl rfl
  · exact .inr (by
      have := hcl g _ hgb rfl
      simpa [Value.ownBlock] using this)

theorem RM.below {w w' : World} {base q cb L : Nat} {x : List Bool} {cs : List Int} {vc : Value} (h : RM w base q cb L x cs vc) (hb : Below w.heap.size w w') : RM w' base q cb L x cs vc := h.kept (grown_of_below hb none) (fun r e => by cases e)

/-- One node more is told as come to. -/
theorem RM.set {w : World} {base q cb L : Nat} {x : List Bool} {cs : List Int} {vc : Value} (h : RM w base q cb L x cs vc) (m : Nat) : RM (w.setCell ⟨q, m, none⟩ (.bool true)) base q cb L (x.set m true) cs vc := by
  refine ⟨?_, ?_, ?_, owns_set h.come h.row (by decide)⟩
  · rw [blk_set _ h.row]; simp [List.map_set]
  · exact (Below.heap_setCell _ _ _ _ (boxed_ne h.rbx h.row (by decide))).trans h.rbx
  · exact (Below.heap_setCell _ _ _ _ (boxed_ne h.cbx h.row (by decide))).trans h.cbx

end Go.Proofs.Ytoikglgnmjjpcab
