/-
  slices.AppendSeq and slices.Collect over a node's exits, walked.
-/
import Derived.RangeFuncBox
import Derived.Maps.AppendAt
import Derived.Test.YtoikglgnmjjpcaaDoorLA
import Derived.Test.YtoikglgnmjjpcaaDoorG
namespace Go.Proofs.YtoikglgnmjjpcaaDoor
open Go.RowKit Go.Shelf
set_option linter.unusedVariables false

attribute [local go_sem] Oper.semAt_some

theorem KT.appended {W w1 : World} {n₀ B N : Nat} {t e : TypeId} {size : Nat} {v v' : Value} {k : Nat} {xs : List Value} {tmp : Obj} (hv1 : Boxed w1 B t v) (hte : e ≠ 68) (htt : t ≠ 68) (hrow : W.ownsRow n₀ e size v k xs) (hN : N < W.heap.size) (hNn : N < n₀) (hB : B ≠ N) (hgrow : (W.alloc tmp).grownBy w1 v.ownBlock) : KT N W (w1.setCell ⟨B, 0, none⟩ v') := by
  have h1 : KT N W (W.alloc tmp) := KT.of_below ((Below.refl _ W).alloc (Nat.le_refl _) _) hN
  have h2 : KT N (W.alloc tmp) w1 := by
    refine KT.grown hgrow (by simp; omega) fun g e' => ?_
    rcases (hrow.alloc tmp).2 with ⟨rfl, _⟩ | ⟨g', cap, cur, rfl, hb, hgb, _⟩
    · simp [Value.ownBlock] at e'
    · obtain rfl : g' = g := by simpa [Value.ownBlock] using e'
      exact ⟨by omega, _, _, _, hgb, hte⟩
  exact (h1.trans h2).trans (KT.setCell (o := 0) hv1 htt hB v')

end Go.Proofs.YtoikglgnmjjpcaaDoor
