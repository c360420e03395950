/-
  Plain facts on sorting two numbers.
-/
import Derived.Test.YtoikglgnmjjpcaaDoorQ
namespace Go.Proofs.YtoikglgnmjjpcaaDoor

theorem sort1 (a : Int) : ([a].mergeSort fun x y => decide (x ≤ y)) = [a] := by simp
theorem sort2 (a b : Int) : ([a, b].mergeSort fun x y => decide (x ≤ y)) = if a ≤ b then [a, b] else [b, a] := by
  simp [List.mergeSort, List.MergeSort.Internal.splitInTwo, List.merge]

theorem exl_contains (x : Nd) (hk : kn x.op = true) (n : Nat) : (exl x).contains (n : Int) = ldB x n := by
  obtain ⟨op, d, a, b, t, e⟩ := x
  have hk' := wi_iff.1 hk
  simp only at hk'
  rw [Bool.eq_iff_iff]
  simp only [exl, ldB]
  by_cases h11 : op = 11
  · subst h11
    by_cases h1 : t = e
    · subst h1; simp; omega
    · rw [if_pos rfl, if_neg h1]
      by_cases h2 : t < e
      · rw [if_pos h2]; simp; omega
      · rw [if_neg h2]; simp; omega
  · rw [if_neg h11]
    by_cases h12 : op = 12
    · subst h12; simp [wi]
    · rw [wi_true (by omega) (by omega)]; simp [h11, h12]; omega

end Go.Proofs.YtoikglgnmjjpcaaDoor
