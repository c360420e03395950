/-
  Plain facts on sorting and compacting two numbers.
-/
import Derived.Test.YtkpbamlfonnhgaaQ
import Derived.Lib.SlicesCompact
namespace Go.Proofs.Ytkpbamlfonnhgaa

theorem sort1 (a : Int) : ([a].mergeSort fun x y => decide (x ≤ y)) = [a] := by simp
theorem sort2 (a b : Int) : ([a, b].mergeSort fun x y => decide (x ≤ y)) = if a ≤ b then [a, b] else [b, a] := by
  simp [List.mergeSort, List.MergeSort.Internal.splitInTwo, List.merge]

theorem compact0 : Lib.compact ([] : List Int) = [] := rfl
theorem compact1 (a : Int) : Lib.compact [a] = [a] := by simp [Lib.compact, Lib.compactUpTo, List.range_succ, Lib.keeps]
theorem compact2 (a b : Int) : Lib.compact [a, b] = if a = b then [a] else [a, b] := by
  by_cases h : b = a
  · subst h; simp [Lib.compact, Lib.compactUpTo, List.range_succ, Lib.keeps]
  · have h' : ¬ a = b := fun e => h e.symm
    simp [Lib.compact, Lib.compactUpTo, List.range_succ, Lib.keeps, h, h']

theorem exl_eq (x : Nd) : exl x = Lib.compact ((exs x 5).mergeSort fun x y => decide (x ≤ y)) := by
  obtain ⟨op, d, a, b, t, e⟩ := x
  by_cases h11 : op = 11
  · subst h11
    have h5 : exs ⟨11, d, a, b, t, e⟩ 5 = [t, e] := by simp [exs, E3, E4, k3, k4, wi]
    rw [h5, sort2]
    simp only [exl, if_true]
    by_cases h1 : t = e
    · subst h1; simp [compact2]
    · rw [if_neg h1]
      by_cases h2 : t < e
      · rw [if_pos h2, if_pos (by omega), compact2, if_neg (by omega)]
      · rw [if_neg h2, if_neg (by omega), compact2, if_neg (by omega)]
  · have h5 : exs ⟨op, d, a, b, t, e⟩ 5 = if wi op 0 11 then [t] else [] := by cases hw : wi op 0 11 <;> simp [exs, E3, E4, k3, k4, h11, hw]
    rw [h5]
    simp only [exl, if_neg h11]
    cases hw : wi op 0 11
    · simp [compact0]
    · simp [compact1]

theorem compact_le (zs : List Int) : (Lib.compact zs).length ≤ zs.length := by
  simp only [Lib.compact, Lib.compactUpTo, List.length_map]
  exact Nat.le_trans (List.length_filter_le _ _) (by simp)

theorem exs_nil {x : Nd} (h : exs x 5 = []) : exl x = [] := by rw [exl_eq, h]; simp [compact0]

theorem exl_contains (x : Nd) (hk : kn x.op = true) (n : Nat) : (exl x).contains (n : Int) = ldB x n := by
  obtain ⟨op, d, a, b, t, e⟩ := x
  have hk' := wi_iff.1 hk
  simp only at hk'
  rw [Bool.eq_iff_iff]
  simp only [exl, ldB]
  by_cases h11 : op = 11
  · subst h11
    by_cases h1 : t = e
    · subst h1; simp; omega
    · rw [if_pos rfl, if_neg h1]
      by_cases h2 : t < e
      · rw [if_pos h2]; simp; omega
      · rw [if_neg h2]; simp; omega
  · rw [if_neg h11]
    by_cases h12 : op = 12
    · subst h12; simp [wi]
    · rw [wi_true (by omega) (by omega)]; simp [h11, h12]; omega

/-- Does node m go on at node n? -/
def ahB (ns : List Nd) (n : Nat) (m : Nat) : Bool := match ns[m]? with | some y => ldB y n | none => false

theorem ahB_at {ns : List Nd} {n m : Nat} {y : Nd} (h : ns[m]? = some y) : ahB ns n m = ldB y n := by simp [ahB, h]

end Go.Proofs.Ytkpbamlfonnhgaa
