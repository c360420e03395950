/-
  How a result, a list of numbers and a term that came in as arguments lie in memory.
-/
import Derived.Test.YtoikglgnmjjpcabY
import Derived.Test.YtoikglgnmjjpcabGW
namespace Go.Proofs.Ytoikglgnmjjpcab
open Go.ChangeShapes Go.WideShapes Go.ChangeAt Go.RowKit Go.Joins Go.Deep
set_option linter.unusedVariables false

theorem cells_count : Try.prog.cellsOf 50 = 4 := by kernel_rfl
theorem cells_term : Try.prog.cellsOf 48 = 3 := by kernel_rfl
theorem cells_result : Try.prog.cellsOf 42 = 5 := by kernel_rfl
theorem cells_ints : Try.prog.cellsOf 36 = 1 := by kernel_rfl
theorem cells_counts : Try.prog.cellsOf 40 = 1 := by kernel_rfl
theorem cells_bool : Try.prog.cellsOf 4 = 1 := by kernel_rfl

theorem list4 {α : Type} {l : List α} (h : l.length = 4) : ∃ a b c d, l = [a, b, c, d] := by
  match l, h with
  | [a, b, c, d], _ => exact ⟨a, b, c, d, rfl⟩
theorem list3 {α : Type} {l : List α} (h : l.length = 3) : ∃ a b c, l = [a, b, c] := by
  match l, h with
  | [a, b, c], _ => exact ⟨a, b, c, rfl⟩
theorem list2 {α : Type} {l : List α} (h : l.length = 2) : ∃ a b, l = [a, b] := by
  match l, h with
  | [a, b], _ => exact ⟨a, b, rfl⟩
theorem list5 {α : Type} {l : List α} (h : l.length = 5) : ∃ a b c d e, l = [a, b, c, d, e] := by
  match l, h with
  | [a, b, c, d, e], _ => exact ⟨a, b, c, d, e, rfl⟩

set_option maxRecDepth 100000 in
theorem term_trod {H : Type} {enc : TypeId × Value → H} {W : World} {sp : Nat → Bool} {n : Nat} {c0 c1 c2 : Value} {y : DataW H × List MemPlace}
    (ht : DataW.trod enc Try.prog W 0 sp true n 48 [c0, c1, c2] = some y) : ∃ t : Tm, c0 = .int .i64 t.op ∧ c1 = .int .i64 t.a ∧ c2 = .int .i64 t.b := by
  obtain ⟨xs, m, _, _, _, hxs, hf⟩ := DataW.trod_struct Try.underlying48 ht
  obtain ⟨x0, x1, x2, rfl⟩ := list3 (l := xs) hxs
  have f0 := hf 0 _ rfl
  have f1 := hf 1 _ rfl
  have f2 := hf 2 _ rfl
  simp only [List.getElem?_cons_zero, List.getElem?_cons_succ] at f0 f1 f2
  obtain ⟨z0, e0, _⟩ := DataW.trod_int Try.underlying3 f0
  obtain ⟨z1, e1, _⟩ := DataW.trod_int Try.underlying3 f1
  obtain ⟨z2, e2, _⟩ := DataW.trod_int Try.underlying3 f2
  cases e0; cases e1; cases e2
  exact ⟨⟨z0, z1, z2⟩, rfl, rfl, rfl⟩

set_option maxRecDepth 100000 in
theorem count_at {H : Type} {enc : TypeId × Value → H} {W : World} {sp : Nat → Bool} {a : Addr} {n : Nat} {cs : List Value} {y : DataW H × List MemPlace} (hc : W.cells? 0 a 4 = some cs)
    (ht : DataW.trod enc Try.prog W 0 sp true n 50 cs = some y) :
    ∃ x : Ct, W.cell? (a.add 0) = some (.int .i64 x.t.op) ∧ W.cell? (a.add 1) = some (.int .i64 x.t.a) ∧ W.cell? (a.add 2) = some (.int .i64 x.t.b) ∧ W.cell? (a.add 3) = some (.int .i64 x.n) := by
  obtain ⟨_, hl, hcell⟩ := World.cells?_some hc
  obtain ⟨c0, c1, c2, c3, rfl⟩ := list4 hl
  obtain ⟨xs, m, _, _, _, hxs, hf⟩ := DataW.trod_struct Try.underlying50 ht
  obtain ⟨x0, x1, rfl⟩ := list2 (l := xs) hxs
  have f0 := hf 0 _ rfl
  have f1 := hf 1 _ rfl
  simp only [List.getElem?_cons_zero, List.getElem?_cons_succ] at f0 f1
  have f0' : DataW.trod enc Try.prog W 0 sp true m 48 [c0, c1, c2] = some x0 := f0
  obtain ⟨t, rfl, rfl, rfl⟩ := term_trod f0'
  obtain ⟨z1, e1, _⟩ := DataW.trod_int Try.underlying3 f1
  cases e1
  exact ⟨⟨t, z1⟩, hcell 0 (by omega), hcell 1 (by omega), hcell 2 (by omega), hcell 3 (by omega)⟩

set_option maxRecDepth 100000 in
theorem counts_of {H : Type} {enc : TypeId × Value → H} {W : World} {sp : Nat → Bool} {fuel : Nat} {v : Value} {y : DataW H × List MemPlace}
    (h : DataW.trod enc Try.prog W 0 sp true fuel 40 [v] = some y) : ∃ a cap l, v = .slice a (List.length l) cap ∧ CtsAt W a l ∧ l.length ≤ 9223372036854775807 := by
  rcases open_slice Try.underlying40 h with ⟨hcs, _⟩ | ⟨a, len, cap, m, n, D, Pl, hcs, _, hl, hm, hmm, _, hx⟩
  · simp at hcs
    exact ⟨none, 0, [], by simpa using hcs, Or.inl rfl, by simp⟩
  · simp at hcs
    subst hcs
    have hlm : len ≤ m := by rw [hmm]; split <;> omega
    obtain ⟨F, hF⟩ := choose_lt (α := Ct) (n := len) (p := fun i x => W.cell? ((a.add (i * 4)).add 0) = some (.int .i64 x.t.op) ∧ W.cell? ((a.add (i * 4)).add 1) = some (.int .i64 x.t.a) ∧ W.cell? ((a.add (i * 4)).add 2) = some (.int .i64 x.t.b) ∧ W.cell? ((a.add (i * 4)).add 3) = some (.int .i64 x.n)) (fun i hi => by
      obtain ⟨cs', h1, h2⟩ := hx i (by omega)
      rw [cells_count] at h1
      exact count_at h1 h2)
    refine ⟨some a, cap, (List.range len).map F, by simp, ?_, by simp; unfold maxLen at hm; omega⟩
    by_cases h0 : len = 0
    · subst h0; exact Or.inl rfl
    obtain ⟨b, off, spot⟩ := a
    have hc0 := (hF 0 (by omega)).1
    have hspot : spot = none := by simpa [Addr.add] using World.cell?_spot hc0
    subst hspot
    have hblt : b < W.heap.size := by simpa [Addr.add] using block_lt_of_cell hc0
    refine Or.inr ⟨b, off, rfl, hblt, ?_⟩
    intro i x hi
    rw [List.getElem?_map, Option.map_eq_some_iff] at hi
    obtain ⟨j, hj, rfl⟩ := hi
    have hlt : i < len := by have := (List.getElem?_eq_some_iff.1 hj).1; simpa using this
    rw [List.getElem?_range hlt] at hj
    cases hj
    have := hF i hlt
    simpa only [add_lit', Nat.add_zero] using this

set_option maxRecDepth 100000 in
theorem ints_of {H : Type} {enc : TypeId × Value → H} {W : World} {sp : Nat → Bool} {fuel : Nat} {v : Value} {y : DataW H × List MemPlace}
    (h : DataW.trod enc Try.prog W 0 sp true fuel 36 [v] = some y) : ∃ a cap l, v = .slice a (List.length l) cap ∧ IntsAt W a l ∧ l.length ≤ 9223372036854775807 ∧ l.length ≤ cap := by
  rcases open_slice Try.underlying36 h with ⟨hcs, _⟩ | ⟨a, len, cap, m, n, D, Pl, hcs, _, hl, hm, hmm, _, hx⟩
  · simp at hcs
    exact ⟨none, 0, [], by simpa using hcs, Or.inl rfl, by simp, by simp⟩
  · simp at hcs
    subst hcs
    have hlm : len ≤ m := by rw [hmm]; split <;> omega
    obtain ⟨F, hF⟩ := choose_lt (α := Int) (n := len) (p := fun i x => W.cell? ((a.add (i * 1)).add 0) = some (.int .i64 x)) (fun i hi => by
      obtain ⟨cs', h1, h2⟩ := hx i (by omega)
      rw [cells_int] at h1
      obtain ⟨_, hl1, hcell⟩ := World.cells?_some h1
      obtain ⟨z, e, _⟩ := DataW.trod_int Try.underlying3 h2
      subst e
      exact ⟨z, hcell 0 (by omega)⟩)
    refine ⟨some a, cap, (List.range len).map F, by simp, ?_, by simp; unfold maxLen at hm; omega, by simp; omega⟩
    by_cases h0 : len = 0
    · subst h0; exact Or.inl rfl
    obtain ⟨b, off, spot⟩ := a
    have hc0 := hF 0 (by omega)
    have hspot : spot = none := by simpa [Addr.add] using World.cell?_spot hc0
    subst hspot
    have hblt : b < W.heap.size := by simpa [Addr.add] using block_lt_of_cell hc0
    refine Or.inr ⟨b, off, rfl, hblt, ?_⟩
    intro i x hi
    rw [List.getElem?_map, Option.map_eq_some_iff] at hi
    obtain ⟨j, hj, rfl⟩ := hi
    have hlt : i < len := by have := (List.getElem?_eq_some_iff.1 hj).1; simpa using this
    rw [List.getElem?_range hlt] at hj
    cases hj
    have := hF i hlt
    simpa only [add_lit', Nat.mul_one, Nat.add_zero] using this

set_option maxRecDepth 100000 in
theorem open_result {H : Type} {enc : TypeId × Value → H} {W : World} {sp : Nat → Bool} {base : Nat} {v : Value} {d : DataW H} {p : List MemPlace}
    (hv : Value.okWide Try.prog W .any base 42 v) (h : DataW.Trod enc Try.prog W 0 sp true 42 v d p) :
    ∃ ao no co ret en st a cap l, v = .agg #[.slice ao no co, .int .i64 ret, .bool en, .int .i64 st, .slice a (List.length l) cap] ∧ CtsAt W a l ∧ l.length ≤ 9223372036854775807 := by
  obtain ⟨cs, rfl, hsz⟩ := okWide_struct Try.underlying42 hv
  rw [cells_result] at hsz
  obtain ⟨l⟩ := cs
  obtain ⟨c0, c1, c2, c3, c4, rfl⟩ := list5 (l := l) (by simpa using hsz)
  obtain ⟨fuel, hf⟩ := h
  obtain ⟨xs, m, _, _, _, hxs, hfl⟩ := DataW.trod_struct Try.underlying42 hf
  obtain ⟨x0, x1, x2, x3, x4, rfl⟩ := list5 (l := xs) hxs
  have f0 : DataW.trod enc Try.prog W 0 sp true m 36 [c0] = some x0 := hfl 0 _ rfl
  have f1 : DataW.trod enc Try.prog W 0 sp true m 3 [c1] = some x1 := hfl 1 _ rfl
  have f2 : DataW.trod enc Try.prog W 0 sp true m 4 [c2] = some x2 := hfl 2 _ rfl
  have f3 : DataW.trod enc Try.prog W 0 sp true m 3 [c3] = some x3 := hfl 3 _ rfl
  have f4 : DataW.trod enc Try.prog W 0 sp true m 40 [c4] = some x4 := hfl 4 _ rfl
  obtain ⟨ao, co, lo, rfl, _, _⟩ := ints_of f0
  obtain ⟨z1, e1, _⟩ := DataW.trod_int Try.underlying3 f1
  obtain ⟨b2, e2, _⟩ := DataW.trod_bool Try.underlying4 f2
  obtain ⟨z3, e3, _⟩ := DataW.trod_int Try.underlying3 f3
  obtain ⟨a, cap, lc, rfl, hC, hl⟩ := counts_of f4
  cases e1; cases e2; cases e3
  exact ⟨_, _, _, _, _, _, _, _, lc, rfl, hC, hl⟩

set_option maxRecDepth 100000 in
theorem open_term {H : Type} {enc : TypeId × Value → H} {W : World} {sp : Nat → Bool} {base : Nat} {v : Value} {d : DataW H} {p : List MemPlace}
    (hv : Value.okWide Try.prog W .any base 48 v) (h : DataW.Trod enc Try.prog W 0 sp true 48 v d p) :
    ∃ t : Tm, v = .agg #[.int .i64 t.op, .int .i64 t.a, .int .i64 t.b] := by
  obtain ⟨cs, rfl, hsz⟩ := okWide_struct Try.underlying48 hv
  rw [cells_term] at hsz
  obtain ⟨l⟩ := cs
  obtain ⟨c0, c1, c2, rfl⟩ := list3 (l := l) (by simpa using hsz)
  obtain ⟨fuel, hf⟩ := h
  obtain ⟨t, rfl, rfl, rfl⟩ := term_trod hf
  exact ⟨t, rfl⟩

set_option maxRecDepth 100000 in
theorem open_ints_arg {H : Type} {enc : TypeId × Value → H} {W : World} {sp : Nat → Bool} {base : Nat} {v : Value} {d : DataW H} {p : List MemPlace}
    (hv : Value.okWide Try.prog W .any base 36 v) (h : DataW.Trod enc Try.prog W 0 sp true 36 v d p) :
    ∃ a cap l, v = .slice a (List.length l) cap ∧ IntsAt W a l ∧ l.length ≤ 9223372036854775807 ∧ l.length ≤ cap := by
  obtain ⟨a, len, cap, rfl⟩ := okWide_slice Try.underlying36 hv
  obtain ⟨fuel, hf⟩ := h
  exact ints_of (v := .slice a len cap) hf

theorem wf_range {n : Int} (h : (Lit.int .i64 n).wf = true) : -9223372036854775808 ≤ n ∧ n ≤ 9223372036854775807 := by
  simp [Lit.wf, IntKind.min, IntKind.max, IntKind.signed, IntKind.bits] at h
  omega
end Go.Proofs.Ytoikglgnmjjpcab
