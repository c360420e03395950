/-
  How a flow and a list of yes and no that came in as arguments lie in memory.
-/
import Derived.Test.YtoikglgnmjjpcaaY
import Derived.Test.YtoikglgnmjjpcaaLK
import Derived.Test.YtoikglgnmjjpcaaGB
namespace Go.Proofs.Ytoikglgnmjjpcaa
open Go.ChangeShapes Go.WideShapes Go.ChangeAt Go.RowKit Go.Joins Go.Deep
set_option linter.unusedVariables false

theorem cells_boolF : Try.prog.cellsOf 4 = 1 := by kernel_rfl
theorem cells_flow : Try.prog.cellsOf 66 = 6 := by kernel_rfl

set_option maxRecDepth 100000 in
theorem boolsF_of {H : Type} {enc : TypeId × Value → H} {W : World} {sp : Nat → Bool} {fuel : Nat} {v : Value} {y : DataW H × List MemPlace}
    (h : DataW.trod enc Try.prog W 0 sp true fuel 53 [v] = some y) : ∃ a cap l, v = .slice a (List.length l) cap ∧ BoolsAt W a l := by
  rcases open_slice Try.underlying53 h with ⟨hcs, _⟩ | ⟨a, len, cap, m, n, D, Pl, hcs, _, hl, hm, hmm, _, hx⟩
  · simp at hcs
    exact ⟨none, 0, [], by simpa using hcs, Or.inl rfl⟩
  · simp at hcs
    subst hcs
    have hlm : len ≤ m := by rw [hmm]; split <;> omega
    obtain ⟨F, hF⟩ := choose_lt (α := Bool) (n := len) (p := fun i x => W.cell? ((a.add (i * 1)).add 0) = some (.bool x)) (fun i hi => by
      obtain ⟨cs', h1, h2⟩ := hx i (by omega)
      rw [cells_boolF] at h1
      obtain ⟨_, hl1, hcell⟩ := World.cells?_some h1
      obtain ⟨z, e, _⟩ := DataW.trod_bool Try.underlying4 h2
      subst e
      exact ⟨z, hcell 0 (by omega)⟩)
    refine ⟨some a, cap, (List.range len).map F, by simp, ?_⟩
    by_cases h0 : len = 0
    · subst h0; exact Or.inl rfl
    obtain ⟨b, off, spot⟩ := a
    have hc0 := hF 0 (by omega)
    have hspot : spot = none := by simpa [Addr.add] using World.cell?_spot hc0
    subst hspot
    have hblt : b < W.heap.size := by simpa [Addr.add] using block_lt_of_cell hc0
    refine Or.inr ⟨b, off, rfl, hblt, ?_⟩
    intro i x hi
    rw [List.getElem?_map, Option.map_eq_some_iff] at hi
    obtain ⟨j, hj, rfl⟩ := hi
    have hlt : i < len := by have := (List.getElem?_eq_some_iff.1 hj).1; simpa using this
    rw [List.getElem?_range hlt] at hj
    cases hj
    have := hF i hlt
    simpa only [add_lit', Nat.mul_one, Nat.add_zero] using this

set_option maxRecDepth 100000 in
theorem open_bools_arg {H : Type} {enc : TypeId × Value → H} {W : World} {sp : Nat → Bool} {base : Nat} {v : Value} {d : DataW H} {p : List MemPlace}
    (hv : Value.okWide Try.prog W .any base 53 v) (h : DataW.Trod enc Try.prog W 0 sp true 53 v d p) :
    ∃ a cap l, v = .slice a (List.length l) cap ∧ BoolsAt W a l := by
  obtain ⟨a, len, cap, rfl⟩ := okWide_slice Try.underlying53 hv
  obtain ⟨fuel, hf⟩ := h
  exact boolsF_of (v := .slice a len cap) hf

set_option maxRecDepth 100000 in
theorem open_flow {H : Type} {enc : TypeId × Value → H} {W : World} {sp : Nat → Bool} {base : Nat} {v : Value} {d : DataW H} {p : List MemPlace}
    (hv : Value.okWide Try.prog W .any base 66 v) (h : DataW.Trod enc Try.prog W 0 sp true 66 v d p) :
    ∃ (f : Flw) (a1 a2 a3 a4 : Option Addr) (c1 c2 c3 c4 : Nat), v = .agg #[.bool f.back, .bool f.empty, .slice a1 f.gen.length c1, .slice a2 f.pass.length c2, .slice a3 f.plus.length c3, .slice a4 f.lets.length c4] ∧ BoolsAt W a1 f.gen ∧ BoolsAt W a2 f.pass ∧ BoolsAt W a3 f.plus ∧ BoolsAt W a4 f.lets := by
  obtain ⟨cs, rfl, hsz⟩ := okWide_struct Try.underlying66 hv
  rw [cells_flow] at hsz
  obtain ⟨l⟩ := cs
  obtain ⟨c0, c1, c2, c3, c4, c5, rfl⟩ := list6 (l := l) (by simpa using hsz)
  obtain ⟨fuel, hf⟩ := h
  obtain ⟨xs, m, _, _, _, hxs, hfl⟩ := DataW.trod_struct Try.underlying66 hf
  obtain ⟨x0, x1, x2, x3, x4, x5, rfl⟩ := list6 (l := xs) hxs
  have f0 : DataW.trod enc Try.prog W 0 sp true m 4 [c0] = some x0 := hfl 0 _ rfl
  have f1 : DataW.trod enc Try.prog W 0 sp true m 4 [c1] = some x1 := hfl 1 _ rfl
  have f2 : DataW.trod enc Try.prog W 0 sp true m 53 [c2] = some x2 := hfl 2 _ rfl
  have f3 : DataW.trod enc Try.prog W 0 sp true m 53 [c3] = some x3 := hfl 3 _ rfl
  have f4 : DataW.trod enc Try.prog W 0 sp true m 53 [c4] = some x4 := hfl 4 _ rfl
  have f5 : DataW.trod enc Try.prog W 0 sp true m 53 [c5] = some x5 := hfl 5 _ rfl
  obtain ⟨z0, e0, _⟩ := DataW.trod_bool Try.underlying4 f0
  obtain ⟨z1, e1, _⟩ := DataW.trod_bool Try.underlying4 f1
  obtain ⟨a1, k1, l1, rfl, b1⟩ := boolsF_of f2
  obtain ⟨a2, k2, l2, rfl, b2⟩ := boolsF_of f3
  obtain ⟨a3, k3, l3, rfl, b3⟩ := boolsF_of f4
  obtain ⟨a4, k4, l4, rfl, b4⟩ := boolsF_of f5
  cases e0; cases e1
  exact ⟨⟨z0, z1, l1, l2, l3, l4⟩, a1, a2, a3, a4, k1, k2, k3, k4, rfl, b1, b2, b3, b4⟩
end Go.Proofs.Ytoikglgnmjjpcaa
