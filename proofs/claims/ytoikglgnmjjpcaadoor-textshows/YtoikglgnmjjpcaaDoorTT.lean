/-
  How a program that came in as an argument lies in memory, with the bounds of its numbers.
-/
import Derived.Test.YtoikglgnmjjpcaaDoorTS
import Derived.ProofKit
import Derived.OpenShut
import Derived.Lib.SmallJoins
import Derived.Deep.Slices
namespace Go.Proofs.YtoikglgnmjjpcaaDoor
open Go.ChangeShapes Go.WideShapes Go.ChangeAt Go.RowKit Go.Joins Go.Deep
set_option linter.unusedVariables false

theorem own : ownKnob Tryd.prog.godebug = none := by kernel_rfl
theorem laidOut : laidOutB Tryd.prog = true := by kernel_rfl

theorem cells_node : Tryd.prog.cellsOf 49 = 6 := by kernel_rfl
theorem cells_int : Tryd.prog.cellsOf 3 = 1 := by kernel_rfl
theorem cells_prog : Tryd.prog.cellsOf 24 = 2 := by kernel_rfl

theorem list6 {α : Type} {l : List α} (h : l.length = 6) : ∃ a b c d e f, l = [a, b, c, d, e, f] := by
  match l, h with
  | [a, b, c, d, e, f], _ => exact ⟨a, b, c, d, e, f, rfl⟩

set_option maxRecDepth 100000 in
theorem node_at {H : Type} {enc : TypeId × Value → H} {W : World} {sp : Nat → Bool} {a : Addr} {n : Nat} {cs : List Value} {y : DataW H × List MemPlace} (hc : W.cells? 0 a 6 = some cs)
    (ht : DataW.trod enc Tryd.prog W 0 sp true n 49 cs = some y) :
    ∃ x : Nd, W.cell? (a.add 0) = some (.int .i64 x.op) ∧ W.cell? (a.add 1) = some (.int .i64 x.d) ∧ W.cell? (a.add 2) = some (.int .i64 x.a) ∧ W.cell? (a.add 3) = some (.int .i64 x.b) ∧ W.cell? (a.add 4) = some (.int .i64 x.t) ∧ W.cell? (a.add 5) = some (.int .i64 x.e) ∧ (-9223372036854775808 ≤ x.a ∧ x.a ≤ 9223372036854775807) := by
  obtain ⟨_, hl, hcell⟩ := World.cells?_some hc
  obtain ⟨c0, c1, c2, c3, c4, c5, rfl⟩ := list6 hl
  obtain ⟨xs, m, _, _, _, hxs, hf⟩ := DataW.trod_struct Tryd.underlying49 ht
  obtain ⟨x0, x1, x2, x3, x4, x5, rfl⟩ := list6 (l := xs) hxs
  have f0 := hf 0 _ rfl
  have f1 := hf 1 _ rfl
  have f2 := hf 2 _ rfl
  have f3 := hf 3 _ rfl
  have f4 := hf 4 _ rfl
  have f5 := hf 5 _ rfl
  simp only [List.getElem?_cons_zero, List.getElem?_cons_succ] at f0 f1 f2 f3 f4 f5
  obtain ⟨z0, e0, _⟩ := DataW.trod_int Tryd.underlying3 f0
  obtain ⟨z1, e1, _⟩ := DataW.trod_int Tryd.underlying3 f1
  obtain ⟨z2, e2, _, w2⟩ := DataW.trod_int Tryd.underlying3 f2
  obtain ⟨z3, e3, _⟩ := DataW.trod_int Tryd.underlying3 f3
  obtain ⟨z4, e4, _⟩ := DataW.trod_int Tryd.underlying3 f4
  obtain ⟨z5, e5, _⟩ := DataW.trod_int Tryd.underlying3 f5
  cases e0; cases e1; cases e2; cases e3; cases e4; cases e5
  exact ⟨⟨z0, z1, z2, z3, z4, z5⟩, hcell 0 (by omega), hcell 1 (by omega), hcell 2 (by omega), hcell 3 (by omega), hcell 4 (by omega), hcell 5 (by omega), by have h2 := w2; simp [Lit.wf] at h2; exact ⟨h2.1, h2.2⟩⟩

theorem add_lit' (b off i : Nat) : (⟨b, off, none⟩ : Addr).add i = ⟨b, off + i, none⟩ := by cases i <;> simp [Addr.add]

set_option maxRecDepth 100000 in
theorem nodes_of {H : Type} {enc : TypeId × Value → H} {W : World} {sp : Nat → Bool} {fuel : Nat} {v : Value} {y : DataW H × List MemPlace}
    (h : DataW.trod enc Tryd.prog W 0 sp true fuel 22 [v] = some y) : ∃ a cap ns, v = .slice a (List.length ns) cap ∧ SlN W a ns ∧ (∀ x ∈ ns, -9223372036854775808 ≤ x.a ∧ x.a ≤ 9223372036854775807) := by
  rcases open_slice Tryd.underlying22 h with ⟨hcs, _⟩ | ⟨a, len, cap, m, n, D, Pl, hcs, _, hl, hm, hmm, _, hx⟩
  · simp at hcs
    exact ⟨none, 0, [], by simpa using hcs, Or.inl rfl, by simp⟩
  · simp at hcs
    subst hcs
    have hlm : len ≤ m := by rw [hmm]; split <;> omega
    obtain ⟨F, hF⟩ := choose_lt (α := Nd) (n := len) (p := fun i x => W.cell? ((a.add (i * 6)).add 0) = some (.int .i64 x.op) ∧ W.cell? ((a.add (i * 6)).add 1) = some (.int .i64 x.d) ∧ W.cell? ((a.add (i * 6)).add 2) = some (.int .i64 x.a) ∧ W.cell? ((a.add (i * 6)).add 3) = some (.int .i64 x.b) ∧ W.cell? ((a.add (i * 6)).add 4) = some (.int .i64 x.t) ∧ W.cell? ((a.add (i * 6)).add 5) = some (.int .i64 x.e) ∧ (-9223372036854775808 ≤ x.a ∧ x.a ≤ 9223372036854775807)) (fun i hi => by
      obtain ⟨cs', h1, h2⟩ := hx i (by omega)
      rw [cells_node] at h1
      exact node_at h1 h2)
    refine ⟨some a, cap, (List.range len).map F, by simp, ?_, fun x hx => by
      obtain ⟨i, hi, rfl⟩ := List.mem_map.1 hx
      exact (hF i (List.mem_range.1 hi)).2.2.2.2.2.2⟩
    by_cases h0 : len = 0
    · subst h0; exact Or.inl rfl
    obtain ⟨b, off, spot⟩ := a
    have hc0 := (hF 0 (by omega)).1
    have hspot : spot = none := by simpa [Addr.add] using World.cell?_spot hc0
    subst hspot
    have hblt : b < W.heap.size := by simpa [Addr.add] using block_lt_of_cell hc0
    have key : ∀ (i : Nat) (x : Nd), ((List.range len).map F)[i]? = some x → i < len ∧ F i = x := by
      intro i x hi
      rw [List.getElem?_map, Option.map_eq_some_iff] at hi
      obtain ⟨j, hj, rfl⟩ := hi
      have hlt : i < len := by have := (List.getElem?_eq_some_iff.1 hj).1; simpa using this
      rw [List.getElem?_range hlt] at hj
      cases hj
      exact ⟨hlt, rfl⟩
    refine Or.inr ⟨b, off, rfl, hblt, ?_, ?_, ?_, ?_, ?_, ?_⟩
    all_goals
      intro i x hi
      obtain ⟨hlt, rfl⟩ := key i x hi
      have := hF i hlt
      simp only [add_lit'] at this
      obtain ⟨k0, k1, k2, k3, k4, k5, _⟩ := this
      assumption

set_option maxRecDepth 100000 in
theorem open_prog {H : Type} {enc : TypeId × Value → H} {W : World} {sp : Nat → Bool} {base : Nat} {v : Value} {d : DataW H} {p : List MemPlace}
    (hv : Value.okWide Tryd.prog W .any base 24 v) (h : DataW.Trod enc Tryd.prog W 0 sp true 24 v d p) :
    ∃ r a cap ns, v = .agg #[.int .i64 r, .slice a (List.length ns) cap] ∧ SlN W a ns ∧ (∀ x ∈ ns, -9223372036854775808 ≤ x.a ∧ x.a ≤ 9223372036854775807) := by
  obtain ⟨c0, c1, y0, y1, m, rfl, _, _, hy0, hy1⟩ := open_agg2 Tryd.underlying24 (by kernel_rfl) cells_prog hv h
  obtain ⟨r, e0, _, _⟩ := DataW.trod_int Tryd.underlying3 hy0
  obtain ⟨a, cap, ns, rfl, hN, hl⟩ := nodes_of hy1
  simp at e0
  subst e0
  exact ⟨r, a, cap, ns, rfl, hN, hl⟩
end Go.Proofs.YtoikglgnmjjpcaaDoor
