/-
  Whatever program, numbers and fuel hoistwaylaw.GraphSame is handed, it returns true and leaves its arguments as they were: what is trimmed does what it did, step by step; what is split does what it did, and has nothing to split any more. No condition.
  hoistwaylaw.GraphSame, walked.
  How a result, a list of numbers and a term that came in as arguments lie in memory.
  How a program that came in as an argument lies in memory.
-/
import Derived.Test.YtoikglgnmjjpcaaF
import Derived.ProofKit
import Derived.OpenShut
import Derived.Lib.SmallJoins
import Derived.Deep.Slices
import Derived.Test.YtoikglgnmjjpcaaGW
import Derived.Test.YtoikglgnmjjpcaaGV
import Derived.Test.YtoikglgnmjjpcaaLU
namespace Go.Proofs.Ytoikglgnmjjpcaa
open Go.ChangeShapes Go.WideShapes Go.ChangeAt Go.RowKit Go.Joins Go.Deep
set_option linter.unusedVariables false

theorem own : ownKnob Try.prog.godebug = none := by kernel_rfl
theorem laidOut : laidOutB Try.prog = true := by kernel_rfl

theorem cells_node : Try.prog.cellsOf 87 = 6 := by kernel_rfl
theorem cells_int : Try.prog.cellsOf 3 = 1 := by kernel_rfl
theorem cells_prog : Try.prog.cellsOf 24 = 2 := by kernel_rfl

theorem list6 {α : Type} {l : List α} (h : l.length = 6) : ∃ a b c d e f, l = [a, b, c, d, e, f] := by
  match l, h with
  | [a, b, c, d, e, f], _ => exact ⟨a, b, c, d, e, f, rfl⟩

set_option maxRecDepth 100000 in
theorem node_at {H : Type} {enc : TypeId × Value → H} {W : World} {sp : Nat → Bool} {a : Addr} {n : Nat} {cs : List Value} {y : DataW H × List MemPlace} (hc : W.cells? 0 a 6 = some cs)
    (ht : DataW.trod enc Try.prog W 0 sp true n 87 cs = some y) :
    ∃ x : Nd, W.cell? (a.add 0) = some (.int .i64 x.op) ∧ W.cell? (a.add 1) = some (.int .i64 x.d) ∧ W.cell? (a.add 2) = some (.int .i64 x.a) ∧ W.cell? (a.add 3) = some (.int .i64 x.b) ∧ W.cell? (a.add 4) = some (.int .i64 x.t) ∧ W.cell? (a.add 5) = some (.int .i64 x.e) := by
  obtain ⟨_, hl, hcell⟩ := World.cells?_some hc
  obtain ⟨c0, c1, c2, c3, c4, c5, rfl⟩ := list6 hl
  obtain ⟨xs, m, _, _, _, hxs, hf⟩ := DataW.trod_struct Try.underlying87 ht
  obtain ⟨x0, x1, x2, x3, x4, x5, rfl⟩ := list6 (l := xs) hxs
  have f0 := hf 0 _ rfl
  have f1 := hf 1 _ rfl
  have f2 := hf 2 _ rfl
  have f3 := hf 3 _ rfl
  have f4 := hf 4 _ rfl
  have f5 := hf 5 _ rfl
  simp only [List.getElem?_cons_zero, List.getElem?_cons_succ] at f0 f1 f2 f3 f4 f5
  obtain ⟨z0, e0, _⟩ := DataW.trod_int Try.underlying3 f0
  obtain ⟨z1, e1, _⟩ := DataW.trod_int Try.underlying3 f1
  obtain ⟨z2, e2, _⟩ := DataW.trod_int Try.underlying3 f2
  obtain ⟨z3, e3, _⟩ := DataW.trod_int Try.underlying3 f3
  obtain ⟨z4, e4, _⟩ := DataW.trod_int Try.underlying3 f4
  obtain ⟨z5, e5, _⟩ := DataW.trod_int Try.underlying3 f5
  cases e0; cases e1; cases e2; cases e3; cases e4; cases e5
  exact ⟨⟨z0, z1, z2, z3, z4, z5⟩, hcell 0 (by omega), hcell 1 (by omega), hcell 2 (by omega), hcell 3 (by omega), hcell 4 (by omega), hcell 5 (by omega)⟩

theorem add_lit' (b off i : Nat) : (⟨b, off, none⟩ : Addr).add i = ⟨b, off + i, none⟩ := by cases i <;> simp [Addr.add]

set_option maxRecDepth 100000 in
theorem nodes_of {H : Type} {enc : TypeId × Value → H} {W : World} {sp : Nat → Bool} {fuel : Nat} {v : Value} {y : DataW H × List MemPlace}
    (h : DataW.trod enc Try.prog W 0 sp true fuel 22 [v] = some y) : ∃ a cap ns, v = .slice a (List.length ns) cap ∧ SlN W a ns ∧ ns.length ≤ 9223372036854775807 := by
  rcases open_slice Try.underlying22 h with ⟨hcs, _⟩ | ⟨a, len, cap, m, n, D, Pl, hcs, _, hl, hm, hmm, _, hx⟩
  · simp at hcs
    exact ⟨none, 0, [], by simpa using hcs, Or.inl rfl, by simp⟩
  · simp at hcs
    subst hcs
    have hlm : len ≤ m := by rw [hmm]; split <;> omega
    obtain ⟨F, hF⟩ := choose_lt (α := Nd) (n := len) (p := fun i x => W.cell? ((a.add (i * 6)).add 0) = some (.int .i64 x.op) ∧ W.cell? ((a.add (i * 6)).add 1) = some (.int .i64 x.d) ∧ W.cell? ((a.add (i * 6)).add 2) = some (.int .i64 x.a) ∧ W.cell? ((a.add (i * 6)).add 3) = some (.int .i64 x.b) ∧ W.cell? ((a.add (i * 6)).add 4) = some (.int .i64 x.t) ∧ W.cell? ((a.add (i * 6)).add 5) = some (.int .i64 x.e)) (fun i hi => by
      obtain ⟨cs', h1, h2⟩ := hx i (by omega)
      rw [cells_node] at h1
      exact node_at h1 h2)
    refine ⟨some a, cap, (List.range len).map F, by simp, ?_, by simp; unfold maxLen at hm; omega⟩
    by_cases h0 : len = 0
    · subst h0; exact Or.inl rfl
    obtain ⟨b, off, spot⟩ := a
    have hc0 := (hF 0 (by omega)).1
    have hspot : spot = none := by simpa [Addr.add] using World.cell?_spot hc0
    subst hspot
    have hblt : b < W.heap.size := by simpa [Addr.add] using block_lt_of_cell hc0
    have key : ∀ (i : Nat) (x : Nd), ((List.range len).map F)[i]? = some x → i < len ∧ F i = x := by
      intro i x hi
      rw [List.getElem?_map, Option.map_eq_some_iff] at hi
      obtain ⟨j, hj, rfl⟩ := hi
      have hlt : i < len := by have := (List.getElem?_eq_some_iff.1 hj).1; simpa using this
      rw [List.getElem?_range hlt] at hj
      cases hj
      exact ⟨hlt, rfl⟩
    refine Or.inr ⟨b, off, rfl, hblt, ?_, ?_, ?_, ?_, ?_, ?_⟩
    all_goals
      intro i x hi
      obtain ⟨hlt, rfl⟩ := key i x hi
      have := hF i hlt
      simp only [add_lit'] at this
      obtain ⟨k0, k1, k2, k3, k4, k5⟩ := this
      assumption

set_option maxRecDepth 100000 in
theorem open_prog {H : Type} {enc : TypeId × Value → H} {W : World} {sp : Nat → Bool} {base : Nat} {v : Value} {d : DataW H} {p : List MemPlace}
    (hv : Value.okWide Try.prog W .any base 24 v) (h : DataW.Trod enc Try.prog W 0 sp true 24 v d p) :
    ∃ r a cap ns, v = .agg #[.int .i64 r, .slice a (List.length ns) cap] ∧ SlN W a ns ∧ ns.length ≤ 9223372036854775807 := by
  obtain ⟨c0, c1, y0, y1, m, rfl, _, _, hy0, hy1⟩ := open_agg2 Try.underlying24 (by kernel_rfl) cells_prog hv h
  obtain ⟨r, e0, _, _⟩ := DataW.trod_int Try.underlying3 hy0
  obtain ⟨a, cap, ns, rfl, hN, hl⟩ := nodes_of hy1
  simp at e0
  subst e0
  exact ⟨r, a, cap, ns, rfl, hN, hl⟩
end Go.Proofs.Ytoikglgnmjjpcaa

namespace Go.Proofs.Ytoikglgnmjjpcaa
open Go.ChangeShapes Go.WideShapes Go.ChangeAt Go.RowKit Go.Joins Go.Deep
set_option linter.unusedVariables false

theorem cells_count : Try.prog.cellsOf 111 = 4 := by kernel_rfl
theorem cells_term : Try.prog.cellsOf 36 = 3 := by kernel_rfl
theorem cells_result : Try.prog.cellsOf 42 = 5 := by kernel_rfl
theorem cells_ints : Try.prog.cellsOf 25 = 1 := by kernel_rfl
theorem cells_counts : Try.prog.cellsOf 40 = 1 := by kernel_rfl
theorem cells_bool : Try.prog.cellsOf 4 = 1 := by kernel_rfl

theorem list4 {α : Type} {l : List α} (h : l.length = 4) : ∃ a b c d, l = [a, b, c, d] := by
  match l, h with
  | [a, b, c, d], _ => exact ⟨a, b, c, d, rfl⟩
theorem list3 {α : Type} {l : List α} (h : l.length = 3) : ∃ a b c, l = [a, b, c] := by
  match l, h with
  | [a, b, c], _ => exact ⟨a, b, c, rfl⟩
theorem list2 {α : Type} {l : List α} (h : l.length = 2) : ∃ a b, l = [a, b] := by
  match l, h with
  | [a, b], _ => exact ⟨a, b, rfl⟩
theorem list5 {α : Type} {l : List α} (h : l.length = 5) : ∃ a b c d e, l = [a, b, c, d, e] := by
  match l, h with
  | [a, b, c, d, e], _ => exact ⟨a, b, c, d, e, rfl⟩

set_option maxRecDepth 100000 in
theorem term_trod {H : Type} {enc : TypeId × Value → H} {W : World} {sp : Nat → Bool} {n : Nat} {c0 c1 c2 : Value} {y : DataW H × List MemPlace}
    (ht : DataW.trod enc Try.prog W 0 sp true n 36 [c0, c1, c2] = some y) : ∃ t : Tm, c0 = .int .i64 t.op ∧ c1 = .int .i64 t.a ∧ c2 = .int .i64 t.b := by
  obtain ⟨xs, m, _, _, _, hxs, hf⟩ := DataW.trod_struct Try.underlying36 ht
  obtain ⟨x0, x1, x2, rfl⟩ := list3 (l := xs) hxs
  have f0 := hf 0 _ rfl
  have f1 := hf 1 _ rfl
  have f2 := hf 2 _ rfl
  simp only [List.getElem?_cons_zero, List.getElem?_cons_succ] at f0 f1 f2
  obtain ⟨z0, e0, _⟩ := DataW.trod_int Try.underlying3 f0
  obtain ⟨z1, e1, _⟩ := DataW.trod_int Try.underlying3 f1
  obtain ⟨z2, e2, _⟩ := DataW.trod_int Try.underlying3 f2
  cases e0; cases e1; cases e2
  exact ⟨⟨z0, z1, z2⟩, rfl, rfl, rfl⟩

set_option maxRecDepth 100000 in
theorem count_at {H : Type} {enc : TypeId × Value → H} {W : World} {sp : Nat → Bool} {a : Addr} {n : Nat} {cs : List Value} {y : DataW H × List MemPlace} (hc : W.cells? 0 a 4 = some cs)
    (ht : DataW.trod enc Try.prog W 0 sp true n 111 cs = some y) :
    ∃ x : Ct, W.cell? (a.add 0) = some (.int .i64 x.t.op) ∧ W.cell? (a.add 1) = some (.int .i64 x.t.a) ∧ W.cell? (a.add 2) = some (.int .i64 x.t.b) ∧ W.cell? (a.add 3) = some (.int .i64 x.n) := by
  obtain ⟨_, hl, hcell⟩ := World.cells?_some hc
  obtain ⟨c0, c1, c2, c3, rfl⟩ := list4 hl
  obtain ⟨xs, m, _, _, _, hxs, hf⟩ := DataW.trod_struct Try.underlying111 ht
  obtain ⟨x0, x1, rfl⟩ := list2 (l := xs) hxs
  have f0 := hf 0 _ rfl
  have f1 := hf 1 _ rfl
  simp only [List.getElem?_cons_zero, List.getElem?_cons_succ] at f0 f1
  have f0' : DataW.trod enc Try.prog W 0 sp true m 36 [c0, c1, c2] = some x0 := f0
  obtain ⟨t, rfl, rfl, rfl⟩ := term_trod f0'
  obtain ⟨z1, e1, _⟩ := DataW.trod_int Try.underlying3 f1
  cases e1
  exact ⟨⟨t, z1⟩, hcell 0 (by omega), hcell 1 (by omega), hcell 2 (by omega), hcell 3 (by omega)⟩

set_option maxRecDepth 100000 in
theorem counts_of {H : Type} {enc : TypeId × Value → H} {W : World} {sp : Nat → Bool} {fuel : Nat} {v : Value} {y : DataW H × List MemPlace}
    (h : DataW.trod enc Try.prog W 0 sp true fuel 40 [v] = some y) : ∃ a cap l, v = .slice a (List.length l) cap ∧ CtsAt W a l ∧ l.length ≤ 9223372036854775807 := by
  rcases open_slice Try.underlying40 h with ⟨hcs, _⟩ | ⟨a, len, cap, m, n, D, Pl, hcs, _, hl, hm, hmm, _, hx⟩
  · simp at hcs
    exact ⟨none, 0, [], by simpa using hcs, Or.inl rfl, by simp⟩
  · simp at hcs
    subst hcs
    have hlm : len ≤ m := by rw [hmm]; split <;> omega
    obtain ⟨F, hF⟩ := choose_lt (α := Ct) (n := len) (p := fun i x => W.cell? ((a.add (i * 4)).add 0) = some (.int .i64 x.t.op) ∧ W.cell? ((a.add (i * 4)).add 1) = some (.int .i64 x.t.a) ∧ W.cell? ((a.add (i * 4)).add 2) = some (.int .i64 x.t.b) ∧ W.cell? ((a.add (i * 4)).add 3) = some (.int .i64 x.n)) (fun i hi => by
      obtain ⟨cs', h1, h2⟩ := hx i (by omega)
      rw [cells_count] at h1
      exact count_at h1 h2)
    refine ⟨some a, cap, (List.range len).map F, by simp, ?_, by simp; unfold maxLen at hm; omega⟩
    by_cases h0 : len = 0
    · subst h0; exact Or.inl rfl
    obtain ⟨b, off, spot⟩ := a
    have hc0 := (hF 0 (by omega)).1
    have hspot : spot = none := by simpa [Addr.add] using World.cell?_spot hc0
    subst hspot
    have hblt : b < W.heap.size := by simpa [Addr.add] using block_lt_of_cell hc0
    refine Or.inr ⟨b, off, rfl, hblt, ?_⟩
    intro i x hi
    rw [List.getElem?_map, Option.map_eq_some_iff] at hi
    obtain ⟨j, hj, rfl⟩ := hi
    have hlt : i < len := by have := (List.getElem?_eq_some_iff.1 hj).1; simpa using this
    rw [List.getElem?_range hlt] at hj
    cases hj
    have := hF i hlt
    simpa only [add_lit', Nat.add_zero] using this

set_option maxRecDepth 100000 in
theorem ints_of {H : Type} {enc : TypeId × Value → H} {W : World} {sp : Nat → Bool} {fuel : Nat} {v : Value} {y : DataW H × List MemPlace}
    (h : DataW.trod enc Try.prog W 0 sp true fuel 25 [v] = some y) : ∃ a cap l, v = .slice a (List.length l) cap ∧ IntsAt W a l ∧ l.length ≤ 9223372036854775807 ∧ l.length ≤ cap := by
  rcases open_slice Try.underlying25 h with ⟨hcs, _⟩ | ⟨a, len, cap, m, n, D, Pl, hcs, _, hl, hm, hmm, _, hx⟩
  · simp at hcs
    exact ⟨none, 0, [], by simpa using hcs, Or.inl rfl, by simp, by simp⟩
  · simp at hcs
    subst hcs
    have hlm : len ≤ m := by rw [hmm]; split <;> omega
    obtain ⟨F, hF⟩ := choose_lt (α := Int) (n := len) (p := fun i x => W.cell? ((a.add (i * 1)).add 0) = some (.int .i64 x)) (fun i hi => by
      obtain ⟨cs', h1, h2⟩ := hx i (by omega)
      rw [cells_int] at h1
      obtain ⟨_, hl1, hcell⟩ := World.cells?_some h1
      obtain ⟨z, e, _⟩ := DataW.trod_int Try.underlying3 h2
      subst e
      exact ⟨z, hcell 0 (by omega)⟩)
    refine ⟨some a, cap, (List.range len).map F, by simp, ?_, by simp; unfold maxLen at hm; omega, by simp; omega⟩
    by_cases h0 : len = 0
    · subst h0; exact Or.inl rfl
    obtain ⟨b, off, spot⟩ := a
    have hc0 := hF 0 (by omega)
    have hspot : spot = none := by simpa [Addr.add] using World.cell?_spot hc0
    subst hspot
    have hblt : b < W.heap.size := by simpa [Addr.add] using block_lt_of_cell hc0
    refine Or.inr ⟨b, off, rfl, hblt, ?_⟩
    intro i x hi
    rw [List.getElem?_map, Option.map_eq_some_iff] at hi
    obtain ⟨j, hj, rfl⟩ := hi
    have hlt : i < len := by have := (List.getElem?_eq_some_iff.1 hj).1; simpa using this
    rw [List.getElem?_range hlt] at hj
    cases hj
    have := hF i hlt
    simpa only [add_lit', Nat.mul_one, Nat.add_zero] using this

set_option maxRecDepth 100000 in
theorem open_result {H : Type} {enc : TypeId × Value → H} {W : World} {sp : Nat → Bool} {base : Nat} {v : Value} {d : DataW H} {p : List MemPlace}
    (hv : Value.okWide Try.prog W .any base 42 v) (h : DataW.Trod enc Try.prog W 0 sp true 42 v d p) :
    ∃ ao no co ret en st a cap l, v = .agg #[.slice ao no co, .int .i64 ret, .bool en, .int .i64 st, .slice a (List.length l) cap] ∧ CtsAt W a l ∧ l.length ≤ 9223372036854775807 := by
  obtain ⟨cs, rfl, hsz⟩ := okWide_struct Try.underlying42 hv
  rw [cells_result] at hsz
  obtain ⟨l⟩ := cs
  obtain ⟨c0, c1, c2, c3, c4, rfl⟩ := list5 (l := l) (by simpa using hsz)
  obtain ⟨fuel, hf⟩ := h
  obtain ⟨xs, m, _, _, _, hxs, hfl⟩ := DataW.trod_struct Try.underlying42 hf
  obtain ⟨x0, x1, x2, x3, x4, rfl⟩ := list5 (l := xs) hxs
  have f0 : DataW.trod enc Try.prog W 0 sp true m 25 [c0] = some x0 := hfl 0 _ rfl
  have f1 : DataW.trod enc Try.prog W 0 sp true m 3 [c1] = some x1 := hfl 1 _ rfl
  have f2 : DataW.trod enc Try.prog W 0 sp true m 4 [c2] = some x2 := hfl 2 _ rfl
  have f3 : DataW.trod enc Try.prog W 0 sp true m 3 [c3] = some x3 := hfl 3 _ rfl
  have f4 : DataW.trod enc Try.prog W 0 sp true m 40 [c4] = some x4 := hfl 4 _ rfl
  obtain ⟨ao, co, lo, rfl, _, _⟩ := ints_of f0
  obtain ⟨z1, e1, _⟩ := DataW.trod_int Try.underlying3 f1
  obtain ⟨b2, e2, _⟩ := DataW.trod_bool Try.underlying4 f2
  obtain ⟨z3, e3, _⟩ := DataW.trod_int Try.underlying3 f3
  obtain ⟨a, cap, lc, rfl, hC, hl⟩ := counts_of f4
  cases e1; cases e2; cases e3
  exact ⟨_, _, _, _, _, _, _, _, lc, rfl, hC, hl⟩

set_option maxRecDepth 100000 in
theorem open_term {H : Type} {enc : TypeId × Value → H} {W : World} {sp : Nat → Bool} {base : Nat} {v : Value} {d : DataW H} {p : List MemPlace}
    (hv : Value.okWide Try.prog W .any base 36 v) (h : DataW.Trod enc Try.prog W 0 sp true 36 v d p) :
    ∃ t : Tm, v = .agg #[.int .i64 t.op, .int .i64 t.a, .int .i64 t.b] := by
  obtain ⟨cs, rfl, hsz⟩ := okWide_struct Try.underlying36 hv
  rw [cells_term] at hsz
  obtain ⟨l⟩ := cs
  obtain ⟨c0, c1, c2, rfl⟩ := list3 (l := l) (by simpa using hsz)
  obtain ⟨fuel, hf⟩ := h
  obtain ⟨t, rfl, rfl, rfl⟩ := term_trod hf
  exact ⟨t, rfl⟩

set_option maxRecDepth 100000 in
theorem open_ints_arg {H : Type} {enc : TypeId × Value → H} {W : World} {sp : Nat → Bool} {base : Nat} {v : Value} {d : DataW H} {p : List MemPlace}
    (hv : Value.okWide Try.prog W .any base 25 v) (h : DataW.Trod enc Try.prog W 0 sp true 25 v d p) :
    ∃ a cap l, v = .slice a (List.length l) cap ∧ IntsAt W a l ∧ l.length ≤ 9223372036854775807 ∧ l.length ≤ cap := by
  obtain ⟨a, len, cap, rfl⟩ := okWide_slice Try.underlying25 hv
  obtain ⟨fuel, hf⟩ := h
  exact ints_of (v := .slice a len cap) hf

theorem wf_range {n : Int} (h : (Lit.int .i64 n).wf = true) : -9223372036854775808 ≤ n ∧ n ≤ 9223372036854775807 := by
  simp [Lit.wf, IntKind.min, IntKind.max, IntKind.signed, IntKind.bits] at h
  omega
end Go.Proofs.Ytoikglgnmjjpcaa

namespace Go.Proofs.Ytoikglgnmjjpcaa
open Go.RowKit Go.Shelf
set_option linter.unusedVariables false
set_option linter.unusedSimpArgs false

theorem trim_fit (r : Int) (b off cap : Nat) (ns : List Nd) (w : World) (hN : NodesAt w b off ns) (hc : chk r ns = 0) :
    Calls Try.prog 32 #[.agg #[.int .i64 r, .slice (some ⟨b, off, none⟩) ns.length cap]] w fun e w' => ∃ tb tq tc, e = .returned (.tuple #[.agg #[.int .i64 r, .slice (some ⟨tb, tq, none⟩) (trimN ns).length tc], .int .i64 0]) ∧ NodesAt w' tb tq (trimN ns) ∧ Below w.heap.size w w' := by
  refine (callsIn_wide.1 (trim_ok r b off cap ns w hN hc)).mono ?_
  rintro e w' ⟨v, rfl, hv, hB⟩
  obtain ⟨ta, tc, rfl, hs⟩ := nodes_of_owns hv
  obtain ⟨tb, tq, rfl, hn⟩ := hs.some (chk_zero (trim_chk hc)).1.1
  exact ⟨tb, tq, tc, rfl, hn, hB⟩

theorem split_fit (r : Int) (b off cap : Nat) (ns : List Nd) (w : World) (hN : NodesAt w b off ns) (hc : chk r ns = 0) (hl : (splitN ns).length ≤ 256) :
    Calls Try.prog 33 #[.agg #[.int .i64 r, .slice (some ⟨b, off, none⟩) ns.length cap]] w fun e w' => ∃ tb tq tc, e = .returned (.tuple #[.agg #[.int .i64 r, .slice (some ⟨tb, tq, none⟩) (splitN ns).length tc], .int .i64 0]) ∧ NodesAt w' tb tq (splitN ns) ∧ Below w.heap.size w w' := by
  refine (callsIn_wide.1 (split_ok r b off cap ns w hN hc)).mono ?_
  rintro e w' ⟨v1, v2, er, rfl, h, hB⟩
  rcases h with ⟨_, rfl, rfl, hv⟩ | ⟨h, _⟩
  · obtain ⟨ta, tc, rfl, hs⟩ := nodes_of_owns hv
    obtain ⟨tb, tq, rfl, hn⟩ := hs.some (chk_zero (split_chk hc hl)).1.1
    exact ⟨tb, tq, tc, rfl, hn, hB⟩
  · omega

theorem split_long (r : Int) (b off cap : Nat) (ns : List Nd) (w : World) (hN : NodesAt w b off ns) (hc : chk r ns = 0) (hl : 256 < (splitN ns).length) :
    Calls Try.prog 33 #[.agg #[.int .i64 r, .slice (some ⟨b, off, none⟩) ns.length cap]] w fun e w' => e = .returned (.tuple #[.agg #[.int .i64 0, .slice none 0 0], .int .i64 2]) ∧ Below w.heap.size w w' := by
  refine (callsIn_wide.1 (split_ok r b off cap ns w hN hc)).mono ?_
  rintro e w' ⟨v1, v2, er, rfl, h, hB⟩
  rcases h with ⟨h, _⟩ | ⟨_, rfl, rfl, rfl⟩
  · omega
  · exact ⟨rfl, hB⟩

/-- A cell of a block that lies below. -/
theorem cell_of {W u : World} {g : Nat} {cs : Array Value} {t : TypeId} {v : Value} (h : W.heap[g]? = some (.cells cs t (0, 0))) (hB : Below W.heap.size W u) (i : Nat) (hv : cs[i]? = some v) : u.cell? ⟨g, i, none⟩ = some v := by
  rw [(hB.cell (p := ⟨g, i, none⟩) (blk_lt h)), blk_cell h i]; exact hv

theorem rerr_ok {r : Int} {ns : List Nd} {il : Nat} {n : Int} (hc : chk r ns = 0) (hi : il ≤ 256) (h0 : 0 ≤ n) (h1 : n ≤ 131072) : rerr r ns il n = 0 := by
  unfold rerr
  rw [if_pos hc, if_neg (by omega), if_neg (by omega)]

theorem res_fin {r : Int} {ns : List Nd} {inp : List Int} {n : Int} (h : rerr r ns inp.length n = 0) : res r ns inp n = runN ns n.toNat (st0 r.toNat inp) := by
  unfold res
  rw [if_pos h]; rfl

theorem doing_of {r r' : Int} {ns ms : List Nd} {jn : List Int} {n : Int} (h : Does ns ms (st0 r.toNat jn) (st0 r'.toNat jn) n.toNat) (hn : 0 ≤ n) (h1 : rerr r ns jn.length n = 0) (h2 : rerr r' ms jn.length n = 0) (h3 : rerr r' ms jn.length (n * ((ms.length : Int) + 1) + ms.length) = 0) :
    Doing (res r ns jn n) (res r' ms jn n) (res r' ms jn (n * ((ms.length : Int) + 1) + ms.length)) := by
  have e : (n * ((ms.length : Int) + 1) + ms.length).toNat = n.toNat * (ms.length + 1) + ms.length := by
    obtain ⟨k, rfl⟩ := Int.eq_ofNat_of_zero_le hn
    rw [← Int.natCast_one, ← Int.natCast_add, ← Int.natCast_mul, ← Int.natCast_add, Int.toNat_natCast, Int.toNat_natCast]
  rw [res_fin h1, res_fin h2, res_fin h3, e]
  exact ⟨h.b1, h.b2, h.c1, h.c2⟩

theorem trim_res {r : Int} {ns : List Nd} {jn : List Int} {n : Int} (hc : chk r ns = 0) (h1 : rerr r ns jn.length n = 0) (h2 : rerr r (trimN ns) jn.length n = 0) : res r (trimN ns) jn n = renS (rchL ns) (res r ns jn n) := by
  rw [res_fin h1, res_fin h2]; exact trim_same hc _ _ _

set_option maxRecDepth 100000 in
set_option maxHeartbeats 4000000 in
theorem graphSame_wrong (r : Int) (a : Option Addr) (cap : Nat) (ns : List Nd) (ia : Option Addr) (ic il : Nat) (fuel : Int) (w : World) (hN : SlN w a ns) (hc : chk r ns ≠ 0) :
    Calls Try.prog 8 #[.agg #[.int .i64 r, .slice a ns.length cap], .slice ia il ic, .int .i64 fuel] w fun e w' => e = .returned (.bool true) ∧ Below w.heap.size w w' := by
  have hcb : (chk r ns == 0) = false := by simp [hc]
  have hcn : (chk r ns != 0) = true := by simp [hc]
  have HC := hide hc
  clear hc
  go_enter Try.func8, Try.ntmps8
  go_upto_region 1 with fail
  have hb0 : Below w.heap.size w (w.alloc (.cells #[.int .i64 r, .slice a ns.length cap] 24)) := (Below.refl _ w).alloc (Nat.le_refl _) _
  have hp0 : (w.alloc (.cells #[.int .i64 r, .slice a ns.length cap] 24)).heap[w.heap.size]? = some (.cells #[.int .i64 r, .slice a ns.length cap] 24 (0, 0)) := World.alloc_heap_new w _
  generalize w.alloc (.cells #[.int .i64 r, .slice a ns.length cap] 24) = W0 at hb0 hp0 ⊢
  have p0 := blk_cell hp0 0
  have p1 := blk_cell hp0 1
  have pl := blk_lt hp0
  simp at p0 p1
  have HB0 := hide hb0
  have HP := hide hp0
  clear hb0 hp0
  go_upto_region 2 with (go_at_call 32; refine (trim_err r a cap ns _ (hN.below HB0.out) HC.out).mono ?_; rintro e w1 ⟨rfl, hb1⟩)
  have hb1' := hb1.alloc hb1.size (.cells #[.int .i64 0, .slice none 0 0] 24)
  have HB1 := hide (HB0.out.trans (hb1'.mono HB0.out.size))
  replace p0 := (hb1'.cell (p := ⟨w.heap.size, 0, none⟩) pl).trans p0
  replace p1 := (hb1'.cell (p := ⟨w.heap.size, 1, none⟩) pl).trans p1
  replace pl := Nat.lt_of_lt_of_le pl hb1'.size
  generalize w1.alloc (.cells #[.int .i64 0, .slice none 0 0] 24) = W1 at HB1 hb1' p0 p1 pl ⊢
  generalize w1.heap.size = T
  clear hb1 hb1' HB0 HP
  go_upto_region 3 with (go_at_call 33; refine (split_err r a cap ns _ (hN.below HB1.out) HC.out).mono ?_; rintro e w2 ⟨rfl, hb2⟩)
  have hb2' := hb2.alloc hb2.size (.cells #[.int .i64 0, .slice none 0 0] 24)
  have HB2 := hide (HB1.out.trans (hb2'.mono HB1.out.size))
  generalize w2.alloc (.cells #[.int .i64 0, .slice none 0 0] 24) = W2 at HB2 ⊢
  generalize w2.heap.size = Q
  clear hb2 hb2' HB1 p0 p1 pl HC
  generalize chk r ns = E at hcb hcn ⊢
  go_wp2_with fail
  refine (graphBegun_any _).mono ?_
  rintro e w3 ⟨rfl, hb3⟩
  go_wp2
  go_ret
  exact ⟨rfl, HB2.out.trans (hb3.mono HB2.out.size)⟩

set_option maxRecDepth 100000 in
set_option maxHeartbeats 4000000 in
theorem graphSame_long (r : Int) (b off cap : Nat) (ns : List Nd) (ia : Option Addr) (ic il : Nat) (fuel : Int) (w : World) (hN : NodesAt w b off ns) (hc : chk r ns = 0) (hl : 256 < (splitN ns).length) :
    Calls Try.prog 8 #[.agg #[.int .i64 r, .slice (some ⟨b, off, none⟩) ns.length cap], .slice ia il ic, .int .i64 fuel] w fun e w' => e = .returned (.bool true) ∧ Below w.heap.size w w' := by
  have HC := hide hc
  have HL := hide hl
  clear hc hl
  go_enter Try.func8, Try.ntmps8
  go_upto_region 1 with fail
  have hb0 : Below w.heap.size w (w.alloc (.cells #[.int .i64 r, .slice (some ⟨b, off, none⟩) ns.length cap] 24)) := (Below.refl _ w).alloc (Nat.le_refl _) _
  have hp0 : (w.alloc (.cells #[.int .i64 r, .slice (some ⟨b, off, none⟩) ns.length cap] 24)).heap[w.heap.size]? = some (.cells #[.int .i64 r, .slice (some ⟨b, off, none⟩) ns.length cap] 24 (0, 0)) := World.alloc_heap_new w _
  generalize w.alloc (.cells #[.int .i64 r, .slice (some ⟨b, off, none⟩) ns.length cap] 24) = W0 at hb0 hp0 ⊢
  have p0 := blk_cell hp0 0
  have p1 := blk_cell hp0 1
  have pl := blk_lt hp0
  simp at p0 p1
  have HB0 := hide hb0
  have HP := hide hp0
  clear hb0 hp0
  go_upto_region 2 with (go_at_call 32; refine (trim_fit r b off cap ns _ (hN.below HB0.out hN.lt) HC.out).mono ?_; rintro e w1 ⟨tb, tq, tc, rfl, hn1, hb1⟩)
  have hb1' := hb1.alloc hb1.size (.cells #[.int .i64 r, .slice (some ⟨tb, tq, none⟩) (trimN ns).length tc] 24)
  have HB1 := hide (HB0.out.trans (hb1'.mono HB0.out.size))
  replace p0 := (hb1'.cell (p := ⟨w.heap.size, 0, none⟩) pl).trans p0
  replace p1 := (hb1'.cell (p := ⟨w.heap.size, 1, none⟩) pl).trans p1
  replace pl := Nat.lt_of_lt_of_le pl hb1'.size
  generalize w1.alloc (.cells #[.int .i64 r, .slice (some ⟨tb, tq, none⟩) (trimN ns).length tc] 24) = W1 at HB1 hb1' p0 p1 pl ⊢
  generalize w1.heap.size = T
  clear hb1 hb1' HB0 HP hn1
  go_upto_region 3 with (go_at_call 33; refine (split_long r b off cap ns _ (hN.below HB1.out hN.lt) HC.out HL.out).mono ?_; rintro e w2 ⟨rfl, hb2⟩)
  have hb2' := hb2.alloc hb2.size (.cells #[.int .i64 0, .slice none 0 0] 24)
  have HB2 := hide (HB1.out.trans (hb2'.mono HB1.out.size))
  generalize w2.alloc (.cells #[.int .i64 0, .slice none 0 0] 24) = W2 at HB2 ⊢
  generalize w2.heap.size = Q
  clear hb2 hb2' HB1 p0 p1 pl HC
  go_wp2_with fail
  refine (graphBegun_any _).mono ?_
  rintro e w3 ⟨rfl, hb3⟩
  go_wp2
  go_ret
  exact ⟨rfl, HB2.out.trans (hb3.mono HB2.out.size)⟩

set_option maxRecDepth 100000 in
set_option maxHeartbeats 40000000 in
theorem graphSame_right (r : Int) (b off cap : Nat) (ns : List Nd) (ia : Option Addr) (ic : Nat) (inp : List Int) (fuel : Int) (w : World) (hN : NodesAt w b off ns) (hI : IntsAt w ia inp) (hic : inp.length ≤ ic) (hil : inp.length ≤ 9223372036854775807) (hf : -9223372036854775808 ≤ fuel ∧ fuel ≤ 9223372036854775807) (hc : chk r ns = 0) (hl : (splitN ns).length ≤ 256) :
    Calls Try.prog 8 #[.agg #[.int .i64 r, .slice (some ⟨b, off, none⟩) ns.length cap], .slice ia inp.length ic, .int .i64 fuel] w fun e w' => e = .returned (.bool true) ∧ Below w.heap.size w w' := by
  have HFEW := hide (fun u => few_any ia ic inp u hic hil)
  have hJ := hI.take 256
  have hj256 : (inp.take 256).length ≤ 256 := by simp; omega
  have hjc : (inp.take 256).length ≤ ic := by simp; omega
  have hjl : (inp.take 256).length ≤ 9223372036854775807 := by omega
  generalize inp.take 256 = jn at HFEW hJ hj256 hjc hjl
  have hpf := pickF_range fuel
  have HC := hide hc
  have HL := hide hl
  have HN := hide hN
  have HJ := hide hJ
  clear hc hl hN hI hJ hil
  go_enter Try.func8, Try.ntmps8
  go_upto_region 1 with fail
  have hb0 : Below w.heap.size w (w.alloc (.cells #[.int .i64 r, .slice (some ⟨b, off, none⟩) ns.length cap] 24)) := (Below.refl _ w).alloc (Nat.le_refl _) _
  have hp0 : (w.alloc (.cells #[.int .i64 r, .slice (some ⟨b, off, none⟩) ns.length cap] 24)).heap[w.heap.size]? = some (.cells #[.int .i64 r, .slice (some ⟨b, off, none⟩) ns.length cap] 24 (0, 0)) := World.alloc_heap_new w _
  generalize w.alloc (.cells #[.int .i64 r, .slice (some ⟨b, off, none⟩) ns.length cap] 24) = W0 at hb0 hp0 ⊢
  have p0 := blk_cell hp0 0
  have p1 := blk_cell hp0 1
  have pl := blk_lt hp0
  simp at p0 p1
  have HB0 := hide hb0
  have HP := hide hp0
  clear hb0 hp0
  go_upto_region 2 with (go_at_call 32; refine (trim_fit r b off cap ns _ (HN.out.below HB0.out HN.out.lt) HC.out).mono ?_; rintro e w1 ⟨tb, tq, tc, rfl, hn1, hb1⟩)
  have hx1 : Below w1.heap.size w1 (w1.alloc (.cells #[.int .i64 r, .slice (some ⟨tb, tq, none⟩) (trimN ns).length tc] 24)) := (Below.refl _ w1).alloc (Nat.le_refl _) _
  have hb1' := hb1.alloc hb1.size (.cells #[.int .i64 r, .slice (some ⟨tb, tq, none⟩) (trimN ns).length tc] 24)
  have HB1 := hide (HB0.out.trans (hb1'.mono HB0.out.size))
  have HP1 := hide ((hb1'.block _ (blk_lt HP.out)).trans HP.out)
  have HT1 := hide (World.alloc_heap_new w1 (.cells #[.int .i64 r, .slice (some ⟨tb, tq, none⟩) (trimN ns).length tc] 24))
  have HNt1 := hide (hn1.below hx1 hn1.lt)
  replace p0 := (hb1'.cell (p := ⟨w.heap.size, 0, none⟩) pl).trans p0
  replace p1 := (hb1'.cell (p := ⟨w.heap.size, 1, none⟩) pl).trans p1
  replace pl := Nat.lt_of_lt_of_le pl hb1'.size
  clear hb1' hb1 hx1 HB0 HP hn1
  generalize w1.alloc (.cells #[.int .i64 r, .slice (some ⟨tb, tq, none⟩) (trimN ns).length tc] 24) = W1 at HB1 HP1 HT1 HNt1 p0 p1 pl ⊢
  generalize w1.heap.size = T at HT1 ⊢
  go_upto_region 3 with (go_at_call 33; refine (split_fit r b off cap ns _ (HN.out.below HB1.out HN.out.lt) HC.out HL.out).mono ?_; rintro e w2 ⟨qb, qo, qc, rfl, hn2, hb2⟩)
  have hx2 : Below w2.heap.size w2 (w2.alloc (.cells #[.int .i64 r, .slice (some ⟨qb, qo, none⟩) (splitN ns).length qc] 24)) := (Below.refl _ w2).alloc (Nat.le_refl _) _
  have hb2' := hb2.alloc hb2.size (.cells #[.int .i64 r, .slice (some ⟨qb, qo, none⟩) (splitN ns).length qc] 24)
  have HB2 := hide (HB1.out.trans (hb2'.mono HB1.out.size))
  have HP2 := hide ((hb2'.block _ (blk_lt HP1.out)).trans HP1.out)
  have HT2 := hide ((hb2'.block _ (blk_lt HT1.out)).trans HT1.out)
  have HQ2 := hide (World.alloc_heap_new w2 (.cells #[.int .i64 r, .slice (some ⟨qb, qo, none⟩) (splitN ns).length qc] 24))
  have HNt2 := hide (HNt1.out.below hb2' HNt1.out.lt)
  have HNq2 := hide (hn2.below hx2 hn2.lt)
  clear hb2' hb2 hx2 HB1 HP1 HT1 HNt1 hn2 p0 p1 pl
  generalize w2.alloc (.cells #[.int .i64 r, .slice (some ⟨qb, qo, none⟩) (splitN ns).length qc] 24) = W2 at HB2 HP2 HT2 HQ2 HNt2 HNq2 ⊢
  generalize w2.heap.size = Q at HQ2 ⊢
  go_upto_region 6 with (go_at_call 29; refine (choose400_any fuel _ hf).mono ?_; rintro e w3 ⟨rfl, hw3⟩; subst w3)
  generalize pickF fuel = n at hpf ⊢
  have n0 := hpf.1
  have n1 := hpf.2
  clear hpf hf
  have HE1 := hide (rerr_ok (r := r) (ns := ns) (il := jn.length) (n := n) HC.out hj256 n0 (by omega))
  have HE2 := hide (rerr_ok (r := r) (ns := trimN ns) (il := jn.length) (n := n) (trim_chk HC.out) hj256 n0 (by omega))
  have HNk := hide (show SlN W2 (some ⟨b, off, none⟩) ns from Or.inr ⟨b, off, rfl, HN.out.below HB2.out HN.out.lt⟩)
  have HJk := hide (HJ.out.below HB2.out)
  have HPK := hide (fun (u : World) (hB : Below W2.heap.size W2 u) => (show u.cell? ⟨w.heap.size, 0, none⟩ = some (.int .i64 r) ∧ u.cell? ⟨w.heap.size, 1, none⟩ = some (.slice (some ⟨b, off, none⟩) ns.length cap) from ⟨(hB.cell (p := ⟨w.heap.size, 0, none⟩) (blk_lt HP2.out)).trans (blk_cell HP2.out 0), (hB.cell (p := ⟨w.heap.size, 1, none⟩) (blk_lt HP2.out)).trans (blk_cell HP2.out 1)⟩))
  go_cut [12, 13] from 39 to 46 (fun v1 v2 wx => Got (res r ns jn n) (rerr r ns jn.length n) W2 wx v1 v2)
  case first =>
    go_region_held3 (fun u => u.cell? ⟨w.heap.size, 0, none⟩ = some (.int .i64 r) ∧ u.cell? ⟨w.heap.size, 1, none⟩ = some (.slice (some ⟨b, off, none⟩) ns.length cap)) (first | (with_reducible exact HPK.out _ hB3) | (refine HPK.out _ ?_ <;> ((repeat with_reducible first | exact hB3 | exact Below.refl _ _ | refine Below.drew ?_ | refine Below.alloc ?_ ?_ _) <;> (first | exact hB3.size | exact Nat.le_refl _ | simp))) | exact HPK.out _ (hB3.trans (fill5_below (Nat.le_refl _) hB3.size _ _ _ _ _))) (first
      | (go_at_call 40; refine (HFEW.out _).mono ?_; rintro e w' ⟨rfl, hw'⟩; subst w')
      | (go_at_call 22; refine (run_at2 r (some ⟨b, off, none⟩) cap ns ia ic jn n W2 HNk.out HJk.out hjc hjl).mono ?_; rintro e w3 ⟨ao3, co3, ac3, cc3, rfl, hI3, hC3, hco3, hB3, hk3, hQ3⟩; have z0 : w3.cell? ⟨W2.heap.size, 0, none⟩ = some (.slice none 0 0) := blk_cell hk3 0; have f0 := blk_frozen hk3 0; have z1 : w3.cell? ⟨W2.heap.size, 1, none⟩ = some (.int .i64 0) := blk_cell hk3 1; have f1 := blk_frozen hk3 1; have z2 : w3.cell? ⟨W2.heap.size, 2, none⟩ = some (.bool false) := blk_cell hk3 2; have f2 := blk_frozen hk3 2; have z3 : w3.cell? ⟨W2.heap.size, 3, none⟩ = some (.int .i64 0) := blk_cell hk3 3; have f3 := blk_frozen hk3 3; have z4 : w3.cell? ⟨W2.heap.size, 4, none⟩ = some (.slice none 0 0) := blk_cell hk3 4; have f4 := blk_frozen hk3 4; have HX3 := hide (And.intro hI3 (And.intro hC3 (And.intro hco3 (And.intro hk3 hQ3)))); have hlt3 := blk_lt hk3; clear hI3 hC3 hco3 hk3 hQ3)
      | (go_at_call 22; refine (run_at1 r (some ⟨b, off, none⟩) cap ns ia ic jn n W2 HNk.out HJk.out hjc hjl).mono ?_; rintro e w3 ⟨ao3, co3, ac3, cc3, rfl, hI3, hC3, hco3, hB3⟩; have HX3 := hide (And.intro hI3 (And.intro hC3 hco3)); clear hI3 hC3 hco3))
    all_goals (go_wp2; go_meet)
    all_goals first
      | exact ⟨⟨_, ao3, co3, ac3, cc3, rfl, fill5_blk HX3.out.2.2.2.1 _ _ _ _ _, (HX3.out.2.2.2.2 _ _ _ _ _).1, (HX3.out.2.2.2.2 _ _ _ _ _).2, HX3.out.2.2.1⟩, rfl, hB3.trans (fill5_below (Nat.le_refl _) hB3.size _ _ _ _ _)⟩
      | exact ⟨⟨_, ao3, co3, ac3, cc3, rfl, blk_new rfl, HX3.out.1.below ((Below.refl _ w3).alloc (Nat.le_refl _) _), HX3.out.2.1.below ((Below.refl _ w3).alloc (Nat.le_refl _) _), HX3.out.2.2⟩, rfl, hB3.alloc hB3.size _⟩
  case rest =>
    obtain ⟨⟨ra, aoa, coa, aca, cca, rfl, hka, hIa, hCa, hcoa⟩, rfl, hBc⟩ := hcut
    rw [HE1.out]
    have HTR := hide (trim_res (jn := jn) (n := n) HC.out HE1.out HE2.out)
    have HLN := hide (res_len r ns jn n)
    generalize hσ : res r ns jn n = σ at *
    have Hσ := hide hσ
    clear hσ
    have HB3 := hide (HB2.out.trans (hBc.mono HB2.out.size))
    have HP3 := hide ((hBc.block _ (blk_lt HP2.out)).trans HP2.out)
    have HT3 := hide ((hBc.block _ (blk_lt HT2.out)).trans HT2.out)
    have HQ3 := hide ((hBc.block _ (blk_lt HQ2.out)).trans HQ2.out)
    have HNt3 := hide (HNt2.out.below hBc HNt2.out.lt)
    have HNq3 := hide (HNq2.out.below hBc HNq2.out.lt)
    have HRa := hide hka
    have HIa := hide (And.intro hIa (And.intro hCa hcoa))
    clear hka hIa hCa hcoa hBc HB2 HP2 HT2 HQ2 HNt2 HNq2 HNk HJk HPK
    generalize hW : wc = W3 at *
    clear hW
    have HNk := hide (show SlN W3 (some ⟨tb, tq, none⟩) (trimN ns) from Or.inr ⟨tb, tq, rfl, HNt3.out⟩)
    have HJk := hide (HJ.out.below HB3.out)
    go_upto_region 7 with fail
    have HPK := hide (fun (u : World) (hB : Below W3.heap.size W3 u) => (show u.cell? ⟨T, 0, none⟩ = some (.int .i64 r) ∧ u.cell? ⟨T, 1, none⟩ = some (.slice (some ⟨tb, tq, none⟩) (trimN ns).length tc) from ⟨(hB.cell (p := ⟨T, 0, none⟩) (blk_lt HT3.out)).trans (blk_cell HT3.out 0), (hB.cell (p := ⟨T, 1, none⟩) (blk_lt HT3.out)).trans (blk_cell HT3.out 1)⟩))
    go_cut [14, 15] from 47 to 54 (fun v1 v2 wx => Got (res r (trimN ns) jn n) (rerr r (trimN ns) jn.length n) W3 wx v1 v2)
    case first =>
      go_region_held3 (fun u => u.cell? ⟨T, 0, none⟩ = some (.int .i64 r) ∧ u.cell? ⟨T, 1, none⟩ = some (.slice (some ⟨tb, tq, none⟩) (trimN ns).length tc)) (first | (with_reducible exact HPK.out _ hB3) | (refine HPK.out _ ?_ <;> ((repeat with_reducible first | exact hB3 | exact Below.refl _ _ | refine Below.drew ?_ | refine Below.alloc ?_ ?_ _) <;> (first | exact hB3.size | exact Nat.le_refl _ | simp))) | exact HPK.out _ (hB3.trans (fill5_below (Nat.le_refl _) hB3.size _ _ _ _ _))) (first
        | (go_at_call 40; refine (HFEW.out _).mono ?_; rintro e w' ⟨rfl, hw'⟩; subst w')
        | (go_at_call 22; refine (run_at2 r (some ⟨tb, tq, none⟩) tc (trimN ns) ia ic jn n W3 HNk.out HJk.out hjc hjl).mono ?_; rintro e w3 ⟨ao3, co3, ac3, cc3, rfl, hI3, hC3, hco3, hB3, hk3, hQ3⟩; have z0 : w3.cell? ⟨W3.heap.size, 0, none⟩ = some (.slice none 0 0) := blk_cell hk3 0; have f0 := blk_frozen hk3 0; have z1 : w3.cell? ⟨W3.heap.size, 1, none⟩ = some (.int .i64 0) := blk_cell hk3 1; have f1 := blk_frozen hk3 1; have z2 : w3.cell? ⟨W3.heap.size, 2, none⟩ = some (.bool false) := blk_cell hk3 2; have f2 := blk_frozen hk3 2; have z3 : w3.cell? ⟨W3.heap.size, 3, none⟩ = some (.int .i64 0) := blk_cell hk3 3; have f3 := blk_frozen hk3 3; have z4 : w3.cell? ⟨W3.heap.size, 4, none⟩ = some (.slice none 0 0) := blk_cell hk3 4; have f4 := blk_frozen hk3 4; have HX3 := hide (And.intro hI3 (And.intro hC3 (And.intro hco3 (And.intro hk3 hQ3)))); have hlt3 := blk_lt hk3; clear hI3 hC3 hco3 hk3 hQ3)
        | (go_at_call 22; refine (run_at1 r (some ⟨tb, tq, none⟩) tc (trimN ns) ia ic jn n W3 HNk.out HJk.out hjc hjl).mono ?_; rintro e w3 ⟨ao3, co3, ac3, cc3, rfl, hI3, hC3, hco3, hB3⟩; have HX3 := hide (And.intro hI3 (And.intro hC3 hco3)); clear hI3 hC3 hco3))
      all_goals (go_wp2; go_meet)
      all_goals first
        | exact ⟨⟨_, ao3, co3, ac3, cc3, rfl, fill5_blk HX3.out.2.2.2.1 _ _ _ _ _, (HX3.out.2.2.2.2 _ _ _ _ _).1, (HX3.out.2.2.2.2 _ _ _ _ _).2, HX3.out.2.2.1⟩, rfl, hB3.trans (fill5_below (Nat.le_refl _) hB3.size _ _ _ _ _)⟩
        | exact ⟨⟨_, ao3, co3, ac3, cc3, rfl, blk_new rfl, HX3.out.1.below ((Below.refl _ w3).alloc (Nat.le_refl _) _), HX3.out.2.1.below ((Below.refl _ w3).alloc (Nat.le_refl _) _), HX3.out.2.2⟩, rfl, hB3.alloc hB3.size _⟩
    case rest =>
      obtain ⟨⟨rb, aob, cob, acb, ccb, rfl, hkb, hIb, hCb, hcob⟩, rfl, hBc⟩ := hcut
      rw [HE2.out]
      rw [HTR.out] at hkb hIb hCb hcob
      replace hkb : wc.heap[rb]? = some (.cells #[.slice aob σ.out.length cob, .int .i64 σ.ret, .bool σ.ended, .int .i64 σ.steps, .slice acb σ.cts.length ccb] 42 (0, 0)) := hkb
      replace hIb : IntsAt wc aob σ.out := hIb
      replace hCb : CtsAt wc acb σ.cts := hCb
      have HB4 := hide (HB3.out.trans (hBc.mono HB3.out.size))
      have HP4 := hide ((hBc.block _ (blk_lt HP3.out)).trans HP3.out)
      have HT4 := hide ((hBc.block _ (blk_lt HT3.out)).trans HT3.out)
      have HQ4 := hide ((hBc.block _ (blk_lt HQ3.out)).trans HQ3.out)
      have HNt4 := hide (HNt3.out.below hBc HNt3.out.lt)
      have HNq4 := hide (HNq3.out.below hBc HNq3.out.lt)
      have HRa4 := hide ((hBc.block _ (blk_lt HRa.out)).trans HRa.out)
      have HIa4 := hide (HIa.out.1.below hBc)
      have HCa4 := hide (HIa.out.2.1.below hBc)
      have HRb4 := hide hkb
      have HIb4 := hide hIb
      have HCb4 := hide hCb
      have q0 := blk_cell HQ4.out 0
      have q1 := blk_cell HQ4.out 1
      have ql := blk_lt HQ4.out
      simp at q0 q1
      clear hkb hIb hCb hcob hBc HB3 HP3 HT3 HQ3 HNt3 HNq3 HRa HIa HNk HJk HPK HTR
      go_upto_region 9 with (go_at_call 33; refine (split_fit r qb qo qc (splitN ns) _ HNq4.out (split_chk HC.out HL.out) (by rw [split_idem HC.out HL.out]; exact HL.out)).mono ?_; rintro e w5 ⟨sb, so, sc, rfl, hn5, hb5⟩; rw [split_idem HC.out HL.out] at hn5 ⊢)
      have hx5 : Below w5.heap.size w5 (w5.alloc (.cells #[.int .i64 r, .slice (some ⟨sb, so, none⟩) (splitN ns).length sc] 24)) := (Below.refl _ w5).alloc (Nat.le_refl _) _
      have hb5' := hb5.alloc hb5.size (.cells #[.int .i64 r, .slice (some ⟨sb, so, none⟩) (splitN ns).length sc] 24)
      have HB4s := hide (HB4.out.trans (hb5'.mono HB4.out.size))
      have HS4s := hide (World.alloc_heap_new w5 (.cells #[.int .i64 r, .slice (some ⟨sb, so, none⟩) (splitN ns).length sc] 24))
      have HNs := hide (hn5.below hx5 hn5.lt)
      have HP4s := hide ((hb5'.block _ (blk_lt HP4.out)).trans HP4.out)
      have HT4s := hide ((hb5'.block _ (blk_lt HT4.out)).trans HT4.out)
      have HQ4s := hide ((hb5'.block _ (blk_lt HQ4.out)).trans HQ4.out)
      have HRa4s := hide ((hb5'.block _ (blk_lt HRa4.out)).trans HRa4.out)
      have HRb4s := hide ((hb5'.block _ (blk_lt HRb4.out)).trans HRb4.out)
      have HNt4s := hide (HNt4.out.below hb5' HNt4.out.lt)
      have HNq4s := hide (HNq4.out.below hb5' HNq4.out.lt)
      have HIa4s := hide (HIa4.out.below hb5')
      have HIb4s := hide (HIb4.out.below hb5')
      have HCa4s := hide (HCa4.out.below hb5')
      have HCb4s := hide (HCb4.out.below hb5')
      clear hb5' hb5 hx5 hn5 HP4 HT4 HQ4 HRa4 HRb4 HNt4 HNq4 HIa4 HIb4 HCa4 HCb4 HB4 q0 q1 ql
      generalize w5.alloc (.cells #[.int .i64 r, .slice (some ⟨sb, so, none⟩) (splitN ns).length sc] 24) = W4 at HB4s HS4s HNs HP4s HT4s HQ4s HRa4s HRb4s HNt4s HNq4s HIa4s HIb4s HCa4s HCb4s ⊢
      generalize w5.heap.size = S' at HS4s ⊢
      have t0 := blk_cell HT4s.out 0
      have t1 := blk_cell HT4s.out 1
      have tl := blk_lt HT4s.out
      simp at t0 t1
      go_upto_region 10 with (go_at_call 32; refine (trim_fit r tb tq tc (trimN ns) _ HNt4s.out (trim_chk HC.out)).mono ?_; rintro e w6 ⟨ub, uo, uc, rfl, hn6, hb6⟩; rw [trim_idem HC.out] at hn6 ⊢)
      have hx6 : Below w6.heap.size w6 (w6.alloc (.cells #[.int .i64 r, .slice (some ⟨ub, uo, none⟩) (trimN ns).length uc] 24)) := (Below.refl _ w6).alloc (Nat.le_refl _) _
      have hb6' := hb6.alloc hb6.size (.cells #[.int .i64 r, .slice (some ⟨ub, uo, none⟩) (trimN ns).length uc] 24)
      have HB5 := hide (HB4s.out.trans (hb6'.mono HB4s.out.size))
      have HU5 := hide (World.alloc_heap_new w6 (.cells #[.int .i64 r, .slice (some ⟨ub, uo, none⟩) (trimN ns).length uc] 24))
      have HNu := hide (show SlN _ (some ⟨ub, uo, none⟩) (trimN ns) from Or.inr ⟨ub, uo, rfl, hn6.below hx6 hn6.lt⟩)
      have HP5 := hide ((hb6'.block _ (blk_lt HP4s.out)).trans HP4s.out)
      have HT5 := hide ((hb6'.block _ (blk_lt HT4s.out)).trans HT4s.out)
      have HQ5 := hide ((hb6'.block _ (blk_lt HQ4s.out)).trans HQ4s.out)
      have HRa5 := hide ((hb6'.block _ (blk_lt HRa4s.out)).trans HRa4s.out)
      have HRb5 := hide ((hb6'.block _ (blk_lt HRb4s.out)).trans HRb4s.out)
      have HS5 := hide ((hb6'.block _ (blk_lt HS4s.out)).trans HS4s.out)
      have HNt5 := hide (show SlN _ (some ⟨tb, tq, none⟩) (trimN ns) from Or.inr ⟨tb, tq, rfl, HNt4s.out.below hb6' HNt4s.out.lt⟩)
      have HNq5 := hide (show SlN _ (some ⟨qb, qo, none⟩) (splitN ns) from Or.inr ⟨qb, qo, rfl, HNq4s.out.below hb6' HNq4s.out.lt⟩)
      have HNs5 := hide (show SlN _ (some ⟨sb, so, none⟩) (splitN ns) from Or.inr ⟨sb, so, rfl, HNs.out.below hb6' HNs.out.lt⟩)
      have HIa5 := hide (HIa4s.out.below hb6')
      have HIb5 := hide (HIb4s.out.below hb6')
      have HCa5 := hide (HCa4s.out.below hb6')
      have HCb5 := hide (HCb4s.out.below hb6')
      have HJ5 := hide (HJ.out.below HB5.out)
      have HNp5 := hide (show SlN _ (some ⟨b, off, none⟩) ns from Or.inr ⟨b, off, rfl, HN.out.below HB5.out HN.out.lt⟩)
      clear hb6' hb6 hx6 hn6 HP4s HT4s HQ4s HRa4s HRb4s HS4s HNt4s HNq4s HNs HIa4s HIb4s HCa4s HCb4s HB4s t0 t1 tl HN HJ
      generalize w6.alloc (.cells #[.int .i64 r, .slice (some ⟨ub, uo, none⟩) (trimN ns).length uc] 24) = W5 at HB5 HU5 HNu HP5 HT5 HQ5 HRa5 HRb5 HS5 HNt5 HNq5 HNs5 HIa5 HIb5 HCa5 HCb5 HJ5 HNp5 ⊢
      generalize w6.heap.size = U at HU5 ⊢
      have hkk : 0 ≤ n * (((splitN ns).length : Int) + 1) ∧ n * (((splitN ns).length : Int) + 1) ≤ 400 * 257 := ⟨Int.mul_nonneg n0 (by omega), Int.le_trans (Int.mul_le_mul_of_nonneg_right (by omega) (by omega)) (Int.mul_le_mul_of_nonneg_left (by have := HL.out; omega) (by omega))⟩
      have HE3 := hide (rerr_ok (r := r) (ns := splitN ns) (il := jn.length) (n := n) (split_chk HC.out HL.out) hj256 n0 (by omega))
      have HE4 := hide (rerr_ok (r := r) (ns := splitN ns) (il := jn.length) (n := n * (((splitN ns).length : Int) + 1) + (splitN ns).length) (split_chk HC.out HL.out) hj256 (by omega) (by have := HL.out; omega))
      have HDO := hide (doing_of (split_does HC.out r.toNat jn n.toNat) n0 HE1.out HE3.out HE4.out)
      have HTL := hide (show (trimN ns).length ≤ 140737488351232 by have := (chk_zero (trim_chk HC.out)).1; omega)
      have HQL := hide (show (splitN ns).length ≤ 140737488351232 by have := HL.out; omega)
      have HPS := hide (fun (u : World) (hB : Below W5.heap.size W5 u) => (show u.cell? ⟨ra, 0, none⟩ = some (.slice aoa σ.out.length coa) ∧ u.cell? ⟨ra, 1, none⟩ = some (.int .i64 σ.ret) ∧ u.cell? ⟨ra, 2, none⟩ = some (.bool σ.ended) ∧ u.cell? ⟨ra, 3, none⟩ = some (.int .i64 σ.steps) ∧ u.cell? ⟨ra, 4, none⟩ = some (.slice aca σ.cts.length cca) ∧ u.cell? ⟨rb, 0, none⟩ = some (.slice aob σ.out.length cob) ∧ u.cell? ⟨rb, 1, none⟩ = some (.int .i64 σ.ret) ∧ u.cell? ⟨rb, 2, none⟩ = some (.bool σ.ended) ∧ u.cell? ⟨rb, 3, none⟩ = some (.int .i64 σ.steps) ∧ u.cell? ⟨rb, 4, none⟩ = some (.slice acb σ.cts.length ccb) ∧ u.cell? ⟨S', 0, none⟩ = some (.int .i64 r) ∧ u.cell? ⟨S', 1, none⟩ = some (.slice (some ⟨sb, so, none⟩) (splitN ns).length sc) ∧ u.cell? ⟨Q, 0, none⟩ = some (.int .i64 r) ∧ u.cell? ⟨Q, 1, none⟩ = some (.slice (some ⟨qb, qo, none⟩) (splitN ns).length qc) ∧ u.cell? ⟨U, 0, none⟩ = some (.int .i64 r) ∧ u.cell? ⟨U, 1, none⟩ = some (.slice (some ⟨ub, uo, none⟩) (trimN ns).length uc) ∧ u.cell? ⟨T, 0, none⟩ = some (.int .i64 r) ∧ u.cell? ⟨T, 1, none⟩ = some (.slice (some ⟨tb, tq, none⟩) (trimN ns).length tc) ∧ u.cell? ⟨w.heap.size, 0, none⟩ = some (.int .i64 r) ∧ u.cell? ⟨w.heap.size, 1, none⟩ = some (.slice (some ⟨b, off, none⟩) ns.length cap) from ⟨cell_of HRa5.out hB 0 rfl, cell_of HRa5.out hB 1 rfl, cell_of HRa5.out hB 2 rfl, cell_of HRa5.out hB 3 rfl, cell_of HRa5.out hB 4 rfl, cell_of HRb5.out hB 0 rfl, cell_of HRb5.out hB 1 rfl, cell_of HRb5.out hB 2 rfl, cell_of HRb5.out hB 3 rfl, cell_of HRb5.out hB 4 rfl, cell_of HS5.out hB 0 rfl, cell_of HS5.out hB 1 rfl, cell_of HQ5.out hB 0 rfl, cell_of HQ5.out hB 1 rfl, cell_of HU5.out hB 0 rfl, cell_of HU5.out hB 1 rfl, cell_of HT5.out hB 0 rfl, cell_of HT5.out hB 1 rfl, cell_of HP5.out hB 0 rfl, cell_of HP5.out hB 1 rfl⟩))
      clear hkk HRa5 HRb5 HS5 HQ5 HU5 HT5 HP5
      (try simp only [List.append_eq, List.cons_append, List.nil_append])
      go_region_held3 (fun u => u.cell? ⟨ra, 0, none⟩ = some (.slice aoa σ.out.length coa) ∧ u.cell? ⟨ra, 1, none⟩ = some (.int .i64 σ.ret) ∧ u.cell? ⟨ra, 2, none⟩ = some (.bool σ.ended) ∧ u.cell? ⟨ra, 3, none⟩ = some (.int .i64 σ.steps) ∧ u.cell? ⟨ra, 4, none⟩ = some (.slice aca σ.cts.length cca) ∧ u.cell? ⟨rb, 0, none⟩ = some (.slice aob σ.out.length cob) ∧ u.cell? ⟨rb, 1, none⟩ = some (.int .i64 σ.ret) ∧ u.cell? ⟨rb, 2, none⟩ = some (.bool σ.ended) ∧ u.cell? ⟨rb, 3, none⟩ = some (.int .i64 σ.steps) ∧ u.cell? ⟨rb, 4, none⟩ = some (.slice acb σ.cts.length ccb) ∧ u.cell? ⟨S', 0, none⟩ = some (.int .i64 r) ∧ u.cell? ⟨S', 1, none⟩ = some (.slice (some ⟨sb, so, none⟩) (splitN ns).length sc) ∧ u.cell? ⟨Q, 0, none⟩ = some (.int .i64 r) ∧ u.cell? ⟨Q, 1, none⟩ = some (.slice (some ⟨qb, qo, none⟩) (splitN ns).length qc) ∧ u.cell? ⟨U, 0, none⟩ = some (.int .i64 r) ∧ u.cell? ⟨U, 1, none⟩ = some (.slice (some ⟨ub, uo, none⟩) (trimN ns).length uc) ∧ u.cell? ⟨T, 0, none⟩ = some (.int .i64 r) ∧ u.cell? ⟨T, 1, none⟩ = some (.slice (some ⟨tb, tq, none⟩) (trimN ns).length tc) ∧ u.cell? ⟨w.heap.size, 0, none⟩ = some (.int .i64 r) ∧ u.cell? ⟨w.heap.size, 1, none⟩ = some (.slice (some ⟨b, off, none⟩) ns.length cap)) (first
        | (with_reducible exact HPS.out _ hB5)
        | (with_reducible exact HPS.out _ hB4)
        | (with_reducible exact HPS.out _ hB3)
        | (with_reducible exact HPS.out _ hB2)
        | (with_reducible exact HPS.out _ hB1)
        | exact HPS.out _ (Below.refl _ W5).drew
        | exact HPS.out _ (Below.refl _ W5)) (first
        | (go_at_call 40; refine (HFEW.out _).mono ?_; rintro e w' ⟨rfl, hw'⟩; subst w')
        | (go_at_call 41; refine (does_any r r (some ⟨b, off, none⟩) (some ⟨qb, qo, none⟩) cap qc ns (splitN ns) ia ic jn n _ (HNp5.out.below hB4) (HNq5.out.below hB4) (HJ5.out.below hB4) hjc hjl n0 n1 HL.out HE1.out HE3.out HE4.out HDO.out).mono ?_; rintro e we ⟨rfl, hbe⟩; have hB5 : Below W5.heap.size W5 we := hB4.trans (hbe.mono hB4.size))
        | (go_at_call 39; with_reducible refine (sameProgs_same r (some ⟨ub, uo, none⟩) (some ⟨tb, tq, none⟩) uc tc (trimN ns) _ (HNu.out.below hB3) (HNt5.out.below hB3) HTL.out).mono ?_; rintro e wd ⟨rfl, hbd⟩; have hB4 : Below W5.heap.size W5 wd := hB3.trans (hbd.mono hB3.size))
        | (go_at_call 39; with_reducible refine (sameProgs_same r (some ⟨sb, so, none⟩) (some ⟨qb, qo, none⟩) sc qc (splitN ns) _ (HNs5.out.below hB2) (HNq5.out.below hB2) HQL.out).mono ?_; rintro e wcc ⟨rfl, hbc⟩; have hB3 : Below W5.heap.size W5 wcc := hB2.trans (hbc.mono hB2.size))
        | (go_at_call 26; refine (sameResults_any aoa aob aca acb coa cob cca ccb σ.out σ.ret σ.ended σ.steps σ.cts _ (HIa5.out.below hB1) (HIb5.out.below hB1) (HCa5.out.below hB1) (HCb5.out.below hB1) (by have := HLN.out; omega) (by have := HLN.out; omega)).mono ?_; rintro e wb ⟨rfl, hbb⟩; have hB2 : Below W5.heap.size W5 wb := hB1.trans (hbb.mono hB1.size))
        | (go_at_call 37; refine (graphBegun_any _).mono ?_; rintro e wa ⟨rfl, hba⟩; have hB1 : Below W5.heap.size W5 wa := (by first | exact (Below.refl _ W5).drew.trans hba | exact hba)))
      all_goals go_wp2
      all_goals go_ret
      all_goals exact ⟨rfl, HB5.out.trans (hB5.mono HB5.out.size)⟩
end Go.Proofs.Ytoikglgnmjjpcaa

namespace Go.Proofs.Ytoikglgnmjjpcaa
open Go.ChangeShapes Go.WideShapes Go.ChangeAt Go.RowKit
set_option linter.unusedVariables false

theorem graphSame_any (r : Int) (a : Option Addr) (cap : Nat) (ns : List Nd) (ia : Option Addr) (ic : Nat) (inp : List Int) (fuel : Int) (w : World) (hN : SlN w a ns) (hI : IntsAt w ia inp) (hic : inp.length ≤ ic) (hil : inp.length ≤ 9223372036854775807) (hf : -9223372036854775808 ≤ fuel ∧ fuel ≤ 9223372036854775807) :
    Calls Try.prog 8 #[.agg #[.int .i64 r, .slice a ns.length cap], .slice ia inp.length ic, .int .i64 fuel] w fun e w' => e = .returned (.bool true) ∧ Below w.heap.size w w' := by
  by_cases hc : chk r ns = 0
  · obtain ⟨b, off, rfl, hNb⟩ := hN.some (chk_zero hc).1.1
    by_cases hl : (splitN ns).length ≤ 256
    · exact graphSame_right r b off cap ns ia ic inp fuel w hNb hI hic hil hf hc hl
    · exact graphSame_long r b off cap ns ia ic inp.length fuel w hNb hc (by omega)
  · exact graphSame_wrong r a cap ns ia ic inp.length fuel w hN hc

set_option maxRecDepth 100000 in
theorem graphSame_lifted (os : Os) (started : os.Started) (H : Type) (enc : TypeId × Value → H) :
    ReturnsInHanded {} Try.checked os 8 .any (Rows.graphSameSpec.pre6 enc Try.prog Try.f8 Rows.graphSameRow.domain false) (Rows.graphSameSpec.post enc Try.prog Try.f8 false true false false) := by
  refine returnsInHanded_of_change (C := Try.checked) own started (by kernel_rfl) Try.func8
    (ChangeSpec.witness6 (enc := enc) (C := Try.checked) false ⟨#[], #[.agg #[.int .i64 0, .slice none 0 0], .slice none 0 0, .int .i64 0], []⟩ 8 (by kernel_rfl) (by kernel_rfl) (by kernel_rfl) (by kernel_rfl)) ?_
  intro W base args ds gs before hval0 hW hcnd _
  have hval : ∀ (j : Nat) t v, Try.f8.params[j]? = some t → args[j]? = some v → Value.okWide Try.prog W .any base t v := hval0
  have hW' := hW
  obtain ⟨p, q, hA0, hV, rfl, hfz, hnd⟩ := hW
  have hA : DataW.TrodAll enc Try.prog W 0 (fun _ => true) true Try.f8.params.toList args.toList ds p := hA0
  rw [Try.params8] at hA hval
  obtain ⟨v0, vs0, d0, ds0, p0, q0, hargs, rfl, rfl, h0, r0⟩ := trodAll_cons hA
  obtain ⟨v1, vs1, d1, ds1, p1, q1, rfl, rfl, rfl, h1, r1⟩ := trodAll_cons r0
  obtain ⟨v2, vs2, d2, ds2, p2, q2, rfl, rfl, rfl, h2, r2⟩ := trodAll_cons r1
  obtain ⟨rfl, rfl, rfl⟩ := trodAll_nil r2
  obtain rfl : args = #[v0, v1, v2] := by cases args; simp_all
  obtain ⟨rfl, rfl⟩ := trodVars_none hV
  have k0 := h0
  have lt0 : ∀ x ∈ p0, x.block < W.heap.size := by obtain ⟨m, hm⟩ := k0; exact DataW.trod_lt m _ _ _ hm
  have k1 := h1
  have lt1 : ∀ x ∈ p1, x.block < W.heap.size := by obtain ⟨m, hm⟩ := k1; exact DataW.trod_lt m _ _ _ hm
  obtain ⟨r, a, cap, ns, rfl, hN, hl⟩ := open_prog (hval 0 24 v0 rfl rfl) h0
  obtain ⟨ia, ic, inp, rfl, hI, hil, hic⟩ := open_ints_arg (hval 1 25 v1 rfl rfl) h1
  obtain ⟨n, rfl, rfl, rfl, w2⟩ := open_int Try.underlying3 (hval 2 3 v2 rfl rfl) h2
  clear hA0 hval0
  refine (graphSame_any r a cap ns ia ic inp n W hN hI hic hil (wf_range w2)).mono fun e W' ⟨he, bel⟩ => ?_
  subst he
  exact ⟨_, rfl, _, _, _, [], _, [], hW', trodAll_mk1 (shut_bool Try.underlying4 _), (trodAll_cons_mk (Below.trod laidOut (by kernel_rfl) (of_decide_eq_true (by kernel_rfl)) k0 bel lt0) (trodAll_cons_mk (Below.trod laidOut (by kernel_rfl) (of_decide_eq_true (by kernel_rfl)) k1 bel lt1) (trodAll_cons_mk (shut_int Try.underlying3 w2) trodAll_mk0))), rfl, bel.frame _, fun h => by cases h⟩

theorem graphSame_over : Rows.graphSameRow.holds Try.pinned (OpenSpec.ofChange Rows.graphSameSpec) :=
  OpenClaim.holds_of_wide 8 Try.f8 rfl rfl rfl rfl rfl rfl rfl ⟨rfl, rfl, rfl, rfl, rfl⟩ rfl rfl rfl rfl rfl (by kernel_rfl) Try.func8 (by kernel_rfl)
    (of_decide_eq_true (by kernel_rfl)) (by unfold Func.isWrapper; first | (rw [if_pos (by decide +kernel)]; kernel_rfl) | (rw [if_neg (by decide +kernel)]; exact ⟨rfl, rfl⟩))
    (fun os started H enc _ => graphSame_lifted os started H enc)

theorem graphSame_holds : Rows.GraphSameSaid := graphSame_over
#print axioms graphSame_holds
end Go.Proofs.Ytoikglgnmjjpcaa

