/-
  Whatever program, numbers and fuel hoistwaylaw.GraphSame is handed, it returns true and leaves its arguments as they were: what is trimmed does what it did, step by step; what is split does what it did, and has nothing to split any more. No condition.
  hoistwaylaw.GraphSame, walked.
  How a result, a list of numbers and a term that came in as arguments lie in memory.
  How a program that came in as an argument lies in memory.
  move.One, walked.
  How often a term is reckoned: no more often than before, just as often as by Busy's places, and no more often than by a rival's: plain facts.
  One saves, and no rival does better: plain facts.
  One once more changes nothing: plain facts.
  One and All with their errors, and what All does: plain facts.
  move.One, whatever it is handed.
-/
import Derived.Test.YtoikglgnmjjpcabGreatV1
import Derived.Test.YtoikglgnmjjpcabGreatV3
import Derived.Test.YtoikglgnmjjpcabGreatV9
import Derived.Test.YtoikglgnmjjpcabGreatV10
import Derived.Test.YtoikglgnmjjpcabGreatV11
import Derived.ProofKit
import Derived.OpenShut
import Derived.Lib.SmallJoins
import Derived.Deep.Slices
namespace Go.Proofs.YtoikglgnmjjpcabGreat
open Go.ChangeShapes Go.WideShapes Go.ChangeAt Go.RowKit Go.Joins Go.Deep
set_option linter.unusedVariables false

theorem own : ownKnob Tryz.prog.godebug = none := by kernel_rfl
theorem laidOut : laidOutB Tryz.prog = true := by kernel_rfl

theorem cells_node : Tryz.prog.cellsOf 66 = 6 := by kernel_rfl
theorem cells_prog : Tryz.prog.cellsOf 24 = 2 := by kernel_rfl

theorem list6 {α : Type} {l : List α} (h : l.length = 6) : ∃ a b c d e f, l = [a, b, c, d, e, f] := by
  match l, h with
  | [a, b, c, d, e, f], _ => exact ⟨a, b, c, d, e, f, rfl⟩

set_option maxRecDepth 100000 in
theorem node_at {H : Type} {enc : TypeId × Value → H} {W : World} {sp : Nat → Bool} {a : Addr} {n : Nat} {cs : List Value} {y : DataW H × List MemPlace} (hc : W.cells? 0 a 6 = some cs)
    (ht : DataW.trod enc Tryz.prog W 0 sp true n 66 cs = some y) :
    ∃ x : Nd, W.cell? (a.add 0) = some (.int .i64 x.op) ∧ W.cell? (a.add 1) = some (.int .i64 x.d) ∧ W.cell? (a.add 2) = some (.int .i64 x.a) ∧ W.cell? (a.add 3) = some (.int .i64 x.b) ∧ W.cell? (a.add 4) = some (.int .i64 x.t) ∧ W.cell? (a.add 5) = some (.int .i64 x.e) := by
  obtain ⟨_, hl, hcell⟩ := World.cells?_some hc
  obtain ⟨c0, c1, c2, c3, c4, c5, rfl⟩ := list6 hl
  obtain ⟨xs, m, _, _, _, hxs, hf⟩ := DataW.trod_struct Tryz.underlying66 ht
  obtain ⟨x0, x1, x2, x3, x4, x5, rfl⟩ := list6 (l := xs) hxs
  have f0 := hf 0 _ rfl
  have f1 := hf 1 _ rfl
  have f2 := hf 2 _ rfl
  have f3 := hf 3 _ rfl
  have f4 := hf 4 _ rfl
  have f5 := hf 5 _ rfl
  simp only [List.getElem?_cons_zero, List.getElem?_cons_succ] at f0 f1 f2 f3 f4 f5
  obtain ⟨z0, e0, _⟩ := DataW.trod_int Tryz.underlying3 f0
  obtain ⟨z1, e1, _⟩ := DataW.trod_int Tryz.underlying3 f1
  obtain ⟨z2, e2, _⟩ := DataW.trod_int Tryz.underlying3 f2
  obtain ⟨z3, e3, _⟩ := DataW.trod_int Tryz.underlying3 f3
  obtain ⟨z4, e4, _⟩ := DataW.trod_int Tryz.underlying3 f4
  obtain ⟨z5, e5, _⟩ := DataW.trod_int Tryz.underlying3 f5
  cases e0; cases e1; cases e2; cases e3; cases e4; cases e5
  exact ⟨⟨z0, z1, z2, z3, z4, z5⟩, hcell 0 (by omega), hcell 1 (by omega), hcell 2 (by omega), hcell 3 (by omega), hcell 4 (by omega), hcell 5 (by omega)⟩

theorem add_lit' (b off i : Nat) : (⟨b, off, none⟩ : Addr).add i = ⟨b, off + i, none⟩ := by cases i <;> simp [Addr.add]

set_option maxRecDepth 100000 in
theorem nodes_of {H : Type} {enc : TypeId × Value → H} {W : World} {sp : Nat → Bool} {fuel : Nat} {v : Value} {y : DataW H × List MemPlace}
    (h : DataW.trod enc Tryz.prog W 0 sp true fuel 22 [v] = some y) : ∃ a cap ns, v = .slice a (List.length ns) cap ∧ SlN W a ns ∧ ns.length ≤ 9223372036854775807 := by
  rcases open_slice Tryz.underlying22 h with ⟨hcs, _⟩ | ⟨a, len, cap, m, n, D, Pl, hcs, _, hl, hm, hmm, _, hx⟩
  · simp at hcs
    exact ⟨none, 0, [], by simpa using hcs, Or.inl rfl, by simp⟩
  · simp at hcs
    subst hcs
    have hlm : len ≤ m := by rw [hmm]; split <;> omega
    obtain ⟨F, hF⟩ := choose_lt (α := Nd) (n := len) (p := fun i x => W.cell? ((a.add (i * 6)).add 0) = some (.int .i64 x.op) ∧ W.cell? ((a.add (i * 6)).add 1) = some (.int .i64 x.d) ∧ W.cell? ((a.add (i * 6)).add 2) = some (.int .i64 x.a) ∧ W.cell? ((a.add (i * 6)).add 3) = some (.int .i64 x.b) ∧ W.cell? ((a.add (i * 6)).add 4) = some (.int .i64 x.t) ∧ W.cell? ((a.add (i * 6)).add 5) = some (.int .i64 x.e)) (fun i hi => by
      obtain ⟨cs', h1, h2⟩ := hx i (by omega)
      rw [cells_node] at h1
      exact node_at h1 h2)
    refine ⟨some a, cap, (List.range len).map F, by simp, ?_, by simp; unfold maxLen at hm; omega⟩
    by_cases h0 : len = 0
    · subst h0; exact Or.inl rfl
    obtain ⟨b, off, spot⟩ := a
    have hc0 := (hF 0 (by omega)).1
    have hspot : spot = none := by simpa [Addr.add] using World.cell?_spot hc0
    subst hspot
    have hblt : b < W.heap.size := by simpa [Addr.add] using block_lt_of_cell hc0
    have key : ∀ (i : Nat) (x : Nd), ((List.range len).map F)[i]? = some x → i < len ∧ F i = x := by
      intro i x hi
      rw [List.getElem?_map, Option.map_eq_some_iff] at hi
      obtain ⟨j, hj, rfl⟩ := hi
      have hlt : i < len := by have := (List.getElem?_eq_some_iff.1 hj).1; simpa using this
      rw [List.getElem?_range hlt] at hj
      cases hj
      exact ⟨hlt, rfl⟩
    refine Or.inr ⟨b, off, rfl, hblt, ?_, ?_, ?_, ?_, ?_, ?_⟩
    all_goals
      intro i x hi
      obtain ⟨hlt, rfl⟩ := key i x hi
      have := hF i hlt
      simp only [add_lit'] at this
      obtain ⟨k0, k1, k2, k3, k4, k5⟩ := this
      assumption

set_option maxRecDepth 100000 in
theorem open_prog {H : Type} {enc : TypeId × Value → H} {W : World} {sp : Nat → Bool} {base : Nat} {v : Value} {d : DataW H} {p : List MemPlace}
    (hv : Value.okWide Tryz.prog W .any base 24 v) (h : DataW.Trod enc Tryz.prog W 0 sp true 24 v d p) :
    ∃ r a cap ns, v = .agg #[.int .i64 r, .slice a (List.length ns) cap] ∧ SlN W a ns ∧ ns.length ≤ 9223372036854775807 := by
  obtain ⟨c0, c1, y0, y1, m, rfl, _, _, hy0, hy1⟩ := open_agg2 Tryz.underlying24 (by kernel_rfl) cells_prog hv h
  obtain ⟨r, e0, _, _⟩ := DataW.trod_int Tryz.underlying3 hy0
  obtain ⟨a, cap, ns, rfl, hN, hl⟩ := nodes_of hy1
  simp at e0
  subst e0
  exact ⟨r, a, cap, ns, rfl, hN, hl⟩
end Go.Proofs.YtoikglgnmjjpcabGreat

namespace Go.Proofs.YtoikglgnmjjpcabGreat
open Go.ChangeShapes Go.WideShapes Go.ChangeAt Go.RowKit Go.Joins Go.Deep
set_option linter.unusedVariables false

theorem cells_term : Tryz.prog.cellsOf 26 = 3 := by kernel_rfl
theorem list3 {α : Type} {l : List α} (h : l.length = 3) : ∃ a b c, l = [a, b, c] := by
  match l, h with
  | [a, b, c], _ => exact ⟨a, b, c, rfl⟩
set_option maxRecDepth 100000 in
theorem term_trod {H : Type} {enc : TypeId × Value → H} {W : World} {sp : Nat → Bool} {n : Nat} {c0 c1 c2 : Value} {y : DataW H × List MemPlace}
    (ht : DataW.trod enc Tryz.prog W 0 sp true n 26 [c0, c1, c2] = some y) : ∃ t : Tm, c0 = .int .i64 t.op ∧ c1 = .int .i64 t.a ∧ c2 = .int .i64 t.b := by
  obtain ⟨xs, m, _, _, _, hxs, hf⟩ := DataW.trod_struct Tryz.underlying26 ht
  obtain ⟨x0, x1, x2, rfl⟩ := list3 (l := xs) hxs
  have f0 := hf 0 _ rfl
  have f1 := hf 1 _ rfl
  have f2 := hf 2 _ rfl
  simp only [List.getElem?_cons_zero, List.getElem?_cons_succ] at f0 f1 f2
  obtain ⟨z0, e0, _⟩ := DataW.trod_int Tryz.underlying3 f0
  obtain ⟨z1, e1, _⟩ := DataW.trod_int Tryz.underlying3 f1
  obtain ⟨z2, e2, _⟩ := DataW.trod_int Tryz.underlying3 f2
  cases e0; cases e1; cases e2
  exact ⟨⟨z0, z1, z2⟩, rfl, rfl, rfl⟩

set_option maxRecDepth 100000 in
theorem open_term {H : Type} {enc : TypeId × Value → H} {W : World} {sp : Nat → Bool} {base : Nat} {v : Value} {d : DataW H} {p : List MemPlace}
    (hv : Value.okWide Tryz.prog W .any base 26 v) (h : DataW.Trod enc Tryz.prog W 0 sp true 26 v d p) :
    ∃ t : Tm, v = .agg #[.int .i64 t.op, .int .i64 t.a, .int .i64 t.b] := by
  obtain ⟨cs, rfl, hsz⟩ := okWide_struct Tryz.underlying26 hv
  rw [cells_term] at hsz
  obtain ⟨l⟩ := cs
  obtain ⟨c0, c1, c2, rfl⟩ := list3 (l := l) (by simpa using hsz)
  obtain ⟨fuel, hf⟩ := h
  obtain ⟨t, rfl, rfl, rfl⟩ := term_trod hf
  exact ⟨t, rfl⟩

end Go.Proofs.YtoikglgnmjjpcabGreat

namespace Go.Proofs.YtoikglgnmjjpcabGreat
open Go.RowKit Go.Shelf
set_option linter.unusedVariables false
set_option linter.unusedSimpArgs false

theorem trim_fit (r : Int) (b off cap : Nat) (ns : List Nd) (w : World) (hN : NodesAt w b off ns) (hc : chk r ns = 0) :
    Calls Tryz.prog 25 #[.agg #[.int .i64 r, .slice (some ⟨b, off, none⟩) ns.length cap]] w fun e w' => ∃ tb tq tc, e = .returned (.tuple #[.agg #[.int .i64 r, .slice (some ⟨tb, tq, none⟩) (trimN ns).length tc], .int .i64 0]) ∧ NodesAt w' tb tq (trimN ns) ∧ Below w.heap.size w w' := by
  refine (callsIn_wide.1 (trim_ok r b off cap ns w hN hc)).mono ?_
  rintro e w' ⟨v, rfl, hv, hB⟩
  obtain ⟨ta, tc, rfl, hs⟩ := nodes_of_owns hv
  obtain ⟨tb, tq, rfl, hn⟩ := hs.some (chk_zero (trim_chk hc)).1.1
  exact ⟨tb, tq, tc, rfl, hn, hB⟩

theorem split_fit (r : Int) (b off cap : Nat) (ns : List Nd) (w : World) (hN : NodesAt w b off ns) (hc : chk r ns = 0) (hl : (splitN ns).length ≤ 256) :
    Calls Tryz.prog 26 #[.agg #[.int .i64 r, .slice (some ⟨b, off, none⟩) ns.length cap]] w fun e w' => ∃ tb tq tc, e = .returned (.tuple #[.agg #[.int .i64 r, .slice (some ⟨tb, tq, none⟩) (splitN ns).length tc], .int .i64 0]) ∧ NodesAt w' tb tq (splitN ns) ∧ Below w.heap.size w w' := by
  refine (callsIn_wide.1 (split_ok r b off cap ns w hN hc)).mono ?_
  rintro e w' ⟨v1, v2, er, rfl, h, hB⟩
  rcases h with ⟨_, rfl, rfl, hv⟩ | ⟨h, _⟩
  · obtain ⟨ta, tc, rfl, hs⟩ := nodes_of_owns hv
    obtain ⟨tb, tq, rfl, hn⟩ := hs.some (chk_zero (split_chk hc hl)).1.1
    exact ⟨tb, tq, tc, rfl, hn, hB⟩
  · omega

theorem split_long (r : Int) (b off cap : Nat) (ns : List Nd) (w : World) (hN : NodesAt w b off ns) (hc : chk r ns = 0) (hl : 256 < (splitN ns).length) :
    Calls Tryz.prog 26 #[.agg #[.int .i64 r, .slice (some ⟨b, off, none⟩) ns.length cap]] w fun e w' => e = .returned (.tuple #[.agg #[.int .i64 0, .slice none 0 0], .int .i64 2]) ∧ Below w.heap.size w w' := by
  refine (callsIn_wide.1 (split_ok r b off cap ns w hN hc)).mono ?_
  rintro e w' ⟨v1, v2, er, rfl, h, hB⟩
  rcases h with ⟨h, _⟩ | ⟨_, rfl, rfl, rfl⟩
  · omega
  · exact ⟨rfl, hB⟩

end Go.Proofs.YtoikglgnmjjpcabGreat

namespace Go.Proofs.YtoikglgnmjjpcabGreat
open Go.ChangeShapes Go.WideShapes Go.ChangeAt Go.RowKit
set_option linter.unusedVariables false

end Go.Proofs.YtoikglgnmjjpcabGreat


namespace Go.Proofs.YtoikglgnmjjpcabGreat
open Go.RowKit Go.Shelf
set_option linter.unusedVariables false
set_option linter.unusedSimpArgs false

theorem NodesAt.setM {w : World} {b off B o : Nat} {ns : List Nd} {v : Value} (h : NodesAt w b off ns) (hne : b ≠ B) : NodesAt (w.setCell ⟨B, o, none⟩ v) b off ns := by
  have e : ∀ k, (w.setCell ⟨B, o, none⟩ v).cell? ⟨b, k, none⟩ = w.cell? ⟨b, k, none⟩ := fun k => World.cell?_of_block (cells_setP hne _ _)
  exact ⟨by simpa using h.lt, fun i x hx => (e _).trans (h.c0 i x hx), fun i x hx => (e _).trans (h.c1 i x hx), fun i x hx => (e _).trans (h.c2 i x hx), fun i x hx => (e _).trans (h.c3 i x hx), fun i x hx => (e _).trans (h.c4 i x hx), fun i x hx => (e _).trans (h.c5 i x hx)⟩

theorem split_fitM (r : Int) (b off cap : Nat) (ns : List Nd) (w : World) (hN : NodesAt w b off ns) (hc : chk r ns = 0) (hl : (splitN ns).length ≤ 256) :
    Calls Tryz.prog 26 #[.agg #[.int .i64 r, .slice (some ⟨b, off, none⟩) ns.length cap]] w fun e w' => ∃ tb tq tc, e = .returned (.tuple #[.agg #[.int .i64 r, .slice (some ⟨tb, tq, none⟩) (splitN ns).length tc], .int .i64 0]) ∧ NodesAt w' tb tq (splitN ns) ∧ w.heap.size ≤ tb ∧ Below w.heap.size w w' := by
  refine (callsIn_wide.1 (split_ok r b off cap ns w hN hc)).mono ?_
  rintro e w' ⟨v1, v2, er, rfl, h, hB⟩
  rcases h with ⟨_, rfl, rfl, hv⟩ | ⟨h, _⟩
  · obtain ⟨ta, tc, rfl, hs⟩ := nodes_of_owns hv
    obtain ⟨tb, tq, rfl, hn⟩ := hs.some (chk_zero (split_chk hc hl)).1.1
    rcases hv.2 with ⟨q, _⟩ | ⟨g', c, cur, q, a1, a2, _⟩
    · cases q
    · cases q; exact ⟨tb, 0, tc, rfl, hn, a1, hB⟩
  · omega

set_option maxHeartbeats 8000000 in
set_option maxRecDepth 100000 in
theorem one_wrong (r : Int) (a : Option Addr) (cap : Nat) (ns : List Nd) (t : Tm) (w : World) (hN : SlN w a ns) (hc : chk r ns ≠ 0) :
    Calls Tryz.prog 9 #[.agg #[.int .i64 r, .slice a ns.length cap], .agg #[.int .i64 t.op, .int .i64 t.a, .int .i64 t.b]] w fun e w' => e = .returned (.tuple #[.agg #[.int .i64 0, .slice none 0 0], .int .i64 (chk r ns)]) ∧ Below w.heap.size w w' := by
  have HTR := hide (fun W (h : Below w.heap.size w W) => trim_err r a cap ns W (hN.below h) hc)
  have hCb : (chk r ns == 0) = false := by simp [hc]
  have hCn : (chk r ns != 0) = true := by simp [hc]
  clear hc hN
  generalize chk r ns = C at *
  have hbA : Below w.heap.size w (((w.alloc (.cells #[.int .i64 r, .slice a ns.length cap] 24)).alloc (.cells #[.int .i64 t.op, .int .i64 t.a, .int .i64 t.b] 26)).alloc (.cells #[.int .i64 0, .slice none 0 0] 24)) := ((((Below.refl _ w).alloc (Nat.le_refl _) _).alloc (by simp) _).alloc (by simp; omega) _)
  have p0 : (((w.alloc (.cells #[.int .i64 r, .slice a ns.length cap] 24)).alloc (.cells #[.int .i64 t.op, .int .i64 t.a, .int .i64 t.b] 26)).alloc (.cells #[.int .i64 0, .slice none 0 0] 24)).heap[w.heap.size]? = some (.cells #[.int .i64 r, .slice a ns.length cap] 24 (0, 0)) := by
    have := World.alloc_heap_new w (.cells #[.int .i64 r, .slice a ns.length cap] 24)
    exact ((Below.heap_alloc _ _ _ (by simp; try omega)).trans (((Below.heap_alloc _ _ _ (by simp; try omega)).trans (this))))
  have p1 : (((w.alloc (.cells #[.int .i64 r, .slice a ns.length cap] 24)).alloc (.cells #[.int .i64 t.op, .int .i64 t.a, .int .i64 t.b] 26)).alloc (.cells #[.int .i64 0, .slice none 0 0] 24)).heap[w.heap.size + 1]? = some (.cells #[.int .i64 t.op, .int .i64 t.a, .int .i64 t.b] 26 (0, 0)) := by
    have := World.alloc_heap_new (w.alloc (.cells #[.int .i64 r, .slice a ns.length cap] 24)) (.cells #[.int .i64 t.op, .int .i64 t.a, .int .i64 t.b] 26)
    simp only [World.size_alloc] at this
    exact ((Below.heap_alloc _ _ _ (by simp; try omega)).trans (this))
  have p2 : (((w.alloc (.cells #[.int .i64 r, .slice a ns.length cap] 24)).alloc (.cells #[.int .i64 t.op, .int .i64 t.a, .int .i64 t.b] 26)).alloc (.cells #[.int .i64 0, .slice none 0 0] 24)).heap[w.heap.size + 2]? = some (.cells #[.int .i64 0, .slice none 0 0] 24 (0, 0)) := by
    have := World.alloc_heap_new ((w.alloc (.cells #[.int .i64 r, .slice a ns.length cap] 24)).alloc (.cells #[.int .i64 t.op, .int .i64 t.a, .int .i64 t.b] 26)) (.cells #[.int .i64 0, .slice none 0 0] 24)
    simp only [World.size_alloc] at this
    exact this
  go_enter Tryz.func9, Tryz.ntmps9
  go_upto_region 1 with fail
  generalize (((w.alloc (.cells #[.int .i64 r, .slice a ns.length cap] 24)).alloc (.cells #[.int .i64 t.op, .int .i64 t.a, .int .i64 t.b] 26)).alloc (.cells #[.int .i64 0, .slice none 0 0] 24)) = W at hbA p0 p1 p2 ⊢
  try rw [show w.heap.size + 1 + 1 = w.heap.size + 2 from rfl]
  have q0 := blk_cell p0 0
  have q1 := blk_cell p0 1
  simp at q0 q1
  have pl := blk_lt p0
  have HB := hide hbA
  have HP := hide p0
  have HT := hide p1
  have HR := hide p2
  clear hbA p0 p1 p2
  go_wp2_with fail
  refine (HTR.out _ HB.out).mono ?_
  rintro e w1 ⟨rfl, hb1⟩
  have HR1 := hide ((hb1.block _ (blk_lt HR.out)).trans HR.out)
  have HB1 := hide (HB.out.trans (hb1.mono HB.out.size))
  clear hb1 q0 q1 pl HB HR HP HT HTR
  have hR := HR1.out
  have y0 := blk_cell hR 0
  have y1 := blk_cell hR 1
  simp at y0 y1
  have z0 := blk_frozen hR 0
  have z1 := blk_frozen hR 1
  have ylt := blk_lt hR
  clear hR
  go_wp2
  have hk0 := blk_set2 (v0 := .int .i64 0) (v1 := .slice none 0 0) HR1.out
  have hB5 := below_set2 (v0 := .int .i64 0) (v1 := .slice none 0 0) HB1.out (B := w.heap.size + 2) (by omega)
  have hk := (Below.heap_alloc _ (.cells #[.int .i64 0, .slice none 0 0] 24) _ (blk_lt hk0)).trans hk0
  have k0 := blk_cell hk 0
  have k1 := blk_cell hk 1
  simp at k0 k1
  exact bodyPost_ret (v := .tuple #[.agg #[.int .i64 0, .slice none 0 0], .int .i64 C]) (by simp [results, Tryz.results9, go_sem, k0, k1]) rfl ⟨rfl, hB5.alloc hB5.size _⟩

set_option maxHeartbeats 8000000 in
set_option maxRecDepth 100000 in
theorem one_many (r : Int) (b off cap : Nat) (ns : List Nd) (t : Tm) (w : World) (hN : NodesAt w b off ns) (hc : chk r ns = 0) (hl : 256 < (oneQ ns).length) :
    Calls Tryz.prog 9 #[.agg #[.int .i64 r, .slice (some ⟨b, off, none⟩) ns.length cap], .agg #[.int .i64 t.op, .int .i64 t.a, .int .i64 t.b]] w fun e w' => e = .returned (.tuple #[.agg #[.int .i64 0, .slice none 0 0], .int .i64 2]) ∧ Below w.heap.size w w' := by
  have HSP := hide (fun (W : World) (tb tq tc : Nat) (h : NodesAt W tb tq (trimN ns)) => split_long r tb tq tc (trimN ns) W h (trim_chk hc) hl)
  have HTR := hide (fun W (h : Below w.heap.size w W) => trim_fit r b off cap ns W (hN.below h hN.lt) hc)
  have hbA : Below w.heap.size w (((w.alloc (.cells #[.int .i64 r, .slice (some ⟨b, off, none⟩) ns.length cap] 24)).alloc (.cells #[.int .i64 t.op, .int .i64 t.a, .int .i64 t.b] 26)).alloc (.cells #[.int .i64 0, .slice none 0 0] 24)) := ((((Below.refl _ w).alloc (Nat.le_refl _) _).alloc (by simp) _).alloc (by simp; omega) _)
  have p0 : (((w.alloc (.cells #[.int .i64 r, .slice (some ⟨b, off, none⟩) ns.length cap] 24)).alloc (.cells #[.int .i64 t.op, .int .i64 t.a, .int .i64 t.b] 26)).alloc (.cells #[.int .i64 0, .slice none 0 0] 24)).heap[w.heap.size]? = some (.cells #[.int .i64 r, .slice (some ⟨b, off, none⟩) ns.length cap] 24 (0, 0)) := by
    have := World.alloc_heap_new w (.cells #[.int .i64 r, .slice (some ⟨b, off, none⟩) ns.length cap] 24)
    exact ((Below.heap_alloc _ _ _ (by simp; try omega)).trans (((Below.heap_alloc _ _ _ (by simp; try omega)).trans (this))))
  have p1 : (((w.alloc (.cells #[.int .i64 r, .slice (some ⟨b, off, none⟩) ns.length cap] 24)).alloc (.cells #[.int .i64 t.op, .int .i64 t.a, .int .i64 t.b] 26)).alloc (.cells #[.int .i64 0, .slice none 0 0] 24)).heap[w.heap.size + 1]? = some (.cells #[.int .i64 t.op, .int .i64 t.a, .int .i64 t.b] 26 (0, 0)) := by
    have := World.alloc_heap_new (w.alloc (.cells #[.int .i64 r, .slice (some ⟨b, off, none⟩) ns.length cap] 24)) (.cells #[.int .i64 t.op, .int .i64 t.a, .int .i64 t.b] 26)
    simp only [World.size_alloc] at this
    exact ((Below.heap_alloc _ _ _ (by simp; try omega)).trans (this))
  have p2 : (((w.alloc (.cells #[.int .i64 r, .slice (some ⟨b, off, none⟩) ns.length cap] 24)).alloc (.cells #[.int .i64 t.op, .int .i64 t.a, .int .i64 t.b] 26)).alloc (.cells #[.int .i64 0, .slice none 0 0] 24)).heap[w.heap.size + 2]? = some (.cells #[.int .i64 0, .slice none 0 0] 24 (0, 0)) := by
    have := World.alloc_heap_new ((w.alloc (.cells #[.int .i64 r, .slice (some ⟨b, off, none⟩) ns.length cap] 24)).alloc (.cells #[.int .i64 t.op, .int .i64 t.a, .int .i64 t.b] 26)) (.cells #[.int .i64 0, .slice none 0 0] 24)
    simp only [World.size_alloc] at this
    exact this
  go_enter Tryz.func9, Tryz.ntmps9
  go_upto_region 1 with fail
  generalize (((w.alloc (.cells #[.int .i64 r, .slice (some ⟨b, off, none⟩) ns.length cap] 24)).alloc (.cells #[.int .i64 t.op, .int .i64 t.a, .int .i64 t.b] 26)).alloc (.cells #[.int .i64 0, .slice none 0 0] 24)) = W at hbA p0 p1 p2 ⊢
  try rw [show w.heap.size + 1 + 1 = w.heap.size + 2 from rfl]
  have q0 := blk_cell p0 0
  have q1 := blk_cell p0 1
  simp at q0 q1
  have pl := blk_lt p0
  have HB := hide hbA
  have HP := hide p0
  have HT := hide p1
  have HR := hide p2
  clear hbA p0 p1 p2
  go_wp2_with fail
  refine (HTR.out _ HB.out).mono ?_
  rintro e w1 ⟨tb, tq, tc, rfl, hN1, hb1⟩
  have hbF : Below w1.heap.size w1 (w1.alloc (.cells #[.int .i64 r, .slice (some ⟨tb, tq, none⟩) (trimN ns).length tc] 24)) := (Below.refl _ w1).alloc (Nat.le_refl _) _
  have hQ : (w1.alloc (.cells #[.int .i64 r, .slice (some ⟨tb, tq, none⟩) (trimN ns).length tc] 24)).heap[w1.heap.size]? = some (.cells #[.int .i64 r, .slice (some ⟨tb, tq, none⟩) (trimN ns).length tc] 24 (0, 0)) := World.alloc_heap_new w1 _
  have HBW := hide (hb1.trans (hbF.mono hb1.size))
  have HB2 := hide (HB.out.trans (HBW.out.mono HB.out.size))
  have HN2 := hide (hN1.below hbF hN1.lt)
  have HP2 := hide ((HBW.out.block _ (blk_lt HP.out)).trans HP.out)
  have HT2 := hide ((HBW.out.block _ (blk_lt HT.out)).trans HT.out)
  have HR2 := hide ((HBW.out.block _ (blk_lt HR.out)).trans HR.out)
  have hQs : w.heap.size + 2 < w1.heap.size := by have h1 := blk_lt HR.out; have h2 := hb1.size; omega
  clear hb1 q0 q1 pl HB HR HP HT HTR HBW hN1
  go_upto_region 4 with fail
  generalize (w1.alloc (.cells #[.int .i64 r, .slice (some ⟨tb, tq, none⟩) (trimN ns).length tc] 24)) = V at hbF hQ HB2 HN2 HP2 HT2 HR2 ⊢
  generalize w1.heap.size = QB at *
  clear hbF
  have q0 := blk_cell hQ 0
  have q1 := blk_cell hQ 1
  simp at q0 q1
  have ql := blk_lt hQ
  have HQ := hide hQ
  clear hQ
  have z0 := blk_frozen HQ.out 0
  have z1 := blk_frozen HQ.out 1
  clear z0 z1
  go_wp2_with fail
  refine (HSP.out _ tb tq tc HN2.out).mono ?_
  rintro e w2 ⟨rfl, hb2⟩
  have hQ2 := (hb2.block _ ql).trans HQ.out
  clear q0 q1 ql
  have q0 := blk_cell hQ2 0
  have q1 := blk_cell hQ2 1
  simp at q0 q1
  have f0 := blk_frozen hQ2 0
  have f1 := blk_frozen hQ2 1
  have ql := blk_lt hQ2
  have hR2 := (hb2.block _ (blk_lt HR2.out)).trans HR2.out
  have hne : w.heap.size + 2 ≠ QB := by omega
  have HR1 : Hid (((w2.setCell ⟨QB, 0, none⟩ (.int .i64 0)).setCell ⟨QB, 1, none⟩ (.slice none 0 0)).heap[w.heap.size + 2]? = some (.cells #[.int .i64 0, .slice none 0 0] 24 (0, 0))) := (cells_setP hne _ _).trans ((cells_setP hne _ _).trans hR2)
  have HB1 := hide (below_set2 (v0 := .int .i64 0) (v1 := .slice none 0 0) (HB2.out.trans (hb2.mono HB2.out.size)) (B := QB) (by omega))
  have hx : ((w2.setCell ⟨QB, 0, none⟩ (.int .i64 0)).setCell ⟨QB, 1, none⟩ (.slice none 0 0)).heap.size = w2.heap.size := by simp
  clear hb2 hQ2 hR2 HR2 HB2 HQ HN2 HP2 HT2 HSP
  go_upto_region 5 with fail
  clear q0 q1 f0 f1
  generalize ((w2.setCell ⟨QB, 0, none⟩ (.int .i64 0)).setCell ⟨QB, 1, none⟩ (.slice none 0 0)) = U at HR1 HB1 hx ⊢
  have hR := HR1.out
  have y0 := blk_cell hR 0
  have y1 := blk_cell hR 1
  simp at y0 y1
  have z0 := blk_frozen hR 0
  have z1 := blk_frozen hR 1
  have ylt := blk_lt hR
  clear hR
  go_wp2
  have hk0 := blk_set2 (v0 := .int .i64 0) (v1 := .slice none 0 0) HR1.out
  have hB5 := below_set2 (v0 := .int .i64 0) (v1 := .slice none 0 0) HB1.out (B := w.heap.size + 2) (by omega)
  have k0 := blk_cell hk0 0
  have k1 := blk_cell hk0 1
  simp at k0 k1
  exact bodyPost_ret (v := .tuple #[.agg #[.int .i64 0, .slice none 0 0], .int .i64 2]) (by simp [results, Tryz.results9, go_sem, k0, k1]) rfl ⟨rfl, hB5⟩

set_option maxHeartbeats 8000000 in
set_option maxRecDepth 100000 in
theorem one_term (r : Int) (b off cap : Nat) (ns : List Nd) (t : Tm) (w : World) (hN : NodesAt w b off ns) (hc : chk r ns = 0) (hl : (oneQ ns).length ≤ 256) (ht : tchk r (oneQ ns) t ≠ 0) :
    Calls Tryz.prog 9 #[.agg #[.int .i64 r, .slice (some ⟨b, off, none⟩) ns.length cap], .agg #[.int .i64 t.op, .int .i64 t.a, .int .i64 t.b]] w fun e w' => e = .returned (.tuple #[.agg #[.int .i64 0, .slice none 0 0], .int .i64 (tchk r (oneQ ns) t)]) ∧ Below w.heap.size w w' := by
  have HLZ := hide (fun (W : World) (sb sq sc : Nat) (h : NodesAt W sb sq (oneQ ns)) => lazy_wrong r (some ⟨sb, sq, none⟩) sc (oneQ ns) t W (Or.inr ⟨sb, sq, rfl, h⟩) ht)
  have hCb : (tchk r (oneQ ns) t == 0) = false := by simp [ht]
  have hCn : (tchk r (oneQ ns) t != 0) = true := by simp [ht]
  clear ht
  generalize tchk r (oneQ ns) t = C at *
  have hl' : (splitN (trimN ns)).length ≤ 256 := hl
  have hch : chk r (oneQ ns) = 0 := split_chk (trim_chk hc) hl'
  have HSP := hide (fun (W : World) (tb tq tc : Nat) (h : NodesAt W tb tq (trimN ns)) => split_fitM r tb tq tc (trimN ns) W h (trim_chk hc) hl)
  rw [show splitN (trimN ns) = oneQ ns from rfl] at HSP
  have HTR := hide (fun W (h : Below w.heap.size w W) => trim_fit r b off cap ns W (hN.below h hN.lt) hc)
  have hbA : Below w.heap.size w (((w.alloc (.cells #[.int .i64 r, .slice (some ⟨b, off, none⟩) ns.length cap] 24)).alloc (.cells #[.int .i64 t.op, .int .i64 t.a, .int .i64 t.b] 26)).alloc (.cells #[.int .i64 0, .slice none 0 0] 24)) := ((((Below.refl _ w).alloc (Nat.le_refl _) _).alloc (by simp) _).alloc (by simp; omega) _)
  have p0 : (((w.alloc (.cells #[.int .i64 r, .slice (some ⟨b, off, none⟩) ns.length cap] 24)).alloc (.cells #[.int .i64 t.op, .int .i64 t.a, .int .i64 t.b] 26)).alloc (.cells #[.int .i64 0, .slice none 0 0] 24)).heap[w.heap.size]? = some (.cells #[.int .i64 r, .slice (some ⟨b, off, none⟩) ns.length cap] 24 (0, 0)) := by
    have := World.alloc_heap_new w (.cells #[.int .i64 r, .slice (some ⟨b, off, none⟩) ns.length cap] 24)
    exact ((Below.heap_alloc _ _ _ (by simp; try omega)).trans (((Below.heap_alloc _ _ _ (by simp; try omega)).trans (this))))
  have p1 : (((w.alloc (.cells #[.int .i64 r, .slice (some ⟨b, off, none⟩) ns.length cap] 24)).alloc (.cells #[.int .i64 t.op, .int .i64 t.a, .int .i64 t.b] 26)).alloc (.cells #[.int .i64 0, .slice none 0 0] 24)).heap[w.heap.size + 1]? = some (.cells #[.int .i64 t.op, .int .i64 t.a, .int .i64 t.b] 26 (0, 0)) := by
    have := World.alloc_heap_new (w.alloc (.cells #[.int .i64 r, .slice (some ⟨b, off, none⟩) ns.length cap] 24)) (.cells #[.int .i64 t.op, .int .i64 t.a, .int .i64 t.b] 26)
    simp only [World.size_alloc] at this
    exact ((Below.heap_alloc _ _ _ (by simp; try omega)).trans (this))
  have p2 : (((w.alloc (.cells #[.int .i64 r, .slice (some ⟨b, off, none⟩) ns.length cap] 24)).alloc (.cells #[.int .i64 t.op, .int .i64 t.a, .int .i64 t.b] 26)).alloc (.cells #[.int .i64 0, .slice none 0 0] 24)).heap[w.heap.size + 2]? = some (.cells #[.int .i64 0, .slice none 0 0] 24 (0, 0)) := by
    have := World.alloc_heap_new ((w.alloc (.cells #[.int .i64 r, .slice (some ⟨b, off, none⟩) ns.length cap] 24)).alloc (.cells #[.int .i64 t.op, .int .i64 t.a, .int .i64 t.b] 26)) (.cells #[.int .i64 0, .slice none 0 0] 24)
    simp only [World.size_alloc] at this
    exact this
  go_enter Tryz.func9, Tryz.ntmps9
  go_upto_region 1 with fail
  generalize (((w.alloc (.cells #[.int .i64 r, .slice (some ⟨b, off, none⟩) ns.length cap] 24)).alloc (.cells #[.int .i64 t.op, .int .i64 t.a, .int .i64 t.b] 26)).alloc (.cells #[.int .i64 0, .slice none 0 0] 24)) = W at hbA p0 p1 p2 ⊢
  try rw [show w.heap.size + 1 + 1 = w.heap.size + 2 from rfl]
  have q0 := blk_cell p0 0
  have q1 := blk_cell p0 1
  simp at q0 q1
  have pl := blk_lt p0
  have HB := hide hbA
  have HP := hide p0
  have HT := hide p1
  have HR := hide p2
  clear hbA p0 p1 p2
  go_wp2_with fail
  refine (HTR.out _ HB.out).mono ?_
  rintro e w1 ⟨tb, tq, tc, rfl, hN1, hb1⟩
  have hbF : Below w1.heap.size w1 (w1.alloc (.cells #[.int .i64 r, .slice (some ⟨tb, tq, none⟩) (trimN ns).length tc] 24)) := (Below.refl _ w1).alloc (Nat.le_refl _) _
  have hQ : (w1.alloc (.cells #[.int .i64 r, .slice (some ⟨tb, tq, none⟩) (trimN ns).length tc] 24)).heap[w1.heap.size]? = some (.cells #[.int .i64 r, .slice (some ⟨tb, tq, none⟩) (trimN ns).length tc] 24 (0, 0)) := World.alloc_heap_new w1 _
  have HBW := hide (hb1.trans (hbF.mono hb1.size))
  have HB2 := hide (HB.out.trans (HBW.out.mono HB.out.size))
  have HN2 := hide (hN1.below hbF hN1.lt)
  have HP2 := hide ((HBW.out.block _ (blk_lt HP.out)).trans HP.out)
  have HT2 := hide ((HBW.out.block _ (blk_lt HT.out)).trans HT.out)
  have HR2 := hide ((HBW.out.block _ (blk_lt HR.out)).trans HR.out)
  have hQs : w.heap.size + 2 < w1.heap.size := by have h1 := blk_lt HR.out; have h2 := hb1.size; omega
  clear hb1 q0 q1 pl HB HR HP HT HTR HBW hN1
  go_upto_region 4 with fail
  generalize (w1.alloc (.cells #[.int .i64 r, .slice (some ⟨tb, tq, none⟩) (trimN ns).length tc] 24)) = V at hbF hQ HB2 HN2 HP2 HT2 HR2 ⊢
  generalize w1.heap.size = QB at *
  clear hbF
  have q0 := blk_cell hQ 0
  have q1 := blk_cell hQ 1
  simp at q0 q1
  have ql := blk_lt hQ
  have HQ := hide hQ
  clear hQ
  go_wp2_with fail
  refine (HSP.out _ tb tq tc HN2.out).mono ?_
  rintro e w2 ⟨sb, sq, sc, rfl, hN3, hsb, hb2⟩
  have hsq : sb ≠ QB := by omega
  have hQ2 := (hb2.block _ ql).trans HQ.out
  clear q0 q1 ql
  have q0 := blk_cell hQ2 0
  have q1 := blk_cell hQ2 1
  simp at q0 q1
  have f0 := blk_frozen hQ2 0
  have f1 := blk_frozen hQ2 1
  have ql := blk_lt hQ2
  have hne : w.heap.size + 2 ≠ QB := by omega
  have hne1 : w.heap.size + 1 ≠ QB := by omega
  have hne0 : w.heap.size ≠ QB := by omega
  have HR1 : Hid (((w2.setCell ⟨QB, 0, none⟩ (.int .i64 r)).setCell ⟨QB, 1, none⟩ (.slice (some ⟨sb, sq, none⟩) (oneQ ns).length sc)).heap[w.heap.size + 2]? = some (.cells #[.int .i64 0, .slice none 0 0] 24 (0, 0))) := (cells_setP hne _ _).trans ((cells_setP hne _ _).trans ((hb2.block _ (blk_lt HR2.out)).trans HR2.out))
  have HT1 : Hid (((w2.setCell ⟨QB, 0, none⟩ (.int .i64 r)).setCell ⟨QB, 1, none⟩ (.slice (some ⟨sb, sq, none⟩) (oneQ ns).length sc)).heap[w.heap.size + 1]? = some (.cells #[.int .i64 t.op, .int .i64 t.a, .int .i64 t.b] 26 (0, 0))) := (cells_setP hne1 _ _).trans ((cells_setP hne1 _ _).trans ((hb2.block _ (blk_lt HT2.out)).trans HT2.out))
  have HP1 : Hid (((w2.setCell ⟨QB, 0, none⟩ (.int .i64 r)).setCell ⟨QB, 1, none⟩ (.slice (some ⟨sb, sq, none⟩) (oneQ ns).length sc)).heap[w.heap.size]? = some (.cells #[.int .i64 r, .slice (some ⟨b, off, none⟩) ns.length cap] 24 (0, 0))) := (cells_setP hne0 _ _).trans ((cells_setP hne0 _ _).trans ((hb2.block _ (blk_lt HP2.out)).trans HP2.out))
  have HQ1 : Hid (((w2.setCell ⟨QB, 0, none⟩ (.int .i64 r)).setCell ⟨QB, 1, none⟩ (.slice (some ⟨sb, sq, none⟩) (oneQ ns).length sc)).heap[QB]? = some (.cells #[.int .i64 r, .slice (some ⟨sb, sq, none⟩) (oneQ ns).length sc] 24 (0, 0))) := blk_set2 hQ2
  have HN1 : Hid (NodesAt ((w2.setCell ⟨QB, 0, none⟩ (.int .i64 r)).setCell ⟨QB, 1, none⟩ (.slice (some ⟨sb, sq, none⟩) (oneQ ns).length sc)) sb sq (oneQ ns)) := (hN3.setM hsq).setM hsq
  have HB1 := hide (below_set2 (v0 := .int .i64 r) (v1 := .slice (some ⟨sb, sq, none⟩) (oneQ ns).length sc) (HB2.out.trans (hb2.mono HB2.out.size)) (B := QB) (by omega))
  have hQU : QB < ((w2.setCell ⟨QB, 0, none⟩ (.int .i64 r)).setCell ⟨QB, 1, none⟩ (.slice (some ⟨sb, sq, none⟩) (oneQ ns).length sc)).heap.size := by simp; exact ql
  clear hb2 hQ2 HR2 HB2 HQ HN2 HP2 HT2 HSP hN3 hne hne1 hne0 hsb hsq
  go_upto_region 5 with fail
  clear q0 q1 f0 f1 ql
  generalize ((w2.setCell ⟨QB, 0, none⟩ (.int .i64 r)).setCell ⟨QB, 1, none⟩ (.slice (some ⟨sb, sq, none⟩) (oneQ ns).length sc)) = U at HR1 HT1 HP1 HQ1 HN1 HB1 hQU ⊢
  have hQ := HQ1.out
  have q0 := blk_cell hQ 0
  have q1 := blk_cell hQ 1
  simp at q0 q1
  have ql := blk_lt hQ
  have hT := HT1.out
  have t0 := blk_cell hT 0
  have t1 := blk_cell hT 1
  have t2 := blk_cell hT 2
  simp at t0 t1 t2
  have tl := blk_lt hT
  clear hQ hT
  go_upto_region 7 with fail
  go_wp2_with fail
  refine (HLZ.out _ sb sq sc HN1.out).mono ?_
  rintro e w3 ⟨rfl, hb3⟩
  have HR3 := hide ((hb3.block _ (blk_lt HR1.out)).trans HR1.out)
  have HB3 := hide (HB1.out.trans (hb3.mono HB1.out.size))
  clear q0 q1 t0 t1 t2 ql tl hb3 HR1 HB1 HQ1 HT1 HP1 HN1 HLZ
  have hR := HR3.out
  have y0 := blk_cell hR 0
  have y1 := blk_cell hR 1
  simp at y0 y1
  have z0 := blk_frozen hR 0
  have z1 := blk_frozen hR 1
  have ylt := blk_lt hR
  clear hR
  go_wp2
  have hk0 := blk_set2 (v0 := .int .i64 0) (v1 := .slice none 0 0) HR3.out
  have hB5 := below_set2 (v0 := .int .i64 0) (v1 := .slice none 0 0) HB3.out (B := w.heap.size + 2) (by omega)
  have hk := (Below.heap_alloc _ (.cells #[.slice none 0 0, .slice none 0 0] 29) _ (blk_lt hk0)).trans hk0
  have k0 := blk_cell hk 0
  have k1 := blk_cell hk 1
  simp at k0 k1
  exact bodyPost_ret (v := .tuple #[.agg #[.int .i64 0, .slice none 0 0], .int .i64 C]) (by simp [results, Tryz.results9, go_sem, k0, k1]) rfl ⟨rfl, hB5.alloc hB5.size _⟩

set_option maxHeartbeats 8000000 in
set_option maxRecDepth 100000 in
theorem one_same (r : Int) (b off cap : Nat) (ns : List Nd) (t : Tm) (w : World) (hN : NodesAt w b off ns) (hc : chk r ns = 0) (hl : (oneQ ns).length ≤ 256) (ht : tchk r (oneQ ns) t = 0) (hbb : oneB ns t = false) :
    Calls Tryz.prog 9 #[.agg #[.int .i64 r, .slice (some ⟨b, off, none⟩) ns.length cap], .agg #[.int .i64 t.op, .int .i64 t.a, .int .i64 t.b]] w fun e w' => ∃ gb gc, e = .returned (.tuple #[.agg #[.int .i64 r, .slice (some ⟨gb, 0, none⟩) ns.length gc], .int .i64 0]) ∧ w'.ownsRow w.heap.size 66 6 (.slice (some ⟨gb, 0, none⟩) ns.length gc) ns.length (ns.flatMap encNd) ∧ Below w.heap.size w w' := by
  have hbp : (lazyPut (oneQ ns) t).any id = false := by rw [oneB, Bool.or_eq_false_iff] at hbb; exact hbb.1
  have hbt : (lazyTake (oneQ ns) t).any id = false := by rw [oneB, Bool.or_eq_false_iff] at hbb; exact hbb.2
  have hl0 := (chk_full hc).1
  have HN := hide hN
  have HLZ := hide (fun (W : World) (sb sq sc : Nat) (h : NodesAt W sb sq (oneQ ns)) => lazy_right r sb sq sc (oneQ ns) t W h ht)
  have hl' : (splitN (trimN ns)).length ≤ 256 := hl
  have hch : chk r (oneQ ns) = 0 := split_chk (trim_chk hc) hl'
  have HSP := hide (fun (W : World) (tb tq tc : Nat) (h : NodesAt W tb tq (trimN ns)) => split_fitM r tb tq tc (trimN ns) W h (trim_chk hc) hl)
  rw [show splitN (trimN ns) = oneQ ns from rfl] at HSP
  have HTR := hide (fun W (h : Below w.heap.size w W) => trim_fit r b off cap ns W (hN.below h hN.lt) hc)
  have hbA : Below w.heap.size w (((w.alloc (.cells #[.int .i64 r, .slice (some ⟨b, off, none⟩) ns.length cap] 24)).alloc (.cells #[.int .i64 t.op, .int .i64 t.a, .int .i64 t.b] 26)).alloc (.cells #[.int .i64 0, .slice none 0 0] 24)) := ((((Below.refl _ w).alloc (Nat.le_refl _) _).alloc (by simp) _).alloc (by simp; omega) _)
  have p0 : (((w.alloc (.cells #[.int .i64 r, .slice (some ⟨b, off, none⟩) ns.length cap] 24)).alloc (.cells #[.int .i64 t.op, .int .i64 t.a, .int .i64 t.b] 26)).alloc (.cells #[.int .i64 0, .slice none 0 0] 24)).heap[w.heap.size]? = some (.cells #[.int .i64 r, .slice (some ⟨b, off, none⟩) ns.length cap] 24 (0, 0)) := by
    have := World.alloc_heap_new w (.cells #[.int .i64 r, .slice (some ⟨b, off, none⟩) ns.length cap] 24)
    exact ((Below.heap_alloc _ _ _ (by simp; try omega)).trans (((Below.heap_alloc _ _ _ (by simp; try omega)).trans (this))))
  have p1 : (((w.alloc (.cells #[.int .i64 r, .slice (some ⟨b, off, none⟩) ns.length cap] 24)).alloc (.cells #[.int .i64 t.op, .int .i64 t.a, .int .i64 t.b] 26)).alloc (.cells #[.int .i64 0, .slice none 0 0] 24)).heap[w.heap.size + 1]? = some (.cells #[.int .i64 t.op, .int .i64 t.a, .int .i64 t.b] 26 (0, 0)) := by
    have := World.alloc_heap_new (w.alloc (.cells #[.int .i64 r, .slice (some ⟨b, off, none⟩) ns.length cap] 24)) (.cells #[.int .i64 t.op, .int .i64 t.a, .int .i64 t.b] 26)
    simp only [World.size_alloc] at this
    exact ((Below.heap_alloc _ _ _ (by simp; try omega)).trans (this))
  have p2 : (((w.alloc (.cells #[.int .i64 r, .slice (some ⟨b, off, none⟩) ns.length cap] 24)).alloc (.cells #[.int .i64 t.op, .int .i64 t.a, .int .i64 t.b] 26)).alloc (.cells #[.int .i64 0, .slice none 0 0] 24)).heap[w.heap.size + 2]? = some (.cells #[.int .i64 0, .slice none 0 0] 24 (0, 0)) := by
    have := World.alloc_heap_new ((w.alloc (.cells #[.int .i64 r, .slice (some ⟨b, off, none⟩) ns.length cap] 24)).alloc (.cells #[.int .i64 t.op, .int .i64 t.a, .int .i64 t.b] 26)) (.cells #[.int .i64 0, .slice none 0 0] 24)
    simp only [World.size_alloc] at this
    exact this
  go_enter Tryz.func9, Tryz.ntmps9
  go_upto_region 1 with fail
  generalize (((w.alloc (.cells #[.int .i64 r, .slice (some ⟨b, off, none⟩) ns.length cap] 24)).alloc (.cells #[.int .i64 t.op, .int .i64 t.a, .int .i64 t.b] 26)).alloc (.cells #[.int .i64 0, .slice none 0 0] 24)) = W at hbA p0 p1 p2 ⊢
  try rw [show w.heap.size + 1 + 1 = w.heap.size + 2 from rfl]
  have q0 := blk_cell p0 0
  have q1 := blk_cell p0 1
  simp at q0 q1
  have pl := blk_lt p0
  have HB := hide hbA
  have HP := hide p0
  have HT := hide p1
  have HR := hide p2
  clear hbA p0 p1 p2
  go_wp2_with fail
  refine (HTR.out _ HB.out).mono ?_
  rintro e w1 ⟨tb, tq, tc, rfl, hN1, hb1⟩
  have hbF : Below w1.heap.size w1 (w1.alloc (.cells #[.int .i64 r, .slice (some ⟨tb, tq, none⟩) (trimN ns).length tc] 24)) := (Below.refl _ w1).alloc (Nat.le_refl _) _
  have hQ : (w1.alloc (.cells #[.int .i64 r, .slice (some ⟨tb, tq, none⟩) (trimN ns).length tc] 24)).heap[w1.heap.size]? = some (.cells #[.int .i64 r, .slice (some ⟨tb, tq, none⟩) (trimN ns).length tc] 24 (0, 0)) := World.alloc_heap_new w1 _
  have HBW := hide (hb1.trans (hbF.mono hb1.size))
  have HB2 := hide (HB.out.trans (HBW.out.mono HB.out.size))
  have HN2 := hide (hN1.below hbF hN1.lt)
  have HP2 := hide ((HBW.out.block _ (blk_lt HP.out)).trans HP.out)
  have HT2 := hide ((HBW.out.block _ (blk_lt HT.out)).trans HT.out)
  have HR2 := hide ((HBW.out.block _ (blk_lt HR.out)).trans HR.out)
  have hQs : w.heap.size + 2 < w1.heap.size := by have h1 := blk_lt HR.out; have h2 := hb1.size; omega
  clear hb1 q0 q1 pl HB HR HP HT HTR HBW hN1
  go_upto_region 4 with fail
  generalize (w1.alloc (.cells #[.int .i64 r, .slice (some ⟨tb, tq, none⟩) (trimN ns).length tc] 24)) = V at hbF hQ HB2 HN2 HP2 HT2 HR2 ⊢
  generalize w1.heap.size = QB at *
  clear hbF
  have q0 := blk_cell hQ 0
  have q1 := blk_cell hQ 1
  simp at q0 q1
  have ql := blk_lt hQ
  have HQ := hide hQ
  clear hQ
  go_wp2_with fail
  refine (HSP.out _ tb tq tc HN2.out).mono ?_
  rintro e w2 ⟨sb, sq, sc, rfl, hN3, hsb, hb2⟩
  have hsq : sb ≠ QB := by omega
  have hQ2 := (hb2.block _ ql).trans HQ.out
  clear q0 q1 ql
  have q0 := blk_cell hQ2 0
  have q1 := blk_cell hQ2 1
  simp at q0 q1
  have f0 := blk_frozen hQ2 0
  have f1 := blk_frozen hQ2 1
  have ql := blk_lt hQ2
  have hne : w.heap.size + 2 ≠ QB := by omega
  have hne1 : w.heap.size + 1 ≠ QB := by omega
  have hne0 : w.heap.size ≠ QB := by omega
  have HR1 : Hid (((w2.setCell ⟨QB, 0, none⟩ (.int .i64 r)).setCell ⟨QB, 1, none⟩ (.slice (some ⟨sb, sq, none⟩) (oneQ ns).length sc)).heap[w.heap.size + 2]? = some (.cells #[.int .i64 0, .slice none 0 0] 24 (0, 0))) := (cells_setP hne _ _).trans ((cells_setP hne _ _).trans ((hb2.block _ (blk_lt HR2.out)).trans HR2.out))
  have HT1 : Hid (((w2.setCell ⟨QB, 0, none⟩ (.int .i64 r)).setCell ⟨QB, 1, none⟩ (.slice (some ⟨sb, sq, none⟩) (oneQ ns).length sc)).heap[w.heap.size + 1]? = some (.cells #[.int .i64 t.op, .int .i64 t.a, .int .i64 t.b] 26 (0, 0))) := (cells_setP hne1 _ _).trans ((cells_setP hne1 _ _).trans ((hb2.block _ (blk_lt HT2.out)).trans HT2.out))
  have HP1 : Hid (((w2.setCell ⟨QB, 0, none⟩ (.int .i64 r)).setCell ⟨QB, 1, none⟩ (.slice (some ⟨sb, sq, none⟩) (oneQ ns).length sc)).heap[w.heap.size]? = some (.cells #[.int .i64 r, .slice (some ⟨b, off, none⟩) ns.length cap] 24 (0, 0))) := (cells_setP hne0 _ _).trans ((cells_setP hne0 _ _).trans ((hb2.block _ (blk_lt HP2.out)).trans HP2.out))
  have HQ1 : Hid (((w2.setCell ⟨QB, 0, none⟩ (.int .i64 r)).setCell ⟨QB, 1, none⟩ (.slice (some ⟨sb, sq, none⟩) (oneQ ns).length sc)).heap[QB]? = some (.cells #[.int .i64 r, .slice (some ⟨sb, sq, none⟩) (oneQ ns).length sc] 24 (0, 0))) := blk_set2 hQ2
  have HN1 : Hid (NodesAt ((w2.setCell ⟨QB, 0, none⟩ (.int .i64 r)).setCell ⟨QB, 1, none⟩ (.slice (some ⟨sb, sq, none⟩) (oneQ ns).length sc)) sb sq (oneQ ns)) := (hN3.setM hsq).setM hsq
  have HB1 := hide (below_set2 (v0 := .int .i64 r) (v1 := .slice (some ⟨sb, sq, none⟩) (oneQ ns).length sc) (HB2.out.trans (hb2.mono HB2.out.size)) (B := QB) (by omega))
  have hQU : QB < ((w2.setCell ⟨QB, 0, none⟩ (.int .i64 r)).setCell ⟨QB, 1, none⟩ (.slice (some ⟨sb, sq, none⟩) (oneQ ns).length sc)).heap.size := by simp; exact ql
  clear hb2 hQ2 HR2 HB2 HQ HN2 HP2 HT2 HSP hN3 hne hne1 hne0 hsb hsq
  go_upto_region 5 with fail
  clear q0 q1 f0 f1 ql
  generalize ((w2.setCell ⟨QB, 0, none⟩ (.int .i64 r)).setCell ⟨QB, 1, none⟩ (.slice (some ⟨sb, sq, none⟩) (oneQ ns).length sc)) = U at HR1 HT1 HP1 HQ1 HN1 HB1 hQU ⊢
  have hQ := HQ1.out
  have q0 := blk_cell hQ 0
  have q1 := blk_cell hQ 1
  simp at q0 q1
  have ql := blk_lt hQ
  have hT := HT1.out
  have t0 := blk_cell hT 0
  have t1 := blk_cell hT 1
  have t2 := blk_cell hT 2
  simp at t0 t1 t2
  have tl := blk_lt hT
  clear hQ hT
  go_upto_region 7 with fail
  go_wp2_with fail
  refine (HLZ.out _ sb sq sc HN1.out).mono ?_
  rintro e w3 ⟨x1, d1, x2, d2, rfl, hV1, hV2, hb3⟩
  have hbF : Below w3.heap.size w3 (w3.alloc (.cells #[.slice x1 (oneQ ns).length d1, .slice x2 (oneQ ns).length d2] 29)) := (Below.refl _ w3).alloc (Nat.le_refl _) _
  have hL : (w3.alloc (.cells #[.slice x1 (oneQ ns).length d1, .slice x2 (oneQ ns).length d2] 29)).heap[w3.heap.size]? = some (.cells #[.slice x1 (oneQ ns).length d1, .slice x2 (oneQ ns).length d2] 29 (0, 0)) := World.alloc_heap_new w3 _
  have HBW := hide (hb3.trans (hbF.mono hb3.size))
  have Y1 : Hid (BoolsAt (w3.alloc (.cells #[.slice x1 (oneQ ns).length d1, .slice x2 (oneQ ns).length d2] 29)) x1 (lazyPut (oneQ ns) t)) := (bools_owned hV1 (by simp [lazyPut])).below hbF
  have Y2 : Hid (BoolsAt (w3.alloc (.cells #[.slice x1 (oneQ ns).length d1, .slice x2 (oneQ ns).length d2] 29)) x2 (lazyTake (oneQ ns) t)) := (bools_owned hV2 (by simp [lazyTake])).below hbF
  have HR4 := hide ((HBW.out.block _ (blk_lt HR1.out)).trans HR1.out)
  have HP4 := hide ((HBW.out.block _ (blk_lt HP1.out)).trans HP1.out)
  have HT4 := hide ((HBW.out.block _ (blk_lt HT1.out)).trans HT1.out)
  have HQ4 := hide ((HBW.out.block _ (blk_lt HQ1.out)).trans HQ1.out)
  have HN4 := hide (HN1.out.below HBW.out HN1.out.lt)
  have HB4 := hide (HB1.out.trans (HBW.out.mono HB1.out.size))
  have hLB : QB < w3.heap.size := by have := hb3.size; omega
  clear q0 q1 t0 t1 t2 ql tl hV1 hV2 hb3 HR1 HB1 HQ1 HT1 HP1 HN1 HLZ HBW hQU
  go_upto_region 10 with fail
  generalize (w3.alloc (.cells #[.slice x1 (oneQ ns).length d1, .slice x2 (oneQ ns).length d2] 29)) = V3 at hbF hL Y1 Y2 HR4 HP4 HT4 HQ4 HN4 HB4 ⊢
  generalize w3.heap.size = LB at *
  clear hbF
  have l0 := blk_cell hL 0
  have l1 := blk_cell hL 1
  simp at l0 l1
  have ll := blk_lt hL
  have HL := hide hL
  clear hL
  have HC1 := hide (containsB_any x1 d1 (lazyPut (oneQ ns) t) V3 Y1.out (by simp [lazyPut]; omega))
  have HC2 := hide (containsB_any x2 d2 (lazyTake (oneQ ns) t) V3 Y2.out (by simp [lazyTake]; omega))
  rw [show (lazyPut (oneQ ns) t).length = (oneQ ns).length by simp [lazyPut]] at HC1
  rw [show (lazyTake (oneQ ns) t).length = (oneQ ns).length by simp [lazyTake]] at HC2
  rw [hbp] at HC1
  rw [hbt] at HC2
  go_wp2_with fail
  refine HC1.out.mono ?_
  rintro e w5 ⟨rfl, rfl⟩
  go_wp2_with fail
  refine HC2.out.mono ?_
  rintro e w6 ⟨rfl, rfl⟩
  go_upto_region 11 with fail
  have HS : Hid (∀ u : World, Below w6.heap.size w6 u → u.cell? ⟨w.heap.size, 0, none⟩ = some (.int .i64 r) ∧ u.cell? ⟨w.heap.size, 1, none⟩ = some (.slice (some ⟨b, off, none⟩) ns.length cap)) := fun u h => by
    have k1 := (h.block _ (blk_lt HP4.out)).trans HP4.out
    refine ⟨?_, ?_⟩
    · rw [blk_cell k1]; rfl
    · rw [blk_cell k1]; rfl
  have HH : Hid (∀ u : World, Below w6.heap.size w6 u → u.heap[w.heap.size + 2]? = some (.cells #[.int .i64 0, .slice none 0 0] 24 (0, 0))) := fun u h => (h.block _ (blk_lt HR4.out)).trans HR4.out
  have HSet : Hid (∀ (u : World) (v0 v1 : Value), (u.cell? ⟨w.heap.size, 0, none⟩ = some (.int .i64 r) ∧ u.cell? ⟨w.heap.size, 1, none⟩ = some (.slice (some ⟨b, off, none⟩) ns.length cap)) → ((u.setCell ⟨w.heap.size + 2, 0, none⟩ v0).setCell ⟨w.heap.size + 2, 1, none⟩ v1).cell? ⟨w.heap.size, 0, none⟩ = some (.int .i64 r) ∧ ((u.setCell ⟨w.heap.size + 2, 0, none⟩ v0).setCell ⟨w.heap.size + 2, 1, none⟩ v1).cell? ⟨w.heap.size, 1, none⟩ = some (.slice (some ⟨b, off, none⟩) ns.length cap)) := fun u v0 v1 h => by
    have e : ∀ (B k : Nat), B ≠ w.heap.size + 2 → ((u.setCell ⟨w.heap.size + 2, 0, none⟩ v0).setCell ⟨w.heap.size + 2, 1, none⟩ v1).cell? ⟨B, k, none⟩ = u.cell? ⟨B, k, none⟩ := fun B k h => World.cell?_of_block (by
      show ((u.setCell ⟨w.heap.size + 2, 0, none⟩ v0).setCell ⟨w.heap.size + 2, 1, none⟩ v1).heap[B]? = u.heap[B]?
      simp only [cells_setP h])
    simp only [e w.heap.size _ (by omega)]
    exact h
  have pl : w.heap.size < w6.heap.size := blk_lt HP4.out
  clear l0 l1 ll
  go_region_held3 (fun u => u.cell? ⟨w.heap.size, 0, none⟩ = some (.int .i64 r) ∧ u.cell? ⟨w.heap.size, 1, none⟩ = some (.slice (some ⟨b, off, none⟩) ns.length cap)) (first
    | (with_reducible refine HSet.out _ _ _ ?_; exact HS.out _ hB7)
    | (with_reducible refine HS.out _ ?_; first | with_reducible exact hB7 | with_reducible exact (Below.refl _ w6).drew | with_reducible exact (Below.refl _ w6))) (first
    | (go_at_call 33; refine (clone_fitM b off cap ns _ (by first | exact (HN.out.below HB4.out HN.out.lt).below (Below.refl _ w6).drew (Nat.lt_of_lt_of_le HN.out.lt HB4.out.size) | exact HN.out.below HB4.out HN.out.lt) (by omega)).mono ?_; rintro e w7 ⟨gb, gc, rfl, hV7, hb7⟩; have hB7 : Below w6.heap.size w6 w7 := (by first | exact (Below.refl _ w6).drew.trans hb7 | exact hb7); have x0 := blk_cell (HH.out _ hB7) 0; have x1 := blk_cell (HH.out _ hB7) 1; simp at x0 x1; have f0 := blk_frozen (HH.out _ hB7) 0; have f1 := blk_frozen (HH.out _ hB7) 1; have xl := blk_lt (HH.out _ hB7)))
  all_goals have HV7 := hide (ownsRow_base hV7 (base' := w.heap.size) (by have := HB4.out.size; first | exact this | (simp; omega)))
  all_goals have hk := blk_set2 (v0 := .int .i64 r) (v1 := .slice (some ⟨gb, 0, none⟩) ns.length gc) (HH.out _ hB7)
  all_goals have T1 := owns_set (o := 1) (u := .slice (some ⟨gb, 0, none⟩) ns.length gc) (owns_set (o := 0) (u := .int .i64 r) HV7.out (HH.out _ hB7) (by decide)) (blk_set (i := 0) (.int .i64 r) (HH.out _ hB7)) (by decide)
  all_goals have hBf := below_set2 (v0 := .int .i64 r) (v1 := .slice (some ⟨gb, 0, none⟩) ns.length gc) (HB4.out.trans (hB7.mono HB4.out.size)) (B := w.heap.size + 2) (by omega)
  all_goals clear hV7 x0 x1 f0 f1 xl
  all_goals go_wp2_with fail
  all_goals generalize ((w7.setCell ⟨w.heap.size + 2, 0, none⟩ (.int .i64 r)).setCell ⟨w.heap.size + 2, 1, none⟩ (.slice (some ⟨gb, 0, none⟩) ns.length gc)) = Wf at hk T1 hBf ⊢
  all_goals have k0 := blk_cell hk 0
  all_goals have k1 := blk_cell hk 1
  all_goals simp at k0 k1
  all_goals exact bodyPost_ret (v := .tuple #[.agg #[.int .i64 r, .slice (some ⟨gb, 0, none⟩) ns.length gc], .int .i64 0]) (by simp [results, Tryz.results9, go_sem, k0, k1]) rfl ⟨gb, gc, rfl, T1, hBf⟩

set_option maxHeartbeats 8000000 in
set_option maxRecDepth 100000 in
theorem one_moved (r : Int) (b off cap : Nat) (ns : List Nd) (t : Tm) (w : World) (hN : NodesAt w b off ns) (hc : chk r ns = 0) (hl : (oneQ ns).length ≤ 256) (ht : tchk r (oneQ ns) t = 0) (hbb : oneB ns t = true) :
    Calls Tryz.prog 9 #[.agg #[.int .i64 r, .slice (some ⟨b, off, none⟩) ns.length cap], .agg #[.int .i64 t.op, .int .i64 t.a, .int .i64 t.b]] w fun e w' => ((256 < (apN (oneQ ns) t (lazyPut (oneQ ns) t) (lazyTake (oneQ ns) t) r).length ∨ 63 < r) ∧ e = .returned (.tuple #[.agg #[.int .i64 0, .slice none 0 0], .int .i64 2]) ∨ ((apN (oneQ ns) t (lazyPut (oneQ ns) t) (lazyTake (oneQ ns) t) r).length ≤ 256 ∧ r ≤ 63) ∧ ∃ gb gc, e = .returned (.tuple #[.agg #[.int .i64 (r + 1), .slice (some ⟨gb, 0, none⟩) (apN (oneQ ns) t (lazyPut (oneQ ns) t) (lazyTake (oneQ ns) t) r).length gc], .int .i64 0]) ∧ w'.ownsRow w.heap.size 66 6 (.slice (some ⟨gb, 0, none⟩) (apN (oneQ ns) t (lazyPut (oneQ ns) t) (lazyTake (oneQ ns) t) r).length gc) (apN (oneQ ns) t (lazyPut (oneQ ns) t) (lazyTake (oneQ ns) t) r).length ((apN (oneQ ns) t (lazyPut (oneQ ns) t) (lazyTake (oneQ ns) t) r).flatMap encNd)) ∧ Below w.heap.size w w' := by
  have HAP := hide (fun (W : World) (sb sq sc : Nat) (x1 x2 : Option Addr) (d1 d2 : Nat) (h : NodesAt W sb sq (oneQ ns)) (h1 : BoolsAt W x1 (lazyPut (oneQ ns) t)) (h2 : BoolsAt W x2 (lazyTake (oneQ ns) t)) => apply_right r sb sq sc (oneQ ns) t x1 x2 d1 d2 (lazyPut (oneQ ns) t) (lazyTake (oneQ ns) t) W h ht (by simp [lazyPut]) (by simp [lazyTake]) h1 h2 (lazy_takeOk _ _))
  have HBB := hide hbb
  clear hbb
  generalize (apN (oneQ ns) t (lazyPut (oneQ ns) t) (lazyTake (oneQ ns) t) r) = A at HAP ⊢
  have HLZ := hide (fun (W : World) (sb sq sc : Nat) (h : NodesAt W sb sq (oneQ ns)) => lazy_right r sb sq sc (oneQ ns) t W h ht)
  have hl' : (splitN (trimN ns)).length ≤ 256 := hl
  have hch : chk r (oneQ ns) = 0 := split_chk (trim_chk hc) hl'
  have HSP := hide (fun (W : World) (tb tq tc : Nat) (h : NodesAt W tb tq (trimN ns)) => split_fitM r tb tq tc (trimN ns) W h (trim_chk hc) hl)
  rw [show splitN (trimN ns) = oneQ ns from rfl] at HSP
  have HTR := hide (fun W (h : Below w.heap.size w W) => trim_fit r b off cap ns W (hN.below h hN.lt) hc)
  have hbA : Below w.heap.size w (((w.alloc (.cells #[.int .i64 r, .slice (some ⟨b, off, none⟩) ns.length cap] 24)).alloc (.cells #[.int .i64 t.op, .int .i64 t.a, .int .i64 t.b] 26)).alloc (.cells #[.int .i64 0, .slice none 0 0] 24)) := ((((Below.refl _ w).alloc (Nat.le_refl _) _).alloc (by simp) _).alloc (by simp; omega) _)
  have p0 : (((w.alloc (.cells #[.int .i64 r, .slice (some ⟨b, off, none⟩) ns.length cap] 24)).alloc (.cells #[.int .i64 t.op, .int .i64 t.a, .int .i64 t.b] 26)).alloc (.cells #[.int .i64 0, .slice none 0 0] 24)).heap[w.heap.size]? = some (.cells #[.int .i64 r, .slice (some ⟨b, off, none⟩) ns.length cap] 24 (0, 0)) := by
    have := World.alloc_heap_new w (.cells #[.int .i64 r, .slice (some ⟨b, off, none⟩) ns.length cap] 24)
    exact ((Below.heap_alloc _ _ _ (by simp; try omega)).trans (((Below.heap_alloc _ _ _ (by simp; try omega)).trans (this))))
  have p1 : (((w.alloc (.cells #[.int .i64 r, .slice (some ⟨b, off, none⟩) ns.length cap] 24)).alloc (.cells #[.int .i64 t.op, .int .i64 t.a, .int .i64 t.b] 26)).alloc (.cells #[.int .i64 0, .slice none 0 0] 24)).heap[w.heap.size + 1]? = some (.cells #[.int .i64 t.op, .int .i64 t.a, .int .i64 t.b] 26 (0, 0)) := by
    have := World.alloc_heap_new (w.alloc (.cells #[.int .i64 r, .slice (some ⟨b, off, none⟩) ns.length cap] 24)) (.cells #[.int .i64 t.op, .int .i64 t.a, .int .i64 t.b] 26)
    simp only [World.size_alloc] at this
    exact ((Below.heap_alloc _ _ _ (by simp; try omega)).trans (this))
  have p2 : (((w.alloc (.cells #[.int .i64 r, .slice (some ⟨b, off, none⟩) ns.length cap] 24)).alloc (.cells #[.int .i64 t.op, .int .i64 t.a, .int .i64 t.b] 26)).alloc (.cells #[.int .i64 0, .slice none 0 0] 24)).heap[w.heap.size + 2]? = some (.cells #[.int .i64 0, .slice none 0 0] 24 (0, 0)) := by
    have := World.alloc_heap_new ((w.alloc (.cells #[.int .i64 r, .slice (some ⟨b, off, none⟩) ns.length cap] 24)).alloc (.cells #[.int .i64 t.op, .int .i64 t.a, .int .i64 t.b] 26)) (.cells #[.int .i64 0, .slice none 0 0] 24)
    simp only [World.size_alloc] at this
    exact this
  go_enter Tryz.func9, Tryz.ntmps9
  go_upto_region 1 with fail
  generalize (((w.alloc (.cells #[.int .i64 r, .slice (some ⟨b, off, none⟩) ns.length cap] 24)).alloc (.cells #[.int .i64 t.op, .int .i64 t.a, .int .i64 t.b] 26)).alloc (.cells #[.int .i64 0, .slice none 0 0] 24)) = W at hbA p0 p1 p2 ⊢
  try rw [show w.heap.size + 1 + 1 = w.heap.size + 2 from rfl]
  have q0 := blk_cell p0 0
  have q1 := blk_cell p0 1
  simp at q0 q1
  have pl := blk_lt p0
  have HB := hide hbA
  have HP := hide p0
  have HT := hide p1
  have HR := hide p2
  clear hbA p0 p1 p2
  go_wp2_with fail
  refine (HTR.out _ HB.out).mono ?_
  rintro e w1 ⟨tb, tq, tc, rfl, hN1, hb1⟩
  have hbF : Below w1.heap.size w1 (w1.alloc (.cells #[.int .i64 r, .slice (some ⟨tb, tq, none⟩) (trimN ns).length tc] 24)) := (Below.refl _ w1).alloc (Nat.le_refl _) _
  have hQ : (w1.alloc (.cells #[.int .i64 r, .slice (some ⟨tb, tq, none⟩) (trimN ns).length tc] 24)).heap[w1.heap.size]? = some (.cells #[.int .i64 r, .slice (some ⟨tb, tq, none⟩) (trimN ns).length tc] 24 (0, 0)) := World.alloc_heap_new w1 _
  have HBW := hide (hb1.trans (hbF.mono hb1.size))
  have HB2 := hide (HB.out.trans (HBW.out.mono HB.out.size))
  have HN2 := hide (hN1.below hbF hN1.lt)
  have HP2 := hide ((HBW.out.block _ (blk_lt HP.out)).trans HP.out)
  have HT2 := hide ((HBW.out.block _ (blk_lt HT.out)).trans HT.out)
  have HR2 := hide ((HBW.out.block _ (blk_lt HR.out)).trans HR.out)
  have hQs : w.heap.size + 2 < w1.heap.size := by have h1 := blk_lt HR.out; have h2 := hb1.size; omega
  clear hb1 q0 q1 pl HB HR HP HT HTR HBW hN1
  go_upto_region 4 with fail
  generalize (w1.alloc (.cells #[.int .i64 r, .slice (some ⟨tb, tq, none⟩) (trimN ns).length tc] 24)) = V at hbF hQ HB2 HN2 HP2 HT2 HR2 ⊢
  generalize w1.heap.size = QB at *
  clear hbF
  have q0 := blk_cell hQ 0
  have q1 := blk_cell hQ 1
  simp at q0 q1
  have ql := blk_lt hQ
  have HQ := hide hQ
  clear hQ
  go_wp2_with fail
  refine (HSP.out _ tb tq tc HN2.out).mono ?_
  rintro e w2 ⟨sb, sq, sc, rfl, hN3, hsb, hb2⟩
  have hsq : sb ≠ QB := by omega
  have hQ2 := (hb2.block _ ql).trans HQ.out
  clear q0 q1 ql
  have q0 := blk_cell hQ2 0
  have q1 := blk_cell hQ2 1
  simp at q0 q1
  have f0 := blk_frozen hQ2 0
  have f1 := blk_frozen hQ2 1
  have ql := blk_lt hQ2
  have hne : w.heap.size + 2 ≠ QB := by omega
  have hne1 : w.heap.size + 1 ≠ QB := by omega
  have hne0 : w.heap.size ≠ QB := by omega
  have HR1 : Hid (((w2.setCell ⟨QB, 0, none⟩ (.int .i64 r)).setCell ⟨QB, 1, none⟩ (.slice (some ⟨sb, sq, none⟩) (oneQ ns).length sc)).heap[w.heap.size + 2]? = some (.cells #[.int .i64 0, .slice none 0 0] 24 (0, 0))) := (cells_setP hne _ _).trans ((cells_setP hne _ _).trans ((hb2.block _ (blk_lt HR2.out)).trans HR2.out))
  have HT1 : Hid (((w2.setCell ⟨QB, 0, none⟩ (.int .i64 r)).setCell ⟨QB, 1, none⟩ (.slice (some ⟨sb, sq, none⟩) (oneQ ns).length sc)).heap[w.heap.size + 1]? = some (.cells #[.int .i64 t.op, .int .i64 t.a, .int .i64 t.b] 26 (0, 0))) := (cells_setP hne1 _ _).trans ((cells_setP hne1 _ _).trans ((hb2.block _ (blk_lt HT2.out)).trans HT2.out))
  have HP1 : Hid (((w2.setCell ⟨QB, 0, none⟩ (.int .i64 r)).setCell ⟨QB, 1, none⟩ (.slice (some ⟨sb, sq, none⟩) (oneQ ns).length sc)).heap[w.heap.size]? = some (.cells #[.int .i64 r, .slice (some ⟨b, off, none⟩) ns.length cap] 24 (0, 0))) := (cells_setP hne0 _ _).trans ((cells_setP hne0 _ _).trans ((hb2.block _ (blk_lt HP2.out)).trans HP2.out))
  have HQ1 : Hid (((w2.setCell ⟨QB, 0, none⟩ (.int .i64 r)).setCell ⟨QB, 1, none⟩ (.slice (some ⟨sb, sq, none⟩) (oneQ ns).length sc)).heap[QB]? = some (.cells #[.int .i64 r, .slice (some ⟨sb, sq, none⟩) (oneQ ns).length sc] 24 (0, 0))) := blk_set2 hQ2
  have HN1 : Hid (NodesAt ((w2.setCell ⟨QB, 0, none⟩ (.int .i64 r)).setCell ⟨QB, 1, none⟩ (.slice (some ⟨sb, sq, none⟩) (oneQ ns).length sc)) sb sq (oneQ ns)) := (hN3.setM hsq).setM hsq
  have HB1 := hide (below_set2 (v0 := .int .i64 r) (v1 := .slice (some ⟨sb, sq, none⟩) (oneQ ns).length sc) (HB2.out.trans (hb2.mono HB2.out.size)) (B := QB) (by omega))
  have hQU : QB < ((w2.setCell ⟨QB, 0, none⟩ (.int .i64 r)).setCell ⟨QB, 1, none⟩ (.slice (some ⟨sb, sq, none⟩) (oneQ ns).length sc)).heap.size := by simp; exact ql
  clear hb2 hQ2 HR2 HB2 HQ HN2 HP2 HT2 HSP hN3 hne hne1 hne0 hsb hsq
  go_upto_region 5 with fail
  clear q0 q1 f0 f1 ql
  generalize ((w2.setCell ⟨QB, 0, none⟩ (.int .i64 r)).setCell ⟨QB, 1, none⟩ (.slice (some ⟨sb, sq, none⟩) (oneQ ns).length sc)) = U at HR1 HT1 HP1 HQ1 HN1 HB1 hQU ⊢
  have hQ := HQ1.out
  have q0 := blk_cell hQ 0
  have q1 := blk_cell hQ 1
  simp at q0 q1
  have ql := blk_lt hQ
  have hT := HT1.out
  have t0 := blk_cell hT 0
  have t1 := blk_cell hT 1
  have t2 := blk_cell hT 2
  simp at t0 t1 t2
  have tl := blk_lt hT
  clear hQ hT
  go_upto_region 7 with fail
  go_wp2_with fail
  refine (HLZ.out _ sb sq sc HN1.out).mono ?_
  rintro e w3 ⟨x1, d1, x2, d2, rfl, hV1, hV2, hb3⟩
  have hbF : Below w3.heap.size w3 (w3.alloc (.cells #[.slice x1 (oneQ ns).length d1, .slice x2 (oneQ ns).length d2] 29)) := (Below.refl _ w3).alloc (Nat.le_refl _) _
  have hL : (w3.alloc (.cells #[.slice x1 (oneQ ns).length d1, .slice x2 (oneQ ns).length d2] 29)).heap[w3.heap.size]? = some (.cells #[.slice x1 (oneQ ns).length d1, .slice x2 (oneQ ns).length d2] 29 (0, 0)) := World.alloc_heap_new w3 _
  have HBW := hide (hb3.trans (hbF.mono hb3.size))
  have Y1 : Hid (BoolsAt (w3.alloc (.cells #[.slice x1 (oneQ ns).length d1, .slice x2 (oneQ ns).length d2] 29)) x1 (lazyPut (oneQ ns) t)) := (bools_owned hV1 (by simp [lazyPut])).below hbF
  have Y2 : Hid (BoolsAt (w3.alloc (.cells #[.slice x1 (oneQ ns).length d1, .slice x2 (oneQ ns).length d2] 29)) x2 (lazyTake (oneQ ns) t)) := (bools_owned hV2 (by simp [lazyTake])).below hbF
  have HR4 := hide ((HBW.out.block _ (blk_lt HR1.out)).trans HR1.out)
  have HP4 := hide ((HBW.out.block _ (blk_lt HP1.out)).trans HP1.out)
  have HT4 := hide ((HBW.out.block _ (blk_lt HT1.out)).trans HT1.out)
  have HQ4 := hide ((HBW.out.block _ (blk_lt HQ1.out)).trans HQ1.out)
  have HN4 := hide (HN1.out.below HBW.out HN1.out.lt)
  have HB4 := hide (HB1.out.trans (HBW.out.mono HB1.out.size))
  have hLB : QB < w3.heap.size := by have := hb3.size; omega
  clear q0 q1 t0 t1 t2 ql tl hV1 hV2 hb3 HR1 HB1 HQ1 HT1 HP1 HN1 HLZ HBW hQU
  go_upto_region 10 with fail
  generalize (w3.alloc (.cells #[.slice x1 (oneQ ns).length d1, .slice x2 (oneQ ns).length d2] 29)) = V3 at hbF hL Y1 Y2 HR4 HP4 HT4 HQ4 HN4 HB4 ⊢
  generalize w3.heap.size = LB at *
  clear hbF
  have l0 := blk_cell hL 0
  have l1 := blk_cell hL 1
  simp at l0 l1
  have ll := blk_lt hL
  have HL := hide hL
  clear hL
  have HC1 := hide (containsB_any x1 d1 (lazyPut (oneQ ns) t) V3 Y1.out (by simp [lazyPut]; omega))
  have HC2 := hide (containsB_any x2 d2 (lazyTake (oneQ ns) t) V3 Y2.out (by simp [lazyTake]; omega))
  rw [show (lazyPut (oneQ ns) t).length = (oneQ ns).length by simp [lazyPut]] at HC1
  rw [show (lazyTake (oneQ ns) t).length = (oneQ ns).length by simp [lazyTake]] at HC2
  cases hp : (lazyPut (oneQ ns) t).any id
  · have hq : (lazyTake (oneQ ns) t).any id = true := by have := HBB.out; rw [oneB, hp, Bool.false_or] at this; exact this
    rw [hp] at HC1
    rw [hq] at HC2
    clear hp hq
    go_wp2_with fail
    refine HC1.out.mono ?_
    rintro e w5 ⟨rfl, rfl⟩
    go_wp2_with fail
    refine HC2.out.mono ?_
    rintro e w6 ⟨rfl, rfl⟩
    go_upto_region 12 with fail
    have hQ := HQ4.out
    have q0 := blk_cell hQ 0
    have q1 := blk_cell hQ 1
    simp at q0 q1
    have ql := blk_lt hQ
    have hT := HT4.out
    have t0 := blk_cell hT 0
    have t1 := blk_cell hT 1
    have t2 := blk_cell hT 2
    simp at t0 t1 t2
    have tl := blk_lt hT
    clear hQ hT
    go_wp2_with fail
    refine (HAP.out _ sb sq sc x1 x2 d1 d2 HN4.out Y1.out Y2.out).mono ?_
    rintro e w7 ⟨hres, hb7⟩
    have hR := (hb7.block _ (blk_lt HR4.out)).trans HR4.out
    have y0 := blk_cell hR 0
    have y1 := blk_cell hR 1
    simp at y0 y1
    have z0 := blk_frozen hR 0
    have z1 := blk_frozen hR 1
    have ylt := blk_lt hR
    have HR7 := hide hR
    have HB7 := hide (HB4.out.trans (hb7.mono HB4.out.size))
    clear hR hb7 q0 q1 t0 t1 t2 ql tl l0 l1 ll
    rcases hres with ⟨hx, rfl⟩ | ⟨hx, gb, gc, rfl, hV⟩
    · have HX := hide hx
      clear hx
      go_wp2
      have hk := blk_set2 (v0 := .int .i64 0) (v1 := .slice none 0 0) HR7.out
      have k0 := blk_cell hk 0
      have k1 := blk_cell hk 1
      simp at k0 k1
      exact bodyPost_ret (v := .tuple #[.agg #[.int .i64 0, .slice none 0 0], .int .i64 2]) (by simp [results, Tryz.results9, go_sem, k0, k1]) rfl ⟨Or.inl ⟨HX.out, rfl⟩, below_set2 HB7.out (by omega)⟩
    · have HX := hide hx
      have HV := hide (ownsRow_base hV (base' := w.heap.size) HB4.out.size)
      clear hx hV
      go_wp2
      have hk := blk_set2 (v0 := .int .i64 (r + 1)) (v1 := .slice (some ⟨gb, 0, none⟩) A.length gc) HR7.out
      have k0 := blk_cell hk 0
      have k1 := blk_cell hk 1
      simp at k0 k1
      exact bodyPost_ret (v := .tuple #[.agg #[.int .i64 (r + 1), .slice (some ⟨gb, 0, none⟩) A.length gc], .int .i64 0]) (by simp [results, Tryz.results9, go_sem, k0, k1]) rfl ⟨Or.inr ⟨HX.out, gb, gc, rfl, owns_set (o := 1) (u := .slice (some ⟨gb, 0, none⟩) A.length gc) (owns_set (o := 0) (u := .int .i64 (r + 1)) HV.out HR7.out (by decide)) (blk_set (i := 0) (.int .i64 (r + 1)) HR7.out) (by decide)⟩, below_set2 HB7.out (by omega)⟩
  · rw [hp] at HC1
    clear hp
    go_wp2_with fail
    refine HC1.out.mono ?_
    rintro e w5 ⟨rfl, rfl⟩
    go_upto_region 12 with fail
    have hQ := HQ4.out
    have q0 := blk_cell hQ 0
    have q1 := blk_cell hQ 1
    simp at q0 q1
    have ql := blk_lt hQ
    have hT := HT4.out
    have t0 := blk_cell hT 0
    have t1 := blk_cell hT 1
    have t2 := blk_cell hT 2
    simp at t0 t1 t2
    have tl := blk_lt hT
    clear hQ hT
    go_wp2_with fail
    refine (HAP.out _ sb sq sc x1 x2 d1 d2 HN4.out Y1.out Y2.out).mono ?_
    rintro e w7 ⟨hres, hb7⟩
    have hR := (hb7.block _ (blk_lt HR4.out)).trans HR4.out
    have y0 := blk_cell hR 0
    have y1 := blk_cell hR 1
    simp at y0 y1
    have z0 := blk_frozen hR 0
    have z1 := blk_frozen hR 1
    have ylt := blk_lt hR
    have HR7 := hide hR
    have HB7 := hide (HB4.out.trans (hb7.mono HB4.out.size))
    clear hR hb7 q0 q1 t0 t1 t2 ql tl l0 l1 ll
    rcases hres with ⟨hx, rfl⟩ | ⟨hx, gb, gc, rfl, hV⟩
    · have HX := hide hx
      clear hx
      go_wp2
      have hk := blk_set2 (v0 := .int .i64 0) (v1 := .slice none 0 0) HR7.out
      have k0 := blk_cell hk 0
      have k1 := blk_cell hk 1
      simp at k0 k1
      exact bodyPost_ret (v := .tuple #[.agg #[.int .i64 0, .slice none 0 0], .int .i64 2]) (by simp [results, Tryz.results9, go_sem, k0, k1]) rfl ⟨Or.inl ⟨HX.out, rfl⟩, below_set2 HB7.out (by omega)⟩
    · have HX := hide hx
      have HV := hide (ownsRow_base hV (base' := w.heap.size) HB4.out.size)
      clear hx hV
      go_wp2
      have hk := blk_set2 (v0 := .int .i64 (r + 1)) (v1 := .slice (some ⟨gb, 0, none⟩) A.length gc) HR7.out
      have k0 := blk_cell hk 0
      have k1 := blk_cell hk 1
      simp at k0 k1
      exact bodyPost_ret (v := .tuple #[.agg #[.int .i64 (r + 1), .slice (some ⟨gb, 0, none⟩) A.length gc], .int .i64 0]) (by simp [results, Tryz.results9, go_sem, k0, k1]) rfl ⟨Or.inr ⟨HX.out, gb, gc, rfl, owns_set (o := 1) (u := .slice (some ⟨gb, 0, none⟩) A.length gc) (owns_set (o := 0) (u := .int .i64 (r + 1)) HV.out HR7.out (by decide)) (blk_set (i := 0) (.int .i64 (r + 1)) HR7.out) (by decide)⟩, below_set2 HB7.out (by omega)⟩

end Go.Proofs.YtoikglgnmjjpcabGreat

namespace Go.Proofs.YtoikglgnmjjpcabGreat

/-- No edge is left to split. -/
def Spl (ns : List Nd) : Prop := ∀ n m, m < ns.length → n ∈ ahl ns m → (nd ns n).op ≠ 0 → ∀ n', n' ∈ ahl ns m → n' = n

theorem skip_keeps {t : Tm} {x : Nd} (h : x.op = 0) : kpB t x = true := by
  unfold kpB
  rw [show wi x.op 1 9 = false by rw [h]; rfl]; rfl

theorem down_next {ns : List Nd} {t : Tm} {n : Nat} (hn : n < ns.length) (hd : bat (downL ns t) n = true) (hr : rcB t (nd ns n) = false) : kpB t (nd ns n) = true ∧ nxl ns n ≠ [] ∧ ∀ m ∈ nxl ns n, bat (downL ns t) m = true := by
  rw [down_fix hn, hr, Bool.false_or, Bool.and_eq_true] at hd
  exact ⟨hd.1, allOr_no.1 hd.2⟩

/-- Where it goes on from a node that is Down, and does not reckon: Down, not Earliest. -/
theorem down_on {r : Int} {ns : List Nd} (hc : chk r ns = 0) (hs : Spl ns) {t : Tm} {n m : Nat} (hn : n < ns.length) (hd : bat (downL ns t) n = true) (hr : rcB t (nd ns n) = false) (hm : m ∈ nxl ns n) : bat (downL ns t) m = true ∧ bat (earlyL ns t) m = false := by
  obtain ⟨hk, _, hall⟩ := down_next hn hd hr
  have hml := nxl_ltN hm
  have ha : n ∈ ahl ns m := mem_ahl.2 ⟨hn, (mem_nxl.1 hm).2⟩
  refine ⟨hall m hm, ?_⟩
  rw [early_eq hml, hall m hm, Bool.true_and, Bool.or_eq_false_iff]
  refine ⟨by cases q : ahl ns m with | nil => rw [q] at ha; cases ha | cons a l => rfl, ?_⟩
  rw [Bool.not_eq_false', List.all_eq_true]
  intro n' hn'
  have hl' := ahl_ltN hn'
  rw [bat_kpl hl', Bool.and_eq_true, Bool.or_eq_true]
  by_cases h0 : (nd ns n').op = 0
  · refine ⟨skip_keeps h0, Or.inl ?_⟩
    rw [down_fix hl', skip_keeps h0, Bool.true_and, Bool.or_eq_true]
    right
    rw [nxl_one hc hl' (by omega) (by omega), allOr_no]
    refine ⟨by simp, fun j hj => ?_⟩
    have hmn : m ∈ nxl ns n' := ahl_nxl hml hn'
    rw [nxl_one hc hl' (by omega) (by omega)] at hmn
    have e1 : m = (nd ns n').t.toNat := by simpa using hmn
    have e2 : j = (nd ns n').t.toNat := by simpa using hj
    rw [e2, ← e1]; exact hall m hm
  · have e := hs n' m hml hn' h0 n ha
    subst e
    exact ⟨hk, Or.inl hd⟩

/-- A node that is Delay, and does not reckon: all of those behind it are Delay, or none. -/
theorem delay_two {r : Int} {ns : List Nd} (hc : chk r ns = 0) (hs : Spl ns) {t : Tm} {n a b : Nat} (hn : n < ns.length) (hd : bat (delayL ns t) n = true) (hr : rcB t (nd ns n) = false) (ha : a ∈ nxl ns n) (hb : b ∈ nxl ns n) (h : bat (delayL ns t) a = false) : bat (delayL ns t) b = false := by
  by_cases e : b = a
  · rw [e]; exact h
  exfalso
  have h0 : (nd ns n).op ≠ 0 := fun h0 => by
    rw [nxl_one hc hn (by omega) (by omega)] at ha hb
    simp at ha hb
    exact e (by rw [ha, hb])
  have hal := nxl_ltN ha
  have hna : n ∈ ahl ns a := mem_ahl.2 ⟨hn, (mem_nxl.1 ha).2⟩
  have hne : ahl ns a ≠ [] := fun q => by rw [q] at hna; cases hna
  have hall : ∀ m ∈ ahl ns a, rcB t (nd ns m) = false ∧ bat (delayL ns t) m = true := fun m hm => by
    have e := hs n a hal hna h0 m hm
    rw [e]
    exact ⟨hr, hd⟩
  have := (delay_fix (t := t) hal).2 (Or.inr ⟨hne, hall⟩)
  rw [h] at this; cases this

/-- Nodes that are Delay, and can be come to, are Down. -/
theorem delay_down {r : Int} {ns : List Nd} (hc : chk r ns = 0) {t : Tm} {n : Nat} (h : Rch ns n) : n < ns.length → bat (delayL ns t) n = true → bat (downL ns t) n = true := by
  have early : ∀ {n}, n < ns.length → bat (earlyL ns t) n = true → bat (downL ns t) n = true := fun hn q => by
    rw [early_eq hn, Bool.and_eq_true] at q; exact q.1
  induction h with
  | zero =>
    intro hn hd
    rcases (delay_fix hn).1 hd with q | ⟨q, _⟩
    · exact early hn q
    · exact absurd (ahl_zero hc) q
  | @step a b hr hab ih =>
    intro hn hd
    rcases (delay_fix hn).1 hd with q | ⟨q1, q2⟩
    · exact early hn q
    · have hal := ahB_lt hab
      obtain ⟨p1, p2⟩ := q2 a (mem_ahl.2 ⟨hal, hab⟩)
      exact (down_next hal (ih hal p2) p1).2.2 b (mem_nxl.2 ⟨hn, hab⟩)

/-- Behind a node that is Down, not Delay, and does not reckon: not Delay. -/
theorem nodelay_on {r : Int} {ns : List Nd} (hc : chk r ns = 0) (hs : Spl ns) {t : Tm} {n m : Nat} (hn : n < ns.length) (hd : bat (downL ns t) n = true) (hr : rcB t (nd ns n) = false) (hl : bat (delayL ns t) n = false) (hm : m ∈ nxl ns n) : bat (delayL ns t) m = false := by
  cases q : bat (delayL ns t) m
  · rfl
  · exfalso
    rcases (delay_fix (nxl_ltN hm)).1 q with z | ⟨_, z⟩
    · rw [(down_on hc hs hn hd hr hm).2] at z; cases z
    · have := (z n (mem_ahl.2 ⟨hn, (mem_nxl.1 hm).2⟩)).2
      rw [hl] at this; cases this

theorem bat_lzp {ns : List Nd} {t : Tm} {n : Nat} (hn : n < ns.length) : bat (lazyPut ns t) n = (bat (lateL ns t) n && !bat (aloneL ns t) n) := by unfold lazyPut; rw [bat_map _ hn]
theorem bat_lzt {ns : List Nd} {t : Tm} {n : Nat} (hn : n < ns.length) : bat (lazyTake ns t) n = (rcB t (nd ns n) && !(bat (lateL ns t) n && bat (aloneL ns t) n)) := by unfold lazyTake; rw [bat_map _ hn, bat_rcl hn]

end Go.Proofs.YtoikglgnmjjpcabGreat

namespace Go.Proofs.YtoikglgnmjjpcabGreat

theorem spl_of {r : Int} {ns : List Nd} (hc : chk r ns = 0) (hl : (splitN ns).length ≤ 256) : Spl (splitN ns) := by
  intro n m hm hn h0 n' hn'
  have hcs := split_chk hc hl
  have hnl := ahl_ltN hn
  have hF := chk_at hcs hnl
  obtain ⟨_, h2⟩ := ahB_iff.1 (mem_ahl.1 hn).2
  have hx : ((m : Nat) : Int) ∈ exo (nd (splitN ns) n) := in_exo hF.op (h2.imp (fun q => ⟨q.1, q.2.symm⟩) (fun q => ⟨q.1, q.2.symm⟩))
  have := split_none hc hl hnl h0 hx
  rw [Int.toNat_natCast] at this
  cases e : ahl (splitN ns) m with
  | nil => rw [e] at hn; cases hn
  | cons a l =>
    cases l with
    | nil => rw [e] at hn hn'; simp at hn hn'; rw [hn, hn']
    | cons b l => rw [e] at this; simp at this

end Go.Proofs.YtoikglgnmjjpcabGreat

namespace Go.Proofs.YtoikglgnmjjpcabGreat

/-- Somebody leads to each new node. -/
def Led (ns out : List Nd) : Prop := ∀ i : Nat, ns.length ≤ i → i < out.length → ∃ n, n < ns.length ∧ ((nd ns n).op ≠ 12 ∧ (nd out n).t = i ∨ (nd ns n).op = 11 ∧ (nd out n).e = i)

theorem led_one {r : Int} {ns out : List Nd} {P : Nat → Int → Prop} (hc : chk r ns = 0) (h : SI ns out P) (hL : Led ns out) {n : Nat} {m : Int} (hn : n < ns.length) (hp : ¬ P n m) (hx : m ∈ exo (nd ns n)) : Led ns (spl1 ns n out m) := by
  unfold spl1
  split
  · have hlen := h.len
    have hb := exo_bounds (chk_at hc hn) hx
    have hno : n < out.length := by omega
    have at0 : ∀ j, j < out.length → nd (out.set n (trn (nd out n) m out.length) ++ [⟨0, 0, 0, 0, m, 0⟩]) j = if j = n then trn (nd out n) m out.length else nd out j := fun j hj => by
      rw [nd_app_left (by simpa using hj), nd_set _ hno]
    intro i h1 h2
    have h2' : i < out.length + 1 := by simpa using h2
    by_cases e : i = out.length
    · refine ⟨n, hn, ?_⟩
      rw [at0 n hno, if_pos rfl]
      rcases exo_mem hx with ⟨q, z⟩ | ⟨q, z⟩
      · left
        have : (nd out n).t = m := by rw [h.t0 n hn (Or.inl (by rw [← z]; exact hp)), z]
        exact ⟨q, by simp only [trn]; rw [if_pos this, e]⟩
      · right
        have : (nd out n).e = m := by rw [h.e0 n hn (Or.inl (by rw [← z]; exact hp)), z]
        exact ⟨q, by simp only [trn]; rw [if_pos this, e]⟩
    · obtain ⟨n', a, b⟩ := hL i h1 (by omega)
      refine ⟨n', a, ?_⟩
      rw [at0 n' (by omega)]
      by_cases e2 : n' = n
      · rw [if_pos e2]
        rw [e2] at b ⊢
        rcases b with ⟨q, z⟩ | ⟨q, z⟩
        · left; exact ⟨q, by simp only [trn]; rw [if_neg (by omega), z]⟩
        · right; exact ⟨q, by simp only [trn]; rw [if_neg (by omega), z]⟩
      · rw [if_neg e2]; exact b
  · exact hL

theorem split_led {r : Int} {ns : List Nd} (hc : chk r ns = 0) : ∀ k, k ≤ ns.length → Led ns (splTo ns k)
  | 0, _ => fun i h1 h2 => by
    have e : splTo ns 0 = ns := rfl
    rw [e] at h2; omega
  | k + 1, hk => by
    have ih := split_SI hc k (by omega)
    have iL := split_led hc k (by omega)
    rw [splTo_succ]
    unfold spl2
    have hpk : ∀ m, ¬ PTo ns k k m := fun m h => by have := h.1; omega
    split
    · exact iL
    · have hx : ∀ m, m ∈ exo (nd ns k) → 1 ≤ m ∧ m < ns.length := fun m hm => exo_bounds (chk_at hc (by omega)) hm
      have hcase : exo (nd ns k) = [] ∨ (∃ a, exo (nd ns k) = [a]) ∨ ∃ a b, exo (nd ns k) = [a, b] ∧ a ≠ b := by
        unfold exo
        split
        · split
          · exact Or.inr (Or.inl ⟨_, rfl⟩)
          · rename_i q; exact Or.inr (Or.inr ⟨_, _, rfl, fun e => q e.symm⟩)
        · split
          · exact Or.inr (Or.inl ⟨_, rfl⟩)
          · exact Or.inl rfl
      rcases hcase with e | ⟨a, e⟩ | ⟨a, b, e, hab⟩
      · rw [e]; exact iL
      · rw [e]
        exact led_one hc ih iL (by omega) (hpk a) (by rw [e]; simp)
      · rw [e]
        have l1 := led_one hc ih iL (n := k) (m := a) (by omega) (hpk a) (by rw [e]; simp)
        have h1 := ih.one hc (n := k) (m := a) (by omega) (hpk a) (hx a (by rw [e]; simp))
        refine led_one hc h1 l1 (by omega) ?_ (by rw [e]; simp)
        rintro (h | ⟨_, h⟩)
        · exact hpk b h
        · exact hab h.symm

/-- Split, all nodes can be come to, if they could. -/
theorem split_all {r : Int} {ns : List Nd} (hc : chk r ns = 0) (hall : ∀ n, n < ns.length → Rch ns n) : ∀ n, n < (splitN ns).length → Rch (splitN ns) n := by
  have H := split_SI hc ns.length (Nat.le_refl _)
  change SI ns (splitN ns) _ at H
  have hlen := H.len
  have old : ∀ n, Rch ns n → Rch (splitN ns) n := by
    intro n h
    induction h with
    | zero => exact Rch.zero
    | @step a b _ hab ih =>
      obtain ⟨hal, h2⟩ := ahB_iff.1 hab
      have o1 := (H.same a hal).1
      rcases h2 with ⟨q, z⟩ | ⟨q, z⟩
      · by_cases hP : PTo ns ns.length a (nd ns a).t ∧ many ns (nd ns a).t
        · obtain ⟨i, i1, i2, i3, i4⟩ := H.t1 a hal hP.1 hP.2
          refine Rch.step (Rch.step ih (ahB_iff.2 ⟨by omega, Or.inl ⟨by rw [o1]; exact q, i3⟩⟩)) (ahB_iff.2 ⟨i2, Or.inl ⟨by rw [i4]; simp [skp], by rw [i4]; exact z⟩⟩)
        · have e0 := H.t0 a hal (by by_cases a' : PTo ns ns.length a (nd ns a).t
                                    · right; exact fun b => hP ⟨a', b⟩
                                    · left; exact a')
          exact Rch.step ih (ahB_iff.2 ⟨by omega, Or.inl ⟨by rw [o1]; exact q, by rw [e0]; exact z⟩⟩)
      · by_cases hP : PTo ns ns.length a (nd ns a).e ∧ many ns (nd ns a).e
        · obtain ⟨i, i1, i2, i3, i4⟩ := H.e1 a hal hP.1 hP.2
          refine Rch.step (Rch.step ih (ahB_iff.2 ⟨by omega, Or.inr ⟨by rw [o1]; exact q, i3⟩⟩)) (ahB_iff.2 ⟨i2, Or.inl ⟨by rw [i4]; simp [skp], by rw [i4]; exact z⟩⟩)
        · have e0 := H.e0 a hal (by by_cases a' : PTo ns ns.length a (nd ns a).e
                                    · right; exact fun b => hP ⟨a', b⟩
                                    · left; exact a')
          exact Rch.step ih (ahB_iff.2 ⟨by omega, Or.inr ⟨by rw [o1]; exact q, by rw [e0]; exact z⟩⟩)
  intro n hn
  by_cases h1 : n < ns.length
  · exact old n (hall n h1)
  · obtain ⟨a, a1, a2⟩ := split_led hc ns.length (Nat.le_refl _) n (by omega) hn
    change (nd ns a).op ≠ 12 ∧ (nd (splitN ns) a).t = n ∨ (nd ns a).op = 11 ∧ (nd (splitN ns) a).e = n at a2
    have o1 := (H.same a a1).1
    refine Rch.step (old a (hall a a1)) (ahB_iff.2 ⟨by omega, ?_⟩)
    rw [o1]; exact a2

/-- Nothing to trim. -/
theorem trim_fix {r : Int} {ms : List Nd} (hc1 : chk r ms = 0) (h : ∀ n, n < ms.length → Rch ms n) : trimN ms = ms := by
  have hall : rchL ms = List.replicate ms.length true := by
    refine bat_ext (by rw [rchL_len]; simp) fun m hm => ?_
    rw [rchL_len] at hm
    rw [bat_yes hm, rch_bat hm]
    exact h m hm
  have h0 := (chk_full hc1).1.1
  unfold trimN
  rw [hall, keptI_rep _ (Nat.le_refl _)]
  apply List.ext_getElem?
  intro n
  by_cases hn : n < ms.length
  · have hF := chk_at hc1 hn
    rw [List.getElem?_map, List.getElem?_range hn, Option.map_some, get_nd hn]
    congr 1
    obtain ⟨op, d, a, b, t, e, hx⟩ : ∃ op d a b t e, nd ms n = ⟨op, d, a, b, t, e⟩ := ⟨_, _, _, _, _, _, rfl⟩
    rw [hx] at hF ⊢
    have e1 : (anewAt (List.replicate ms.length true) t.toNat : Int) = t := by
      by_cases h12 : op = 12
      · have := hF.t0 h12; simp only at this; subst this; simp [anew_zero]
      · have := hF.t h12; simp only at this; rw [anew_rep (by omega)]; omega
    have e2 : (anewAt (List.replicate ms.length true) e.toNat : Int) = e := by
      by_cases h12 : op = 11
      · have := hF.e h12; simp only at this; rw [anew_rep (by omega)]; omega
      · have := hF.e0 h12; simp only at this; subst this; simp [anew_zero]
    simp [ren, e1, e2]
  · rw [List.getElem?_eq_none (by simp; omega), List.getElem?_eq_none (by omega)]

theorem ahl_nodup (ns : List Nd) (m : Nat) : (ahl ns m).Nodup := List.Nodup.sublist List.filter_sublist List.nodup_range

/-- Nothing to split. -/
theorem split_fix {r : Int} {ns : List Nd} (hc : chk r ns = 0) (hs : Spl ns) : splitN ns = ns := by
  have : ∀ k, k ≤ ns.length → splTo ns k = ns := by
    intro k
    induction k with
    | zero => intro _; rfl
    | succ k ih =>
      intro hk
      rw [splTo_succ, ih (by omega)]
      refine spl2_none fun h0 m hm hlt => ?_
      have hb := exo_bounds (chk_at hc (show k < ns.length by omega)) hm
      have hk' : k ∈ ahl ns m.toNat := mem_ahl.2 ⟨by omega, ahB_iff.2 ⟨by omega, by
        rcases exo_mem hm with ⟨q, z⟩ | ⟨q, z⟩
        · exact Or.inl ⟨q, by omega⟩
        · exact Or.inr ⟨q, by omega⟩⟩⟩
      have hu := hs k m.toNat (by omega) hk' h0
      have hnd := ahl_nodup ns m.toNat
      match h : ahl ns m.toNat, hlt with
      | [], hlt => simp at hlt
      | [c], hlt => simp at hlt
      | c :: d :: l, _ =>
        rw [h] at hnd hu
        have e1 := hu c (by simp)
        have e2 := hu d (by simp)
        rw [List.nodup_cons] at hnd
        exact hnd.1 (by rw [e1, e2]; simp)
  exact this _ (Nat.le_refl _)

/-- The node that stands for n, where it has been put ahead of it. -/
def xo (ns : List Nd) (put : List Bool) (n : Nat) : Nat := if bat put n = true then ns.length + (keptI put n).length else n
/-- Is it a node that was put? -/
def isP (ns : List Nd) (put : List Bool) (i : Nat) : Bool := decide (i < ns.length) && bat put i

theorem xo_mv {r : Nat} {ns : List Nd} {t : Tm} {put tak : List Bool} {i : Nat} (hi : i < (apN ns t put tak r).length) (hp : isP ns put i = false) : xo ns put (mvF ns put i) = i ∧ mvF ns put i < ns.length := by
  have hlen := apTo_len ns t put tak (r : Int) ns.length
  change (apN ns t put tak r).length = _ at hlen
  by_cases h1 : i < ns.length
  · have : bat put i = false := by simpa [isP, h1] using hp
    rw [mvF_lt h1, xo, if_neg (by rw [this]; simp)]
    exact ⟨rfl, h1⟩
  · obtain ⟨j, rfl⟩ : ∃ j, i = ns.length + j := ⟨i - ns.length, by omega⟩
    have hj : j < (keptI put ns.length).length := by omega
    have hg : (keptI put ns.length)[j]? = some (keptI put ns.length)[j] := List.getElem?_eq_getElem hj
    have e : mvF ns put (ns.length + j) = (keptI put ns.length)[j] := by
      rw [mvF, if_neg h1, show ns.length + j - ns.length = j by omega, List.getD_eq_getElem?_getD, hg]; rfl
    have hmem := keptI_mem.1 (List.mem_of_getElem? hg)
    rw [e, xo, if_pos hmem.2]
    refine ⟨?_, hmem.1⟩
    have hnd : (keptI put ns.length).Nodup := List.Nodup.sublist List.filter_sublist List.nodup_range
    have h2 := keptI_get hmem.2 hmem.1
    have := (List.getElem?_inj (j := (keptI put (keptI put ns.length)[j]).length) hj hnd).1 (hg.trans h2.symm)
    omega

theorem mv_xo {r : Nat} {ns : List Nd} {t : Tm} {put tak : List Bool} {n : Nat} (hn : n < ns.length) : mvF ns put (xo ns put n) = n ∧ xo ns put n < (apN ns t put tak r).length ∧ isP ns put (xo ns put n) = false := by
  have hlen := apTo_len ns t put tak (r : Int) ns.length
  change (apN ns t put tak r).length = _ at hlen
  unfold xo
  cases hp : bat put n
  · simp only [Bool.false_eq_true, if_false]
    exact ⟨mvF_lt hn, by omega, by simp [isP, hp]⟩
  · simp only [if_true]
    have hk := keptI_lt hp hn
    refine ⟨?_, by omega, by simp [isP]; omega⟩
    rw [mvF, if_neg (by omega), show ns.length + (keptI put n).length - ns.length = (keptI put n).length by omega, List.getD_eq_getElem?_getD, keptI_get hp hn]; rfl

section moved
variable {r : Nat} {ns : List Nd} {t : Tm} {put tak : List Bool}

theorem q_len : (apN ns t put tak r).length = ns.length + (keptI put ns.length).length := apTo_len ..

/-- Where a node of the moved program goes on. -/
theorem q_next (_hc : chk r ns = 0) (hT : TakeOk ns t tak) (ht : TmOk r t) {i : Nat} (hi : i < (apN ns t put tak r).length) (hp : isP ns put i = false) (j : Nat) : ahB (apN ns t put tak r) j i = true ↔ ahB ns j (mvF ns put i) = true := by
  obtain ⟨hnd, _⟩ := nd_ap hi hp
  have hm := (xo_mv hi hp).2
  have hop := ht.op
  rw [ahB_iff, ahB_iff, hnd]
  unfold tkN
  cases htk : bat tak (mvF ns put i)
  · simp only [Bool.false_eq_true, if_false, hi, hm, true_and]
  · have hr := rcB_iff.1 (hT _ hm htk)
    simp only [if_true, hi, hm, true_and]
    constructor
    · rintro (⟨_, z⟩ | ⟨q, _⟩)
      · exact Or.inl ⟨by omega, z⟩
      · omega
    · rintro (⟨_, z⟩ | ⟨q, _⟩)
      · exact Or.inl ⟨by omega, z⟩
      · omega

theorem q_put (ht : TmOk r t) {i : Nat} (hi : i < ns.length) (hp : bat put i = true) (j : Nat) : ahB (apN ns t put tak r) j i = true ↔ j = xo ns put i := by
  have hop := ht.op
  have hnd : nd (apN ns t put tak r) i = ptN t r (ns.length + (keptI put i).length) := by
    unfold apN
    rw [nd_apTo hi, if_pos ⟨hi, hp⟩]
  have hl : i < (apN ns t put tak r).length := by rw [q_len]; omega
  rw [ahB_iff, hnd, xo, if_pos hp]
  simp only [hl, true_and, ptN]
  constructor
  · rintro (⟨_, z⟩ | ⟨q, _⟩)
    · omega
    · omega
  · intro z
    exact Or.inl ⟨by omega, by omega⟩

theorem q_rc (ht : TmOk r t) {i : Nat} (hi : i < (apN ns t put tak r).length) : rcB t (nd (apN ns t put tak r) i) = (isP ns put i || (rcB t (nd ns (mvF ns put i)) && !bat tak (mvF ns put i))) := by
  have hop := ht.op
  cases hp : isP ns put i
  · rw [(nd_ap hi hp).1]
    unfold tkN
    cases htk : bat tak (mvF ns put i)
    · simp
    · simp only [if_true, Bool.not_true, Bool.and_false, Bool.or_false]
      cases q : rcB t ⟨2, (nd ns (mvF ns put i)).d, (r : Int), 0, (nd ns (mvF ns put i)).t, 0⟩
      · rfl
      · have := (rcB_iff.1 q).1; simp at this; omega
  · have hp' : i < ns.length ∧ bat put i = true := by simpa [isP] using hp
    have hnd : nd (apN ns t put tak r) i = ptN t r (ns.length + (keptI put i).length) := by
      unfold apN
      rw [nd_apTo hp'.1, if_pos hp']
    rw [hnd, Bool.true_or]
    exact rcB_iff.2 ⟨rfl, rfl, rfl⟩

theorem q_kp (hT : TakeOk ns t tak) (ht : TmOk r t) {i : Nat} (hi : i < (apN ns t put tak r).length) : kpB t (nd (apN ns t put tak r) i) = (isP ns put i || kpB t (nd ns (mvF ns put i))) := by
  have hop := ht.op
  have ha := ht.a
  have hb := ht.b
  cases hp : isP ns put i
  · rw [(nd_ap hi hp).1]
    have hm := (xo_mv hi hp).2
    unfold tkN
    cases htk : bat tak (mvF ns put i)
    · simp
    · simp only [if_true, Bool.false_or]
      have hr := rcB_iff.1 (hT _ hm htk)
      unfold kpB
      rw [show wi (nd ns (mvF ns put i)).op 1 9 = true from wi_iff.2 (by omega)]
      rfl
  · have hp' : i < ns.length ∧ bat put i = true := by simpa [isP] using hp
    have hnd : nd (apN ns t put tak r) i = ptN t r (ns.length + (keptI put i).length) := by
      unfold apN
      rw [nd_apTo hp'.1, if_pos hp']
    rw [hnd, Bool.true_or]
    unfold kpB ptN
    simp only [Bool.or_eq_true, Bool.and_eq_true, bne_iff_ne]
    right
    exact ⟨by omega, by omega⟩

/-- Who leads to an old node. -/
theorem q_ahl (hc : chk r ns = 0) (hT : TakeOk ns t tak) (ht : TmOk r t) {j : Nat} (hj : j < ns.length) {i : Nat} : i ∈ ahl (apN ns t put tak r) j ↔ i < (apN ns t put tak r).length ∧ isP ns put i = false ∧ mvF ns put i ∈ ahl ns j := by
  rw [mem_ahl, mem_ahl]
  constructor
  · rintro ⟨h1, h2⟩
    cases hp : isP ns put i
    · exact ⟨h1, rfl, (xo_mv h1 hp).2, (q_next hc hT ht h1 hp j).1 h2⟩
    · have hp' : i < ns.length ∧ bat put i = true := by simpa [isP] using hp
      have := (q_put ht hp'.1 hp'.2 j).1 h2
      rw [xo, if_pos hp'.2] at this
      omega
  · rintro ⟨h1, h2, _, h4⟩
    exact ⟨h1, (q_next hc hT ht h1 h2 j).2 h4⟩

theorem q_ahl' (hc : chk r ns = 0) (hT : TakeOk ns t tak) (ht : TmOk r t) {j : Nat} (hj : j < ns.length) {m : Nat} (hm : m ∈ ahl ns j) : xo ns put m ∈ ahl (apN ns t put tak r) j := by
  obtain ⟨a, b, c⟩ := mv_xo (r := r) (t := t) (put := put) (tak := tak) (ahl_ltN hm)
  exact (q_ahl hc hT ht hj).2 ⟨b, c, by rw [a]; exact hm⟩

theorem q_rch (hc : chk r ns = 0) (hT : TakeOk ns t tak) (ht : TmOk r t) (hall : ∀ n, n < ns.length → Rch ns n) : ∀ i, i < (apN ns t put tak r).length → Rch (apN ns t put tak r) i := by
  have two : ∀ n, n < ns.length → Rch (apN ns t put tak r) n → Rch (apN ns t put tak r) (xo ns put n) := by
    intro n hn h
    cases hp : bat put n
    · rw [xo, if_neg (by rw [hp]; simp)]; exact h
    · exact Rch.step h ((q_put ht hn hp _).2 rfl)
  have old : ∀ n, Rch ns n → n < ns.length → Rch (apN ns t put tak r) n := by
    intro n h
    induction h with
    | zero => intro _; exact Rch.zero
    | @step a b _ hab ih =>
      intro _
      have hal := ahB_lt hab
      obtain ⟨e1, e2, e3⟩ := mv_xo (r := r) (t := t) (put := put) (tak := tak) hal
      refine Rch.step (two a hal (ih hal)) ((q_next hc hT ht e2 e3 b).2 ?_)
      rw [e1]; exact hab
  intro i hi
  cases hp : isP ns put i
  · obtain ⟨a, b⟩ := xo_mv hi hp
    rw [← a]
    exact two _ b (old _ (hall _ b) b)
  · have hp' : i < ns.length ∧ bat put i = true := by simpa [isP] using hp
    exact old i (hall i hp'.1) hp'.1

theorem q_spl (hc : chk r ns = 0) (hs : Spl ns) (hT : TakeOk ns t tak) (ht : TmOk r t) : Spl (apN ns t put tak r) := by
  intro n m hm hn h0 n' hn'
  by_cases h1 : m < ns.length
  · obtain ⟨a1, a2, a3⟩ := (q_ahl hc hT ht h1).1 hn
    obtain ⟨b1, b2, b3⟩ := (q_ahl hc hT ht h1).1 hn'
    have hop : (nd ns (mvF ns put n)).op ≠ 0 := by
      rw [(nd_ap a1 a2).1] at h0
      unfold tkN at h0
      have hq := ht.op
      split at h0
      · rename_i z
        have := (rcB_iff.1 (hT _ (xo_mv a1 a2).2 z)).1
        omega
      · exact h0
    have e := hs _ m h1 a3 hop _ b3
    rw [← (xo_mv a1 a2).1, ← (xo_mv b1 b2).1, e]
  · -- a new one
    have one : ∀ i, i ∈ ahl (apN ns t put tak r) m → isP ns put i = true ∧ xo ns put i = m := by
      intro i hi
      obtain ⟨i1, i2⟩ := mem_ahl.1 hi
      cases hp : isP ns put i
      · have := (q_next hc hT ht i1 hp m).1 i2
        have hF := chk_at hc (ahB_lt this)
        obtain ⟨_, z⟩ := ahB_iff.1 this
        rcases z with ⟨q, z⟩ | ⟨q, z⟩
        · have := hF.t q; omega
        · have := hF.e q; omega
      · have hp' : i < ns.length ∧ bat put i = true := by simpa [isP] using hp
        exact ⟨rfl, ((q_put ht hp'.1 hp'.2 m).1 i2).symm⟩
    obtain ⟨a1, a2⟩ := one n hn
    obtain ⟨b1, b2⟩ := one n' hn'
    have ha : n < ns.length ∧ bat put n = true := by simpa [isP] using a1
    have hb : n' < ns.length ∧ bat put n' = true := by simpa [isP] using b1
    rw [← (mv_xo (r := r) (t := t) (put := put) (tak := tak) ha.1).1, ← (mv_xo (r := r) (t := t) (put := put) (tak := tak) hb.1).1, a2, b2]

end moved

section once
variable {r : Nat} {ns : List Nd} {t : Tm}

/-- The program that Lazy's places make. -/
def lzN (r : Nat) (ns : List Nd) (t : Tm) : List Nd := apN ns t (lazyPut ns t) (lazyTake ns t) r

theorem lz_put (hc : chk r ns = 0) (hall : ∀ n, n < ns.length → Rch ns n) {n : Nat} (hn : n < ns.length) (h : bat (lazyPut ns t) n = true) : bat (lateL ns t) n = true ∧ bat (delayL ns t) n = true ∧ bat (downL ns t) n = true := by
  rw [bat_lzp hn, Bool.and_eq_true] at h
  have hd := late_delay hn h.1
  exact ⟨h.1, hd, delay_down hc (hall n hn) hn hd⟩

/-- Where it is Delay, it is Down once more. -/
theorem once_down (hc : chk r ns = 0) (hs : Spl ns) (ht : TmOk r t) {n : Nat} (hn : n < ns.length) (hd : bat (delayL ns t) n = true) (hdn : bat (downL ns t) n = true) : bat (downL (lzN r ns t) t) n = true := by
  have hT := lazy_takeOk ns t
  have hlen : (lzN r ns t).length = _ := q_len
  refine solve_top (lzN r ns t) (downW (lzN r ns t) t) (fun i => decide (i < ns.length) && (bat (downL ns t) i && (bat (delayL ns t) i || (!rcB t (nd ns i) && bat (aloneL ns t) i)))) (fun i hi => by simp; omega) (fun i hi hy => ?_) (n := n) (by simp [hn, hd, hdn])
  have hy' : i < ns.length ∧ bat (downL ns t) i = true ∧ (bat (delayL ns t) i = true ∨ rcB t (nd ns i) = false ∧ bat (aloneL ns t) i = true) := by simpa using hy
  obtain ⟨hil, hid, hor⟩ := hy'
  have hmv : mvF ns (lazyPut ns t) i = i := mvF_lt hil
  rw [downW, say_back, bat_rcl hi, bat_kpl hi]
  cases hp : bat (lazyPut ns t) i
  · have hP : isP ns (lazyPut ns t) i = false := by simp [isP, hp]
    have erc := q_rc (put := lazyPut ns t) (tak := lazyTake ns t) ht hi
    rw [hmv, hP, Bool.false_or] at erc
    have ekp := q_kp (put := lazyPut ns t) hT ht hi
    rw [hmv, hP, Bool.false_or] at ekp
    change rcB t (nd (lzN r ns t) i) = _ at erc
    change kpB t (nd (lzN r ns t) i) = _ at ekp
    rw [erc, ekp]
    rw [bat_lzp hil] at hp
    cases hr : rcB t (nd ns i)
    · obtain ⟨hk, hne, hall'⟩ := down_next hil hid hr
      rw [hk, Bool.false_and, Bool.false_or, Bool.true_and, allOr_no]
      have nx : ∀ j, j ∈ nxl (lzN r ns t) i ↔ j ∈ nxl ns i := fun j => by
        rw [mem_nxl, mem_nxl]
        have := q_next (put := lazyPut ns t) hc hT ht hi hP j
        rw [hmv] at this
        change ahB (lzN r ns t) j i = true ↔ _ at this
        rw [this]
        constructor
        · rintro ⟨_, z⟩
          refine ⟨?_, z⟩
          have hF := chk_at hc hil
          obtain ⟨_, z'⟩ := ahB_iff.1 z
          rcases z' with ⟨q, z'⟩ | ⟨q, z'⟩
          · have := hF.t q; omega
          · have := hF.e q; omega
        · rintro ⟨a, z⟩; exact ⟨by omega, z⟩
      refine ⟨fun q => hne ?_, fun j hj => ?_⟩
      · cases e : nxl ns i with
        | nil => rfl
        | cons a l =>
          have : a ∈ nxl (lzN r ns t) i := (nx a).2 (by rw [e]; simp)
          rw [q] at this; cases this
      · have hj' := (nx j).1 hj
        have hjl := nxl_ltN hj'
        rw [bat_noN, bat_yesN (nxl_ltN hj), Bool.false_or, Bool.true_and]
        have hjd := hall' j hj'
        suffices h : bat (delayL ns t) j = true ∨ rcB t (nd ns j) = false ∧ bat (aloneL ns t) j = true by simp [hjl, hjd, h]
        by_cases hdl : bat (delayL ns t) i = true
        · by_cases hdj : bat (delayL ns t) j = true
          · exact Or.inl hdj
          · right
            have hdj' : bat (delayL ns t) j = false := by simpa using hdj
            have hl : bat (lateL ns t) i = true := by
              rw [late_eq hil, hdl, Bool.true_and, Bool.or_eq_true]
              right
              cases z : (nxl ns i).all fun m => bat (delayL ns t) m
              · rfl
              · exact absurd (List.all_eq_true.1 z j hj') hdj
            rw [hl, Bool.true_and, Bool.not_eq_false'] at hp
            rcases (alone_fix hil).1 hp j hj' with z | z
            · rw [late_delay hjl z] at hdj'; cases hdj'
            · exact z
        · have hdl' : bat (delayL ns t) i = false := by simpa using hdl
          rw [hdl'] at hor
          have hal : bat (aloneL ns t) i = true := by simpa [hr] using hor
          have hnj := nodelay_on hc hs hil hid hr hdl' hj'
          rcases (alone_fix hil).1 hal j hj' with z | z
          · rw [late_delay hjl z] at hnj; cases hnj
          · exact Or.inr z
    · have hdl : bat (delayL ns t) i = true := by
        rcases hor with z | ⟨z, _⟩
        · exact z
        · rw [hr] at z; cases z
      have hl : bat (lateL ns t) i = true := by rw [late_eq hil, hdl, bat_rcl hil, hr]; rfl
      rw [hl, Bool.true_and, Bool.not_eq_false'] at hp
      rw [bat_lzt hil, hl, hp, hr]; rfl
  · have hP : isP ns (lazyPut ns t) i = true := by simp [isP, hp, hil]
    have erc := q_rc (put := lazyPut ns t) (tak := lazyTake ns t) ht hi
    rw [hP] at erc
    change rcB t (nd (lzN r ns t) i) = _ at erc
    rw [erc]; rfl

/-- Where it is Down once more, it was. -/
theorem down_once (hc : chk r ns = 0) (hall : ∀ n, n < ns.length → Rch ns n) (ht : TmOk r t) {n : Nat} (hn : n < ns.length) (hd : bat (downL (lzN r ns t) t) n = true) : bat (downL ns t) n = true := by
  have hT := lazy_takeOk ns t
  have hlen : (lzN r ns t).length = _ := q_len
  refine solve_top ns (downW ns t) (fun i => decide (i < ns.length) && (bat (downL ns t) i || bat (downL (lzN r ns t) t) i)) (fun i hi => by simp; omega) (fun i hi hy => ?_) (n := n) (by simp [hn, hd])
  have hy' : bat (downL ns t) i = true ∨ bat (downL (lzN r ns t) t) i = true := by simpa [hi] using hy
  rw [downW, say_back, bat_rcl hi, bat_kpl hi, Bool.or_eq_true, Bool.and_eq_true]
  have was : bat (downL ns t) i = true → rcB t (nd ns i) = true ∨ kpB t (nd ns i) = true ∧ allOr false (nxl ns i) (fun m => bat (nol ns.length) m || (bat (yesl ns.length) m && (decide (m < ns.length) && (bat (downL ns t) m || bat (downL (lzN r ns t) t) m)))) = true := by
    intro q
    cases hr : rcB t (nd ns i)
    · obtain ⟨a, b, c⟩ := down_next hi q hr
      refine Or.inr ⟨a, allOr_no.2 ⟨b, fun m hm => ?_⟩⟩
      rw [bat_yesN (nxl_ltN hm), c m hm]
      simp [nxl_ltN hm]
    · exact Or.inl rfl
  rcases hy' with q | q
  · exact was q
  · cases hp : bat (lazyPut ns t) i
    · have hP : isP ns (lazyPut ns t) i = false := by simp [isP, hp]
      have hi' : i < (lzN r ns t).length := by omega
      have hmv : mvF ns (lazyPut ns t) i = i := mvF_lt hi
      have erc := q_rc (put := lazyPut ns t) (tak := lazyTake ns t) ht hi'
      rw [hmv, hP, Bool.false_or] at erc
      have ekp := q_kp (put := lazyPut ns t) hT ht hi'
      rw [hmv, hP, Bool.false_or] at ekp
      change rcB t (nd (lzN r ns t) i) = _ at erc
      change kpB t (nd (lzN r ns t) i) = _ at ekp
      cases hr : rcB t (nd ns i)
      · rw [hr, Bool.false_and] at erc
        obtain ⟨a, b, c⟩ := down_next hi' q erc
        rw [ekp] at a
        refine Or.inr ⟨a, ?_⟩
        have nx : ∀ j, j ∈ nxl ns i → j ∈ nxl (lzN r ns t) i := fun j hj => by
          obtain ⟨z1, z2⟩ := mem_nxl.1 hj
          refine mem_nxl.2 ⟨by omega, (q_next hc hT ht hi' hP j).2 ?_⟩
          rw [hmv]; exact z2
        rw [allOr_no]
        refine ⟨fun e => b ?_, fun m hm => ?_⟩
        · cases e2 : nxl (lzN r ns t) i with
          | nil => rfl
          | cons x l =>
            have hx : x ∈ nxl (lzN r ns t) i := by rw [e2]; simp
            have := (q_next hc hT ht hi' hP x).1 (mem_nxl.1 hx).2
            rw [hmv] at this
            have hF := chk_at hc hi
            have hxl : x < ns.length := by
              obtain ⟨_, z'⟩ := ahB_iff.1 this
              rcases z' with ⟨q, z'⟩ | ⟨q, z'⟩
              · have := hF.t q; omega
              · have := hF.e q; omega
            have : x ∈ nxl ns i := mem_nxl.2 ⟨hxl, this⟩
            rw [e] at this; cases this
        · rw [bat_yesN (nxl_ltN hm), c m (nx m hm)]
          simp [nxl_ltN hm]
      · exact Or.inl rfl
    · exact was (lz_put hc hall hi hp).2.2

theorem up_once (hc : chk r ns = 0) (hall : ∀ n, n < ns.length → Rch ns n) (ht : TmOk r t) {n : Nat} (hn : n < ns.length) (hu : bat (upL (lzN r ns t) t) n = true) : known ns t n = true := by
  have hT := lazy_takeOk ns t
  have hlen : (lzN r ns t).length = _ := q_len
  unfold known
  cases hd : bat (downL ns t) n
  · rw [Bool.false_or]
    refine solve_top ns (upW ns t) (fun m => decide (m < ns.length) && (bat (upL (lzN r ns t) t) m && !bat (downL ns t) m)) (fun m hm => by simp; omega) (fun m hm hy => ?_) (n := n) (by simp [hn, hu, hd])
    have hy' : bat (upL (lzN r ns t) t) m = true ∧ bat (downL ns t) m = false := by simpa [hm] using hy
    show (bat (nol ns.length) m || (bat (yesl ns.length) m && allOr false (ahl ns m) fun j => bat (bothl ns t) j || (bat (kpl ns t) j && (decide (j < ns.length) && (bat (upL (lzN r ns t) t) j && !bat (downL ns t) j))))) = true
    rw [bat_noN, bat_yesN hm, Bool.false_or, Bool.true_and, allOr_no]
    obtain ⟨u1, u2⟩ := (up_fix (show m < (lzN r ns t).length by omega)).1 hy'.1
    refine ⟨fun e => u1 ?_, fun j hj => ?_⟩
    · cases e2 : ahl (lzN r ns t) m with
      | nil => rfl
      | cons x l =>
        have hx : x ∈ ahl (lzN r ns t) m := by rw [e2]; simp
        have := ((q_ahl hc hT ht hm).1 hx).2.2
        rw [e] at this; cases this
    · have hjl := ahl_ltN hj
      obtain ⟨x1, x2, x3⟩ := mv_xo (r := r) (t := t) (put := lazyPut ns t) (tak := lazyTake ns t) hjl
      obtain ⟨k1, k2⟩ := u2 _ (q_ahl' hc hT ht hm hj)
      have ekp := q_kp (put := lazyPut ns t) hT ht x2
      rw [x1, x3, Bool.false_or] at ekp
      change kpB t (nd (lzN r ns t) _) = _ at ekp
      rw [ekp] at k1
      rw [bat_both hjl, bat_kpl hjl, k1]
      cases hr : rcB t (nd ns j)
      · cases hdj : bat (downL ns t) j
        · have hnp : bat (lazyPut ns t) j = false := by
            cases q : bat (lazyPut ns t) j
            · rfl
            · rw [(lz_put hc hall hjl q).2.2] at hdj; cases hdj
          have hxo : xo ns (lazyPut ns t) j = j := by rw [xo, if_neg (by rw [hnp]; simp)]
          rw [hxo] at k2 x3 x2 x1
          have erc := q_rc (put := lazyPut ns t) (tak := lazyTake ns t) ht x2
          rw [x1, x3, Bool.false_or, hr, Bool.false_and] at erc
          change rcB t (nd (lzN r ns t) _) = _ at erc
          rw [erc] at k2
          simp at k2
          simp [hjl, k2]
        · have := (down_next hjl hdj hr).2.2 m (ahl_nxl hm hj)
          rw [hy'.2] at this; cases this
      · rfl
  · rfl

theorem once_early (hc : chk r ns = 0) (hs : Spl ns) (hall : ∀ n, n < ns.length → Rch ns n) (ht : TmOk r t) {n : Nat} (hn : n < ns.length) (he : bat (earlyL ns t) n = true) : bat (earlyL (lzN r ns t) t) n = true := by
  have hT := lazy_takeOk ns t
  have hlen : (lzN r ns t).length = _ := q_len
  have hn' : n < (lzN r ns t).length := by omega
  have hdn : bat (downL ns t) n = true := by rw [early_eq hn, Bool.and_eq_true] at he; exact he.1
  have hdl : bat (delayL ns t) n = true := (delay_fix hn).2 (Or.inl he)
  rw [early_eq hn', once_down hc hs ht hn hdl hdn, Bool.true_and, Bool.or_eq_true]
  cases hall2 : (ahl (lzN r ns t) n).all fun m => bat (kpl (lzN r ns t) t) m && (bat (downL (lzN r ns t) t) m || bat (upL (lzN r ns t) t) m)
  · exact Or.inr rfl
  · left
    rw [List.all_eq_true] at hall2
    have key : ∀ m, m ∈ ahl ns n → kpB t (nd ns m) = true ∧ known ns t m = true := by
      intro m hm
      have hml := ahl_ltN hm
      obtain ⟨x1, x2, x3⟩ := mv_xo (r := r) (t := t) (put := lazyPut ns t) (tak := lazyTake ns t) hml
      have h1 := hall2 _ (q_ahl' hc hT ht hn hm)
      change xo ns (lazyPut ns t) m < (lzN r ns t).length at x2
      rw [bat_kpl x2, Bool.and_eq_true, Bool.or_eq_true] at h1
      have ekp := q_kp (put := lazyPut ns t) hT ht x2
      rw [x1, x3, Bool.false_or] at ekp
      change kpB t (nd (lzN r ns t) _) = _ at ekp
      rw [ekp] at h1
      refine ⟨h1.1, ?_⟩
      cases hp : bat (lazyPut ns t) m
      · have hxo : xo ns (lazyPut ns t) m = m := by rw [xo, if_neg (by rw [hp]; simp)]
        rw [hxo] at h1
        rcases h1.2 with q | q
        · unfold known; rw [down_once hc hall ht hml q]; rfl
        · exact up_once hc hall ht hml q
      · unfold known; rw [(lz_put hc hall hml hp).2.2]; rfl
    rw [early_eq hn, hdn, Bool.true_and, Bool.or_eq_true] at he
    rcases he with q | q
    · cases e2 : ahl (lzN r ns t) n with
      | nil => rfl
      | cons x l =>
        have hx : x ∈ ahl (lzN r ns t) n := by rw [e2]; simp
        have := ((q_ahl hc hT ht hn).1 hx).2.2
        rw [List.isEmpty_iff] at q
        rw [q] at this; cases this
    · exfalso
      rw [Bool.not_eq_true', List.all_eq_false] at q
      obtain ⟨m, hm, q⟩ := q
      obtain ⟨a, b⟩ := key m hm
      rw [bat_kpl (ahl_ltN hm), a] at q
      unfold known at b
      rw [b] at q
      exact q rfl

theorem once_delay (hc : chk r ns = 0) (hs : Spl ns) (hall : ∀ n, n < ns.length → Rch ns n) (ht : TmOk r t) {n : Nat} (hn : n < ns.length) (hd : bat (delayL ns t) n = true) : bat (delayL (lzN r ns t) t) n = true := by
  have hT := lazy_takeOk ns t
  have hlen : (lzN r ns t).length = _ := q_len
  refine solve_top (lzN r ns t) (delayW (lzN r ns t) t) (fun i => decide (i < ns.length) && bat (delayL ns t) i) (fun i hi => by simp; omega) (fun i hi hy => ?_) (n := n) (by simp [hn, hd])
  have hy' : i < ns.length ∧ bat (delayL ns t) i = true := by simpa using hy
  obtain ⟨hil, hid⟩ := hy'
  rw [delayW, say_fwd, bat_yesN hi, Bool.true_and, Bool.or_eq_true]
  rcases (delay_fix hil).1 hid with q | ⟨q1, q2⟩
  · exact Or.inl (once_early hc hs hall ht hil q)
  · right
    rw [allOr_no]
    constructor
    · intro e
      cases e2 : ahl ns i with
      | nil => exact q1 e2
      | cons x l =>
        have := q_ahl' (put := lazyPut ns t) hc hT ht hil (show x ∈ ahl ns i by rw [e2]; simp)
        change _ ∈ ahl (lzN r ns t) i at this
        rw [e] at this; cases this
    · intro j hj
      obtain ⟨j1, j2, j3⟩ := (q_ahl hc hT ht hil).1 hj
      obtain ⟨p1, p2⟩ := q2 _ j3
      have hml := ahl_ltN j3
      have hnp : bat (lazyPut ns t) (mvF ns (lazyPut ns t) j) = false := by
        cases z : bat (lazyPut ns t) (mvF ns (lazyPut ns t) j)
        · rfl
        · exfalso
          obtain ⟨l1, l2, _⟩ := lz_put hc hall hml z
          rw [late_eq hml, l2, bat_rcl hml, p1, Bool.true_and, Bool.false_or, Bool.not_eq_true', List.all_eq_false] at l1
          obtain ⟨a, ha, hna⟩ := l1
          have := delay_two hc hs hml l2 p1 ha (ahl_nxl hil j3) (by simpa using hna)
          rw [hid] at this; cases this
      have hje : mvF ns (lazyPut ns t) j = j := by
        have := (xo_mv j1 j2).1
        rw [xo, if_neg (by rw [hnp]; simp)] at this
        exact this
      have erc := q_rc (put := lazyPut ns t) (tak := lazyTake ns t) ht j1
      rw [j2, Bool.false_or, p1, Bool.false_and] at erc
      change rcB t (nd (lzN r ns t) _) = _ at erc
      rw [hje] at hml p2
      change j < (lzN r ns t).length at j1
      rw [bat_noN, bat_nrc j1, erc]
      simp [hml, p2]

/-- All that reckons it, reckons it as late as may be. -/
theorem once_late (hc : chk r ns = 0) (hs : Spl ns) (hall : ∀ n, n < ns.length → Rch ns n) (ht : TmOk r t) {i : Nat} (hi : i < (lzN r ns t).length) (hr : rcB t (nd (lzN r ns t) i) = true) : bat (lateL (lzN r ns t) t) i = true := by
  have erc := q_rc (put := lazyPut ns t) (tak := lazyTake ns t) ht hi
  change rcB t (nd (lzN r ns t) _) = _ at erc
  have hd : bat (delayL (lzN r ns t) t) i = true := by
    cases hp : isP ns (lazyPut ns t) i
    · rw [hr, hp, Bool.false_or] at erc
      have erc' := erc.symm
      rw [Bool.and_eq_true, Bool.not_eq_true'] at erc'
      have hml := (xo_mv hi hp).2
      have ht' := erc'.2
      rw [bat_lzt hml, erc'.1, Bool.true_and, Bool.not_eq_false', Bool.and_eq_true] at ht'
      have hnp : bat (lazyPut ns t) (mvF ns (lazyPut ns t) i) = false := by rw [bat_lzp hml, ht'.2]; simp
      have hie : mvF ns (lazyPut ns t) i = i := by
        have := (xo_mv hi hp).1
        rw [xo, if_neg (by rw [hnp]; simp)] at this
        exact this
      rw [hie] at hml ht'
      exact once_delay hc hs hall ht hml (late_delay hml ht'.1)
    · have hp' : i < ns.length ∧ bat (lazyPut ns t) i = true := by simpa [isP] using hp
      exact once_delay hc hs hall ht hp'.1 (lz_put hc hall hp'.1 hp'.2).2.1
  rw [late_eq hi, hd, bat_rcl hi, hr]; rfl

theorem once_alone (hc : chk r ns = 0) (hs : Spl ns) (hall : ∀ n, n < ns.length → Rch ns n) (ht : TmOk r t) {i : Nat} (hi : i < (lzN r ns t).length) : bat (aloneL (lzN r ns t) t) i = true := by
  refine solve_top (lzN r ns t) (aloneW (lzN r ns t) t) (fun i => decide (i < (lzN r ns t).length)) (fun i hi => by simp; omega) (fun i hi hy => ?_) (n := i) (by simp [hi])
  rw [aloneW, say_back, bat_yesN hi, Bool.true_and, Bool.or_eq_true]
  right
  rw [allOr_yes]
  intro m hm
  have hml := nxl_ltN hm
  rw [bat_nrc hml]
  cases hr : rcB t (nd (lzN r ns t) m)
  · simp [hml]
  · rw [once_late hc hs hall ht hml hr]; rfl

theorem any_no {l : List Bool} (h : ∀ n, n < l.length → bat l n = false) : l.any id = false := by
  rw [List.any_eq_false]
  intro b hb
  obtain ⟨n, hn⟩ := List.getElem?_of_mem hb
  have hl := (List.getElem?_eq_some_iff.1 hn).1
  have := h n hl
  rw [bat_get hn] at this
  rw [this]; simp

/-- Nothing is left to move. -/
theorem once_none (hc : chk r ns = 0) (hs : Spl ns) (hall : ∀ n, n < ns.length → Rch ns n) (ht : TmOk r t) : (lazyPut (lzN r ns t) t).any id = false ∧ (lazyTake (lzN r ns t) t).any id = false := by
  constructor
  · refine any_no fun n hn => ?_
    have hn' : n < (lzN r ns t).length := by simpa [lazyPut] using hn
    rw [bat_lzp hn', once_alone hc hs hall ht hn']; simp
  · refine any_no fun n hn => ?_
    have hn' : n < (lzN r ns t).length := by simpa [lazyTake] using hn
    rw [bat_lzt hn', once_alone hc hs hall ht hn']
    cases hr : rcB t (nd (lzN r ns t) n)
    · rfl
    · rw [once_late hc hs hall ht hn' hr]; rfl

/-- One once more changes nothing. -/
theorem one_once (hc : chk r ns = 0) (ht : TmOk r t) (hl : (oneQ ns).length ≤ 256) (h1 : (oneN ns t r).length ≤ 256) (h2 : oneR ns t r ≤ 64) : oneB (oneN ns t r) t = false ∧ oneQ (oneN ns t r) = (if oneB ns t = true then oneN ns t r else oneQ ns) := by
  cases hb : oneB ns t
  · have e : oneN ns t r = ns := by unfold oneN; rw [hb]; rfl
    rw [e]
    exact ⟨hb, rfl⟩
  · have hct := trim_chk hc
    have hcs := split_chk hct hl
    have e : oneN ns t r = lzN r (oneQ ns) t := by unfold oneN; rw [hb]; rfl
    have hs := spl_of hct hl
    have hall : ∀ n, n < (oneQ ns).length → Rch (oneQ ns) n := split_all hct fun n hn => (rch_bat hn).1 (by rw [trim_all hc]; exact bat_yes hn)
    have hT := lazy_takeOk (oneQ ns) t
    have e2 : oneR ns t r = (r : Int) + 1 := by unfold oneR; rw [hb]; rfl
    rw [e] at h1
    rw [e2] at h2
    have hcq : chk ((r : Int) + 1) (lzN r (oneQ ns) t) = 0 := ap_chk hcs ht hT h1 h2
    have t1 : trimN (lzN r (oneQ ns) t) = lzN r (oneQ ns) t := trim_fix hcq (q_rch hcs hT ht hall)
    have t2 : splitN (lzN r (oneQ ns) t) = lzN r (oneQ ns) t := split_fix hcq (q_spl hcs hs hT ht)
    have t3 : oneQ (lzN r (oneQ ns) t) = lzN r (oneQ ns) t := by unfold oneQ at *; rw [t1, t2]
    rw [e]
    refine ⟨?_, by rw [t3]; rfl⟩
    unfold oneB
    rw [t3]
    obtain ⟨a, b⟩ := once_none (ns := oneQ ns) hcs hs hall ht
    rw [a, b]; rfl

end once

end Go.Proofs.YtoikglgnmjjpcabGreat

namespace Go.Proofs.YtoikglgnmjjpcabGreat

/-- A term's own error. -/
def tmE (r : Int) (t : Tm) : Int := if 3 ≤ t.op ∧ t.op ≤ 8 then (if (0 ≤ t.a ∧ t.a < r) ∧ (0 ≤ t.b ∧ t.b < r) then 0 else 3) else 4
theorem tmE_ok {r : Int} {t : Tm} (h : tmE r t = 0) : TmOk r t := by
  unfold tmE at h
  split at h
  · split at h
    · rename_i a b; exact ⟨a, b.1, b.2⟩
    · omega
  · omega
theorem ok_tmE {r : Int} {t : Tm} (h : TmOk r t) : tmE r t = 0 := by
  unfold tmE
  rw [if_pos h.op, if_pos ⟨h.a, h.b⟩]

/-- What One answers: its error. -/
def oneE (r : Int) (ns : List Nd) (t : Tm) : Int :=
  if chk r ns ≠ 0 then chk r ns else if 256 < (oneQ ns).length then 2 else if tmE r t ≠ 0 then tmE r t
  else if oneB ns t = true ∧ (256 < (oneN ns t r).length ∨ 63 < r) then 2 else 0

structure OneOk (r : Int) (ns : List Nd) (t : Tm) : Prop where
  ck : chk r ns = 0
  len : (oneQ ns).length ≤ 256
  tm : TmOk r t
  fit : oneB ns t = true → (oneN ns t r).length ≤ 256 ∧ r ≤ 63

theorem oneE_ok {r : Int} {ns : List Nd} {t : Tm} (h : oneE r ns t = 0) : OneOk r ns t := by
  unfold oneE at h
  by_cases h1 : chk r ns = 0
  · rw [if_neg (by simp [h1])] at h
    by_cases h2 : 256 < (oneQ ns).length
    · rw [if_pos h2] at h; omega
    · rw [if_neg h2] at h
      by_cases h3 : tmE r t = 0
      · rw [if_neg (by simp [h3])] at h
        refine ⟨h1, by omega, tmE_ok h3, fun hb => ?_⟩
        by_cases h4 : oneB ns t = true ∧ (256 < (oneN ns t r).length ∨ 63 < r)
        · rw [if_pos h4] at h; omega
        · have : ¬ (256 < (oneN ns t r).length ∨ 63 < r) := fun q => h4 ⟨hb, q⟩
          omega
      · rw [if_pos (by simpa using h3)] at h; exact absurd h h3
  · rw [if_pos (by simpa using h1)] at h; exact absurd h h1
theorem ok_oneE {r : Int} {ns : List Nd} {t : Tm} (h : OneOk r ns t) : oneE r ns t = 0 := by
  unfold oneE
  have := h.len
  rw [if_neg (by simp [h.ck]), if_neg (by omega), if_neg (by simp [ok_tmE h.tm]), if_neg]
  rintro ⟨a, b⟩
  have := h.fit a
  omega

theorem OneOk.next {r : Int} {ns : List Nd} {t : Tm} (h : OneOk r ns t) : chk (oneR ns t r) (oneN ns t r) = 0 := by
  have hl := (chk_full h.ck).1
  have hr := (chk_full h.ck).2.1
  refine one_chk h.ck h.tm h.len ?_ ?_
  · cases hb : oneB ns t
    · unfold oneN; rw [hb]; simp; omega
    · exact (h.fit hb).1
  · cases hb : oneB ns t
    · unfold oneR; rw [hb]; simp; omega
    · have := (h.fit hb).2
      unfold oneR; rw [hb]; simp; omega
theorem oneR_le (ns : List Nd) (t : Tm) (r : Int) : r ≤ oneR ns t r := by unfold oneR; split <;> omega

end Go.Proofs.YtoikglgnmjjpcabGreat

namespace Go.Proofs.YtoikglgnmjjpcabGreat
open Go.RowKit Go.Shelf

theorem tchk_tmE {r : Int} {ns : List Nd} (hc : chk r ns = 0) (t : Tm) : tchk r ns t = tmE r t := by
  unfold tchk tmE
  rw [if_pos hc]

/-- What One answers. -/
def OneSays (r : Int) (ns : List Nd) (t : Tm) (w : World) (e : Ending) (w' : World) : Prop :=
  (oneE r ns t ≠ 0 ∧ e = .returned (.tuple #[.agg #[.int .i64 0, .slice none 0 0], .int .i64 (oneE r ns t)]) ∨
   oneE r ns t = 0 ∧ ∃ gb gc, e = .returned (.tuple #[.agg #[.int .i64 (oneR ns t r), .slice (some ⟨gb, 0, none⟩) (oneN ns t r).length gc], .int .i64 0]) ∧ w'.ownsRow w.heap.size 66 6 (.slice (some ⟨gb, 0, none⟩) (oneN ns t r).length gc) (oneN ns t r).length ((oneN ns t r).flatMap encNd)) ∧ Below w.heap.size w w'

theorem one_any (r : Int) (a : Option Addr) (cap : Nat) (ns : List Nd) (t : Tm) (w : World) (hN : SlN w a ns) :
    Calls Tryz.prog 9 #[.agg #[.int .i64 r, .slice a ns.length cap], .agg #[.int .i64 t.op, .int .i64 t.a, .int .i64 t.b]] w (OneSays r ns t w) := by
  by_cases hc : chk r ns = 0
  · obtain ⟨b, off, rfl, hNb⟩ := hN.some (chk_zero hc).1.1
    by_cases hl : (oneQ ns).length ≤ 256
    · have hcs := split_chk (trim_chk hc) hl
      have htc : tchk r (oneQ ns) t = tmE r t := tchk_tmE hcs t
      by_cases ht : tmE r t = 0
      · cases hb : oneB ns t
        · have e0 : oneE r ns t = 0 := by
            unfold oneE
            rw [if_neg (by simp [hc]), if_neg (by omega), if_neg (by simp [ht]), if_neg (by simp [hb])]
          have e1 : oneN ns t r = ns := by unfold oneN; rw [hb]; rfl
          have e2 : oneR ns t r = r := by unfold oneR; rw [hb]; rfl
          refine (one_same r b off cap ns t w hNb hc hl (by rw [htc]; exact ht) hb).mono ?_
          rintro e w' ⟨gb, gc, rfl, hV, hB⟩
          refine ⟨Or.inr ⟨e0, gb, gc, ?_, ?_⟩, hB⟩
          · rw [e1, e2]
          · rw [e1]; exact hV
        · have e1 : oneN ns t r = apN (oneQ ns) t (lazyPut (oneQ ns) t) (lazyTake (oneQ ns) t) r := by unfold oneN; rw [hb]; rfl
          have e2 : oneR ns t r = r + 1 := by unfold oneR; rw [hb]; rfl
          refine (one_moved r b off cap ns t w hNb hc hl (by rw [htc]; exact ht) hb).mono ?_
          rintro e w' ⟨h, hB⟩
          refine ⟨?_, hB⟩
          rw [← e1] at h
          rcases h with ⟨h1, rfl⟩ | ⟨h1, gb, gc, rfl, hV⟩
          · have e0 : oneE r ns t = 2 := by
              unfold oneE
              rw [if_neg (by simp [hc]), if_neg (by omega), if_neg (by simp [ht]), if_pos ⟨hb, h1⟩]
            exact Or.inl ⟨by rw [e0]; decide, by rw [e0]⟩
          · have e0 : oneE r ns t = 0 := by
              unfold oneE
              rw [if_neg (by simp [hc]), if_neg (by omega), if_neg (by simp [ht]), if_neg (by rintro ⟨_, q⟩; omega)]
            exact Or.inr ⟨e0, gb, gc, by rw [e2], hV⟩
      · have e0 : oneE r ns t = tmE r t := by
          unfold oneE
          rw [if_neg (by simp [hc]), if_neg (by omega), if_pos (by simpa using ht)]
        refine (one_term r b off cap ns t w hNb hc hl (by rw [htc]; exact ht)).mono ?_
        rintro e w' ⟨rfl, hB⟩
        exact ⟨Or.inl ⟨by rw [e0]; exact ht, by rw [e0, htc]⟩, hB⟩
    · have e0 : oneE r ns t = 2 := by
        unfold oneE
        rw [if_neg (by simp [hc]), if_pos (by omega)]
      refine (one_many r b off cap ns t w hNb hc (by omega)).mono ?_
      rintro e w' ⟨rfl, hB⟩
      exact ⟨Or.inl ⟨by rw [e0]; decide, by rw [e0]⟩, hB⟩
  · have e0 : oneE r ns t = chk r ns := by
      unfold oneE
      rw [if_pos (by simpa using hc)]
    refine (one_wrong r a cap ns t w hN hc).mono ?_
    rintro e w' ⟨rfl, hB⟩
    exact ⟨Or.inl ⟨by rw [e0]; exact hc, by rw [e0]⟩, hB⟩

theorem len_row {w : World} {base : Nat} {gb gc : Nat} {ms : List Nd} (h : w.ownsRow base 66 6 (.slice (some ⟨gb, 0, none⟩) ms.length gc) ms.length (ms.flatMap encNd)) (hl : 1 ≤ ms.length) : NodesAt w gb 0 ms := nodes_ownM h hl

end Go.Proofs.YtoikglgnmjjpcabGreat
