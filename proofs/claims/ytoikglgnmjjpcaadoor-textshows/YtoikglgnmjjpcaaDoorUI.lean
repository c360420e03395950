/-
  hoistwaylaw.TextShows, walked.
-/
import Derived.Test.YtoikglgnmjjpcaaDoorUH
namespace Go.Proofs.YtoikglgnmjjpcaaDoor
open Go.RowKit Go.Maps Go.ChangeMaps
set_option linter.unusedVariables false

/-- The document reads as Read does. -/
theorem pf_read (l : List UInt8) : pfB l = readB l := by
  cases h : readB l with
  | some p =>
    obtain ⟨r, ns⟩ := p
    obtain ⟨hc, hs, ha⟩ := readB_inv h
    obtain ⟨h1, h2⟩ := pf_show hc ha
    rw [hs] at h1 h2
    unfold pfB
    rw [h1, h2, if_pos ⟨hc, hs⟩]
  | none =>
    unfold pfB
    rw [if_neg]
    rintro ⟨hc, hs⟩
    have ha : ∀ x ∈ pfN l, -9223372036854775808 ≤ x.a ∧ x.a ≤ 9223372036854775807 := by
      intro x hx
      unfold pfN at hx
      obtain ⟨z, _, rfl⟩ := List.mem_map.1 hx
      exact gN_fit _
    have := readB_show hc ha
    rw [hs, h] at this
    cases this

set_option maxHeartbeats 8000000 in
set_option maxRecDepth 100000 in
theorem shows_ok (r : Int) (a : Option Addr) (cap : Nat) (ns : List Nd) (S : ByteArray) (w : World) (hN : SlN w a ns) (hE : Env w) (T : ByteArray) (r2 : Int) (ms : List Nd) (f2 : Int) (ok : Bool) (hms : ms.length ≤ 1000) (hf : (ok = true ∧ f2 = 0) ∨ (ok = false ∧ f2 = 1))
    (hsh : ∀ u, SlN u a ns → Env u → Calls Tryd.prog 5 #[.agg #[.int .i64 r, .slice a ns.length cap]] u fun e w' => e = .returned (.tuple #[.string T, .int .i64 0]) ∧ Below u.heap.size u w')
    (hck : ∀ u, SlN u a ns → Calls Tryd.prog 6 #[.agg #[.int .i64 r, .slice a ns.length cap]] u fun e w' => e = .returned (.int .i64 0) ∧ Below u.heap.size u w')
    (hpt : ∀ u, SlN u a ns → Calls Tryd.prog 7 #[.agg #[.int .i64 r, .slice a ns.length cap]] u fun e w' => e = .returned (.string T) ∧ Below u.heap.size u w')
    (hrd : ∀ u, Env u → Calls Tryd.prog 8 #[.string S] u fun e w' => (∃ a2 c2, e = .returned (.tuple #[.agg #[.int .i64 r2, .slice a2 ms.length c2], .int .i64 f2]) ∧ SlN w' a2 ms) ∧ Below u.heap.size u w')
    (hpf : ∀ u, Calls Tryd.prog 9 #[.string S] u fun e w' => (∃ a3 c3, e = .returned (.tuple #[.agg #[.int .i64 r2, .slice a3 ms.length c3], .bool ok]) ∧ SlN w' a3 ms) ∧ Below u.heap.size u w') :
    Calls Tryd.prog 3 #[.agg #[.int .i64 r, .slice a ns.length cap], .string S] w fun e w' => e = .returned (.bool true) ∧ Below w.heap.size w w' := by
  have hb0 : Below w.heap.size w (w.alloc (.cells #[.int .i64 r, .slice a ns.length cap] 24)) := (Below.refl _ _).alloc (Nat.le_refl _) _
  have hp0 : (w.alloc (.cells #[.int .i64 r, .slice a ns.length cap] 24)).heap[w.heap.size]? = some (.cells #[.int .i64 r, .slice a ns.length cap] 24 (0, 0)) := blkn rfl
  go_enter Tryd.func3, Tryd.ntmps3
  go_wp2_with fail
  refine (hsh _ (hN.below hb0) (hE.below hb0)).mono ?_
  rintro e w1 ⟨rfl, hb1⟩
  have hB1 := hb0.trans (hb1.mono hb0.size)
  have hp1 := (hb1.block _ (blk_lt hp0)).trans hp0
  have c0 := blk_cell hp1 0
  have c1 := blk_cell hp1 1
  have cs := blk_lt hp1
  simp at c0 c1
  clear hb1 hp0 hb0 hsh
  go_wp2_with fail
  refine (hck _ (hN.below hB1)).mono ?_
  rintro e w2 ⟨rfl, hb2⟩
  have hB2 := hB1.trans (hb2.mono hB1.size)
  have hp2 := (hb2.block _ (blk_lt hp1)).trans hp1
  clear c0 c1 cs
  have c0 := blk_cell hp2 0
  have c1 := blk_cell hp2 1
  have cs := blk_lt hp2
  simp at c0 c1
  clear hb2 hp1 hB1 hck
  go_wp2_with fail
  refine (hpt _ (hN.below hB2)).mono ?_
  rintro e w3 ⟨rfl, hb3⟩
  have hB3 := hB2.trans (hb3.mono hB2.size)
  clear hb3 hp2 hB2 hpt c0 c1 cs
  go_wp2_with fail
  refine (hrd _ (hE.below hB3)).mono ?_
  rintro e w4 ⟨⟨a2, c2, rfl, hN4⟩, hb4⟩
  have hB4 := (hB3.trans (hb4.mono hB3.size)).alloc (hB3.trans (hb4.mono hB3.size)).size (.cells #[.int .i64 r2, .slice a2 ms.length c2] 24)
  have hp4 : (w4.alloc (.cells #[.int .i64 r2, .slice a2 ms.length c2] 24)).heap[w4.heap.size]? = some (.cells #[.int .i64 r2, .slice a2 ms.length c2] 24 (0, 0)) := blkn rfl
  have hM4 := hN4.below ((Below.refl w4.heap.size w4).alloc (Nat.le_refl _) (.cells #[.int .i64 r2, .slice a2 ms.length c2] 24))
  clear hb4 hB3 hrd hN4
  go_wp2_with fail
  refine (hpf _).mono ?_
  rintro e w5 ⟨⟨a3, c3, rfl, hN5⟩, hb5⟩
  have hB5 := (hB4.trans (hb5.mono hB4.size)).alloc (hB4.trans (hb5.mono hB4.size)).size (.cells #[.int .i64 r2, .slice a3 ms.length c3] 24)
  have hp5 := blk_alloc (.cells #[.int .i64 r2, .slice a3 ms.length c3] 24) ((hb5.block _ (blk_lt hp4)).trans hp4)
  have hq5 : (w5.alloc (.cells #[.int .i64 r2, .slice a3 ms.length c3] 24)).heap[w5.heap.size]? = some (.cells #[.int .i64 r2, .slice a3 ms.length c3] 24 (0, 0)) := blkn rfl
  have hM5 := (hM4.below hb5).below ((Below.refl w5.heap.size w5).alloc (Nat.le_refl _) (.cells #[.int .i64 r2, .slice a3 ms.length c3] 24))
  have hK5 := hN5.below ((Below.refl w5.heap.size w5).alloc (Nat.le_refl _) (.cells #[.int .i64 r2, .slice a3 ms.length c3] 24))
  clear hb5 hB4 hpf hp4 hM4 hN5
  rcases hf with ⟨rfl, rfl⟩ | ⟨rfl, rfl⟩
  all_goals
    go_wp2_with fail
    refine (textBegun_any _ (hE.below hB5)).mono ?_
    rintro e w6 ⟨rfl, hb6⟩
    have hB6 := hB5.trans (hb6.mono hB5.size)
    have hp6 := (hb6.block _ (blk_lt hp5)).trans hp5
    have hq6 := (hb6.block _ (blk_lt hq5)).trans hq5
    have hM6 := hM5.below hb6
    have hK6 := hK5.below hb6
    have d0 := blk_cell hp6 0
    have d1 := blk_cell hp6 1
    have e0 := blk_cell hq6 0
    have e1 := blk_cell hq6 1
    simp at d0 d1 e0 e1
    have s1 := blk_lt hp6
    have s2 := blk_lt hq6
    clear hb6 hB5 hp5 hq5 hM5 hK5 hp6 hq6
    go_wp2_with fail
    refine (sameProgs_same r2 a2 a3 c2 c3 ms _ hM6 hK6 (by omega)).mono ?_
    rintro e w7 ⟨rfl, hb7⟩
    have hB7 := hB6.trans (hb7.mono hB6.size)
    clear hb7 hB6 d0 d1 e0 e1
    go_wp2_with fail
    go_ret
    exact ⟨rfl, hB7⟩

set_option maxHeartbeats 8000000 in
set_option maxRecDepth 100000 in
theorem shows_bad (r : Int) (a : Option Addr) (cap : Nat) (ns : List Nd) (S : ByteArray) (w : World) (hN : SlN w a ns) (hE : Env w) (T : ByteArray) (C : Int) (r2 : Int) (ms : List Nd) (f2 : Int) (ok : Bool) (hms : ms.length ≤ 1000) (hf : (ok = true ∧ f2 = 0) ∨ (ok = false ∧ f2 = 1))
    (hsh : ∀ u, SlN u a ns → Env u → Calls Tryd.prog 5 #[.agg #[.int .i64 r, .slice a ns.length cap]] u fun e w' => e = .returned (.tuple #[.string T, .int .i64 C]) ∧ Below u.heap.size u w')
    (hck : ∀ u, SlN u a ns → Calls Tryd.prog 6 #[.agg #[.int .i64 r, .slice a ns.length cap]] u fun e w' => e = .returned (.int .i64 C) ∧ Below u.heap.size u w')
    (hC : C ≠ 0) (hT : T = ⟨#[]⟩)
    (hrd : ∀ u, Env u → Calls Tryd.prog 8 #[.string S] u fun e w' => (∃ a2 c2, e = .returned (.tuple #[.agg #[.int .i64 r2, .slice a2 ms.length c2], .int .i64 f2]) ∧ SlN w' a2 ms) ∧ Below u.heap.size u w')
    (hpf : ∀ u, Calls Tryd.prog 9 #[.string S] u fun e w' => (∃ a3 c3, e = .returned (.tuple #[.agg #[.int .i64 r2, .slice a3 ms.length c3], .bool ok]) ∧ SlN w' a3 ms) ∧ Below u.heap.size u w') :
    Calls Tryd.prog 3 #[.agg #[.int .i64 r, .slice a ns.length cap], .string S] w fun e w' => e = .returned (.bool true) ∧ Below w.heap.size w w' := by
  have hb0 : Below w.heap.size w (w.alloc (.cells #[.int .i64 r, .slice a ns.length cap] 24)) := (Below.refl _ _).alloc (Nat.le_refl _) _
  have hp0 : (w.alloc (.cells #[.int .i64 r, .slice a ns.length cap] 24)).heap[w.heap.size]? = some (.cells #[.int .i64 r, .slice a ns.length cap] 24 (0, 0)) := blkn rfl
  have hCb : (C == 0) = false := by rw [beq_eq_false_iff_ne]; exact hC
  subst hT
  go_enter Tryd.func3, Tryd.ntmps3
  go_wp2_with fail
  refine (hsh _ (hN.below hb0) (hE.below hb0)).mono ?_
  rintro e w1 ⟨rfl, hb1⟩
  have hB1 := hb0.trans (hb1.mono hb0.size)
  have hp1 := (hb1.block _ (blk_lt hp0)).trans hp0
  have c0 := blk_cell hp1 0
  have c1 := blk_cell hp1 1
  have cs := blk_lt hp1
  simp at c0 c1
  clear hb1 hp0 hb0 hsh
  go_wp2_with fail
  refine (hck _ (hN.below hB1)).mono ?_
  rintro e w2 ⟨rfl, hb2⟩
  have hB2 := hB1.trans (hb2.mono hB1.size)
  have hp2 := (hb2.block _ (blk_lt hp1)).trans hp1
  clear c0 c1 cs
  have c0 := blk_cell hp2 0
  have c1 := blk_cell hp2 1
  have cs := blk_lt hp2
  simp at c0 c1
  clear hb2 hp1 hB1 hck
  go_wp2_with fail
  have hB3 := hB2
  clear hB2 hp2 c0 c1 cs
  refine (hrd _ (hE.below hB3)).mono ?_
  rintro e w4 ⟨⟨a2, c2, rfl, hN4⟩, hb4⟩
  have hB4 := (hB3.trans (hb4.mono hB3.size)).alloc (hB3.trans (hb4.mono hB3.size)).size (.cells #[.int .i64 r2, .slice a2 ms.length c2] 24)
  have hp4 : (w4.alloc (.cells #[.int .i64 r2, .slice a2 ms.length c2] 24)).heap[w4.heap.size]? = some (.cells #[.int .i64 r2, .slice a2 ms.length c2] 24 (0, 0)) := blkn rfl
  have hM4 := hN4.below ((Below.refl w4.heap.size w4).alloc (Nat.le_refl _) (.cells #[.int .i64 r2, .slice a2 ms.length c2] 24))
  clear hb4 hB3 hrd hN4
  go_wp2_with fail
  refine (hpf _).mono ?_
  rintro e w5 ⟨⟨a3, c3, rfl, hN5⟩, hb5⟩
  have hB5 := (hB4.trans (hb5.mono hB4.size)).alloc (hB4.trans (hb5.mono hB4.size)).size (.cells #[.int .i64 r2, .slice a3 ms.length c3] 24)
  have hp5 := blk_alloc (.cells #[.int .i64 r2, .slice a3 ms.length c3] 24) ((hb5.block _ (blk_lt hp4)).trans hp4)
  have hq5 : (w5.alloc (.cells #[.int .i64 r2, .slice a3 ms.length c3] 24)).heap[w5.heap.size]? = some (.cells #[.int .i64 r2, .slice a3 ms.length c3] 24 (0, 0)) := blkn rfl
  have hM5 := (hM4.below hb5).below ((Below.refl w5.heap.size w5).alloc (Nat.le_refl _) (.cells #[.int .i64 r2, .slice a3 ms.length c3] 24))
  have hK5 := hN5.below ((Below.refl w5.heap.size w5).alloc (Nat.le_refl _) (.cells #[.int .i64 r2, .slice a3 ms.length c3] 24))
  clear hb5 hB4 hpf hp4 hM4 hN5
  rcases hf with ⟨rfl, rfl⟩ | ⟨rfl, rfl⟩
  all_goals
    go_wp2_with fail
    refine (textBegun_any _ (hE.below hB5)).mono ?_
    rintro e w6 ⟨rfl, hb6⟩
    have hB6 := hB5.trans (hb6.mono hB5.size)
    have hp6 := (hb6.block _ (blk_lt hp5)).trans hp5
    have hq6 := (hb6.block _ (blk_lt hq5)).trans hq5
    have hM6 := hM5.below hb6
    have hK6 := hK5.below hb6
    have d0 := blk_cell hp6 0
    have d1 := blk_cell hp6 1
    have e0 := blk_cell hq6 0
    have e1 := blk_cell hq6 1
    simp at d0 d1 e0 e1
    have s1 := blk_lt hp6
    have s2 := blk_lt hq6
    clear hb6 hB5 hp5 hq5 hM5 hK5 hp6 hq6
    go_wp2_with fail
    refine (sameProgs_same r2 a2 a3 c2 c3 ms _ hM6 hK6 (by omega)).mono ?_
    rintro e w7 ⟨rfl, hb7⟩
    have hB7 := hB6.trans (hb7.mono hB6.size)
    clear hb7 hB6 d0 d1 e0 e1
    go_wp2_with fail
    go_ret
    exact ⟨rfl, hB7⟩

theorem textShows_any (r : Int) (a : Option Addr) (cap : Nat) (ns : List Nd) (l : List UInt8) (w : World) (hN : SlN w a ns) (hE : Env w) (ha : ∀ x ∈ ns, -9223372036854775808 ≤ x.a ∧ x.a ≤ 9223372036854775807) (hl : l.length ≤ 140737488355328) :
    Calls Tryd.prog 3 #[.agg #[.int .i64 r, .slice a ns.length cap], .string (ba l)] w fun e w' => e = .returned (.bool true) ∧ Below w.heap.size w w' := by
  have hrd := fun u hu => read_any l u hu hl
  have hpf := fun u => progFrom_any l u hl
  rw [pf_read] at hpf
  have key : ∃ r2 ms f2 ok, ms.length ≤ 1000 ∧ ((ok = true ∧ f2 = 0) ∨ (ok = false ∧ f2 = 1)) ∧
      (∀ u, Env u → Calls Tryd.prog 8 #[.string (ba l)] u fun e w' => (∃ a2 c2, e = .returned (.tuple #[.agg #[.int .i64 r2, .slice a2 ms.length c2], .int .i64 f2]) ∧ SlN w' a2 ms) ∧ Below u.heap.size u w') ∧
      (∀ u, Calls Tryd.prog 9 #[.string (ba l)] u fun e w' => (∃ a3 c3, e = .returned (.tuple #[.agg #[.int .i64 r2, .slice a3 ms.length c3], .bool ok]) ∧ SlN w' a3 ms) ∧ Below u.heap.size u w') := by
    cases hq : readB l with
    | none =>
      rw [hq] at hrd hpf
      exact ⟨0, [], 1, false, by simp, Or.inr ⟨rfl, rfl⟩, fun u hu => (hrd u hu).mono fun e w' h => ⟨⟨none, 0, h.1, Or.inl rfl⟩, h.2⟩, fun u => (hpf u).mono fun e w' h => ⟨⟨none, 0, h.1, Or.inl rfl⟩, h.2⟩⟩
    | some p =>
      obtain ⟨r2, ms⟩ := p
      obtain ⟨hc, _, _⟩ := readB_inv hq
      obtain ⟨hl1, _, _⟩ := chk_full hc
      rw [hq] at hrd hpf
      exact ⟨r2, ms, 0, true, by omega, Or.inl ⟨rfl, rfl⟩, fun u hu => (hrd u hu).mono fun e w' h => h, fun u => (hpf u).mono fun e w' h => by
        obtain ⟨⟨a3, c3, he, ho⟩, hb⟩ := h
        exact ⟨⟨a3, c3, he, sl_owns ho⟩, hb⟩⟩
  obtain ⟨r2, ms, f2, ok, hms, hf, hrd, hpf⟩ := key
  have hck := fun u hu => checkProg_any r a cap ns u hu
  by_cases hc : chk r ns = 0
  · rw [hc] at hck
    exact shows_ok r a cap ns (ba l) w hN hE (ba (showB r ns)) r2 ms f2 ok hms hf (fun u hu he => show_ok r a cap ns u hu he ha hc) hck (fun u hu => progText_any r a cap ns u hu ha hc) hrd hpf
  · exact shows_bad r a cap ns (ba l) w hN hE ⟨#[]⟩ (chk r ns) r2 ms f2 ok hms hf (fun u hu _ => show_bad r a cap ns u hu hc) hck hc rfl hrd hpf

end Go.Proofs.YtoikglgnmjjpcaaDoor
