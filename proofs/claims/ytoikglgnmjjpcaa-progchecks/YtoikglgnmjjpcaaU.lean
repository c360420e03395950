/-
  What the statements hold in any case: the calls at the small program.
-/
import Derived.Test.YtoikglgnmjjpcaaT
import Derived.Test.YtoikglgnmjjpcaaE
import Derived.Deep.RegionWith
import Derived.Deep.RegionHeld3
namespace Go.Proofs.Ytoikglgnmjjpcaa
open Go.RowKit
set_option linter.unusedVariables false

theorem small_slN {w : World} {b : Nat} (hN : NodesAt w b 0 smallN) : SlN w (some ⟨b, 0, none⟩) smallN := Or.inr ⟨b, 0, rfl, hN⟩

theorem check_small (b : Nat) (w : World) (hN : NodesAt w b 0 smallN) :
    Calls Try.prog 20 #[.agg #[.int .i64 3, .slice (some ⟨b, 0, none⟩) 7 7]] w fun e w' => e = .returned (.int .i64 0) ∧ Below w.heap.size w w' := by
  have h := check_any 3 _ 7 smallN w (small_slN hN)
  rw [show chk 3 smallN = 0 by decide] at h
  exact h

theorem check_none (w : World) :
    Calls Try.prog 20 #[.agg #[.int .i64 0, .slice none 0 0]] w fun e w' => e = .returned (.int .i64 2) ∧ Below w.heap.size w w' := by
  have h := check_any 0 none 0 [] w (Or.inl rfl)
  rw [show chk 0 [] = 2 by decide] at h
  exact h

theorem next_small (b : Nat) (w : World) (hN : NodesAt w b 0 smallN) :
    Calls Try.prog 12 #[.agg #[.int .i64 3, .slice (some ⟨b, 0, none⟩) 7 7], .int .i64 2] w fun e w' => ∃ a' cap', e = .returned (.tuple #[.slice a' 2 cap', .int .i64 0]) ∧ IntsAt w' a' [3, 5] ∧ Below w.heap.size w w' := by
  have h := next_any 3 _ 7 smallN 2 w (small_slN hN) (by decide)
  rw [show nexts 3 smallN 2 = [3, 5] by decide, show chkN 3 smallN 2 = 0 by decide] at h
  exact h

theorem ahead_small (b : Nat) (w : World) (hN : NodesAt w b 0 smallN) :
    Calls Try.prog 13 #[.agg #[.int .i64 3, .slice (some ⟨b, 0, none⟩) 7 7], .int .i64 5] w fun e w' => ∃ a' cap', e = .returned (.tuple #[.slice a' 2 cap', .int .i64 0]) ∧ IntsAt w' a' [2, 4] ∧ Below w.heap.size w w' := by
  have h := ahead_any 3 _ 7 smallN 5 w (small_slN hN) (by decide)
  rw [show aheads 3 smallN 5 = [2, 4] by decide, show chkN 3 smallN 5 = 0 by decide] at h
  exact h

theorem terms_small (b : Nat) (w : World) (hN : NodesAt w b 0 smallN) :
    Calls Try.prog 14 #[.agg #[.int .i64 3, .slice (some ⟨b, 0, none⟩) 7 7]] w fun e w' => ∃ b' off' cap', e = .returned (.tuple #[.slice (some ⟨b', off', none⟩) 1 cap', .int .i64 0]) ∧ (b' < w'.heap.size ∧ w'.cell? ⟨b', off', none⟩ = some (.int .i64 3) ∧ w'.cell? ⟨b', off' + 1, none⟩ = some (.int .i64 0) ∧ w'.cell? ⟨b', off' + 2, none⟩ = some (.int .i64 1)) ∧ Below w.heap.size w w' := by
  have h := terms_any 3 _ 7 smallN w (small_slN hN)
  rw [show termsL 3 smallN = [⟨3, 0, 1⟩] by decide, show chk 3 smallN = 0 by decide] at h
  refine h.mono ?_
  rintro e w' ⟨a', cap', rfl, hT, hb⟩
  rcases hT with hT | ⟨b', off', rfl, hlt, hc⟩
  · cases hT
  · have h0 := hc 0 _ rfl
    simp only [Nat.zero_mul, Nat.add_zero] at h0
    exact ⟨b', off', cap', rfl, ⟨hlt, h0⟩, hb⟩

theorem same_two (a b : Option Addr) (ca cb : Nat) (x y : Int) (w : World) (hx : IntsAt w a [x, y]) (hy : IntsAt w b [x, y]) :
    Calls Try.prog 21 #[.slice a 2 ca, .slice b 2 cb] w fun e w' => e = .returned (.bool true) ∧ Below w.heap.size w w' := by
  have h := sameInts_any a b ca cb [x, y] [x, y] w hx hy (by simp) (by simp)
  refine h.mono ?_
  rintro e w' ⟨rfl, n, rfl⟩
  exact ⟨by simp, below_drewN (Below.refl _ _) n⟩

theorem ints_two (w : World) (b : Nat) (x y : Int) (hb : b < w.heap.size) (h0 : w.cell? ⟨b, 0, none⟩ = some (.int .i64 x)) (h1 : w.cell? ⟨b, 1, none⟩ = some (.int .i64 y)) : IntsAt w (some ⟨b, 0, none⟩) [x, y] := by
  refine Or.inr ⟨b, 0, rfl, hb, ?_⟩
  intro j z hz
  match j, hz with
  | 0, hz => simp at hz; subst hz; exact h0
  | 1, hz => simp at hz; subst hz; exact h1
  | j + 2, hz => simp at hz

theorem same_lit {w0 : World} (a : Option Addr) (ca : Nat) (x y : Int) (W : World) (hI : IntsAt w0 a [x, y]) (hB : Below w0.heap.size w0 W) :
    Calls Try.prog 21 #[.slice a 2 ca, .slice (some ⟨W.heap.size, 0, none⟩) 2 2] (W.alloc (.cells #[.int .i64 x, .int .i64 y] 3)) fun e w' => e = .returned (.bool true) ∧ Below w0.heap.size w0 w' := by
  have hB1 : Below w0.heap.size w0 (W.alloc (.cells #[.int .i64 x, .int .i64 y] 3)) := hB.alloc hB.size _
  refine (same_two a _ ca 2 x y _ (hI.below hB1) (ints_two _ _ x y (by simp) (by simp) (by simp))).mono ?_
  rintro e w' ⟨rfl, hb⟩
  exact ⟨rfl, hB1.trans (hb.mono hB1.size)⟩

theorem held_of {w6 w' : World} {b6 o6 : Nat} {x y z : Value} (hB : Below w6.heap.size w6 w') (hl : b6 < w6.heap.size) (h : w6.cell? ⟨b6, o6, none⟩ = some x ∧ w6.cell? ⟨b6, o6 + 1, none⟩ = some y ∧ w6.cell? ⟨b6, o6 + 2, none⟩ = some z) :
    w'.cell? ⟨b6, o6, none⟩ = some x ∧ w'.cell? ⟨b6, o6 + 1, none⟩ = some y ∧ w'.cell? ⟨b6, o6 + 2, none⟩ = some z :=
  ⟨(hB.cell (p := ⟨b6, o6, none⟩) hl).trans h.1, (hB.cell (p := ⟨b6, o6 + 1, none⟩) hl).trans h.2.1, (hB.cell (p := ⟨b6, o6 + 2, none⟩) hl).trans h.2.2⟩

set_option maxHeartbeats 1000000 in
set_option maxRecDepth 100000 in
theorem progBegun_any (w : World) :
    Calls Try.prog 19 #[] w fun e w' => e = .returned (.bool true) ∧ Below w.heap.size w w' := by
  go_enter Try.func19, Try.ntmps19
  go_wp2_with fail
  refine (small_any _).mono ?_
  rintro e w1 ⟨rfl, hN1, hb1⟩
  go_wp2_with fail
  refine (next_small _ _ hN1).mono ?_
  rintro e w2 ⟨a2, cap2, rfl, hI2, hb2⟩
  have hs1 := hb1.size
  have hs2 := hb2.size
  have hB2 : Below w.heap.size w w2 := hb1.trans (hb2.mono (by omega))
  clear hN1 hb1 hb2
  go_wp2_with fail
  refine (small_any _).mono ?_
  rintro e w3 ⟨rfl, hN3, hb3⟩
  go_wp2_with fail
  refine (ahead_small _ _ hN3).mono ?_
  rintro e w4 ⟨a4, cap4, rfl, hI4, hb4⟩
  have hs3 := hb3.size
  have hs4 := hb4.size
  have hB4 : Below w2.heap.size w2 w4 := hb3.trans (hb4.mono (by omega))
  replace hI2 := hI2.below hB4
  have hBw4 : Below w.heap.size w w4 := hB2.trans (hB4.mono (by omega))
  clear hN3 hb3 hb4 hB4 hB2
  go_wp2_with fail
  refine (small_any _).mono ?_
  rintro e w5 ⟨rfl, hN5, hb5⟩
  go_wp2_with fail
  refine (terms_small _ _ hN5).mono ?_
  rintro e w6 ⟨b6, o6, cap6, rfl, ⟨hl6, t0, t1, t2⟩, hb6⟩
  have hs5 := hb5.size
  have hs6 := hb6.size
  have hB6 : Below w4.heap.size w4 w6 := hb5.trans (hb6.mono (by omega))
  replace hI2 := hI2.below hB6
  replace hI4 := hI4.below hB6
  have hBw6 : Below w.heap.size w w6 := hBw4.trans (hB6.mono (by omega))
  clear hN5 hb5 hb6 hB6 hBw4
  have hss : w.heap.size ≤ w6.heap.size := by omega
  clear hs1 hs2 hs3 hs4 hs5 hs6
  have heq : ∀ w, Sem.run Try.prog (binOp .eql 36 (.agg #[.int .i64 3, .int .i64 0, .int .i64 1]) (.agg #[.int .i64 3, .int .i64 0, .int .i64 1])) w = .ok (.bool true) w := fun w => by
    have := eqTm.1 ⟨3, 0, 1⟩ ⟨3, 0, 1⟩ w
    simpa [encTm] using this
  have HI2 := hide hI2
  have HI4 := hide hI4
  have HT := hide (And.intro t0 (And.intro t1 t2))
  clear hI2 hI4 t0 t1 t2
  go_wp2
  go_region_held3 (fun w' => w'.cell? ⟨b6, o6, none⟩ = some (.int .i64 3) ∧ w'.cell? ⟨b6, o6 + 1, none⟩ = some (.int .i64 0) ∧ w'.cell? ⟨b6, o6 + 2, none⟩ = some (.int .i64 1)) (first
    | exact held_of hB12 hl6 HT.out
    | exact held_of hB11 hl6 HT.out
    | exact held_of (hB10.alloc hB10.size _) hl6 HT.out
    | exact held_of hB10 hl6 HT.out
    | exact held_of (hB9.alloc hB9.size _) hl6 HT.out
    | exact held_of hB9 hl6 HT.out
    | exact held_of hB8 hl6 HT.out
    | exact held_of hB7 hl6 HT.out
    | exact held_of (Below.refl _ w6).drew hl6 HT.out
    | exact held_of (Below.refl _ w6) hl6 HT.out) (first
    | (go_at_call 64; refine (small_any _).mono ?_; rintro e w7 ⟨rfl, hN7, hb7⟩; have hB7 : Below w6.heap.size w6 w7 := (Below.refl _ w6).drew.trans hb7)
    | (go_at_call_of 20 (Value.int IntKind.i64 3); refine (check_small _ _ hN7).mono ?_; rintro e w8 ⟨rfl, hb8⟩; have hB8 : Below w6.heap.size w6 w8 := hB7.trans (hb8.mono hB7.size))
    | (go_at_call_of 20 (Value.int IntKind.i64 0); refine (check_none _).mono ?_; rintro e w9 ⟨rfl, hb9⟩; have hB9 : Below w6.heap.size w6 w9 := hB8.trans (hb9.mono hB8.size))
    | (go_at_call_of 21 (Value.slice a2 2 cap2); refine (same_lit a2 cap2 3 5 _ HI2.out hB9).mono ?_; rintro e w10 ⟨rfl, hB10⟩)
    | (go_at_call_of 21 (Value.slice a4 2 cap4); refine (same_lit a4 cap4 2 4 _ HI4.out hB10).mono ?_; rintro e w11 ⟨rfl, hB11⟩)
    | (go_at_call 65; refine (sum_any _).mono ?_; rintro e w12 ⟨rfl, hb12⟩; have hB12 : Below w6.heap.size w6 w12 := hB11.trans (hb12.mono hB11.size)))
  all_goals go_wp2
  all_goals go_ret
  all_goals exact ⟨rfl, hBw6.trans (hB12.mono hss)⟩
end Go.Proofs.Ytoikglgnmjjpcaa
