/-
  Whatever program and term hoistwaylaw.MoveOnce is handed, it returns true and leaves its arguments as they were: One once more changes nothing. No condition.
  hoistwaylaw.MoveOnce, walked.
  hoistwaylaw.moveBegun, walked.
-/
import Derived.Test.YtoikglgnmjjpcabGreatV10
import Derived.Test.YtoikglgnmjjpcabGreatV12
namespace Go.Proofs.YtoikglgnmjjpcabGreat
open Go.RowKit Go.Shelf
set_option linter.unusedVariables false
set_option linter.unusedSimpArgs false

def smT : Tm := ⟨3, 0, 1⟩
def smQ : List Nd := [⟨9, 0, 0, 0, 1, 0⟩, ⟨9, 1, 0, 0, 2, 0⟩, ⟨11, 0, 0, 0, 3, 7⟩, ⟨3, 2, 0, 1, 4, 0⟩, ⟨10, 0, 2, 0, 8, 0⟩, ⟨3, 2, 0, 1, 6, 0⟩, ⟨12, 0, 2, 0, 0, 0⟩, ⟨0, 0, 0, 0, 5, 0⟩, ⟨0, 0, 0, 0, 5, 0⟩]
def smM : List Nd := [⟨9, 0, 0, 0, 1, 0⟩, ⟨9, 1, 0, 0, 2, 0⟩, ⟨11, 0, 0, 0, 3, 7⟩, ⟨3, 3, 0, 1, 9, 0⟩, ⟨10, 0, 2, 0, 8, 0⟩, ⟨2, 2, 3, 0, 6, 0⟩, ⟨12, 0, 2, 0, 0, 0⟩, ⟨3, 3, 0, 1, 10, 0⟩, ⟨0, 0, 0, 0, 5, 0⟩, ⟨2, 2, 3, 0, 4, 0⟩, ⟨0, 0, 0, 0, 5, 0⟩]
theorem sm_trim : trimN smallN = smallN := by kernel_rfl
theorem sm_split : splitN smallN = smQ := by kernel_rfl
theorem sm_one : oneQ smallN = smQ := by unfold oneQ; rw [sm_trim, sm_split]
theorem sm_down : downL smQ smT = [false, false, true, true, true, true, false, true, true] := by kernel_rfl
theorem sm_up : upL smQ smT = [false, false, false, false, true, false, true, false, true] := by kernel_rfl
theorem sm_early : earlyL smQ smT = [false, false, true, false, false, false, false, false, false] := by unfold earlyL; rw [sm_down, sm_up]; kernel_rfl
theorem sm_delay : delayL smQ smT = [false, false, true, true, false, false, false, true, false] := by unfold delayL delayW; rw [sm_early]; kernel_rfl
theorem sm_late : lateL smQ smT = [false, false, false, true, false, false, false, true, false] := by unfold lateL; rw [sm_delay]; kernel_rfl
theorem sm_alone : aloneL smQ smT = [true, true, true, false, false, true, true, false, false] := by unfold aloneL aloneW; rw [sm_late]; kernel_rfl
theorem sm_put : lazyPut smQ smT = [false, false, false, true, false, false, false, true, false] := by unfold lazyPut; rw [sm_late, sm_alone]; kernel_rfl
theorem sm_take : lazyTake smQ smT = [false, false, false, true, false, true, false, false, false] := by unfold lazyTake; rw [sm_late, sm_alone]; kernel_rfl
theorem sm_B : oneB smallN smT = true := by unfold oneB; rw [sm_one, sm_put]; rfl
theorem sm_N : oneN smallN smT 3 = smM := by unfold oneN; rw [sm_B, if_pos rfl, sm_one, sm_put, sm_take]; kernel_rfl
theorem sm_R : oneR smallN smT 3 = 4 := by unfold oneR; rw [sm_B]; rfl
theorem sm_chk : chk 3 smallN = 0 := by kernel_rfl
theorem sm_E : oneE 3 smallN smT = 0 := by
  unfold oneE
  rw [sm_chk, sm_one, sm_B, sm_N]
  rfl
theorem sm_down0 : downL smallN smT = [false, false, true, true, true, true, false] := by kernel_rfl
theorem sm_up0 : upL smallN smT = [false, false, false, false, true, false, true] := by kernel_rfl
theorem sm_early0 : busyPut smallN smT = [false, false, true, false, false, false, false] := by
  have e : earlyL smallN smT = [false, false, true, false, false, false, false] := by unfold earlyL; rw [sm_down0, sm_up0]; kernel_rfl
  unfold busyPut
  rw [e]; rfl
theorem sm_r0 : (fin 4 smM [4, 5] 99).out = [9] := by kernel_rfl
theorem sm_r1 : (fin 4 smM [4, 5] 99).ret = 9 := by kernel_rfl
theorem sm_r2 : (fin 4 smM [4, 5] 99).ended = true := by kernel_rfl
theorem sm_r3 : (fin 4 smM [4, 5] 99).steps = 9 := by kernel_rfl
theorem sm_r4 : (fin 4 smM [4, 5] 99).cts = [⟨⟨3, 0, 1⟩, 1⟩] := by kernel_rfl
theorem sm_rE : rerr 4 smM 2 99 = 0 := by kernel_rfl
theorem sm_tchk : tchk 3 smallN smT = 0 := by kernel_rfl

theorem one_smallM (b : Nat) (w : World) (hN : NodesAt w b 0 smallN) :
    Calls Tryz.prog 9 #[.agg #[.int .i64 3, .slice (some ⟨b, 0, none⟩) 7 7], .agg #[.int .i64 3, .int .i64 0, .int .i64 1]] w fun e w' => ∃ gb gc, e = .returned (.tuple #[.agg #[.int .i64 4, .slice (some ⟨gb, 0, none⟩) 11 gc], .int .i64 0]) ∧ NodesAt w' gb 0 smM ∧ Below w.heap.size w w' := by
  refine (one_any 3 (some ⟨b, 0, none⟩) 7 smallN smT w (Or.inr ⟨b, 0, rfl, hN⟩)).mono ?_
  rintro e w' ⟨h, hB⟩
  rw [sm_E, sm_R, sm_N] at h
  rcases h with ⟨q, _⟩ | ⟨_, gb, gc, rfl, hV⟩
  · exact absurd rfl q
  · exact ⟨gb, gc, rfl, len_row hV (by decide), hB⟩

theorem run_smallM (b c bi : Nat) (w : World) (hN : NodesAt w b 0 smM) (hb : bi < w.heap.size) (h0 : w.cell? ⟨bi, 0, none⟩ = some (.int .i64 4)) (h1 : w.cell? ⟨bi, 1, none⟩ = some (.int .i64 5)) :
    Calls Tryz.prog 22 #[.agg #[.int .i64 4, .slice (some ⟨b, 0, none⟩) 11 c], .slice (some ⟨bi, 0, none⟩) 2 2, .int .i64 99] w fun e w' => ∃ ao co ac cc, e = .returned (.tuple #[.agg #[.slice ao 1 co, .int .i64 9, .bool true, .int .i64 9, .slice ac 1 cc], .int .i64 0]) ∧ CtsAt w' ac [⟨⟨3, 0, 1⟩, 1⟩] ∧ Below w.heap.size w w' := by
  refine (run_fit 4 b 0 c smM _ 2 [4, 5] 99 w hN (in_two hb h0 h1) (by simp) sm_rE).mono ?_
  rintro e w' ⟨ao, co, ac, cc, rfl, hI, hC, hb', _, _⟩
  rw [sm_r4] at hC
  exact ⟨ao, co, ac, cc, by rw [sm_r0, sm_r1, sm_r2, sm_r3, sm_r4]; rfl, hC, hb'⟩

theorem busy_smallM (b : Nat) (w : World) (hN : NodesAt w b 0 smallN) :
    Calls Tryz.prog 20 #[.agg #[.int .i64 3, .slice (some ⟨b, 0, none⟩) 7 7], .agg #[.int .i64 3, .int .i64 0, .int .i64 1]] w fun e w' => ∃ a1 o1 c1 a2 c2, e = .returned (.tuple #[.agg #[.slice (some ⟨a1, o1, none⟩) 7 c1, .slice a2 7 c2], .int .i64 0]) ∧ a1 < w'.heap.size ∧ w'.cell? ⟨a1, o1 + 2, none⟩ = some (.bool true) ∧ Below w.heap.size w w' := by
  refine (busy_right 3 b 0 7 smallN smT w hN sm_tchk).mono ?_
  rintro e w' ⟨a1, c1, a2, c2, rfl, hV1, _, hB⟩
  obtain ⟨k, o, rfl, hlt, h⟩ := (bools_owned hV1 (by simp [busyPut])).at (k := 2) (by simp [busyPut, smallN])
  refine ⟨k, o, c1, a2, c2, rfl, hlt, h 2 true ?_, hB⟩
  rw [sm_early0]; rfl

set_option maxHeartbeats 8000000 in
set_option maxRecDepth 100000 in
theorem moveBegun_any (w : World) :
    Calls Tryz.prog 15 #[] w fun e w' => e = .returned (.bool true) ∧ Below w.heap.size w w' := by
  go_enter Tryz.func15, Tryz.ntmps15
  go_wp2_with fail
  refine (small_any _).mono ?_
  rintro e w1 ⟨rfl, hN1, hb1⟩
  go_wp2_with fail
  refine (sum_any _).mono ?_
  rintro e w2 ⟨rfl, hb2⟩
  have hN2 := hN1.below hb2 hN1.lt
  have hB2 := hb1.trans (hb2.mono hb1.size)
  clear hN1 hb1 hb2
  go_wp2_with fail
  refine (one_smallM _ _ hN2).mono ?_
  rintro e w3 ⟨gb, gc, rfl, hN3, hb3⟩
  have hx3 : Below w3.heap.size w3 (w3.alloc (.cells #[.int .i64 4, .slice (some ⟨gb, 0, none⟩) 11 gc] 24)) := (Below.refl _ w3).alloc (Nat.le_refl _) _
  have hp3 : (w3.alloc (.cells #[.int .i64 4, .slice (some ⟨gb, 0, none⟩) 11 gc] 24)).heap[w3.heap.size]? = some (.cells #[.int .i64 4, .slice (some ⟨gb, 0, none⟩) 11 gc] 24 (0, 0)) := World.alloc_heap_new w3 _
  have HB3 := hide (hB2.trans ((hb3.trans (hx3.mono hb3.size)).mono hB2.size))
  have HN3 := hide (hN3.below hx3 hN3.lt)
  clear hN2 hB2 hb3 hN3 hx3
  go_upto_region 2 with fail
  generalize (w3.alloc (.cells #[.int .i64 4, .slice (some ⟨gb, 0, none⟩) 11 gc] 24)) = W3 at hp3 HB3 HN3 ⊢
  generalize w3.heap.size = PB at hp3 ⊢
  have p0 := blk_cell hp3 0
  have p1 := blk_cell hp3 1
  simp at p0 p1
  have pl := blk_lt hp3
  have HP3 := hide hp3
  clear hp3
  have hba : Below W3.heap.size W3 (W3.alloc (.cells #[.int .i64 4, .int .i64 5] 3)) := (Below.refl _ W3).alloc (Nat.le_refl _) _
  go_wp2_with fail
  refine (run_smallM gb gc _ _ (HN3.out.below hba HN3.out.lt) (by simp) (by simp) (by simp)).mono ?_
  rintro e w4 ⟨ao, co, ac, cc, rfl, hC4, hb4⟩
  have hb4' := hba.trans (hb4.mono hba.size)
  have hx4 : Below w4.heap.size w4 (w4.alloc (.cells #[.slice ao 1 co, .int .i64 9, .bool true, .int .i64 9, .slice ac 1 cc] 50)) := (Below.refl _ w4).alloc (Nat.le_refl _) _
  have hr4 : (w4.alloc (.cells #[.slice ao 1 co, .int .i64 9, .bool true, .int .i64 9, .slice ac 1 cc] 50)).heap[w4.heap.size]? = some (.cells #[.slice ao 1 co, .int .i64 9, .bool true, .int .i64 9, .slice ac 1 cc] 50 (0, 0)) := World.alloc_heap_new w4 _
  have hb4'' := hb4'.trans (hx4.mono hb4'.size)
  have HB4 := hide (HB3.out.trans (hb4''.mono HB3.out.size))
  have HP4 := hide ((hb4''.block _ pl).trans HP3.out)
  have HC4 := hide (hC4.below hx4)
  clear p0 p1 pl hba hb4 hb4' hb4'' hx4 hC4 HB3 HN3 HP3
  go_upto_region 3 with fail
  generalize (w4.alloc (.cells #[.slice ao 1 co, .int .i64 9, .bool true, .int .i64 9, .slice ac 1 cc] 50)) = W4 at hr4 HB4 HP4 HC4 ⊢
  generalize w4.heap.size = RB at hr4 ⊢
  have HR4 := hide hr4
  clear hr4
  go_wp2_with fail
  refine (small_any _).mono ?_
  rintro e w5 ⟨rfl, hN5, hb5⟩
  go_wp2_with fail
  refine (sum_any _).mono ?_
  rintro e w6 ⟨rfl, hb6⟩
  have hN6 := hN5.below hb6 hN5.lt
  have hb6' := hb5.trans (hb6.mono hb5.size)
  clear hN5 hb5 hb6
  go_wp2_with fail
  refine (busy_smallM _ _ hN6).mono ?_
  rintro e w7 ⟨a1, o1, c1, a2, c2, rfl, hl7, hc7, hb7⟩
  have hx7 : Below w7.heap.size w7 (w7.alloc (.cells #[.slice (some ⟨a1, o1, none⟩) 7 c1, .slice a2 7 c2] 29)) := (Below.refl _ w7).alloc (Nat.le_refl _) _
  have hl7' : (w7.alloc (.cells #[.slice (some ⟨a1, o1, none⟩) 7 c1, .slice a2 7 c2] 29)).heap[w7.heap.size]? = some (.cells #[.slice (some ⟨a1, o1, none⟩) 7 c1, .slice a2 7 c2] 29 (0, 0)) := World.alloc_heap_new w7 _
  have hb7' := hb6'.trans ((hb7.trans (hx7.mono hb7.size)).mono hb6'.size)
  have HB7 := hide (HB4.out.trans (hb7'.mono HB4.out.size))
  have HP7 := hide ((hb7'.block _ (blk_lt HP4.out)).trans HP4.out)
  have HR7 := hide ((hb7'.block _ (blk_lt HR4.out)).trans HR4.out)
  have HC7 := hide (HC4.out.below hb7')
  have HM7 := hide ((hx7.cell (p := ⟨a1, o1 + 2, none⟩) hl7).trans hc7)
  have hal : a1 < (w7.alloc (.cells #[.slice (some ⟨a1, o1, none⟩) 7 c1, .slice a2 7 c2] 29)).heap.size := by simp; omega
  clear hb6' hN6 hb7 hb7' hc7 hl7 hx7 HB4 HP4 HR4 HC4
  go_upto_region 4 with fail
  generalize (w7.alloc (.cells #[.slice (some ⟨a1, o1, none⟩) 7 c1, .slice a2 7 c2] 29)) = W7 at hl7' HB7 HP7 HR7 HC7 HM7 hal ⊢
  generalize w7.heap.size = LB at hl7' ⊢
  have HL7 := hide hl7'
  have HAL := hide hal
  have HS : Hid (∀ u : World, Below W7.heap.size W7 u → u.cell? ⟨PB, 0, none⟩ = some (.int .i64 4) ∧ u.cell? ⟨RB, 0, none⟩ = some (.slice ao 1 co) ∧ u.cell? ⟨RB, 1, none⟩ = some (.int .i64 9) ∧ u.cell? ⟨RB, 2, none⟩ = some (.bool true) ∧ u.cell? ⟨RB, 3, none⟩ = some (.int .i64 9) ∧ u.cell? ⟨RB, 4, none⟩ = some (.slice ac 1 cc) ∧ u.cell? ⟨LB, 0, none⟩ = some (.slice (some ⟨a1, o1, none⟩) 7 c1) ∧ u.cell? ⟨a1, o1 + 2, none⟩ = some (.bool true)) := fun u h => by
    have k1 := (h.block _ (blk_lt HP7.out)).trans HP7.out
    have k2 := (h.block _ (blk_lt HR7.out)).trans HR7.out
    have k3 := (h.block _ (blk_lt HL7.out)).trans HL7.out
    refine ⟨?_, ?_, ?_, ?_, ?_, ?_, ?_, (h.cell (p := ⟨a1, o1 + 2, none⟩) HAL.out).trans HM7.out⟩
    · rw [blk_cell k1]; rfl
    · rw [blk_cell k2]; rfl
    · rw [blk_cell k2]; rfl
    · rw [blk_cell k2]; rfl
    · rw [blk_cell k2]; rfl
    · rw [blk_cell k2]; rfl
    · rw [blk_cell k3]; rfl
  have l1 : PB < W7.heap.size := blk_lt HP7.out
  have l2 : RB < W7.heap.size := blk_lt HR7.out
  have l3 : LB < W7.heap.size := blk_lt HL7.out
  clear hl7'
  go_region_held3 (fun u => u.cell? ⟨PB, 0, none⟩ = some (.int .i64 4) ∧ u.cell? ⟨RB, 0, none⟩ = some (.slice ao 1 co) ∧ u.cell? ⟨RB, 1, none⟩ = some (.int .i64 9) ∧ u.cell? ⟨RB, 2, none⟩ = some (.bool true) ∧ u.cell? ⟨RB, 3, none⟩ = some (.int .i64 9) ∧ u.cell? ⟨RB, 4, none⟩ = some (.slice ac 1 cc) ∧ u.cell? ⟨LB, 0, none⟩ = some (.slice (some ⟨a1, o1, none⟩) 7 c1) ∧ u.cell? ⟨a1, o1 + 2, none⟩ = some (.bool true)) (first
    | (with_reducible refine HS.out _ ?_; first | with_reducible exact hB9 | with_reducible exact hB8 | with_reducible exact (Below.refl _ W7).drew | with_reducible exact (Below.refl _ W7))) (first
    | (go_at_call 23; refine (times_lit _ _ _ _ ac cc 1 _ HC7.out hB8).mono ?_; rintro e w9 ⟨rfl, hB9⟩)
    | (go_at_call 45; refine (sum_any _).mono ?_; rintro e w8 ⟨rfl, hb8⟩; have hB8 : Below W7.heap.size W7 w8 := (by first | exact (Below.refl _ W7).drew.trans hb8 | exact hb8)))
  all_goals go_wp2
  all_goals go_ret
  all_goals exact ⟨rfl, HB7.out.trans (hB9.mono HB7.out.size)⟩

end Go.Proofs.YtoikglgnmjjpcabGreat

namespace Go.Proofs.YtoikglgnmjjpcabGreat
open Go.RowKit Go.Shelf
set_option linter.unusedVariables false
set_option linter.unusedSimpArgs false

set_option maxHeartbeats 8000000 in
set_option maxRecDepth 100000 in
theorem moveOnce_wrong (r : Int) (a : Option Addr) (cap : Nat) (ns : List Nd) (t : Tm) (w : World) (hN : SlN w a ns) (he : oneE r ns t ≠ 0) :
    Calls Tryz.prog 7 #[.agg #[.int .i64 r, .slice a ns.length cap], .agg #[.int .i64 t.op, .int .i64 t.a, .int .i64 t.b]] w fun e w' => e = .returned (.bool true) ∧ Below w.heap.size w w' := by
  have HON : Hid (∀ W, Below w.heap.size w W → Calls Tryz.prog 9 #[.agg #[.int .i64 r, .slice a ns.length cap], .agg #[.int .i64 t.op, .int .i64 t.a, .int .i64 t.b]] W fun e w' => e = .returned (.tuple #[.agg #[.int .i64 0, .slice none 0 0], .int .i64 (oneE r ns t)]) ∧ Below W.heap.size W w') := fun W h => by
    refine (one_any r a cap ns t W (hN.below h)).mono ?_
    rintro e w' ⟨h, hB⟩
    rcases h with ⟨_, rfl⟩ | ⟨q, _⟩
    · exact ⟨rfl, hB⟩
    · exact absurd q he
  have hcb : (oneE r ns t == 0) = false := by simp [he]
  have hcn : (oneE r ns t != 0) = true := by simp [he]
  clear he hN
  generalize oneE r ns t = C at *
  have hb0 : Below w.heap.size w ((w.alloc (.cells #[.int .i64 r, .slice a ns.length cap] 24)).alloc (.cells #[.int .i64 t.op, .int .i64 t.a, .int .i64 t.b] 26)) := ((Below.refl _ w).alloc (Nat.le_refl _) _).alloc (by simp) _
  have hp0 : ((w.alloc (.cells #[.int .i64 r, .slice a ns.length cap] 24)).alloc (.cells #[.int .i64 t.op, .int .i64 t.a, .int .i64 t.b] 26)).heap[w.heap.size]? = some (.cells #[.int .i64 r, .slice a ns.length cap] 24 (0, 0)) := by
    have := World.alloc_heap_new w (.cells #[.int .i64 r, .slice a ns.length cap] 24)
    exact (Below.heap_alloc _ _ _ (by simp; try omega)).trans this
  have ht0 : ((w.alloc (.cells #[.int .i64 r, .slice a ns.length cap] 24)).alloc (.cells #[.int .i64 t.op, .int .i64 t.a, .int .i64 t.b] 26)).heap[w.heap.size + 1]? = some (.cells #[.int .i64 t.op, .int .i64 t.a, .int .i64 t.b] 26 (0, 0)) := by
    have := World.alloc_heap_new (w.alloc (.cells #[.int .i64 r, .slice a ns.length cap] 24)) (.cells #[.int .i64 t.op, .int .i64 t.a, .int .i64 t.b] 26)
    simp only [World.size_alloc] at this
    exact this
  go_enter Tryz.func7, Tryz.ntmps7
  go_upto_region 1 with fail
  generalize ((w.alloc (.cells #[.int .i64 r, .slice a ns.length cap] 24)).alloc (.cells #[.int .i64 t.op, .int .i64 t.a, .int .i64 t.b] 26)) = W0 at hb0 hp0 ht0 ⊢
  have p0 := blk_cell hp0 0
  have p1 := blk_cell hp0 1
  have t0 := blk_cell ht0 0
  have t1 := blk_cell ht0 1
  have t2 := blk_cell ht0 2
  simp at p0 p1 t0 t1 t2
  have pl := blk_lt hp0
  have tl := blk_lt ht0
  have HB0 := hide hb0
  clear hb0 hp0 ht0
  go_wp2_with fail
  refine (HON.out _ HB0.out).mono ?_
  rintro e w1 ⟨rfl, hb1⟩
  have hb1' := hb1.alloc hb1.size (.cells #[.int .i64 0, .slice none 0 0] 24)
  have HB1 := hide (HB0.out.trans (hb1'.mono HB0.out.size))
  clear hb1 hb1' HB0 p0 p1 pl t0 t1 t2 tl HON
  go_upto_region 2 with fail
  generalize (w1.alloc (.cells #[.int .i64 0, .slice none 0 0] 24)) = W1 at HB1 ⊢
  generalize w1.heap.size = QB
  go_wp2_with fail
  refine (moveBegun_any _).mono ?_
  rintro e w4 ⟨rfl, hb4⟩
  go_wp2
  go_ret
  exact ⟨by first | rfl | simp, HB1.out.trans (hb4.mono HB1.out.size)⟩

set_option maxHeartbeats 8000000 in
set_option maxRecDepth 100000 in
theorem moveOnce_right (r : Int) (b off cap : Nat) (ns : List Nd) (t : Tm) (w : World) (hN : NodesAt w b off ns) (he : oneE r ns t = 0) :
    Calls Tryz.prog 7 #[.agg #[.int .i64 r, .slice (some ⟨b, off, none⟩) ns.length cap], .agg #[.int .i64 t.op, .int .i64 t.a, .int .i64 t.b]] w fun e w' => e = .returned (.bool true) ∧ Below w.heap.size w w' := by
  have ho := oneE_ok he
  have hr := (chk_full ho.ck).2.1
  have hcm := ho.next
  have er : ((r.toNat : Nat) : Int) = r := by omega
  have hfm := (chk_full hcm)
  obtain ⟨hbm, hqm⟩ := one_once (r := r.toNat) (ns := ns) (t := t) (by rw [er]; exact ho.ck) (by rw [er]; exact ho.tm) ho.len (by rw [er]; exact hfm.1.2) (by rw [er]; exact hfm.2.1.2)
  rw [er] at hbm hqm
  have hlm : (oneQ (oneN ns t r)).length ≤ 256 := by
    rw [hqm]
    split
    · exact hfm.1.2
    · exact ho.len
  have htm : TmOk (oneR ns t r) t := ⟨ho.tm.op, by have := ho.tm.a; have := oneR_le ns t r; omega, by have := ho.tm.b; have := oneR_le ns t r; omega⟩
  have hE2 : oneE (oneR ns t r) (oneN ns t r) t = 0 := ok_oneE ⟨hcm, hlm, htm, fun q => by rw [hbm] at q; cases q⟩
  have hN2 : oneN (oneN ns t r) t (oneR ns t r) = oneN ns t r := by rw [oneN, hbm]; rfl
  have hR2 : oneR (oneN ns t r) t (oneR ns t r) = oneR ns t r := by rw [oneR, hbm]; rfl
  have HON : Hid (∀ W, Below w.heap.size w W → Calls Tryz.prog 9 #[.agg #[.int .i64 r, .slice (some ⟨b, off, none⟩) ns.length cap], .agg #[.int .i64 t.op, .int .i64 t.a, .int .i64 t.b]] W fun e w' => ∃ gb gc, e = .returned (.tuple #[.agg #[.int .i64 (oneR ns t r), .slice (some ⟨gb, 0, none⟩) (oneN ns t r).length gc], .int .i64 0]) ∧ NodesAt w' gb 0 (oneN ns t r) ∧ Below W.heap.size W w') := fun W h => by
    refine (one_any r _ cap ns t W (Or.inr ⟨b, off, rfl, hN.below h hN.lt⟩)).mono ?_
    rintro e w' ⟨h, hB⟩
    rcases h with ⟨q, _⟩ | ⟨_, gb, gc, rfl, hV⟩
    · exact absurd he q
    · exact ⟨gb, gc, rfl, len_row hV hfm.1.1, hB⟩
  have HO2 : Hid (∀ W gb gc, NodesAt W gb 0 (oneN ns t r) → Calls Tryz.prog 9 #[.agg #[.int .i64 (oneR ns t r), .slice (some ⟨gb, 0, none⟩) (oneN ns t r).length gc], .agg #[.int .i64 t.op, .int .i64 t.a, .int .i64 t.b]] W fun e w' => ∃ hb hc, e = .returned (.tuple #[.agg #[.int .i64 (oneR ns t r), .slice (some ⟨hb, 0, none⟩) (oneN ns t r).length hc], .int .i64 0]) ∧ NodesAt w' hb 0 (oneN ns t r) ∧ Below W.heap.size W w') := fun W gb gc h => by
    refine (one_any (oneR ns t r) _ gc (oneN ns t r) t W (Or.inr ⟨gb, 0, rfl, h⟩)).mono ?_
    rintro e w' ⟨h, hB⟩
    rw [hE2, hN2, hR2] at h
    rcases h with ⟨q, _⟩ | ⟨_, gb, gc, rfl, hV⟩
    · exact absurd rfl q
    · exact ⟨gb, gc, rfl, len_row hV hfm.1.1, hB⟩
  have HTR := hide (fun (W : World) (gb gc : Nat) (h : NodesAt W gb 0 (oneN ns t r)) => trim_fit (oneR ns t r) gb 0 gc (oneN ns t r) W h hcm)
  have HSP := hide (fun (W : World) (tb tq tc : Nat) (h : NodesAt W tb tq (trimN (oneN ns t r))) => split_fit (oneR ns t r) tb tq tc (trimN (oneN ns t r)) W h (trim_chk hcm) hlm)
  have hlm' := hfm.1.2
  clear ho hr hcm er hfm hbm hqm hlm htm hE2 hN2 hR2 he hN
  generalize splitN (trimN (oneN ns t r)) = ss at HSP
  generalize trimN (oneN ns t r) = us at HTR HSP
  generalize oneN ns t r = ms at *
  generalize oneR ns t r = q at *
  have hb0 : Below w.heap.size w ((w.alloc (.cells #[.int .i64 r, .slice (some ⟨b, off, none⟩) ns.length cap] 24)).alloc (.cells #[.int .i64 t.op, .int .i64 t.a, .int .i64 t.b] 26)) := ((Below.refl _ w).alloc (Nat.le_refl _) _).alloc (by simp) _
  have hp0 : ((w.alloc (.cells #[.int .i64 r, .slice (some ⟨b, off, none⟩) ns.length cap] 24)).alloc (.cells #[.int .i64 t.op, .int .i64 t.a, .int .i64 t.b] 26)).heap[w.heap.size]? = some (.cells #[.int .i64 r, .slice (some ⟨b, off, none⟩) ns.length cap] 24 (0, 0)) := by
    have := World.alloc_heap_new w (.cells #[.int .i64 r, .slice (some ⟨b, off, none⟩) ns.length cap] 24)
    exact (Below.heap_alloc _ _ _ (by simp; try omega)).trans this
  have ht0 : ((w.alloc (.cells #[.int .i64 r, .slice (some ⟨b, off, none⟩) ns.length cap] 24)).alloc (.cells #[.int .i64 t.op, .int .i64 t.a, .int .i64 t.b] 26)).heap[w.heap.size + 1]? = some (.cells #[.int .i64 t.op, .int .i64 t.a, .int .i64 t.b] 26 (0, 0)) := by
    have := World.alloc_heap_new (w.alloc (.cells #[.int .i64 r, .slice (some ⟨b, off, none⟩) ns.length cap] 24)) (.cells #[.int .i64 t.op, .int .i64 t.a, .int .i64 t.b] 26)
    simp only [World.size_alloc] at this
    exact this
  go_enter Tryz.func7, Tryz.ntmps7
  go_upto_region 1 with fail
  generalize ((w.alloc (.cells #[.int .i64 r, .slice (some ⟨b, off, none⟩) ns.length cap] 24)).alloc (.cells #[.int .i64 t.op, .int .i64 t.a, .int .i64 t.b] 26)) = W0 at hb0 hp0 ht0 ⊢
  have p0 := blk_cell hp0 0
  have p1 := blk_cell hp0 1
  have t0 := blk_cell ht0 0
  have t1 := blk_cell ht0 1
  have t2 := blk_cell ht0 2
  simp at p0 p1 t0 t1 t2
  have pl := blk_lt hp0
  have tl := blk_lt ht0
  have HB0 := hide hb0
  have HT0 := hide ht0
  clear hb0 hp0 ht0
  go_wp2_with fail
  refine (HON.out _ HB0.out).mono ?_
  rintro e w1 ⟨gb, gc, rfl, hN1, hb1⟩
  have hx1 : Below w1.heap.size w1 (w1.alloc (.cells #[.int .i64 q, .slice (some ⟨gb, 0, none⟩) ms.length gc] 24)) := (Below.refl _ w1).alloc (Nat.le_refl _) _
  have hq1 : (w1.alloc (.cells #[.int .i64 q, .slice (some ⟨gb, 0, none⟩) ms.length gc] 24)).heap[w1.heap.size]? = some (.cells #[.int .i64 q, .slice (some ⟨gb, 0, none⟩) ms.length gc] 24 (0, 0)) := World.alloc_heap_new w1 _
  have hb1' := hb1.trans (hx1.mono hb1.size)
  have HB1 := hide (HB0.out.trans (hb1'.mono HB0.out.size))
  have HT1 := hide ((hb1'.block _ (blk_lt HT0.out)).trans HT0.out)
  have HN1 := hide (hN1.below hx1 hN1.lt)
  clear hb1 hb1' hx1 hN1 HB0 HT0 p0 p1 pl t0 t1 t2 tl HON
  go_upto_region 4 with fail
  generalize (w1.alloc (.cells #[.int .i64 q, .slice (some ⟨gb, 0, none⟩) ms.length gc] 24)) = W1 at HB1 HT1 HN1 hq1 ⊢
  generalize w1.heap.size = QB at hq1 ⊢
  have q0 := blk_cell hq1 0
  have q1 := blk_cell hq1 1
  simp at q0 q1
  have ql := blk_lt hq1
  have HQ1 := hide hq1
  clear hq1
  go_wp2_with fail
  refine (HTR.out _ gb gc HN1.out).mono ?_
  rintro e w2 ⟨tb, tq, tc, rfl, hN2, hb2⟩
  have hx2 : Below w2.heap.size w2 (w2.alloc (.cells #[.int .i64 q, .slice (some ⟨tb, tq, none⟩) us.length tc] 24)) := (Below.refl _ w2).alloc (Nat.le_refl _) _
  have hq2 : (w2.alloc (.cells #[.int .i64 q, .slice (some ⟨tb, tq, none⟩) us.length tc] 24)).heap[w2.heap.size]? = some (.cells #[.int .i64 q, .slice (some ⟨tb, tq, none⟩) us.length tc] 24 (0, 0)) := World.alloc_heap_new w2 _
  have hb2' := hb2.trans (hx2.mono hb2.size)
  have HB2 := hide (HB1.out.trans (hb2'.mono HB1.out.size))
  have HT2 := hide ((hb2'.block _ (blk_lt HT1.out)).trans HT1.out)
  have HQ2 := hide ((hb2'.block _ (blk_lt HQ1.out)).trans HQ1.out)
  have HN2 := hide (HN1.out.below hb2' HN1.out.lt)
  have HU2 := hide (hN2.below hx2 hN2.lt)
  clear hb2 hb2' hx2 hN2 HB1 HT1 HN1 HQ1 q0 q1 ql HTR
  go_upto_region 5 with fail
  generalize (w2.alloc (.cells #[.int .i64 q, .slice (some ⟨tb, tq, none⟩) us.length tc] 24)) = W2 at HB2 HT2 HQ2 HN2 HU2 hq2 ⊢
  generalize w2.heap.size = UB at hq2 ⊢
  have q0 := blk_cell hq2 0
  have q1 := blk_cell hq2 1
  simp at q0 q1
  have ql := blk_lt hq2
  clear hq2
  go_wp2_with fail
  refine (HSP.out _ tb tq tc HU2.out).mono ?_
  rintro e w3 ⟨sb, sq, sc, rfl, hN3, hb3⟩
  have hx3 : Below w3.heap.size w3 (w3.alloc (.cells #[.int .i64 q, .slice (some ⟨sb, sq, none⟩) ss.length sc] 24)) := (Below.refl _ w3).alloc (Nat.le_refl _) _
  have hq3 : (w3.alloc (.cells #[.int .i64 q, .slice (some ⟨sb, sq, none⟩) ss.length sc] 24)).heap[w3.heap.size]? = some (.cells #[.int .i64 q, .slice (some ⟨sb, sq, none⟩) ss.length sc] 24 (0, 0)) := World.alloc_heap_new w3 _
  have hb3' := hb3.trans (hx3.mono hb3.size)
  have HB3 := hide (HB2.out.trans (hb3'.mono HB2.out.size))
  have HT3 := hide ((hb3'.block _ (blk_lt HT2.out)).trans HT2.out)
  have HQ3 := hide ((hb3'.block _ (blk_lt HQ2.out)).trans HQ2.out)
  have HN3 := hide (HN2.out.below hb3' HN2.out.lt)
  clear hb3 hb3' hx3 hq3 hN3 HB2 HT2 HN2 HQ2 HU2 q0 q1 ql HSP
  go_upto_region 6 with fail
  generalize (w3.alloc (.cells #[.int .i64 q, .slice (some ⟨sb, sq, none⟩) ss.length sc] 24)) = W3 at HB3 HT3 HQ3 HN3 ⊢
  generalize w3.heap.size = SB
  have q0 := blk_cell HQ3.out 0
  have q1 := blk_cell HQ3.out 1
  have t0 := blk_cell HT3.out 0
  have t1 := blk_cell HT3.out 1
  have t2 := blk_cell HT3.out 2
  simp at q0 q1 t0 t1 t2
  have ql := blk_lt HQ3.out
  have tl := blk_lt HT3.out
  go_wp2_with fail
  refine (HO2.out _ gb gc HN3.out).mono ?_
  rintro e w4 ⟨nb, nc, rfl, hN4, hb4⟩
  have hx4 : Below w4.heap.size w4 (w4.alloc (.cells #[.int .i64 q, .slice (some ⟨nb, 0, none⟩) ms.length nc] 24)) := (Below.refl _ w4).alloc (Nat.le_refl _) _
  have hq4 : (w4.alloc (.cells #[.int .i64 q, .slice (some ⟨nb, 0, none⟩) ms.length nc] 24)).heap[w4.heap.size]? = some (.cells #[.int .i64 q, .slice (some ⟨nb, 0, none⟩) ms.length nc] 24 (0, 0)) := World.alloc_heap_new w4 _
  have hb4' := hb4.trans (hx4.mono hb4.size)
  have HB4 := hide (HB3.out.trans (hb4'.mono HB3.out.size))
  have HQ4 := hide ((hb4'.block _ (blk_lt HQ3.out)).trans HQ3.out)
  have HN4 := hide (HN3.out.below hb4' HN3.out.lt)
  have HM4 := hide (hN4.below hx4 hN4.lt)
  clear hb4 hb4' hx4 hN4 HB3 HT3 HN3 HQ3 q0 q1 ql t0 t1 t2 tl HO2
  go_upto_region 9 with fail
  generalize (w4.alloc (.cells #[.int .i64 q, .slice (some ⟨nb, 0, none⟩) ms.length nc] 24)) = W4 at HB4 HQ4 HN4 HM4 hq4 ⊢
  generalize w4.heap.size = RB at hq4 ⊢
  have HR4 := hide hq4
  clear hq4
  go_wp2_with fail
  refine (moveBegun_any _).mono ?_
  rintro e w5 ⟨rfl, hb5⟩
  have HB5 := hide (HB4.out.trans (hb5.mono HB4.out.size))
  have hQ5 := (hb5.block _ (blk_lt HQ4.out)).trans HQ4.out
  have hR5 := (hb5.block _ (blk_lt HR4.out)).trans HR4.out
  have HN5 := hide (show SlN w5 (some ⟨gb, 0, none⟩) ms from Or.inr ⟨gb, 0, rfl, HN4.out.below hb5 HN4.out.lt⟩)
  have HM5 := hide (show SlN w5 (some ⟨nb, 0, none⟩) ms from Or.inr ⟨nb, 0, rfl, HM4.out.below hb5 HM4.out.lt⟩)
  have q0 := blk_cell hQ5 0
  have q1 := blk_cell hQ5 1
  have r0 := blk_cell hR5 0
  have r1 := blk_cell hR5 1
  simp at q0 q1 r0 r1
  have ql := blk_lt hQ5
  have rl := blk_lt hR5
  clear hb5 HB4 HQ4 HR4 HN4 HM4 hQ5 hR5
  go_wp2_with fail
  refine (sameProgs_same q (some ⟨nb, 0, none⟩) (some ⟨gb, 0, none⟩) nc gc ms w5 HM5.out HN5.out (by omega)).mono ?_
  rintro e w6 ⟨rfl, hb6⟩
  go_wp2
  go_ret
  exact ⟨by first | rfl | simp, HB5.out.trans (hb6.mono HB5.out.size)⟩

end Go.Proofs.YtoikglgnmjjpcabGreat

namespace Go.Proofs.YtoikglgnmjjpcabGreat
open Go.ChangeShapes Go.WideShapes Go.ChangeAt Go.RowKit
set_option linter.unusedVariables false

theorem moveOnce_any (r : Int) (a : Option Addr) (cap : Nat) (ns : List Nd) (t : Tm) (w : World) (hN : SlN w a ns) :
    Calls Tryz.prog 7 #[.agg #[.int .i64 r, .slice a ns.length cap], .agg #[.int .i64 t.op, .int .i64 t.a, .int .i64 t.b]] w fun e w' => e = .returned (.bool true) ∧ Below w.heap.size w w' := by
  by_cases he : oneE r ns t = 0
  · obtain ⟨b, off, rfl, hNb⟩ := hN.some (chk_zero (oneE_ok he).ck).1.1
    exact moveOnce_right r b off cap ns t w hNb he
  · exact moveOnce_wrong r a cap ns t w hN he

set_option maxRecDepth 100000 in
theorem moveOnce_lifted (os : Os) (started : os.Started) (H : Type) (enc : TypeId × Value → H) :
    ReturnsInHanded {} Tryz.checked os 7 .any (Rows.moveOnceSpec.pre6 enc Tryz.prog Tryz.f7 Rows.moveOnceRow.domain false) (Rows.moveOnceSpec.post enc Tryz.prog Tryz.f7 false true false false) := by
  refine returnsInHanded_of_change (C := Tryz.checked) own started (by kernel_rfl) Tryz.func7
    (ChangeSpec.witness6 (enc := enc) (C := Tryz.checked) false ⟨#[], #[.agg #[.int .i64 0, .slice none 0 0], .agg #[.int .i64 0, .int .i64 0, .int .i64 0]], []⟩ 8 (by kernel_rfl) (by kernel_rfl) (by kernel_rfl) (by kernel_rfl)) ?_
  intro W base args ds gs before hval0 hW hcnd _
  have hval : ∀ (j : Nat) t v, Tryz.f7.params[j]? = some t → args[j]? = some v → Value.okWide Tryz.prog W .any base t v := hval0
  have hW' := hW
  obtain ⟨p, q, hA0, hV, rfl, hfz, hnd⟩ := hW
  have hA : DataW.TrodAll enc Tryz.prog W 0 (fun _ => true) true Tryz.f7.params.toList args.toList ds p := hA0
  rw [Tryz.params7] at hA hval
  obtain ⟨v0, vs0, d0, ds0, p0, q0, hargs, rfl, rfl, h0, r0⟩ := trodAll_cons hA
  obtain ⟨v1, vs1, d1, ds1, p1, q1, rfl, rfl, rfl, h1, r1⟩ := trodAll_cons r0
  obtain ⟨rfl, rfl, rfl⟩ := trodAll_nil r1
  obtain rfl : args = #[v0, v1] := by cases args; simp_all
  obtain ⟨rfl, rfl⟩ := trodVars_none hV
  have k0 := h0
  have lt0 : ∀ x ∈ p0, x.block < W.heap.size := by obtain ⟨m, hm⟩ := k0; exact DataW.trod_lt m _ _ _ hm
  have k1 := h1
  have lt1 : ∀ x ∈ p1, x.block < W.heap.size := by obtain ⟨m, hm⟩ := k1; exact DataW.trod_lt m _ _ _ hm
  obtain ⟨r, a, cap, ns, rfl, hN, hl⟩ := open_prog (hval 0 24 v0 rfl rfl) h0
  obtain ⟨tm, rfl⟩ := open_term (hval 1 26 v1 rfl rfl) h1
  clear hA0 hval0
  refine (moveOnce_any r a cap ns tm W hN).mono fun e W' ⟨he, bel⟩ => ?_
  subst he
  exact ⟨_, rfl, _, _, _, [], _, [], hW', trodAll_mk1 (shut_bool Tryz.underlying4 _), (trodAll_cons_mk (Below.trod laidOut (by kernel_rfl) (of_decide_eq_true (by kernel_rfl)) k0 bel lt0) (trodAll_cons_mk (Below.trod laidOut (by kernel_rfl) (of_decide_eq_true (by kernel_rfl)) k1 bel lt1) trodAll_mk0)), rfl, bel.frame _, fun h => by cases h⟩

theorem moveOnce_over : Rows.moveOnceRow.holds Tryz.pinned (OpenSpec.ofChange Rows.moveOnceSpec) :=
  OpenClaim.holds_of_wide 7 Tryz.f7 rfl rfl rfl rfl rfl rfl rfl ⟨rfl, rfl, rfl, rfl, rfl⟩ rfl rfl rfl rfl rfl (by kernel_rfl) Tryz.func7 (by kernel_rfl)
    (of_decide_eq_true (by kernel_rfl)) (by unfold Func.isWrapper; first | (rw [if_pos (by decide +kernel)]; kernel_rfl) | (rw [if_neg (by decide +kernel)]; exact ⟨rfl, rfl⟩))
    (fun os started H enc _ => moveOnce_lifted os started H enc)

theorem moveOnce_holds : Rows.MoveOnceSaid := moveOnce_over
#print axioms moveOnce_holds
end Go.Proofs.YtoikglgnmjjpcabGreat
