/-
  hoistwaylaw.moveBegun, walked.
  What One, All, Busy, Rival and Apply make, as far as what a program does is asked.
  How a list of yes and no lies that came in.
  What MoveLeast needs besides: a list of yes and no that grows, and Apply by places that are known.
-/
import Derived.Test.YtoikglgnmjjpcabGreatX1
import Derived.Test.YtoikglgnmjjpcabGreatX5
import Derived.Test.YtoikglgnmjjpcabGreatX6
import Derived.Test.YtoikglgnmjjpcabGreatX10
import Derived.Test.YtoikglgnmjjpcabGreatX12
import Derived.Laws.StructEq
namespace Go.Proofs.YtoikglgnmjjpcabGreat
open Go.RowKit Go.Shelf
set_option linter.unusedVariables false
set_option linter.unusedSimpArgs false

def smT : Tm := ⟨3, 0, 1⟩
def smQ : List Nd := [⟨9, 0, 0, 0, 1, 0⟩, ⟨9, 1, 0, 0, 2, 0⟩, ⟨11, 0, 0, 0, 3, 7⟩, ⟨3, 2, 0, 1, 4, 0⟩, ⟨10, 0, 2, 0, 8, 0⟩, ⟨3, 2, 0, 1, 6, 0⟩, ⟨12, 0, 2, 0, 0, 0⟩, ⟨0, 0, 0, 0, 5, 0⟩, ⟨0, 0, 0, 0, 5, 0⟩]
def smM : List Nd := [⟨9, 0, 0, 0, 1, 0⟩, ⟨9, 1, 0, 0, 2, 0⟩, ⟨11, 0, 0, 0, 3, 7⟩, ⟨3, 3, 0, 1, 9, 0⟩, ⟨10, 0, 2, 0, 8, 0⟩, ⟨2, 2, 3, 0, 6, 0⟩, ⟨12, 0, 2, 0, 0, 0⟩, ⟨3, 3, 0, 1, 10, 0⟩, ⟨0, 0, 0, 0, 5, 0⟩, ⟨2, 2, 3, 0, 4, 0⟩, ⟨0, 0, 0, 0, 5, 0⟩]
theorem sm_trim : trimN smallN = smallN := by kernel_rfl
theorem sm_split : splitN smallN = smQ := by kernel_rfl
theorem sm_one : oneQ smallN = smQ := by unfold oneQ; rw [sm_trim, sm_split]
theorem sm_down : downL smQ smT = [false, false, true, true, true, true, false, true, true] := by kernel_rfl
theorem sm_up : upL smQ smT = [false, false, false, false, true, false, true, false, true] := by kernel_rfl
theorem sm_early : earlyL smQ smT = [false, false, true, false, false, false, false, false, false] := by unfold earlyL; rw [sm_down, sm_up]; kernel_rfl
theorem sm_delay : delayL smQ smT = [false, false, true, true, false, false, false, true, false] := by unfold delayL delayW; rw [sm_early]; kernel_rfl
theorem sm_late : lateL smQ smT = [false, false, false, true, false, false, false, true, false] := by unfold lateL; rw [sm_delay]; kernel_rfl
theorem sm_alone : aloneL smQ smT = [true, true, true, false, false, true, true, false, false] := by unfold aloneL aloneW; rw [sm_late]; kernel_rfl
theorem sm_put : lazyPut smQ smT = [false, false, false, true, false, false, false, true, false] := by unfold lazyPut; rw [sm_late, sm_alone]; kernel_rfl
theorem sm_take : lazyTake smQ smT = [false, false, false, true, false, true, false, false, false] := by unfold lazyTake; rw [sm_late, sm_alone]; kernel_rfl
theorem sm_B : oneB smallN smT = true := by unfold oneB; rw [sm_one, sm_put]; rfl
theorem sm_N : oneN smallN smT 3 = smM := by unfold oneN; rw [sm_B, if_pos rfl, sm_one, sm_put, sm_take]; kernel_rfl
theorem sm_R : oneR smallN smT 3 = 4 := by unfold oneR; rw [sm_B]; rfl
theorem sm_chk : chk 3 smallN = 0 := by kernel_rfl
theorem sm_E : oneE 3 smallN smT = 0 := by
  unfold oneE
  rw [sm_chk, sm_one, sm_B, sm_N]
  rfl
theorem sm_down0 : downL smallN smT = [false, false, true, true, true, true, false] := by kernel_rfl
theorem sm_up0 : upL smallN smT = [false, false, false, false, true, false, true] := by kernel_rfl
theorem sm_early0 : busyPut smallN smT = [false, false, true, false, false, false, false] := by
  have e : earlyL smallN smT = [false, false, true, false, false, false, false] := by unfold earlyL; rw [sm_down0, sm_up0]; kernel_rfl
  unfold busyPut
  rw [e]; rfl
theorem sm_r0 : (fin 4 smM [4, 5] 99).out = [9] := by kernel_rfl
theorem sm_r1 : (fin 4 smM [4, 5] 99).ret = 9 := by kernel_rfl
theorem sm_r2 : (fin 4 smM [4, 5] 99).ended = true := by kernel_rfl
theorem sm_r3 : (fin 4 smM [4, 5] 99).steps = 9 := by kernel_rfl
theorem sm_r4 : (fin 4 smM [4, 5] 99).cts = [⟨⟨3, 0, 1⟩, 1⟩] := by kernel_rfl
theorem sm_rE : rerr 4 smM 2 99 = 0 := by kernel_rfl
theorem sm_tchk : tchk 3 smallN smT = 0 := by kernel_rfl

theorem one_smallM (b : Nat) (w : World) (hN : NodesAt w b 0 smallN) :
    Calls Tryz.prog 9 #[.agg #[.int .i64 3, .slice (some ⟨b, 0, none⟩) 7 7], .agg #[.int .i64 3, .int .i64 0, .int .i64 1]] w fun e w' => ∃ gb gc, e = .returned (.tuple #[.agg #[.int .i64 4, .slice (some ⟨gb, 0, none⟩) 11 gc], .int .i64 0]) ∧ NodesAt w' gb 0 smM ∧ Below w.heap.size w w' := by
  refine (one_any 3 (some ⟨b, 0, none⟩) 7 smallN smT w (Or.inr ⟨b, 0, rfl, hN⟩)).mono ?_
  rintro e w' ⟨h, hB⟩
  rw [sm_E, sm_R, sm_N] at h
  rcases h with ⟨q, _⟩ | ⟨_, gb, gc, rfl, hV⟩
  · exact absurd rfl q
  · exact ⟨gb, gc, rfl, len_row hV (by decide), hB⟩

theorem run_smallM (b c bi : Nat) (w : World) (hN : NodesAt w b 0 smM) (hb : bi < w.heap.size) (h0 : w.cell? ⟨bi, 0, none⟩ = some (.int .i64 4)) (h1 : w.cell? ⟨bi, 1, none⟩ = some (.int .i64 5)) :
    Calls Tryz.prog 22 #[.agg #[.int .i64 4, .slice (some ⟨b, 0, none⟩) 11 c], .slice (some ⟨bi, 0, none⟩) 2 2, .int .i64 99] w fun e w' => ∃ ao co ac cc, e = .returned (.tuple #[.agg #[.slice ao 1 co, .int .i64 9, .bool true, .int .i64 9, .slice ac 1 cc], .int .i64 0]) ∧ CtsAt w' ac [⟨⟨3, 0, 1⟩, 1⟩] ∧ Below w.heap.size w w' := by
  refine (run_fit 4 b 0 c smM _ 2 [4, 5] 99 w hN (in_two hb h0 h1) (by simp) sm_rE).mono ?_
  rintro e w' ⟨ao, co, ac, cc, rfl, hI, hC, hb', _, _⟩
  rw [sm_r4] at hC
  exact ⟨ao, co, ac, cc, by rw [sm_r0, sm_r1, sm_r2, sm_r3, sm_r4]; rfl, hC, hb'⟩

theorem busy_smallM (b : Nat) (w : World) (hN : NodesAt w b 0 smallN) :
    Calls Tryz.prog 20 #[.agg #[.int .i64 3, .slice (some ⟨b, 0, none⟩) 7 7], .agg #[.int .i64 3, .int .i64 0, .int .i64 1]] w fun e w' => ∃ a1 o1 c1 a2 c2, e = .returned (.tuple #[.agg #[.slice (some ⟨a1, o1, none⟩) 7 c1, .slice a2 7 c2], .int .i64 0]) ∧ a1 < w'.heap.size ∧ w'.cell? ⟨a1, o1 + 2, none⟩ = some (.bool true) ∧ Below w.heap.size w w' := by
  refine (busy_right 3 b 0 7 smallN smT w hN sm_tchk).mono ?_
  rintro e w' ⟨a1, c1, a2, c2, rfl, hV1, _, hB⟩
  obtain ⟨k, o, rfl, hlt, h⟩ := (bools_owned hV1 (by simp [busyPut])).at (k := 2) (by simp [busyPut, smallN])
  refine ⟨k, o, c1, a2, c2, rfl, hlt, h 2 true ?_, hB⟩
  rw [sm_early0]; rfl

set_option maxHeartbeats 8000000 in
set_option maxRecDepth 100000 in
theorem moveBegun_any (w : World) :
    Calls Tryz.prog 15 #[] w fun e w' => e = .returned (.bool true) ∧ Below w.heap.size w w' := by
  go_enter Tryz.func15, Tryz.ntmps15
  go_wp2_with fail
  refine (small_any _).mono ?_
  rintro e w1 ⟨rfl, hN1, hb1⟩
  go_wp2_with fail
  refine (sum_any _).mono ?_
  rintro e w2 ⟨rfl, hb2⟩
  have hN2 := hN1.below hb2 hN1.lt
  have hB2 := hb1.trans (hb2.mono hb1.size)
  clear hN1 hb1 hb2
  go_wp2_with fail
  refine (one_smallM _ _ hN2).mono ?_
  rintro e w3 ⟨gb, gc, rfl, hN3, hb3⟩
  have hx3 : Below w3.heap.size w3 (w3.alloc (.cells #[.int .i64 4, .slice (some ⟨gb, 0, none⟩) 11 gc] 24)) := (Below.refl _ w3).alloc (Nat.le_refl _) _
  have hp3 : (w3.alloc (.cells #[.int .i64 4, .slice (some ⟨gb, 0, none⟩) 11 gc] 24)).heap[w3.heap.size]? = some (.cells #[.int .i64 4, .slice (some ⟨gb, 0, none⟩) 11 gc] 24 (0, 0)) := World.alloc_heap_new w3 _
  have HB3 := hide (hB2.trans ((hb3.trans (hx3.mono hb3.size)).mono hB2.size))
  have HN3 := hide (hN3.below hx3 hN3.lt)
  clear hN2 hB2 hb3 hN3 hx3
  go_upto_region 2 with fail
  generalize (w3.alloc (.cells #[.int .i64 4, .slice (some ⟨gb, 0, none⟩) 11 gc] 24)) = W3 at hp3 HB3 HN3 ⊢
  generalize w3.heap.size = PB at hp3 ⊢
  have p0 := blk_cell hp3 0
  have p1 := blk_cell hp3 1
  simp at p0 p1
  have pl := blk_lt hp3
  have HP3 := hide hp3
  clear hp3
  have hba : Below W3.heap.size W3 (W3.alloc (.cells #[.int .i64 4, .int .i64 5] 3)) := (Below.refl _ W3).alloc (Nat.le_refl _) _
  go_wp2_with fail
  refine (run_smallM gb gc _ _ (HN3.out.below hba HN3.out.lt) (by simp) (by simp) (by simp)).mono ?_
  rintro e w4 ⟨ao, co, ac, cc, rfl, hC4, hb4⟩
  have hb4' := hba.trans (hb4.mono hba.size)
  have hx4 : Below w4.heap.size w4 (w4.alloc (.cells #[.slice ao 1 co, .int .i64 9, .bool true, .int .i64 9, .slice ac 1 cc] 50)) := (Below.refl _ w4).alloc (Nat.le_refl _) _
  have hr4 : (w4.alloc (.cells #[.slice ao 1 co, .int .i64 9, .bool true, .int .i64 9, .slice ac 1 cc] 50)).heap[w4.heap.size]? = some (.cells #[.slice ao 1 co, .int .i64 9, .bool true, .int .i64 9, .slice ac 1 cc] 50 (0, 0)) := World.alloc_heap_new w4 _
  have hb4'' := hb4'.trans (hx4.mono hb4'.size)
  have HB4 := hide (HB3.out.trans (hb4''.mono HB3.out.size))
  have HP4 := hide ((hb4''.block _ pl).trans HP3.out)
  have HC4 := hide (hC4.below hx4)
  clear p0 p1 pl hba hb4 hb4' hb4'' hx4 hC4 HB3 HN3 HP3
  go_upto_region 3 with fail
  generalize (w4.alloc (.cells #[.slice ao 1 co, .int .i64 9, .bool true, .int .i64 9, .slice ac 1 cc] 50)) = W4 at hr4 HB4 HP4 HC4 ⊢
  generalize w4.heap.size = RB at hr4 ⊢
  have HR4 := hide hr4
  clear hr4
  go_wp2_with fail
  refine (small_any _).mono ?_
  rintro e w5 ⟨rfl, hN5, hb5⟩
  go_wp2_with fail
  refine (sum_any _).mono ?_
  rintro e w6 ⟨rfl, hb6⟩
  have hN6 := hN5.below hb6 hN5.lt
  have hb6' := hb5.trans (hb6.mono hb5.size)
  clear hN5 hb5 hb6
  go_wp2_with fail
  refine (busy_smallM _ _ hN6).mono ?_
  rintro e w7 ⟨a1, o1, c1, a2, c2, rfl, hl7, hc7, hb7⟩
  have hx7 : Below w7.heap.size w7 (w7.alloc (.cells #[.slice (some ⟨a1, o1, none⟩) 7 c1, .slice a2 7 c2] 29)) := (Below.refl _ w7).alloc (Nat.le_refl _) _
  have hl7' : (w7.alloc (.cells #[.slice (some ⟨a1, o1, none⟩) 7 c1, .slice a2 7 c2] 29)).heap[w7.heap.size]? = some (.cells #[.slice (some ⟨a1, o1, none⟩) 7 c1, .slice a2 7 c2] 29 (0, 0)) := World.alloc_heap_new w7 _
  have hb7' := hb6'.trans ((hb7.trans (hx7.mono hb7.size)).mono hb6'.size)
  have HB7 := hide (HB4.out.trans (hb7'.mono HB4.out.size))
  have HP7 := hide ((hb7'.block _ (blk_lt HP4.out)).trans HP4.out)
  have HR7 := hide ((hb7'.block _ (blk_lt HR4.out)).trans HR4.out)
  have HC7 := hide (HC4.out.below hb7')
  have HM7 := hide ((hx7.cell (p := ⟨a1, o1 + 2, none⟩) hl7).trans hc7)
  have hal : a1 < (w7.alloc (.cells #[.slice (some ⟨a1, o1, none⟩) 7 c1, .slice a2 7 c2] 29)).heap.size := by simp; omega
  clear hb6' hN6 hb7 hb7' hc7 hl7 hx7 HB4 HP4 HR4 HC4
  go_upto_region 4 with fail
  generalize (w7.alloc (.cells #[.slice (some ⟨a1, o1, none⟩) 7 c1, .slice a2 7 c2] 29)) = W7 at hl7' HB7 HP7 HR7 HC7 HM7 hal ⊢
  generalize w7.heap.size = LB at hl7' ⊢
  have HL7 := hide hl7'
  have HAL := hide hal
  have HS : Hid (∀ u : World, Below W7.heap.size W7 u → u.cell? ⟨PB, 0, none⟩ = some (.int .i64 4) ∧ u.cell? ⟨RB, 0, none⟩ = some (.slice ao 1 co) ∧ u.cell? ⟨RB, 1, none⟩ = some (.int .i64 9) ∧ u.cell? ⟨RB, 2, none⟩ = some (.bool true) ∧ u.cell? ⟨RB, 3, none⟩ = some (.int .i64 9) ∧ u.cell? ⟨RB, 4, none⟩ = some (.slice ac 1 cc) ∧ u.cell? ⟨LB, 0, none⟩ = some (.slice (some ⟨a1, o1, none⟩) 7 c1) ∧ u.cell? ⟨a1, o1 + 2, none⟩ = some (.bool true)) := fun u h => by
    have k1 := (h.block _ (blk_lt HP7.out)).trans HP7.out
    have k2 := (h.block _ (blk_lt HR7.out)).trans HR7.out
    have k3 := (h.block _ (blk_lt HL7.out)).trans HL7.out
    refine ⟨?_, ?_, ?_, ?_, ?_, ?_, ?_, (h.cell (p := ⟨a1, o1 + 2, none⟩) HAL.out).trans HM7.out⟩
    · rw [blk_cell k1]; rfl
    · rw [blk_cell k2]; rfl
    · rw [blk_cell k2]; rfl
    · rw [blk_cell k2]; rfl
    · rw [blk_cell k2]; rfl
    · rw [blk_cell k2]; rfl
    · rw [blk_cell k3]; rfl
  have l1 : PB < W7.heap.size := blk_lt HP7.out
  have l2 : RB < W7.heap.size := blk_lt HR7.out
  have l3 : LB < W7.heap.size := blk_lt HL7.out
  clear hl7'
  go_region_held3 (fun u => u.cell? ⟨PB, 0, none⟩ = some (.int .i64 4) ∧ u.cell? ⟨RB, 0, none⟩ = some (.slice ao 1 co) ∧ u.cell? ⟨RB, 1, none⟩ = some (.int .i64 9) ∧ u.cell? ⟨RB, 2, none⟩ = some (.bool true) ∧ u.cell? ⟨RB, 3, none⟩ = some (.int .i64 9) ∧ u.cell? ⟨RB, 4, none⟩ = some (.slice ac 1 cc) ∧ u.cell? ⟨LB, 0, none⟩ = some (.slice (some ⟨a1, o1, none⟩) 7 c1) ∧ u.cell? ⟨a1, o1 + 2, none⟩ = some (.bool true)) (first
    | (with_reducible refine HS.out _ ?_; first | with_reducible exact hB9 | with_reducible exact hB8 | with_reducible exact (Below.refl _ W7).drew | with_reducible exact (Below.refl _ W7))) (first
    | (go_at_call 23; refine (times_lit _ _ _ _ ac cc 1 _ HC7.out hB8).mono ?_; rintro e w9 ⟨rfl, hB9⟩)
    | (go_at_call 45; refine (sum_any _).mono ?_; rintro e w8 ⟨rfl, hb8⟩; have hB8 : Below W7.heap.size W7 w8 := (by first | exact (Below.refl _ W7).drew.trans hb8 | exact hb8)))
  all_goals go_wp2
  all_goals go_ret
  all_goals exact ⟨rfl, HB7.out.trans (hB9.mono HB7.out.size)⟩

end Go.Proofs.YtoikglgnmjjpcabGreat

namespace Go.Proofs.YtoikglgnmjjpcabGreat
open Go.RowKit Go.Shelf
set_option linter.unusedVariables false

theorem slN_nil (w : World) (g : Option Addr) : SlN w g [] := Or.inl rfl

theorem busyPut_eq (ns : List Nd) (t : Tm) : busyPut ns t = earlyL ns t := by
  refine bat_ext (by simp [busyPut, earlyL]) fun n hn => ?_
  have hn' : n < ns.length := by simpa [busyPut] using hn
  unfold busyPut
  rw [bat_map _ hn']
theorem busyTake_eq (ns : List Nd) (t : Tm) : busyTake ns t = rcl ns t := by
  refine bat_ext (by simp [busyTake, rcl]) fun n hn => ?_
  have hn' : n < ns.length := by simpa [busyTake] using hn
  unfold busyTake
  rw [bat_map _ hn']

theorem safe_takeOk {ns : List Nd} {t : Tm} {P T A : Nat → Bool} (h : Safe ns t P T A) : ∀ n, n < ns.length → T n = true → rcB t (nd ns n) = true := fun n hn q => (h.take n hn q).2

theorem tchk_chk {r : Int} {ns : List Nd} {t : Tm} (h : tchk r ns t = 0) : chk r ns = 0 := (tchk_zero h).1
theorem tchk_ok {r : Int} {ns : List Nd} {t : Tm} (h : tchk r ns t = 0) : TmOk r t := tmE_ok (by rw [← tchk_tmE (tchk_chk h)]; exact h)

end Go.Proofs.YtoikglgnmjjpcabGreat

namespace Go.Proofs.YtoikglgnmjjpcabGreat
open Go.ChangeShapes Go.WideShapes Go.ChangeAt Go.RowKit Go.Joins Go.Deep
set_option linter.unusedVariables false

set_option maxRecDepth 100000 in
theorem boolsM_of {H : Type} {enc : TypeId × Value → H} {W : World} {sp : Nat → Bool} {fuel : Nat} {v : Value} {y : DataW H × List MemPlace}
    (h : DataW.trod enc Tryz.prog W 0 sp true fuel 27 [v] = some y) : ∃ a cap l, v = .slice a (List.length l) cap ∧ BoolsAt W a l ∧ l.length ≤ 9223372036854775807 ∧ l.length ≤ cap := by
  rcases open_slice Tryz.underlying27 h with ⟨hcs, _⟩ | ⟨a, len, cap, m, n, D, Pl, hcs, _, hl, hm, hmm, _, hx⟩
  · simp at hcs
    exact ⟨none, 0, [], by simpa using hcs, Or.inl rfl, by simp, by simp⟩
  · simp at hcs
    subst hcs
    have hlm : len ≤ m := by rw [hmm]; split <;> omega
    obtain ⟨F, hF⟩ := choose_lt (α := Bool) (n := len) (p := fun i x => W.cell? ((a.add (i * 1)).add 0) = some (.bool x)) (fun i hi => by
      obtain ⟨cs', h1, h2⟩ := hx i (by omega)
      rw [cells_bool] at h1
      obtain ⟨_, hl1, hcell⟩ := World.cells?_some h1
      obtain ⟨z, e, _⟩ := DataW.trod_bool Tryz.underlying4 h2
      subst e
      exact ⟨z, hcell 0 (by omega)⟩)
    refine ⟨some a, cap, (List.range len).map F, by simp, ?_, by simp; unfold maxLen at hm; omega, by simp; omega⟩
    by_cases h0 : len = 0
    · subst h0; exact Or.inl rfl
    obtain ⟨b, off, spot⟩ := a
    have hc0 := hF 0 (by omega)
    have hspot : spot = none := by simpa [Addr.add] using World.cell?_spot hc0
    subst hspot
    have hblt : b < W.heap.size := by simpa [Addr.add] using block_lt_of_cell hc0
    refine Or.inr ⟨b, off, rfl, hblt, ?_⟩
    intro i x hi
    rw [List.getElem?_map, Option.map_eq_some_iff] at hi
    obtain ⟨j, hj, rfl⟩ := hi
    have hlt : i < len := by have := (List.getElem?_eq_some_iff.1 hj).1; simpa using this
    rw [List.getElem?_range hlt] at hj
    cases hj
    have := hF i hlt
    simpa only [add_lit', Nat.mul_one, Nat.add_zero] using this

set_option maxRecDepth 100000 in
theorem open_boolsM {H : Type} {enc : TypeId × Value → H} {W : World} {sp : Nat → Bool} {base : Nat} {v : Value} {d : DataW H} {p : List MemPlace}
    (hv : Value.okWide Tryz.prog W .any base 27 v) (h : DataW.Trod enc Tryz.prog W 0 sp true 27 v d p) :
    ∃ a cap l, v = .slice a (List.length l) cap ∧ BoolsAt W a l ∧ l.length ≤ 9223372036854775807 ∧ l.length ≤ cap := by
  obtain ⟨a, len, cap, rfl⟩ := okWide_slice Tryz.underlying27 hv
  obtain ⟨fuel, hf⟩ := h
  exact boolsM_of (v := .slice a len cap) hf

end Go.Proofs.YtoikglgnmjjpcabGreat

namespace Go.Proofs.YtoikglgnmjjpcabGreat
open Go.RowKit Go.Shelf
set_option linter.unusedVariables false
set_option linter.unusedSimpArgs false

theorem wpList_append_run {w w' : World} {ops : Array Oper} {rest : List Oper} {o : Oper} {a : Act} {Q : Exit → Act → World → Prop} (hgd : o.guard = none) (s x : Operand) (t : TypeId)
    (ho : o.op = .call { callee := .builtin .append, args := #[s, x], argTypes := #[t, t] }) {v xv v' : Value} (hs : a.eval s = v) (hx : a.eval x = xv) (hr : (Builtin.append_ #[t, t] o.type #[v, xv]).run Tryz.prog w = .ok v' w')
    (h : wpList Tryz.prog ops Q rest (a.put o.dst v') w') : wpList Tryz.prog ops Q (o :: rest) a w := by
  refine wpList_plain hgd fun K hK => ?_
  unfold Oper.wp execOp
  simp only [ho, resolve, invoke, builtin, Sem.run_bind, Sem.run_pure, Result.andThen_ok, List.map_toArray, List.map_cons, List.map_nil, hs, hx, hr]
  exact hK _ _ h

def slLen : Value → Nat
  | .slice _ n _ => n
  | _ => 0

theorem bools_news {w : World} {b off : Nat} {ps : List Bool} (h : ∀ (j : Nat) (z : Bool), ps[j]? = some z → w.cell? ⟨b, off + j, none⟩ = some (.bool z)) : ∀ j u, (ps.map Value.bool)[j]? = some u → w.cell? ((⟨b, off, none⟩ : Addr).add j) = some u := by
  intro j u hu
  rw [List.getElem?_map, Option.map_eq_some_iff] at hu
  obtain ⟨z, hz, rfl⟩ := hu
  rw [addr_add]
  exact h j z hz

theorem info_boolM : (Tryz.prog.info? 4).map (fun i => (i.zero, i.size, i.bytes)) = some (some (.bool false), 1, 1) := by kernel_rfl

theorem run_app1 (W : World) (ty : TypeId) (pa : Option Addr) (pc : Nat) (ps : List Bool) (hP : BoolsAt W pa ps) (hl : ps.length ≤ 100000) :
    ∃ v' w', (Builtin.append_ #[27, 27] ty #[.slice (some ⟨W.heap.size, 0, none⟩) 0 0, .slice pa ps.length pc]).run Tryz.prog (W.alloc (.cells #[] 4)) = .ok v' w' ∧ w'.ownsRow W.heap.size 4 1 v' ps.length (ps.map Value.bool) ∧ Below W.heap.size W w' := by
  obtain ⟨i0, hi, hz0, hz1, hz2⟩ := info_parts info_boolM
  have hb : Below W.heap.size W (W.alloc (.cells #[] 4)) := (Below.refl _ W).alloc (Nat.le_refl _) _
  have hown : (W.alloc (.cells #[] 4)).ownsRow W.heap.size 4 1 (.slice (some ⟨W.heap.size, 0, none⟩) 0 0) 0 [] := ⟨rfl, Or.inr ⟨W.heap.size, 0, #[], rfl, Nat.le_refl _, World.alloc_heap_new W _, Nat.le_refl _, by decide, rfl, rfl⟩⟩
  rcases hP with rfl | ⟨b, off, rfl, hlt, h⟩
  · refine ⟨.slice (some ⟨W.heap.size, 0, none⟩) 0 0, _, ?_, hown, hb⟩
    refine run_append_nothing _ 27 27 ty 4 i0 Tryz.underlying27 hi (some ⟨W.heap.size, 0, none⟩) 0 0 (Nat.le_refl _) _ ⟨Or.inl ⟨_, Tryz.underlying27⟩, fun w' => by simp [Builtin.lenOf], ?_, ?_, by simp, by simp⟩
    · cases pa <;> simp [Builtin.firstCells, loadCells, loadCellsFrom]
    · cases pa <;> simp [Builtin.firstCells, loadCells, loadCellsFrom]
  · have hn : ∀ (j : Nat) (z : Bool), ps[j]? = some z → (W.alloc (.cells #[] 4)).cell? ⟨b, off + j, none⟩ = some (.bool z) := fun j z hz => (hb.cell (p := ⟨b, off + j, none⟩) hlt).trans (h j z hz)
    obtain ⟨v', w', hr, hv, hg, -, -⟩ := run_append_own_at (P := Tryz.prog) (W.alloc (.cells #[] 4)) W.heap.size 27 ty 4 i0 (.bool false) 1 1 Tryz.underlying27 hi hz0 hz1 hz2 rfl (by decide) (.slice (some ⟨W.heap.size, 0, none⟩) 0 0) 0 [] hown ⟨b, off, none⟩ ps.length pc (ps.map Value.bool) (by simp) (bools_news hn) (by
        intro u hu
        obtain ⟨z, _, rfl⟩ := List.mem_map.1 hu
        rfl) (by unfold maxLen; omega) (by omega) (by simp)
    rw [Nat.zero_add, List.nil_append] at hv
    exact ⟨v', w', hr, hv, hb.grown hg hb.size (fun k e => by simp [Value.ownBlock] at e; omega)⟩

theorem run_app2 (W : World) (ty : TypeId) (v : Value) (ps : List Bool) (z : Bool) {base : Nat} (hV : W.ownsRow base 4 1 v ps.length (ps.map Value.bool)) (hbs : base ≤ W.heap.size) (hl : ps.length ≤ 100000) :
    ∃ g c w', (Builtin.append_ #[27, 27] ty #[v, .slice (some ⟨W.heap.size, 0, none⟩) 1 1]).run Tryz.prog (W.alloc (.cells #[.bool z] 4)) = .ok (.slice (some ⟨g, 0, none⟩) (ps ++ [z]).length c) w' ∧ BoolsAt w' (some ⟨g, 0, none⟩) (ps ++ [z]) ∧ (ps ++ [z]).length ≤ c ∧ Below base W w' := by
  obtain ⟨i0, hi, hz0, hz1, hz2⟩ := info_parts info_boolM
  have hb : Below base W (W.alloc (.cells #[.bool z] 4)) := (Below.refl _ W).alloc hbs _
  obtain ⟨v', w', hr, hv, hg, -, -⟩ := run_append_own_at (P := Tryz.prog) (W.alloc (.cells #[.bool z] 4)) base 27 ty 4 i0 (.bool false) 1 1 Tryz.underlying27 hi hz0 hz1 hz2 rfl (by decide) v ps.length (ps.map Value.bool) (hV.alloc _) ⟨W.heap.size, 0, none⟩ 1 1 [.bool z] (by simp) (by
      intro j u hu
      match j, hu with
      | 0, hu =>
        simp at hu
        subst hu
        rw [addr_add]
        simp) (by simp [Value.oneCell']) (by unfold maxLen; omega) (by omega) (by simp; omega)
  have e1 : (ps ++ [z]).length = ps.length + 1 := by simp
  have e2 : (ps ++ [z]).map Value.bool = ps.map Value.bool ++ [.bool z] := by simp
  rw [← e1, ← e2] at hv
  obtain ⟨g, c, rfl, h1, h2⟩ := hv.form (by omega)
  refine ⟨g, c, w', hr, bools_owned hv rfl, ?_, hb.grown hg (Nat.le_trans hbs hb.size) (fun k e => ?_)⟩
  · rcases hv.2 with ⟨q, _⟩ | ⟨g', c', cur, q, a1, a2, a3, a4, a5, a6⟩
    · cases q
    · cases q
      omega
  · rcases hV.2 with ⟨q, _⟩ | ⟨g', cap, cur, q, a1, a2, _⟩
    · rw [q] at e; simp [Value.ownBlock] at e
    · rw [q] at e
      simp [Value.ownBlock] at e
      omega

theorem busyL_any (r : Int) (b off cap : Nat) (ns : List Nd) (t : Tm) (w : World) (hN : NodesAt w b off ns) (hc : tchk r ns t = 0) :
    Calls Tryz.prog 20 #[.agg #[.int .i64 r, .slice (some ⟨b, off, none⟩) ns.length cap], .agg #[.int .i64 t.op, .int .i64 t.a, .int .i64 t.b]] w fun e w' => ∃ a1 c1 a2 c2, e = .returned (.tuple #[.agg #[.slice a1 ns.length c1, .slice a2 ns.length c2], .int .i64 0]) ∧ BoolsAt w' a1 (earlyL ns t) ∧ BoolsAt w' a2 (rcl ns t) ∧ Below w.heap.size w w' := by
  refine (busy_right r b off cap ns t w hN hc).mono ?_
  rintro e w' ⟨a1, c1, a2, c2, rfl, h1, h2, hB⟩
  rw [busyPut_eq] at h1
  rw [busyTake_eq] at h2
  exact ⟨a1, c1, a2, c2, rfl, bools_owned h1 (by simp [earlyL]), bools_owned h2 (by simp [rcl]), hB⟩

theorem rivalL_any (r : Int) (b off cap : Nat) (ns : List Nd) (t : Tm) (ua : Option Addr) (uc : Nat) (us : List Bool) (w : World) (hN : NodesAt w b off ns) (hc : tchk r ns t = 0) (hu : BoolsAt w ua us) (hl : us.length = ns.length) :
    Calls Tryz.prog 21 #[.agg #[.int .i64 r, .slice (some ⟨b, off, none⟩) ns.length cap], .agg #[.int .i64 t.op, .int .i64 t.a, .int .i64 t.b], .slice ua ns.length uc] w fun e w' => ∃ a1 c1 a2 c2, e = .returned (.tuple #[.agg #[.slice a1 ns.length c1, .slice a2 ns.length c2], .int .i64 0]) ∧ BoolsAt w' a1 (rivPut ns t us) ∧ BoolsAt w' a2 (rivTake ns t us) ∧ Below w.heap.size w w' := by
  have h := rival_right r b off cap ns t ua uc us w hN hc hu hl
  rw [hl] at h
  refine h.mono ?_
  rintro e w' ⟨a1, c1, a2, c2, rfl, h1, h2, hB⟩
  exact ⟨a1, c1, a2, c2, rfl, bools_owned h1 (by simp [rivPut]), bools_owned h2 (by simp [rivTake]), hB⟩

theorem rival_at1M (r : Int) (b off cap : Nat) (ns : List Nd) (t : Tm) (ua : Option Addr) (uc : Nat) (us : List Bool) (W : World) (hN : NodesAt W b off ns) (hc : tchk r ns t = 0) (hu : BoolsAt W ua us) (hl : us.length = ns.length) :
    Calls Tryz.prog 21 #[.agg #[.int .i64 r, .slice (some ⟨b, off, none⟩) ns.length cap], .agg #[.int .i64 t.op, .int .i64 t.a, .int .i64 t.b], .slice ua ns.length uc] W.drew fun e w' => ∃ a1 c1 a2 c2, e = .returned (.tuple #[.agg #[.slice a1 ns.length c1, .slice a2 ns.length c2], .int .i64 0]) ∧ BoolsAt w' a1 (rivPut ns t us) ∧ BoolsAt w' a2 (rivTake ns t us) ∧ Below W.heap.size W w' := by
  have hd := (Below.refl W.heap.size W).drew
  refine (rivalL_any r b off cap ns t ua uc us W.drew (hN.below hd hN.lt) hc (hu.below hd) hl).mono ?_
  rintro e w' ⟨a1, c1, a2, c2, rfl, h1, h2, hB⟩
  exact ⟨a1, c1, a2, c2, rfl, h1, h2, hd.trans hB⟩

theorem rival_at2M (r : Int) (b off cap : Nat) (ns : List Nd) (t : Tm) (ua : Option Addr) (uc : Nat) (us : List Bool) (W : World) (hN : NodesAt W b off ns) (hc : tchk r ns t = 0) (hu : BoolsAt W ua us) (hl : us.length = ns.length) :
    Calls Tryz.prog 21 #[.agg #[.int .i64 r, .slice (some ⟨b, off, none⟩) ns.length cap], .agg #[.int .i64 t.op, .int .i64 t.a, .int .i64 t.b], .slice ua ns.length uc] (W.alloc (.cells #[.slice none 0 0, .slice none 0 0] 29)).drew fun e w' => ∃ a1 c1 a2 c2, e = .returned (.tuple #[.agg #[.slice a1 ns.length c1, .slice a2 ns.length c2], .int .i64 0]) ∧ w'.heap[W.heap.size]? = some (.cells #[.slice none 0 0, .slice none 0 0] 29 (0, 0)) ∧
      (∀ v0 v1, BoolsAt ((w'.setCell ⟨W.heap.size, 0, none⟩ v0).setCell ⟨W.heap.size, 1, none⟩ v1) a1 (rivPut ns t us) ∧ BoolsAt ((w'.setCell ⟨W.heap.size, 0, none⟩ v0).setCell ⟨W.heap.size, 1, none⟩ v1) a2 (rivTake ns t us)) ∧ Below W.heap.size W w' := by
  have hd := ((Below.refl W.heap.size W).alloc (Nat.le_refl _) (.cells #[.slice none 0 0, .slice none 0 0] 29)).drew
  have hq : (W.alloc (.cells #[.slice none 0 0, .slice none 0 0] 29)).drew.heap[W.heap.size]? = some (.cells #[.slice none 0 0, .slice none 0 0] 29 (0, 0)) := World.alloc_heap_new W _
  have hs : (W.alloc (.cells #[.slice none 0 0, .slice none 0 0] 29)).drew.heap.size = W.heap.size + 1 := World.size_alloc W _
  have h := rival_right r b off cap ns t ua uc us _ (hN.below hd hN.lt) hc (hu.below hd) hl
  rw [hl] at h
  refine h.mono ?_
  rintro e w' ⟨a1, c1, a2, c2, rfl, h1, h2, hB⟩
  have hk := (hB.block _ (by omega)).trans hq
  refine ⟨a1, c1, a2, c2, rfl, hk, fun v0 v1 => ⟨?_, ?_⟩, hd.trans (hB.mono (by omega))⟩
  · exact bools_owned (owns_set (o := 1) (u := v1) (owns_set (o := 0) (u := v0) h1 hk (by decide)) (blk_set (i := 0) v0 hk) (by decide)) (by simp [rivPut])
  · exact bools_owned (owns_set (o := 1) (u := v1) (owns_set (o := 0) (u := v0) h2 hk (by decide)) (blk_set (i := 0) v0 hk) (by decide)) (by simp [rivTake])

theorem applyL_any (r : Int) (b off cap : Nat) (ns : List Nd) (t : Tm) (pa ta : Option Addr) (pc tc : Nat) (put tak : List Bool) (w : World) (hN : NodesAt w b off ns) (hc : tchk r ns t = 0) (e1 : put.length = ns.length) (e2 : tak.length = ns.length) (hp : BoolsAt w pa put) (ht : BoolsAt w ta tak) (hT : TakeOk ns t tak) :
    Calls Tryz.prog 8 #[.agg #[.int .i64 r, .slice (some ⟨b, off, none⟩) ns.length cap], .agg #[.int .i64 t.op, .int .i64 t.a, .int .i64 t.b], .agg #[.slice pa ns.length pc, .slice ta ns.length tc]] w fun e w' => ∃ g q ms c er, e = .returned (.tuple #[.agg #[.int .i64 q, .slice g (List.length ms) c], .int .i64 er]) ∧ SlN w' g ms ∧ (er = 0 → q = r + 1 ∧ ms = apN ns t put tak r ∧ chk q ms = 0) ∧ Below w.heap.size w w' := by
  refine (apply_right r b off cap ns t pa ta pc tc put tak w hN hc e1 e2 hp ht hT).mono ?_
  rintro e w' ⟨h, hB⟩
  rcases h with ⟨_, rfl⟩ | ⟨q, gb, gc, rfl, hV⟩
  · exact ⟨none, 0, [], 0, 2, rfl, slN_nil _ _, fun z => absurd z (by decide), hB⟩
  · have hcm := ap_chk (tchk_chk hc) (tchk_ok hc) (put := put) hT q.1 (by omega)
    exact ⟨some ⟨gb, 0, none⟩, r + 1, _, gc, 0, rfl, Or.inr ⟨gb, 0, rfl, len_row hV (chk_full hcm).1.1⟩, fun _ => ⟨rfl, rfl, hcm⟩, hB⟩

structure Least (r : Int) (ss : List Nd) (t : Tm) (jn : List Int) (σ : St) : Prop where
  busy : σ.ended = true → chk (r + 1) (apN ss t (earlyL ss t) (rcl ss t) r) = 0 → (res (r + 1) (apN ss t (earlyL ss t) (rcl ss t) r) jn 131072).ended = true ∧ tmo (res (r + 1) (apN ss t (earlyL ss t) (rcl ss t) r) jn 131072).cts t = tmo σ.cts t
  rival : ∀ put, σ.ended = true → chk (r + 1) (apN ss t (rivPut ss t put) (rivTake ss t put) r) = 0 → (res (r + 1) (apN ss t (rivPut ss t put) (rivTake ss t put) r) jn 131072).ended = true ∧ tmo σ.cts t ≤ tmo (res (r + 1) (apN ss t (rivPut ss t put) (rivTake ss t put) r) jn 131072).cts t

theorem least_of {r : Int} {us : List Nd} {t : Tm} (h : OneOk r us t) (hi : trimN us = us) {jn : List Int} (hj : jn.length ≤ 256) {F : Int} (h0 : 0 ≤ F) (h1 : F ≤ 32768) (hE : rerr (oneR us t r) (oneN us t r) jn.length F = 0) : Least r (splitN us) t jn (res (oneR us t r) (oneN us t r) jn F) := by
  have hr := (chk_full h.ck).2.1
  have er : ((r.toNat : Nat) : Int) = r := by omega
  have hl : (splitN us).length ≤ 256 := by have := h.len; unfold oneQ at this; rwa [hi] at this
  have e1 : (r + 1).toNat = r.toNat + 1 := by omega
  rw [res_fin hE]
  have key : ∀ he : (runN (oneN us t r) F.toNat (st0 (oneR us t r).toNat jn)).ended = true, _ := fun he => one_least (r := r.toNat) (by rw [er]; exact h.ck) hi (t := t) (by rw [er]; exact h.tm) hl jn (F := F.toNat) (by rw [er]; exact he) (M := 131072) (by omega)
  rw [er] at key
  have e2 : (131072 : Int).toNat = 131072 := rfl
  refine ⟨fun he hc => ?_, fun put he hc => ?_⟩
  · rw [res_fin (rerr_ok hc hj (by decide) (by decide)), e1, e2]
    exact (key he).1
  · rw [res_fin (rerr_ok hc hj (by decide) (by decide)), e1, e2]
    exact (key he).2 put

end Go.Proofs.YtoikglgnmjjpcabGreat
