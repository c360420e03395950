/-
  hoistwaylaw.moveBegun, walked.
  Operations of a region that draws its order, taken one by one: shorter words.
  hoistwaylaw.others, walked.
-/
import Derived.Test.YtoikglgnmjjpcabGreatS1
import Derived.Test.YtoikglgnmjjpcabGreatS5
import Derived.Test.YtoikglgnmjjpcabGreatS10
import Derived.Test.YtoikglgnmjjpcabGreatS12
import Derived.Deep.RegionHeld3
import Derived.Laws.StructEq
namespace Go.Proofs.YtoikglgnmjjpcabGreat
open Go.RowKit Go.Shelf
set_option linter.unusedVariables false
set_option linter.unusedSimpArgs false

def smT : Tm := ⟨3, 0, 1⟩
def smQ : List Nd := [⟨9, 0, 0, 0, 1, 0⟩, ⟨9, 1, 0, 0, 2, 0⟩, ⟨11, 0, 0, 0, 3, 7⟩, ⟨3, 2, 0, 1, 4, 0⟩, ⟨10, 0, 2, 0, 8, 0⟩, ⟨3, 2, 0, 1, 6, 0⟩, ⟨12, 0, 2, 0, 0, 0⟩, ⟨0, 0, 0, 0, 5, 0⟩, ⟨0, 0, 0, 0, 5, 0⟩]
def smM : List Nd := [⟨9, 0, 0, 0, 1, 0⟩, ⟨9, 1, 0, 0, 2, 0⟩, ⟨11, 0, 0, 0, 3, 7⟩, ⟨3, 3, 0, 1, 9, 0⟩, ⟨10, 0, 2, 0, 8, 0⟩, ⟨2, 2, 3, 0, 6, 0⟩, ⟨12, 0, 2, 0, 0, 0⟩, ⟨3, 3, 0, 1, 10, 0⟩, ⟨0, 0, 0, 0, 5, 0⟩, ⟨2, 2, 3, 0, 4, 0⟩, ⟨0, 0, 0, 0, 5, 0⟩]
theorem sm_trim : trimN smallN = smallN := by kernel_rfl
theorem sm_split : splitN smallN = smQ := by kernel_rfl
theorem sm_one : oneQ smallN = smQ := by unfold oneQ; rw [sm_trim, sm_split]
theorem sm_down : downL smQ smT = [false, false, true, true, true, true, false, true, true] := by kernel_rfl
theorem sm_up : upL smQ smT = [false, false, false, false, true, false, true, false, true] := by kernel_rfl
theorem sm_early : earlyL smQ smT = [false, false, true, false, false, false, false, false, false] := by unfold earlyL; rw [sm_down, sm_up]; kernel_rfl
theorem sm_delay : delayL smQ smT = [false, false, true, true, false, false, false, true, false] := by unfold delayL delayW; rw [sm_early]; kernel_rfl
theorem sm_late : lateL smQ smT = [false, false, false, true, false, false, false, true, false] := by unfold lateL; rw [sm_delay]; kernel_rfl
theorem sm_alone : aloneL smQ smT = [true, true, true, false, false, true, true, false, false] := by unfold aloneL aloneW; rw [sm_late]; kernel_rfl
theorem sm_put : lazyPut smQ smT = [false, false, false, true, false, false, false, true, false] := by unfold lazyPut; rw [sm_late, sm_alone]; kernel_rfl
theorem sm_take : lazyTake smQ smT = [false, false, false, true, false, true, false, false, false] := by unfold lazyTake; rw [sm_late, sm_alone]; kernel_rfl
theorem sm_B : oneB smallN smT = true := by unfold oneB; rw [sm_one, sm_put]; rfl
theorem sm_N : oneN smallN smT 3 = smM := by unfold oneN; rw [sm_B, if_pos rfl, sm_one, sm_put, sm_take]; kernel_rfl
theorem sm_R : oneR smallN smT 3 = 4 := by unfold oneR; rw [sm_B]; rfl
theorem sm_chk : chk 3 smallN = 0 := by kernel_rfl
theorem sm_E : oneE 3 smallN smT = 0 := by
  unfold oneE
  rw [sm_chk, sm_one, sm_B, sm_N]
  rfl
theorem sm_down0 : downL smallN smT = [false, false, true, true, true, true, false] := by kernel_rfl
theorem sm_up0 : upL smallN smT = [false, false, false, false, true, false, true] := by kernel_rfl
theorem sm_early0 : busyPut smallN smT = [false, false, true, false, false, false, false] := by
  have e : earlyL smallN smT = [false, false, true, false, false, false, false] := by unfold earlyL; rw [sm_down0, sm_up0]; kernel_rfl
  unfold busyPut
  rw [e]; rfl
theorem sm_r0 : (fin 4 smM [4, 5] 99).out = [9] := by kernel_rfl
theorem sm_r1 : (fin 4 smM [4, 5] 99).ret = 9 := by kernel_rfl
theorem sm_r2 : (fin 4 smM [4, 5] 99).ended = true := by kernel_rfl
theorem sm_r3 : (fin 4 smM [4, 5] 99).steps = 9 := by kernel_rfl
theorem sm_r4 : (fin 4 smM [4, 5] 99).cts = [⟨⟨3, 0, 1⟩, 1⟩] := by kernel_rfl
theorem sm_rE : rerr 4 smM 2 99 = 0 := by kernel_rfl
theorem sm_tchk : tchk 3 smallN smT = 0 := by kernel_rfl

theorem one_smallM (b : Nat) (w : World) (hN : NodesAt w b 0 smallN) :
    Calls Tryz.prog 9 #[.agg #[.int .i64 3, .slice (some ⟨b, 0, none⟩) 7 7], .agg #[.int .i64 3, .int .i64 0, .int .i64 1]] w fun e w' => ∃ gb gc, e = .returned (.tuple #[.agg #[.int .i64 4, .slice (some ⟨gb, 0, none⟩) 11 gc], .int .i64 0]) ∧ NodesAt w' gb 0 smM ∧ Below w.heap.size w w' := by
  refine (one_any 3 (some ⟨b, 0, none⟩) 7 smallN smT w (Or.inr ⟨b, 0, rfl, hN⟩)).mono ?_
  rintro e w' ⟨h, hB⟩
  rw [sm_E, sm_R, sm_N] at h
  rcases h with ⟨q, _⟩ | ⟨_, gb, gc, rfl, hV⟩
  · exact absurd rfl q
  · exact ⟨gb, gc, rfl, len_row hV (by decide), hB⟩

theorem run_smallM (b c bi : Nat) (w : World) (hN : NodesAt w b 0 smM) (hb : bi < w.heap.size) (h0 : w.cell? ⟨bi, 0, none⟩ = some (.int .i64 4)) (h1 : w.cell? ⟨bi, 1, none⟩ = some (.int .i64 5)) :
    Calls Tryz.prog 22 #[.agg #[.int .i64 4, .slice (some ⟨b, 0, none⟩) 11 c], .slice (some ⟨bi, 0, none⟩) 2 2, .int .i64 99] w fun e w' => ∃ ao co ac cc, e = .returned (.tuple #[.agg #[.slice ao 1 co, .int .i64 9, .bool true, .int .i64 9, .slice ac 1 cc], .int .i64 0]) ∧ CtsAt w' ac [⟨⟨3, 0, 1⟩, 1⟩] ∧ Below w.heap.size w w' := by
  refine (run_fit 4 b 0 c smM _ 2 [4, 5] 99 w hN (in_two hb h0 h1) (by simp) sm_rE).mono ?_
  rintro e w' ⟨ao, co, ac, cc, rfl, hI, hC, hb', _, _⟩
  rw [sm_r4] at hC
  exact ⟨ao, co, ac, cc, by rw [sm_r0, sm_r1, sm_r2, sm_r3, sm_r4]; rfl, hC, hb'⟩

theorem busy_smallM (b : Nat) (w : World) (hN : NodesAt w b 0 smallN) :
    Calls Tryz.prog 20 #[.agg #[.int .i64 3, .slice (some ⟨b, 0, none⟩) 7 7], .agg #[.int .i64 3, .int .i64 0, .int .i64 1]] w fun e w' => ∃ a1 o1 c1 a2 c2, e = .returned (.tuple #[.agg #[.slice (some ⟨a1, o1, none⟩) 7 c1, .slice a2 7 c2], .int .i64 0]) ∧ a1 < w'.heap.size ∧ w'.cell? ⟨a1, o1 + 2, none⟩ = some (.bool true) ∧ Below w.heap.size w w' := by
  refine (busy_right 3 b 0 7 smallN smT w hN sm_tchk).mono ?_
  rintro e w' ⟨a1, c1, a2, c2, rfl, hV1, _, hB⟩
  obtain ⟨k, o, rfl, hlt, h⟩ := (bools_owned hV1 (by simp [busyPut])).at (k := 2) (by simp [busyPut, smallN])
  refine ⟨k, o, c1, a2, c2, rfl, hlt, h 2 true ?_, hB⟩
  rw [sm_early0]; rfl

set_option maxHeartbeats 8000000 in
set_option maxRecDepth 100000 in
theorem moveBegun_any (w : World) :
    Calls Tryz.prog 15 #[] w fun e w' => e = .returned (.bool true) ∧ Below w.heap.size w w' := by
  go_enter Tryz.func15, Tryz.ntmps15
  go_wp2_with fail
  refine (small_any _).mono ?_
  rintro e w1 ⟨rfl, hN1, hb1⟩
  go_wp2_with fail
  refine (sum_any _).mono ?_
  rintro e w2 ⟨rfl, hb2⟩
  have hN2 := hN1.below hb2 hN1.lt
  have hB2 := hb1.trans (hb2.mono hb1.size)
  clear hN1 hb1 hb2
  go_wp2_with fail
  refine (one_smallM _ _ hN2).mono ?_
  rintro e w3 ⟨gb, gc, rfl, hN3, hb3⟩
  have hx3 : Below w3.heap.size w3 (w3.alloc (.cells #[.int .i64 4, .slice (some ⟨gb, 0, none⟩) 11 gc] 24)) := (Below.refl _ w3).alloc (Nat.le_refl _) _
  have hp3 : (w3.alloc (.cells #[.int .i64 4, .slice (some ⟨gb, 0, none⟩) 11 gc] 24)).heap[w3.heap.size]? = some (.cells #[.int .i64 4, .slice (some ⟨gb, 0, none⟩) 11 gc] 24 (0, 0)) := World.alloc_heap_new w3 _
  have HB3 := hide (hB2.trans ((hb3.trans (hx3.mono hb3.size)).mono hB2.size))
  have HN3 := hide (hN3.below hx3 hN3.lt)
  clear hN2 hB2 hb3 hN3 hx3
  go_upto_region 2 with fail
  generalize (w3.alloc (.cells #[.int .i64 4, .slice (some ⟨gb, 0, none⟩) 11 gc] 24)) = W3 at hp3 HB3 HN3 ⊢
  generalize w3.heap.size = PB at hp3 ⊢
  have p0 := blk_cell hp3 0
  have p1 := blk_cell hp3 1
  simp at p0 p1
  have pl := blk_lt hp3
  have HP3 := hide hp3
  clear hp3
  have hba : Below W3.heap.size W3 (W3.alloc (.cells #[.int .i64 4, .int .i64 5] 3)) := (Below.refl _ W3).alloc (Nat.le_refl _) _
  go_wp2_with fail
  refine (run_smallM gb gc _ _ (HN3.out.below hba HN3.out.lt) (by simp) (by simp) (by simp)).mono ?_
  rintro e w4 ⟨ao, co, ac, cc, rfl, hC4, hb4⟩
  have hb4' := hba.trans (hb4.mono hba.size)
  have hx4 : Below w4.heap.size w4 (w4.alloc (.cells #[.slice ao 1 co, .int .i64 9, .bool true, .int .i64 9, .slice ac 1 cc] 50)) := (Below.refl _ w4).alloc (Nat.le_refl _) _
  have hr4 : (w4.alloc (.cells #[.slice ao 1 co, .int .i64 9, .bool true, .int .i64 9, .slice ac 1 cc] 50)).heap[w4.heap.size]? = some (.cells #[.slice ao 1 co, .int .i64 9, .bool true, .int .i64 9, .slice ac 1 cc] 50 (0, 0)) := World.alloc_heap_new w4 _
  have hb4'' := hb4'.trans (hx4.mono hb4'.size)
  have HB4 := hide (HB3.out.trans (hb4''.mono HB3.out.size))
  have HP4 := hide ((hb4''.block _ pl).trans HP3.out)
  have HC4 := hide (hC4.below hx4)
  clear p0 p1 pl hba hb4 hb4' hb4'' hx4 hC4 HB3 HN3 HP3
  go_upto_region 3 with fail
  generalize (w4.alloc (.cells #[.slice ao 1 co, .int .i64 9, .bool true, .int .i64 9, .slice ac 1 cc] 50)) = W4 at hr4 HB4 HP4 HC4 ⊢
  generalize w4.heap.size = RB at hr4 ⊢
  have HR4 := hide hr4
  clear hr4
  go_wp2_with fail
  refine (small_any _).mono ?_
  rintro e w5 ⟨rfl, hN5, hb5⟩
  go_wp2_with fail
  refine (sum_any _).mono ?_
  rintro e w6 ⟨rfl, hb6⟩
  have hN6 := hN5.below hb6 hN5.lt
  have hb6' := hb5.trans (hb6.mono hb5.size)
  clear hN5 hb5 hb6
  go_wp2_with fail
  refine (busy_smallM _ _ hN6).mono ?_
  rintro e w7 ⟨a1, o1, c1, a2, c2, rfl, hl7, hc7, hb7⟩
  have hx7 : Below w7.heap.size w7 (w7.alloc (.cells #[.slice (some ⟨a1, o1, none⟩) 7 c1, .slice a2 7 c2] 29)) := (Below.refl _ w7).alloc (Nat.le_refl _) _
  have hl7' : (w7.alloc (.cells #[.slice (some ⟨a1, o1, none⟩) 7 c1, .slice a2 7 c2] 29)).heap[w7.heap.size]? = some (.cells #[.slice (some ⟨a1, o1, none⟩) 7 c1, .slice a2 7 c2] 29 (0, 0)) := World.alloc_heap_new w7 _
  have hb7' := hb6'.trans ((hb7.trans (hx7.mono hb7.size)).mono hb6'.size)
  have HB7 := hide (HB4.out.trans (hb7'.mono HB4.out.size))
  have HP7 := hide ((hb7'.block _ (blk_lt HP4.out)).trans HP4.out)
  have HR7 := hide ((hb7'.block _ (blk_lt HR4.out)).trans HR4.out)
  have HC7 := hide (HC4.out.below hb7')
  have HM7 := hide ((hx7.cell (p := ⟨a1, o1 + 2, none⟩) hl7).trans hc7)
  have hal : a1 < (w7.alloc (.cells #[.slice (some ⟨a1, o1, none⟩) 7 c1, .slice a2 7 c2] 29)).heap.size := by simp; omega
  clear hb6' hN6 hb7 hb7' hc7 hl7 hx7 HB4 HP4 HR4 HC4
  go_upto_region 4 with fail
  generalize (w7.alloc (.cells #[.slice (some ⟨a1, o1, none⟩) 7 c1, .slice a2 7 c2] 29)) = W7 at hl7' HB7 HP7 HR7 HC7 HM7 hal ⊢
  generalize w7.heap.size = LB at hl7' ⊢
  have HL7 := hide hl7'
  have HAL := hide hal
  have HS : Hid (∀ u : World, Below W7.heap.size W7 u → u.cell? ⟨PB, 0, none⟩ = some (.int .i64 4) ∧ u.cell? ⟨RB, 0, none⟩ = some (.slice ao 1 co) ∧ u.cell? ⟨RB, 1, none⟩ = some (.int .i64 9) ∧ u.cell? ⟨RB, 2, none⟩ = some (.bool true) ∧ u.cell? ⟨RB, 3, none⟩ = some (.int .i64 9) ∧ u.cell? ⟨RB, 4, none⟩ = some (.slice ac 1 cc) ∧ u.cell? ⟨LB, 0, none⟩ = some (.slice (some ⟨a1, o1, none⟩) 7 c1) ∧ u.cell? ⟨a1, o1 + 2, none⟩ = some (.bool true)) := fun u h => by
    have k1 := (h.block _ (blk_lt HP7.out)).trans HP7.out
    have k2 := (h.block _ (blk_lt HR7.out)).trans HR7.out
    have k3 := (h.block _ (blk_lt HL7.out)).trans HL7.out
    refine ⟨?_, ?_, ?_, ?_, ?_, ?_, ?_, (h.cell (p := ⟨a1, o1 + 2, none⟩) HAL.out).trans HM7.out⟩
    · rw [blk_cell k1]; rfl
    · rw [blk_cell k2]; rfl
    · rw [blk_cell k2]; rfl
    · rw [blk_cell k2]; rfl
    · rw [blk_cell k2]; rfl
    · rw [blk_cell k2]; rfl
    · rw [blk_cell k3]; rfl
  have l1 : PB < W7.heap.size := blk_lt HP7.out
  have l2 : RB < W7.heap.size := blk_lt HR7.out
  have l3 : LB < W7.heap.size := blk_lt HL7.out
  clear hl7'
  go_region_held3 (fun u => u.cell? ⟨PB, 0, none⟩ = some (.int .i64 4) ∧ u.cell? ⟨RB, 0, none⟩ = some (.slice ao 1 co) ∧ u.cell? ⟨RB, 1, none⟩ = some (.int .i64 9) ∧ u.cell? ⟨RB, 2, none⟩ = some (.bool true) ∧ u.cell? ⟨RB, 3, none⟩ = some (.int .i64 9) ∧ u.cell? ⟨RB, 4, none⟩ = some (.slice ac 1 cc) ∧ u.cell? ⟨LB, 0, none⟩ = some (.slice (some ⟨a1, o1, none⟩) 7 c1) ∧ u.cell? ⟨a1, o1 + 2, none⟩ = some (.bool true)) (first
    | (with_reducible refine HS.out _ ?_; first | with_reducible exact hB9 | with_reducible exact hB8 | with_reducible exact (Below.refl _ W7).drew | with_reducible exact (Below.refl _ W7))) (first
    | (go_at_call 23; refine (times_lit _ _ _ _ ac cc 1 _ HC7.out hB8).mono ?_; rintro e w9 ⟨rfl, hB9⟩)
    | (go_at_call 45; refine (sum_any _).mono ?_; rintro e w8 ⟨rfl, hb8⟩; have hB8 : Below W7.heap.size W7 w8 := (by first | exact (Below.refl _ W7).drew.trans hb8 | exact hb8)))
  all_goals go_wp2
  all_goals go_ret
  all_goals exact ⟨rfl, HB7.out.trans (hB9.mono HB7.out.size)⟩

end Go.Proofs.YtoikglgnmjjpcabGreat

namespace Go.Proofs.YtoikglgnmjjpcabGreat
open Go

section
variable {P : Program} {ops : Array Oper} {Q : Exit → Act → World → Prop} {md : Region.Mode} {S : World → Prop} {fuel : Nat} {listed : Array Bool} {a : Act} {w : World}

/-- One that is not wanted. -/
theorem tkn (i : Nat) (oi : Oper) (h : wpAnyH P md ops Q S fuel (listed.setIfInBounds i true) (a.put oi.dst undef) w) (hQ : ∀ c a w, Q (.panic c) (a.put oi.dst undef) w → Q (.panic c) a w := by exact fun _ _ _ h => h) (hi : ops[i]? = some oi := by rfl)
    (hs : Region.noSelect ops = true := by as_aux_lemma => kernel_rfl) (hf : Region.free md ops listed i = true := by as_aux_lemma => kernel_rfl) (hr : (Region.ready md ops listed).contains i = true := by as_aux_lemma => kernel_rfl) (hw : Region.wanted oi (yielded ops a.tmps) = false := by as_aux_lemma => rfl) (hS : S w := by assumption) : wpAnyH P md ops Q S (fuel + 1) listed a w :=
  wpAnyH_take (v := undef) hi hs hf hr hQ (Or.inr ⟨hw, rfl⟩) hS h

/-- One that is. -/
theorem tky (i : Nat) (oi : Oper) {v : Value} (hv : ∀ w, S w → (execOp a.eval oi).run P w = .ok (.value v) w) (h : wpAnyH P md ops Q S fuel (listed.setIfInBounds i true) (a.put oi.dst v) w) (hQ : ∀ c a w, Q (.panic c) (a.put oi.dst v) w → Q (.panic c) a w := by exact fun _ _ _ h => h) (hi : ops[i]? = some oi := by rfl)
    (hs : Region.noSelect ops = true := by as_aux_lemma => kernel_rfl) (hf : Region.free md ops listed i = true := by as_aux_lemma => kernel_rfl) (hr : (Region.ready md ops listed).contains i = true := by as_aux_lemma => kernel_rfl) (hw : Region.wanted oi (yielded ops a.tmps) = true := by as_aux_lemma => rfl) (hS : S w := by assumption) : wpAnyH P md ops Q S (fuel + 1) listed a w :=
  wpAnyH_take hi hs hf hr hQ (Or.inl ⟨hw, hv⟩) hS h

end


end Go.Proofs.YtoikglgnmjjpcabGreat

namespace Go.Proofs.YtoikglgnmjjpcabGreat
open Go.RowKit Go.Shelf
set_option linter.unusedVariables false
set_option linter.unusedSimpArgs false

theorem ct_memM : ∀ {l : List Ct}, Srt l → ∀ {c : Ct}, c ∈ l → cnt l c.t = c.n
  | d :: l, h, c, hc => by
    unfold cnt
    rw [ctOf_cons]
    rcases List.mem_cons.1 hc with rfl | hc
    · rw [if_pos rfl]; rfl
    · unfold Srt at h
      rw [List.pairwise_cons] at h
      rw [if_neg]
      · exact ct_memM h.2 hc
      · intro e
        have := h.1 c hc
        rw [e, abv_irrefl] at this
        cases this
theorem tmo_cnt (l : List Ct) (t : Tm) : tmo l t = cnt l t := rfl

theorem ifs3_no {α : Type} {x y z x' y' z' : Int} {p q : α} (h : ¬ (x = x' ∧ y = y' ∧ z = z')) : (if x = x' then if y = y' then if z = z' then p else q else q else q) = q := by
  split
  · split
    · split
      · rename_i a b c; exact absurd ⟨a, b, c⟩ h
      · rfl
    · rfl
  · rfl
theorem ifs3_yes {α : Type} {x y z x' y' z' : Int} {p q : α} (h : x = x' ∧ y = y' ∧ z = z') : (if x = x' then if y = y' then if z = z' then p else q else q else q) = p := by
  rw [if_pos h.1, if_pos h.2.1, if_pos h.2.2]
theorem tm_ext {s t : Tm} (h1 : s.op = t.op) (h2 : s.a = t.a) (h3 : s.b = t.b) : s = t := by
  cases s; cases t; simp_all

set_option maxHeartbeats 40000000 in
set_option maxRecDepth 100000 in
theorem others_any (a0 a1 a2 a3 b0 b1 b2 b3 : Value) (la ka : Option Addr) (lc kc : Nat) (l k : List Ct) (t : Tm) (w : World) (hL : CtsAt w la l) (hK : CtsAt w ka k) (hll : l.length ≤ 131072) (hkl : k.length ≤ 131072) (sl : Srt l) (sk : Srt k) (h : ∀ t', t' ≠ t → cnt k t' = cnt l t') :
    Calls Tryz.prog 24 #[.agg #[a0, a1, a2, a3, .slice la l.length lc], .agg #[b0, b1, b2, b3, .slice ka k.length kc], .agg #[.int .i64 t.op, .int .i64 t.a, .int .i64 t.b]] w fun e w' => e = .returned (.bool true) ∧ Below w.heap.size w w' := by
  have HSL := hide sl
  have HSK := hide sk
  have HH := hide h
  clear sl sk h
  have hb0 : Below w.heap.size w (((w.alloc (.cells #[a0, a1, a2, a3, .slice la l.length lc] 50)).alloc (.cells #[b0, b1, b2, b3, .slice ka k.length kc] 50)).alloc (.cells #[.int .i64 t.op, .int .i64 t.a, .int .i64 t.b] 26)) := (((Below.refl _ w).alloc (Nat.le_refl _) _).alloc (by simp) _).alloc (by simp; omega) _
  have ha0 : (((w.alloc (.cells #[a0, a1, a2, a3, .slice la l.length lc] 50)).alloc (.cells #[b0, b1, b2, b3, .slice ka k.length kc] 50)).alloc (.cells #[.int .i64 t.op, .int .i64 t.a, .int .i64 t.b] 26)).heap[w.heap.size]? = some (.cells #[a0, a1, a2, a3, .slice la l.length lc] 50 (0, 0)) := by
    have := World.alloc_heap_new w (.cells #[a0, a1, a2, a3, .slice la l.length lc] 50)
    exact (Below.heap_alloc _ _ _ (by simp; try omega)).trans ((Below.heap_alloc _ _ _ (by simp; try omega)).trans this)
  have hk0 : (((w.alloc (.cells #[a0, a1, a2, a3, .slice la l.length lc] 50)).alloc (.cells #[b0, b1, b2, b3, .slice ka k.length kc] 50)).alloc (.cells #[.int .i64 t.op, .int .i64 t.a, .int .i64 t.b] 26)).heap[w.heap.size + 1]? = some (.cells #[b0, b1, b2, b3, .slice ka k.length kc] 50 (0, 0)) := by
    have := World.alloc_heap_new (w.alloc (.cells #[a0, a1, a2, a3, .slice la l.length lc] 50)) (.cells #[b0, b1, b2, b3, .slice ka k.length kc] 50)
    simp only [World.size_alloc] at this
    exact (Below.heap_alloc _ _ _ (by simp; try omega)).trans this
  have ht0 : (((w.alloc (.cells #[a0, a1, a2, a3, .slice la l.length lc] 50)).alloc (.cells #[b0, b1, b2, b3, .slice ka k.length kc] 50)).alloc (.cells #[.int .i64 t.op, .int .i64 t.a, .int .i64 t.b] 26)).heap[w.heap.size + 2]? = some (.cells #[.int .i64 t.op, .int .i64 t.a, .int .i64 t.b] 26 (0, 0)) := by
    have := World.alloc_heap_new ((w.alloc (.cells #[a0, a1, a2, a3, .slice la l.length lc] 50)).alloc (.cells #[b0, b1, b2, b3, .slice ka k.length kc] 50)) (.cells #[.int .i64 t.op, .int .i64 t.a, .int .i64 t.b] 26)
    simp only [World.size_alloc] at this
    exact this
  go_enter Tryz.func24, Tryz.ntmps24
  go_upto_region 1 with fail
  generalize (((w.alloc (.cells #[a0, a1, a2, a3, .slice la l.length lc] 50)).alloc (.cells #[b0, b1, b2, b3, .slice ka k.length kc] 50)).alloc (.cells #[.int .i64 t.op, .int .i64 t.a, .int .i64 t.b] 26)) = W0 at hb0 ha0 hk0 ht0 ⊢
  try rw [show w.heap.size + 1 + 1 = w.heap.size + 2 from rfl]
  have HB := hide hb0
  have HA := hide ha0
  have HK := hide hk0
  have HT := hide ht0
  have HCL := hide (hL.below hb0)
  have HCK := hide (hK.below hb0)
  clear hb0 ha0 hk0 ht0 hL hK
  go_wp2_with fail
  go_loopw [7] (fun i wr => ∃ j : Nat, j ≤ l.length ∧ i = .int .i64 j ∧ Below W0.heap.size W0 wr) (fun i _ => l.length - (intOf i).toNat)
  case atStart => exact ⟨0, Nat.zero_le _, rfl, Below.refl _ _⟩
  case round =>
    obtain ⟨j, hj, rfl, hb⟩ := hrel
    have HBj := hide hb
    have HAj := hide ((hb.block _ (blk_lt HA.out)).trans HA.out)
    have HKj := hide ((hb.block _ (blk_lt HK.out)).trans HK.out)
    have HTj := hide ((hb.block _ (blk_lt HT.out)).trans HT.out)
    have a4 := blk_cell HAj.out 4
    simp at a4
    have al := blk_lt HAj.out
    clear hb
    by_cases hlt : j < l.length
    · obtain ⟨c, hc⟩ := get_lt hlt
      obtain ⟨cb, co, rfl, cl, c0, c1, c2, c3⟩ := (HCL.out.below HBj.out).at hc
      have hji : (j : Int) < (l.length : Int) := by omega
      have HS : Hid (∀ u : World, Below wr.heap.size wr u → u.cell? ⟨w.heap.size, 4, none⟩ = some (.slice (some ⟨cb, co, none⟩) l.length lc) ∧ u.cell? ⟨w.heap.size + 1, 0, none⟩ = some b0 ∧ u.cell? ⟨w.heap.size + 1, 1, none⟩ = some b1 ∧ u.cell? ⟨w.heap.size + 1, 2, none⟩ = some b2 ∧ u.cell? ⟨w.heap.size + 1, 3, none⟩ = some b3 ∧ u.cell? ⟨w.heap.size + 1, 4, none⟩ = some (.slice ka k.length kc) ∧ u.cell? ⟨w.heap.size + 2, 0, none⟩ = some (.int .i64 t.op) ∧ u.cell? ⟨w.heap.size + 2, 1, none⟩ = some (.int .i64 t.a) ∧ u.cell? ⟨w.heap.size + 2, 2, none⟩ = some (.int .i64 t.b) ∧ u.cell? ⟨cb, co + j * 4, none⟩ = some (.int .i64 c.t.op) ∧ u.cell? ⟨cb, co + j * 4 + 1, none⟩ = some (.int .i64 c.t.a) ∧ u.cell? ⟨cb, co + j * 4 + 2, none⟩ = some (.int .i64 c.t.b) ∧ u.cell? ⟨cb, co + j * 4 + 3, none⟩ = some (.int .i64 c.n)) := fun u h => by
        have k0 := (h.block _ (blk_lt HAj.out)).trans HAj.out
        have k1 := (h.block _ (blk_lt HKj.out)).trans HKj.out
        have k2 := (h.block _ (blk_lt HTj.out)).trans HTj.out
        have n0 := (h.cell (p := ⟨cb, co + j * 4, none⟩) cl).trans c0
        have n1 := (h.cell (p := ⟨cb, co + j * 4 + 1, none⟩) cl).trans c1
        have n2 := (h.cell (p := ⟨cb, co + j * 4 + 2, none⟩) cl).trans c2
        have n3 := (h.cell (p := ⟨cb, co + j * 4 + 3, none⟩) cl).trans c3
        refine ⟨?_, ?_, ?_, ?_, ?_, ?_, ?_, ?_, ?_, n0, n1, n2, n3⟩
        · rw [blk_cell k0]; rfl
        · rw [blk_cell k1]; rfl
        · rw [blk_cell k1]; rfl
        · rw [blk_cell k1]; rfl
        · rw [blk_cell k1]; rfl
        · rw [blk_cell k1]; rfl
        · rw [blk_cell k2]; rfl
        · rw [blk_cell k2]; rfl
        · rw [blk_cell k2]; rfl
      have kl := blk_lt HKj.out
      have tl := blk_lt HTj.out
      have HCKj := hide (HCK.out.below HBj.out)
      have HM := hide (List.mem_of_getElem? hc)
      clear c0 c1 c2 c3 hc
      go_upto_region 4 with fail
      go_cut [40] from 16 to 40 (fun v wx => v = .bool false ∧ Below wr.heap.size wr wx)
      case first =>
        by_cases hct : c.t = t
        · have HQ := hide (show c.t.op = t.op ∧ c.t.a = t.a ∧ c.t.b = t.b by rw [hct]; exact ⟨rfl, rfl, rfl⟩)
          clear hct
          refine wp_region_held_drew (S := (fun u => u.cell? ⟨w.heap.size, 4, none⟩ = some (.slice (some ⟨cb, co, none⟩) l.length lc) ∧ u.cell? ⟨w.heap.size + 1, 0, none⟩ = some b0 ∧ u.cell? ⟨w.heap.size + 1, 1, none⟩ = some b1 ∧ u.cell? ⟨w.heap.size + 1, 2, none⟩ = some b2 ∧ u.cell? ⟨w.heap.size + 1, 3, none⟩ = some b3 ∧ u.cell? ⟨w.heap.size + 1, 4, none⟩ = some (.slice ka k.length kc) ∧ u.cell? ⟨w.heap.size + 2, 0, none⟩ = some (.int .i64 t.op) ∧ u.cell? ⟨w.heap.size + 2, 1, none⟩ = some (.int .i64 t.a) ∧ u.cell? ⟨w.heap.size + 2, 2, none⟩ = some (.int .i64 t.b) ∧ u.cell? ⟨cb, co + j * 4, none⟩ = some (.int .i64 c.t.op) ∧ u.cell? ⟨cb, co + j * 4 + 1, none⟩ = some (.int .i64 c.t.a) ∧ u.cell? ⟨cb, co + j * 4 + 2, none⟩ = some (.int .i64 c.t.b) ∧ u.cell? ⟨cb, co + j * 4 + 3, none⟩ = some (.int .i64 c.n))) (by as_aux_lemma => kernel_rfl) (by (try dsimp only); (with_reducible refine HS.out _ ?_); first | with_reducible exact hB1 | with_reducible exact (Below.refl _ wr).drew | with_reducible exact (Below.refl _ wr)) (fun hHeld => ?_)
          refine tky 0 ⟨some 16, .fieldAddr 50 (.tmp 3) 4, 0, "two.go:83", #[], none⟩ (v := ?_) ?_ ?_
          rotate_left 1
          · intro w hSw; (try dsimp only at hSw); go_simp; all_goals with_reducible rfl
          (try simp only [Act.put, PM1, PM2, PM3])
          refine tky 1 ⟨some 17, .load 48 (.tmp 16), 48, "two.go:83", #[⟨0, .data⟩], none⟩ (v := ?_) ?_ ?_
          rotate_left 1
          · intro w hSw; (try dsimp only at hSw); go_simp; all_goals with_reducible rfl
          (try simp only [Act.put, PM1, PM2, PM3])
          refine tky 2 ⟨some 18, .move (.tmp 7), 3, "two.go:83", #[], none⟩ (v := ?_) ?_ ?_
          rotate_left 1
          · intro w hSw; (try dsimp only at hSw); go_simp; all_goals with_reducible rfl
          (try simp only [Act.put, PM1, PM2, PM3])
          refine tky 3 ⟨some 19, .indexAddr 48 (.tmp 17) (.tmp 18), 0, "two.go:83", #[⟨1, .data⟩, ⟨2, .data⟩], none⟩ (v := ?_) ?_ ?_
          rotate_left 1
          · intro w hSw; (try dsimp only at hSw); go_simp; all_goals with_reducible rfl
          (try simp only [Act.put, PM1, PM2, PM3])
          refine tky 4 ⟨some 20, .fieldAddr 88 (.tmp 19) 0, 0, "two.go:83", #[⟨3, .data⟩], none⟩ (v := ?_) ?_ ?_
          rotate_left 1
          · intro w hSw; (try dsimp only at hSw); go_simp; all_goals with_reducible rfl
          (try simp only [Act.put, PM1, PM2, PM3])
          refine tky 5 ⟨some 21, .load 26 (.tmp 20), 26, "two.go:83", #[⟨4, .data⟩], none⟩ (v := ?_) ?_ ?_
          rotate_left 1
          · intro w hSw; (try dsimp only at hSw); go_simp; all_goals with_reducible rfl
          (try simp only [Act.put, PM1, PM2, PM3])
          refine tky 6 ⟨some 22, .load 26 (.tmp 5), 26, "two.go:83", #[], none⟩ (v := ?_) ?_ ?_
          rotate_left 1
          · intro w hSw; (try dsimp only at hSw); go_simp; all_goals with_reducible rfl
          (try simp only [Act.put, PM1, PM2, PM3])
          refine tky 7 ⟨some 23, .binOp Go.BinOp.neq 26 (.tmp 21) (.tmp 22) 26, 4, "two.go:83", #[⟨5, .data⟩, ⟨6, .data⟩], none⟩ (v := ?_) ?_ ?_
          rotate_left 1
          · intro w hSw; (try dsimp only at hSw); go_simp; exact ifs3_yes HQ.out
          (try simp only [Act.put, PM1, PM2, PM3])
          refine tky 8 ⟨some 24, .move (.tmp 23), 4, "two.go:83", #[⟨7, .data⟩], none⟩ (v := ?_) ?_ ?_
          rotate_left 1
          · intro w hSw; (try dsimp only at hSw); go_simp; all_goals with_reducible rfl
          (try simp only [Act.put, PM1, PM2, PM3])
          refine tkn 9 ⟨some 25, .load 50 (.tmp 4), 50, "two.go:83", #[⟨8, .guard⟩], some (8, true)⟩ ?_
          (try simp only [Act.put, PM1, PM2, PM3])
          refine tkn 10 ⟨some 26, .fieldAddr 50 (.tmp 3) 4, 0, "two.go:83", #[⟨8, .guard⟩], some (8, true)⟩ ?_
          (try simp only [Act.put, PM1, PM2, PM3])
          refine tkn 11 ⟨some 27, .load 48 (.tmp 26), 48, "two.go:83", #[⟨10, .data⟩, ⟨8, .guard⟩], some (8, true)⟩ ?_
          (try simp only [Act.put, PM1, PM2, PM3])
          refine tkn 12 ⟨some 28, .move (.tmp 7), 3, "two.go:83", #[⟨8, .guard⟩], some (8, true)⟩ ?_
          (try simp only [Act.put, PM1, PM2, PM3])
          refine tkn 13 ⟨some 29, .indexAddr 48 (.tmp 27) (.tmp 28), 0, "two.go:83", #[⟨11, .data⟩, ⟨12, .data⟩, ⟨8, .guard⟩], some (8, true)⟩ ?_
          (try simp only [Act.put, PM1, PM2, PM3])
          refine tkn 14 ⟨some 30, .fieldAddr 88 (.tmp 29) 0, 0, "two.go:83", #[⟨13, .data⟩, ⟨8, .guard⟩], some (8, true)⟩ ?_
          (try simp only [Act.put, PM1, PM2, PM3])
          refine tkn 15 ⟨some 31, .load 26 (.tmp 30), 26, "two.go:83", #[⟨14, .data⟩, ⟨8, .guard⟩], some (8, true)⟩ ?_
          (try simp only [Act.put, PM1, PM2, PM3])
          refine tkn 16 ⟨some 32, .call { callee := .value (.func 23), args := #[.tmp 25, .tmp 31], argTypes := #[50, 26] }, 3, "two.go:83", #[⟨9, .data⟩, ⟨15, .data⟩, ⟨8, .chain⟩, ⟨8, .guard⟩], some (8, true)⟩ ?_
          (try simp only [Act.put, PM1, PM2, PM3])
          refine tkn 17 ⟨some 33, .fieldAddr 50 (.tmp 3) 4, 0, "two.go:83", #[⟨8, .guard⟩], some (8, true)⟩ ?_
          (try simp only [Act.put, PM1, PM2, PM3])
          refine tkn 18 ⟨some 34, .load 48 (.tmp 33), 48, "two.go:83", #[⟨17, .data⟩, ⟨8, .guard⟩], some (8, true)⟩ ?_
          (try simp only [Act.put, PM1, PM2, PM3])
          refine tkn 19 ⟨some 35, .move (.tmp 7), 3, "two.go:83", #[⟨8, .guard⟩], some (8, true)⟩ ?_
          (try simp only [Act.put, PM1, PM2, PM3])
          refine tkn 20 ⟨some 36, .indexAddr 48 (.tmp 34) (.tmp 35), 0, "two.go:83", #[⟨18, .data⟩, ⟨19, .data⟩, ⟨8, .guard⟩], some (8, true)⟩ ?_
          (try simp only [Act.put, PM1, PM2, PM3])
          refine tkn 21 ⟨some 37, .fieldAddr 88 (.tmp 36) 1, 0, "two.go:83", #[⟨20, .data⟩, ⟨8, .guard⟩], some (8, true)⟩ ?_
          (try simp only [Act.put, PM1, PM2, PM3])
          refine tkn 22 ⟨some 38, .load 3 (.tmp 37), 3, "two.go:83", #[⟨21, .data⟩, ⟨8, .guard⟩], some (8, true)⟩ ?_
          (try simp only [Act.put, PM1, PM2, PM3])
          refine tkn 23 ⟨some 39, .binOp Go.BinOp.neq 3 (.tmp 32) (.tmp 38) 3, 4, "two.go:83", #[⟨16, .data⟩, ⟨22, .data⟩, ⟨8, .guard⟩], some (8, true)⟩ ?_
          (try simp only [Act.put, PM1, PM2, PM3])
          refine tky 24 ⟨some 40, .pick (.tmp 24) (.tmp 39) (.const (Go.Value.bool false)), 4, "two.go:83", #[⟨8, .data⟩, ⟨23, .data⟩], none⟩ (v := ?_) ?_ ?_
          rotate_left 1
          · intro w hSw; (try dsimp only at hSw); go_simp; all_goals with_reducible rfl
          (try simp only [Act.put, PM1, PM2, PM3])
          refine wpAnyH_done (by as_aux_lemma => kernel_rfl) ?_ _
          go_wp2
          go_meet
          exact ⟨rfl, by first | exact (Below.refl _ wr).drew | exact Below.refl _ wr⟩
        · have HQ := hide (show ¬ (c.t.op = t.op ∧ c.t.a = t.a ∧ c.t.b = t.b) from fun q => hct (tm_ext q.1 q.2.1 q.2.2))
          have HTM : Hid (tmo k c.t = c.n) := by
            show tmo k c.t = c.n
            rw [tmo_cnt, HH.out _ hct]
            exact ct_memM HSL.out HM.out
          clear hct
          refine wp_region_held_drew (S := (fun u => u.cell? ⟨w.heap.size, 4, none⟩ = some (.slice (some ⟨cb, co, none⟩) l.length lc) ∧ u.cell? ⟨w.heap.size + 1, 0, none⟩ = some b0 ∧ u.cell? ⟨w.heap.size + 1, 1, none⟩ = some b1 ∧ u.cell? ⟨w.heap.size + 1, 2, none⟩ = some b2 ∧ u.cell? ⟨w.heap.size + 1, 3, none⟩ = some b3 ∧ u.cell? ⟨w.heap.size + 1, 4, none⟩ = some (.slice ka k.length kc) ∧ u.cell? ⟨w.heap.size + 2, 0, none⟩ = some (.int .i64 t.op) ∧ u.cell? ⟨w.heap.size + 2, 1, none⟩ = some (.int .i64 t.a) ∧ u.cell? ⟨w.heap.size + 2, 2, none⟩ = some (.int .i64 t.b) ∧ u.cell? ⟨cb, co + j * 4, none⟩ = some (.int .i64 c.t.op) ∧ u.cell? ⟨cb, co + j * 4 + 1, none⟩ = some (.int .i64 c.t.a) ∧ u.cell? ⟨cb, co + j * 4 + 2, none⟩ = some (.int .i64 c.t.b) ∧ u.cell? ⟨cb, co + j * 4 + 3, none⟩ = some (.int .i64 c.n))) (by as_aux_lemma => kernel_rfl) (by (try dsimp only); (with_reducible refine HS.out _ ?_); first | with_reducible exact hB1 | with_reducible exact (Below.refl _ wr).drew | with_reducible exact (Below.refl _ wr)) (fun hHeld => ?_)
          refine tky 0 ⟨some 16, .fieldAddr 50 (.tmp 3) 4, 0, "two.go:83", #[], none⟩ (v := ?_) ?_ ?_
          rotate_left 1
          · intro w hSw; (try dsimp only at hSw); go_simp; all_goals with_reducible rfl
          (try simp only [Act.put, PM1, PM2, PM3])
          refine tky 1 ⟨some 17, .load 48 (.tmp 16), 48, "two.go:83", #[⟨0, .data⟩], none⟩ (v := ?_) ?_ ?_
          rotate_left 1
          · intro w hSw; (try dsimp only at hSw); go_simp; all_goals with_reducible rfl
          (try simp only [Act.put, PM1, PM2, PM3])
          refine tky 2 ⟨some 18, .move (.tmp 7), 3, "two.go:83", #[], none⟩ (v := ?_) ?_ ?_
          rotate_left 1
          · intro w hSw; (try dsimp only at hSw); go_simp; all_goals with_reducible rfl
          (try simp only [Act.put, PM1, PM2, PM3])
          refine tky 3 ⟨some 19, .indexAddr 48 (.tmp 17) (.tmp 18), 0, "two.go:83", #[⟨1, .data⟩, ⟨2, .data⟩], none⟩ (v := ?_) ?_ ?_
          rotate_left 1
          · intro w hSw; (try dsimp only at hSw); go_simp; all_goals with_reducible rfl
          (try simp only [Act.put, PM1, PM2, PM3])
          refine tky 4 ⟨some 20, .fieldAddr 88 (.tmp 19) 0, 0, "two.go:83", #[⟨3, .data⟩], none⟩ (v := ?_) ?_ ?_
          rotate_left 1
          · intro w hSw; (try dsimp only at hSw); go_simp; all_goals with_reducible rfl
          (try simp only [Act.put, PM1, PM2, PM3])
          refine tky 5 ⟨some 21, .load 26 (.tmp 20), 26, "two.go:83", #[⟨4, .data⟩], none⟩ (v := ?_) ?_ ?_
          rotate_left 1
          · intro w hSw; (try dsimp only at hSw); go_simp; all_goals with_reducible rfl
          (try simp only [Act.put, PM1, PM2, PM3])
          refine tky 6 ⟨some 22, .load 26 (.tmp 5), 26, "two.go:83", #[], none⟩ (v := ?_) ?_ ?_
          rotate_left 1
          · intro w hSw; (try dsimp only at hSw); go_simp; all_goals with_reducible rfl
          (try simp only [Act.put, PM1, PM2, PM3])
          refine tky 7 ⟨some 23, .binOp Go.BinOp.neq 26 (.tmp 21) (.tmp 22) 26, 4, "two.go:83", #[⟨5, .data⟩, ⟨6, .data⟩], none⟩ (v := ?_) ?_ ?_
          rotate_left 1
          · intro w hSw; (try dsimp only at hSw); go_simp; exact ifs3_no HQ.out
          (try simp only [Act.put, PM1, PM2, PM3])
          refine tky 8 ⟨some 24, .move (.tmp 23), 4, "two.go:83", #[⟨7, .data⟩], none⟩ (v := ?_) ?_ ?_
          rotate_left 1
          · intro w hSw; (try dsimp only at hSw); go_simp; all_goals with_reducible rfl
          (try simp only [Act.put, PM1, PM2, PM3])
          refine tky 9 ⟨some 25, .load 50 (.tmp 4), 50, "two.go:83", #[⟨8, .guard⟩], some (8, true)⟩ (v := ?_) ?_ ?_
          rotate_left 1
          · intro w hSw; (try dsimp only at hSw); go_simp; all_goals with_reducible rfl
          (try simp only [Act.put, PM1, PM2, PM3])
          refine tky 10 ⟨some 26, .fieldAddr 50 (.tmp 3) 4, 0, "two.go:83", #[⟨8, .guard⟩], some (8, true)⟩ (v := ?_) ?_ ?_
          rotate_left 1
          · intro w hSw; (try dsimp only at hSw); go_simp; all_goals with_reducible rfl
          (try simp only [Act.put, PM1, PM2, PM3])
          refine tky 11 ⟨some 27, .load 48 (.tmp 26), 48, "two.go:83", #[⟨10, .data⟩, ⟨8, .guard⟩], some (8, true)⟩ (v := ?_) ?_ ?_
          rotate_left 1
          · intro w hSw; (try dsimp only at hSw); go_simp; all_goals with_reducible rfl
          (try simp only [Act.put, PM1, PM2, PM3])
          refine tky 12 ⟨some 28, .move (.tmp 7), 3, "two.go:83", #[⟨8, .guard⟩], some (8, true)⟩ (v := ?_) ?_ ?_
          rotate_left 1
          · intro w hSw; (try dsimp only at hSw); go_simp; all_goals with_reducible rfl
          (try simp only [Act.put, PM1, PM2, PM3])
          refine tky 13 ⟨some 29, .indexAddr 48 (.tmp 27) (.tmp 28), 0, "two.go:83", #[⟨11, .data⟩, ⟨12, .data⟩, ⟨8, .guard⟩], some (8, true)⟩ (v := ?_) ?_ ?_
          rotate_left 1
          · intro w hSw; (try dsimp only at hSw); go_simp; all_goals with_reducible rfl
          (try simp only [Act.put, PM1, PM2, PM3])
          refine tky 14 ⟨some 30, .fieldAddr 88 (.tmp 29) 0, 0, "two.go:83", #[⟨13, .data⟩, ⟨8, .guard⟩], some (8, true)⟩ (v := ?_) ?_ ?_
          rotate_left 1
          · intro w hSw; (try dsimp only at hSw); go_simp; all_goals with_reducible rfl
          (try simp only [Act.put, PM1, PM2, PM3])
          refine tky 15 ⟨some 31, .load 26 (.tmp 30), 26, "two.go:83", #[⟨14, .data⟩, ⟨8, .guard⟩], some (8, true)⟩ (v := ?_) ?_ ?_
          rotate_left 1
          · intro w hSw; (try dsimp only at hSw); go_simp; all_goals with_reducible rfl
          (try simp only [Act.put, PM1, PM2, PM3])
          refine tky 17 ⟨some 33, .fieldAddr 50 (.tmp 3) 4, 0, "two.go:83", #[⟨8, .guard⟩], some (8, true)⟩ (v := ?_) ?_ ?_
          rotate_left 1
          · intro w hSw; (try dsimp only at hSw); go_simp; all_goals with_reducible rfl
          (try simp only [Act.put, PM1, PM2, PM3])
          refine tky 18 ⟨some 34, .load 48 (.tmp 33), 48, "two.go:83", #[⟨17, .data⟩, ⟨8, .guard⟩], some (8, true)⟩ (v := ?_) ?_ ?_
          rotate_left 1
          · intro w hSw; (try dsimp only at hSw); go_simp; all_goals with_reducible rfl
          (try simp only [Act.put, PM1, PM2, PM3])
          refine tky 19 ⟨some 35, .move (.tmp 7), 3, "two.go:83", #[⟨8, .guard⟩], some (8, true)⟩ (v := ?_) ?_ ?_
          rotate_left 1
          · intro w hSw; (try dsimp only at hSw); go_simp; all_goals with_reducible rfl
          (try simp only [Act.put, PM1, PM2, PM3])
          refine tky 20 ⟨some 36, .indexAddr 48 (.tmp 34) (.tmp 35), 0, "two.go:83", #[⟨18, .data⟩, ⟨19, .data⟩, ⟨8, .guard⟩], some (8, true)⟩ (v := ?_) ?_ ?_
          rotate_left 1
          · intro w hSw; (try dsimp only at hSw); go_simp; all_goals with_reducible rfl
          (try simp only [Act.put, PM1, PM2, PM3])
          refine tky 21 ⟨some 37, .fieldAddr 88 (.tmp 36) 1, 0, "two.go:83", #[⟨20, .data⟩, ⟨8, .guard⟩], some (8, true)⟩ (v := ?_) ?_ ?_
          rotate_left 1
          · intro w hSw; (try dsimp only at hSw); go_simp; all_goals with_reducible rfl
          (try simp only [Act.put, PM1, PM2, PM3])
          refine tky 22 ⟨some 38, .load 3 (.tmp 37), 3, "two.go:83", #[⟨21, .data⟩, ⟨8, .guard⟩], some (8, true)⟩ (v := ?_) ?_ ?_
          rotate_left 1
          · intro w hSw; (try dsimp only at hSw); go_simp; all_goals with_reducible rfl
          (try simp only [Act.put, PM1, PM2, PM3])
          refine wpAnyH_ready (rs := [16]) (by as_aux_lemma => kernel_rfl) (by simp) (AllReadyH.cons (o := ⟨some 32, .call { callee := .value (.func 23), args := #[.tmp 25, .tmp 31], argTypes := #[50, 26] }, 3, "two.go:83", #[⟨9, .data⟩, ⟨15, .data⟩, ⟨8, .chain⟩, ⟨8, .guard⟩], some (8, true)⟩) rfl (fun K hK => ?_) AllReadyH.nil)
          go_simp
          go_at_call 23; refine (times_any b0 b1 b2 b3 ka kc k c.t _ (HCKj.out.below (by first | exact (Below.refl _ wr).drew | exact Below.refl _ wr)) (by omega)).mono ?_; rintro e wa ⟨rfl, hba⟩; have hB1 : Below wr.heap.size wr wa := (by first | exact (Below.refl _ wr).drew.trans hba | exact hba); rw [HTM.out]
          refine hK.out _ _ (by (try dsimp only); (with_reducible refine HS.out _ ?_); first | with_reducible exact hB1 | with_reducible exact (Below.refl _ wr).drew | with_reducible exact (Below.refl _ wr)) (fun hHeld => ?_)
          clear hK K
          (try simp only [Act.put, PM1, PM2, PM3])
          refine tky 23 ⟨some 39, .binOp Go.BinOp.neq 3 (.tmp 32) (.tmp 38) 3, 4, "two.go:83", #[⟨16, .data⟩, ⟨22, .data⟩, ⟨8, .guard⟩], some (8, true)⟩ (v := ?_) ?_ ?_
          rotate_left 1
          · intro w hSw; (try dsimp only at hSw); go_simp; all_goals with_reducible rfl
          (try simp only [Act.put, PM1, PM2, PM3])
          refine tky 24 ⟨some 40, .pick (.tmp 24) (.tmp 39) (.const (Go.Value.bool false)), 4, "two.go:83", #[⟨8, .data⟩, ⟨23, .data⟩], none⟩ (v := ?_) ?_ ?_
          rotate_left 1
          · intro w hSw; (try dsimp only at hSw); go_simp; all_goals with_reducible rfl
          (try simp only [Act.put, PM1, PM2, PM3])
          refine wpAnyH_done (by as_aux_lemma => kernel_rfl) ?_ _
          go_wp2
          go_meet
          exact ⟨rfl, hB1⟩
      case rest =>
        obtain ⟨rfl, hBc⟩ := hcut
        have HBc := hide (HBj.out.trans (hBc.mono HBj.out.size))
        clear hBc HS HAj HKj HTj a4 al kl tl HCKj HBj cl
        go_wp2_with fail
        go_roundw
        case rel => exact ⟨j + 1, by omega, by go_num, HBc.out⟩
        case measure => simp [intOf]; omega
    · have ej : j = l.length := by omega
      have hji : ¬ (j : Int) < (l.length : Int) := by omega
      go_wp2_with fail
      clear a4 al hji ej hlt hj HAj HKj HTj
      have HWj := hide HBj.out
      clear HBj
      go_loopw [8] (fun i ws => ∃ m : Nat, m ≤ k.length ∧ i = .int .i64 m ∧ Below W0.heap.size W0 ws) (fun i _ => k.length - (intOf i).toNat)
      case atStart => exact ⟨0, Nat.zero_le _, rfl, HWj.out⟩
      case round =>
        clear HWj
        obtain ⟨j, hj, rfl, hb⟩ := hrel
        have HBj := hide hb
        have HAj := hide ((hb.block _ (blk_lt HA.out)).trans HA.out)
        have HKj := hide ((hb.block _ (blk_lt HK.out)).trans HK.out)
        have HTj := hide ((hb.block _ (blk_lt HT.out)).trans HT.out)
        have a4 := blk_cell HKj.out 4
        simp at a4
        have al := blk_lt HKj.out
        clear hb
        by_cases hlt : j < k.length
        · obtain ⟨c, hc⟩ := get_lt hlt
          obtain ⟨cb, co, rfl, cl, c0, c1, c2, c3⟩ := (HCK.out.below HBj.out).at hc
          have hji : (j : Int) < (k.length : Int) := by omega
          have HS : Hid (∀ u : World, Below wr.heap.size wr u → u.cell? ⟨w.heap.size + 1, 4, none⟩ = some (.slice (some ⟨cb, co, none⟩) k.length kc) ∧ u.cell? ⟨w.heap.size, 0, none⟩ = some a0 ∧ u.cell? ⟨w.heap.size, 1, none⟩ = some a1 ∧ u.cell? ⟨w.heap.size, 2, none⟩ = some a2 ∧ u.cell? ⟨w.heap.size, 3, none⟩ = some a3 ∧ u.cell? ⟨w.heap.size, 4, none⟩ = some (.slice la l.length lc) ∧ u.cell? ⟨w.heap.size + 2, 0, none⟩ = some (.int .i64 t.op) ∧ u.cell? ⟨w.heap.size + 2, 1, none⟩ = some (.int .i64 t.a) ∧ u.cell? ⟨w.heap.size + 2, 2, none⟩ = some (.int .i64 t.b) ∧ u.cell? ⟨cb, co + j * 4, none⟩ = some (.int .i64 c.t.op) ∧ u.cell? ⟨cb, co + j * 4 + 1, none⟩ = some (.int .i64 c.t.a) ∧ u.cell? ⟨cb, co + j * 4 + 2, none⟩ = some (.int .i64 c.t.b) ∧ u.cell? ⟨cb, co + j * 4 + 3, none⟩ = some (.int .i64 c.n)) := fun u h => by
            have k0 := (h.block _ (blk_lt HKj.out)).trans HKj.out
            have k1 := (h.block _ (blk_lt HAj.out)).trans HAj.out
            have k2 := (h.block _ (blk_lt HTj.out)).trans HTj.out
            have n0 := (h.cell (p := ⟨cb, co + j * 4, none⟩) cl).trans c0
            have n1 := (h.cell (p := ⟨cb, co + j * 4 + 1, none⟩) cl).trans c1
            have n2 := (h.cell (p := ⟨cb, co + j * 4 + 2, none⟩) cl).trans c2
            have n3 := (h.cell (p := ⟨cb, co + j * 4 + 3, none⟩) cl).trans c3
            refine ⟨?_, ?_, ?_, ?_, ?_, ?_, ?_, ?_, ?_, n0, n1, n2, n3⟩
            · rw [blk_cell k0]; rfl
            · rw [blk_cell k1]; rfl
            · rw [blk_cell k1]; rfl
            · rw [blk_cell k1]; rfl
            · rw [blk_cell k1]; rfl
            · rw [blk_cell k1]; rfl
            · rw [blk_cell k2]; rfl
            · rw [blk_cell k2]; rfl
            · rw [blk_cell k2]; rfl
          have kl := blk_lt HAj.out
          have tl := blk_lt HTj.out
          have HCKj := hide (HCL.out.below HBj.out)
          have HM := hide (List.mem_of_getElem? hc)
          clear c0 c1 c2 c3 hc
          go_upto_region 9 with fail
          go_cut [72] from 48 to 72 (fun v wx => v = .bool false ∧ Below wr.heap.size wr wx)
          case first =>
            by_cases hct : c.t = t
            · have HQ := hide (show c.t.op = t.op ∧ c.t.a = t.a ∧ c.t.b = t.b by rw [hct]; exact ⟨rfl, rfl, rfl⟩)
              clear hct
              refine wp_region_held_drew (S := (fun u => u.cell? ⟨w.heap.size + 1, 4, none⟩ = some (.slice (some ⟨cb, co, none⟩) k.length kc) ∧ u.cell? ⟨w.heap.size, 0, none⟩ = some a0 ∧ u.cell? ⟨w.heap.size, 1, none⟩ = some a1 ∧ u.cell? ⟨w.heap.size, 2, none⟩ = some a2 ∧ u.cell? ⟨w.heap.size, 3, none⟩ = some a3 ∧ u.cell? ⟨w.heap.size, 4, none⟩ = some (.slice la l.length lc) ∧ u.cell? ⟨w.heap.size + 2, 0, none⟩ = some (.int .i64 t.op) ∧ u.cell? ⟨w.heap.size + 2, 1, none⟩ = some (.int .i64 t.a) ∧ u.cell? ⟨w.heap.size + 2, 2, none⟩ = some (.int .i64 t.b) ∧ u.cell? ⟨cb, co + j * 4, none⟩ = some (.int .i64 c.t.op) ∧ u.cell? ⟨cb, co + j * 4 + 1, none⟩ = some (.int .i64 c.t.a) ∧ u.cell? ⟨cb, co + j * 4 + 2, none⟩ = some (.int .i64 c.t.b) ∧ u.cell? ⟨cb, co + j * 4 + 3, none⟩ = some (.int .i64 c.n))) (by as_aux_lemma => kernel_rfl) (by (try dsimp only); (with_reducible refine HS.out _ ?_); first | with_reducible exact hB1 | with_reducible exact (Below.refl _ wr).drew | with_reducible exact (Below.refl _ wr)) (fun hHeld => ?_)
              refine tky 0 ⟨some 48, .fieldAddr 50 (.tmp 4) 4, 0, "two.go:88", #[], none⟩ (v := ?_) ?_ ?_
              rotate_left 1
              · intro w hSw; (try dsimp only at hSw); go_simp; all_goals with_reducible rfl
              (try simp only [Act.put, PM1, PM2, PM3])
              refine tky 1 ⟨some 49, .load 48 (.tmp 48), 48, "two.go:88", #[⟨0, .data⟩], none⟩ (v := ?_) ?_ ?_
              rotate_left 1
              · intro w hSw; (try dsimp only at hSw); go_simp; all_goals with_reducible rfl
              (try simp only [Act.put, PM1, PM2, PM3])
              refine tky 2 ⟨some 50, .move (.tmp 8), 3, "two.go:88", #[], none⟩ (v := ?_) ?_ ?_
              rotate_left 1
              · intro w hSw; (try dsimp only at hSw); go_simp; all_goals with_reducible rfl
              (try simp only [Act.put, PM1, PM2, PM3])
              refine tky 3 ⟨some 51, .indexAddr 48 (.tmp 49) (.tmp 50), 0, "two.go:88", #[⟨1, .data⟩, ⟨2, .data⟩], none⟩ (v := ?_) ?_ ?_
              rotate_left 1
              · intro w hSw; (try dsimp only at hSw); go_simp; all_goals with_reducible rfl
              (try simp only [Act.put, PM1, PM2, PM3])
              refine tky 4 ⟨some 52, .fieldAddr 88 (.tmp 51) 0, 0, "two.go:88", #[⟨3, .data⟩], none⟩ (v := ?_) ?_ ?_
              rotate_left 1
              · intro w hSw; (try dsimp only at hSw); go_simp; all_goals with_reducible rfl
              (try simp only [Act.put, PM1, PM2, PM3])
              refine tky 5 ⟨some 53, .load 26 (.tmp 52), 26, "two.go:88", #[⟨4, .data⟩], none⟩ (v := ?_) ?_ ?_
              rotate_left 1
              · intro w hSw; (try dsimp only at hSw); go_simp; all_goals with_reducible rfl
              (try simp only [Act.put, PM1, PM2, PM3])
              refine tky 6 ⟨some 54, .load 26 (.tmp 5), 26, "two.go:88", #[], none⟩ (v := ?_) ?_ ?_
              rotate_left 1
              · intro w hSw; (try dsimp only at hSw); go_simp; all_goals with_reducible rfl
              (try simp only [Act.put, PM1, PM2, PM3])
              refine tky 7 ⟨some 55, .binOp Go.BinOp.neq 26 (.tmp 53) (.tmp 54) 26, 4, "two.go:88", #[⟨5, .data⟩, ⟨6, .data⟩], none⟩ (v := ?_) ?_ ?_
              rotate_left 1
              · intro w hSw; (try dsimp only at hSw); go_simp; exact ifs3_yes HQ.out
              (try simp only [Act.put, PM1, PM2, PM3])
              refine tky 8 ⟨some 56, .move (.tmp 55), 4, "two.go:88", #[⟨7, .data⟩], none⟩ (v := ?_) ?_ ?_
              rotate_left 1
              · intro w hSw; (try dsimp only at hSw); go_simp; all_goals with_reducible rfl
              (try simp only [Act.put, PM1, PM2, PM3])
              refine tkn 9 ⟨some 57, .load 50 (.tmp 3), 50, "two.go:88", #[⟨8, .guard⟩], some (8, true)⟩ ?_
              (try simp only [Act.put, PM1, PM2, PM3])
              refine tkn 10 ⟨some 58, .fieldAddr 50 (.tmp 4) 4, 0, "two.go:88", #[⟨8, .guard⟩], some (8, true)⟩ ?_
              (try simp only [Act.put, PM1, PM2, PM3])
              refine tkn 11 ⟨some 59, .load 48 (.tmp 58), 48, "two.go:88", #[⟨10, .data⟩, ⟨8, .guard⟩], some (8, true)⟩ ?_
              (try simp only [Act.put, PM1, PM2, PM3])
              refine tkn 12 ⟨some 60, .move (.tmp 8), 3, "two.go:88", #[⟨8, .guard⟩], some (8, true)⟩ ?_
              (try simp only [Act.put, PM1, PM2, PM3])
              refine tkn 13 ⟨some 61, .indexAddr 48 (.tmp 59) (.tmp 60), 0, "two.go:88", #[⟨11, .data⟩, ⟨12, .data⟩, ⟨8, .guard⟩], some (8, true)⟩ ?_
              (try simp only [Act.put, PM1, PM2, PM3])
              refine tkn 14 ⟨some 62, .fieldAddr 88 (.tmp 61) 0, 0, "two.go:88", #[⟨13, .data⟩, ⟨8, .guard⟩], some (8, true)⟩ ?_
              (try simp only [Act.put, PM1, PM2, PM3])
              refine tkn 15 ⟨some 63, .load 26 (.tmp 62), 26, "two.go:88", #[⟨14, .data⟩, ⟨8, .guard⟩], some (8, true)⟩ ?_
              (try simp only [Act.put, PM1, PM2, PM3])
              refine tkn 16 ⟨some 64, .call { callee := .value (.func 23), args := #[.tmp 57, .tmp 63], argTypes := #[50, 26] }, 3, "two.go:88", #[⟨9, .data⟩, ⟨15, .data⟩, ⟨8, .chain⟩, ⟨8, .guard⟩], some (8, true)⟩ ?_
              (try simp only [Act.put, PM1, PM2, PM3])
              refine tkn 17 ⟨some 65, .fieldAddr 50 (.tmp 4) 4, 0, "two.go:88", #[⟨8, .guard⟩], some (8, true)⟩ ?_
              (try simp only [Act.put, PM1, PM2, PM3])
              refine tkn 18 ⟨some 66, .load 48 (.tmp 65), 48, "two.go:88", #[⟨17, .data⟩, ⟨8, .guard⟩], some (8, true)⟩ ?_
              (try simp only [Act.put, PM1, PM2, PM3])
              refine tkn 19 ⟨some 67, .move (.tmp 8), 3, "two.go:88", #[⟨8, .guard⟩], some (8, true)⟩ ?_
              (try simp only [Act.put, PM1, PM2, PM3])
              refine tkn 20 ⟨some 68, .indexAddr 48 (.tmp 66) (.tmp 67), 0, "two.go:88", #[⟨18, .data⟩, ⟨19, .data⟩, ⟨8, .guard⟩], some (8, true)⟩ ?_
              (try simp only [Act.put, PM1, PM2, PM3])
              refine tkn 21 ⟨some 69, .fieldAddr 88 (.tmp 68) 1, 0, "two.go:88", #[⟨20, .data⟩, ⟨8, .guard⟩], some (8, true)⟩ ?_
              (try simp only [Act.put, PM1, PM2, PM3])
              refine tkn 22 ⟨some 70, .load 3 (.tmp 69), 3, "two.go:88", #[⟨21, .data⟩, ⟨8, .guard⟩], some (8, true)⟩ ?_
              (try simp only [Act.put, PM1, PM2, PM3])
              refine tkn 23 ⟨some 71, .binOp Go.BinOp.neq 3 (.tmp 64) (.tmp 70) 3, 4, "two.go:88", #[⟨16, .data⟩, ⟨22, .data⟩, ⟨8, .guard⟩], some (8, true)⟩ ?_
              (try simp only [Act.put, PM1, PM2, PM3])
              refine tky 24 ⟨some 72, .pick (.tmp 56) (.tmp 71) (.const (Go.Value.bool false)), 4, "two.go:88", #[⟨8, .data⟩, ⟨23, .data⟩], none⟩ (v := ?_) ?_ ?_
              rotate_left 1
              · intro w hSw; (try dsimp only at hSw); go_simp; all_goals with_reducible rfl
              (try simp only [Act.put, PM1, PM2, PM3])
              refine wpAnyH_done (by as_aux_lemma => kernel_rfl) ?_ _
              go_wp2
              go_meet
              exact ⟨rfl, by first | exact (Below.refl _ wr).drew | exact Below.refl _ wr⟩
            · have HQ := hide (show ¬ (c.t.op = t.op ∧ c.t.a = t.a ∧ c.t.b = t.b) from fun q => hct (tm_ext q.1 q.2.1 q.2.2))
              have HTM : Hid (tmo l c.t = c.n) := by
                show tmo l c.t = c.n
                rw [tmo_cnt, ← HH.out _ hct]
                exact ct_memM HSK.out HM.out
              clear hct
              refine wp_region_held_drew (S := (fun u => u.cell? ⟨w.heap.size + 1, 4, none⟩ = some (.slice (some ⟨cb, co, none⟩) k.length kc) ∧ u.cell? ⟨w.heap.size, 0, none⟩ = some a0 ∧ u.cell? ⟨w.heap.size, 1, none⟩ = some a1 ∧ u.cell? ⟨w.heap.size, 2, none⟩ = some a2 ∧ u.cell? ⟨w.heap.size, 3, none⟩ = some a3 ∧ u.cell? ⟨w.heap.size, 4, none⟩ = some (.slice la l.length lc) ∧ u.cell? ⟨w.heap.size + 2, 0, none⟩ = some (.int .i64 t.op) ∧ u.cell? ⟨w.heap.size + 2, 1, none⟩ = some (.int .i64 t.a) ∧ u.cell? ⟨w.heap.size + 2, 2, none⟩ = some (.int .i64 t.b) ∧ u.cell? ⟨cb, co + j * 4, none⟩ = some (.int .i64 c.t.op) ∧ u.cell? ⟨cb, co + j * 4 + 1, none⟩ = some (.int .i64 c.t.a) ∧ u.cell? ⟨cb, co + j * 4 + 2, none⟩ = some (.int .i64 c.t.b) ∧ u.cell? ⟨cb, co + j * 4 + 3, none⟩ = some (.int .i64 c.n))) (by as_aux_lemma => kernel_rfl) (by (try dsimp only); (with_reducible refine HS.out _ ?_); first | with_reducible exact hB1 | with_reducible exact (Below.refl _ wr).drew | with_reducible exact (Below.refl _ wr)) (fun hHeld => ?_)
              refine tky 0 ⟨some 48, .fieldAddr 50 (.tmp 4) 4, 0, "two.go:88", #[], none⟩ (v := ?_) ?_ ?_
              rotate_left 1
              · intro w hSw; (try dsimp only at hSw); go_simp; all_goals with_reducible rfl
              (try simp only [Act.put, PM1, PM2, PM3])
              refine tky 1 ⟨some 49, .load 48 (.tmp 48), 48, "two.go:88", #[⟨0, .data⟩], none⟩ (v := ?_) ?_ ?_
              rotate_left 1
              · intro w hSw; (try dsimp only at hSw); go_simp; all_goals with_reducible rfl
              (try simp only [Act.put, PM1, PM2, PM3])
              refine tky 2 ⟨some 50, .move (.tmp 8), 3, "two.go:88", #[], none⟩ (v := ?_) ?_ ?_
              rotate_left 1
              · intro w hSw; (try dsimp only at hSw); go_simp; all_goals with_reducible rfl
              (try simp only [Act.put, PM1, PM2, PM3])
              refine tky 3 ⟨some 51, .indexAddr 48 (.tmp 49) (.tmp 50), 0, "two.go:88", #[⟨1, .data⟩, ⟨2, .data⟩], none⟩ (v := ?_) ?_ ?_
              rotate_left 1
              · intro w hSw; (try dsimp only at hSw); go_simp; all_goals with_reducible rfl
              (try simp only [Act.put, PM1, PM2, PM3])
              refine tky 4 ⟨some 52, .fieldAddr 88 (.tmp 51) 0, 0, "two.go:88", #[⟨3, .data⟩], none⟩ (v := ?_) ?_ ?_
              rotate_left 1
              · intro w hSw; (try dsimp only at hSw); go_simp; all_goals with_reducible rfl
              (try simp only [Act.put, PM1, PM2, PM3])
              refine tky 5 ⟨some 53, .load 26 (.tmp 52), 26, "two.go:88", #[⟨4, .data⟩], none⟩ (v := ?_) ?_ ?_
              rotate_left 1
              · intro w hSw; (try dsimp only at hSw); go_simp; all_goals with_reducible rfl
              (try simp only [Act.put, PM1, PM2, PM3])
              refine tky 6 ⟨some 54, .load 26 (.tmp 5), 26, "two.go:88", #[], none⟩ (v := ?_) ?_ ?_
              rotate_left 1
              · intro w hSw; (try dsimp only at hSw); go_simp; all_goals with_reducible rfl
              (try simp only [Act.put, PM1, PM2, PM3])
              refine tky 7 ⟨some 55, .binOp Go.BinOp.neq 26 (.tmp 53) (.tmp 54) 26, 4, "two.go:88", #[⟨5, .data⟩, ⟨6, .data⟩], none⟩ (v := ?_) ?_ ?_
              rotate_left 1
              · intro w hSw; (try dsimp only at hSw); go_simp; exact ifs3_no HQ.out
              (try simp only [Act.put, PM1, PM2, PM3])
              refine tky 8 ⟨some 56, .move (.tmp 55), 4, "two.go:88", #[⟨7, .data⟩], none⟩ (v := ?_) ?_ ?_
              rotate_left 1
              · intro w hSw; (try dsimp only at hSw); go_simp; all_goals with_reducible rfl
              (try simp only [Act.put, PM1, PM2, PM3])
              refine tky 9 ⟨some 57, .load 50 (.tmp 3), 50, "two.go:88", #[⟨8, .guard⟩], some (8, true)⟩ (v := ?_) ?_ ?_
              rotate_left 1
              · intro w hSw; (try dsimp only at hSw); go_simp; all_goals with_reducible rfl
              (try simp only [Act.put, PM1, PM2, PM3])
              refine tky 10 ⟨some 58, .fieldAddr 50 (.tmp 4) 4, 0, "two.go:88", #[⟨8, .guard⟩], some (8, true)⟩ (v := ?_) ?_ ?_
              rotate_left 1
              · intro w hSw; (try dsimp only at hSw); go_simp; all_goals with_reducible rfl
              (try simp only [Act.put, PM1, PM2, PM3])
              refine tky 11 ⟨some 59, .load 48 (.tmp 58), 48, "two.go:88", #[⟨10, .data⟩, ⟨8, .guard⟩], some (8, true)⟩ (v := ?_) ?_ ?_
              rotate_left 1
              · intro w hSw; (try dsimp only at hSw); go_simp; all_goals with_reducible rfl
              (try simp only [Act.put, PM1, PM2, PM3])
              refine tky 12 ⟨some 60, .move (.tmp 8), 3, "two.go:88", #[⟨8, .guard⟩], some (8, true)⟩ (v := ?_) ?_ ?_
              rotate_left 1
              · intro w hSw; (try dsimp only at hSw); go_simp; all_goals with_reducible rfl
              (try simp only [Act.put, PM1, PM2, PM3])
              refine tky 13 ⟨some 61, .indexAddr 48 (.tmp 59) (.tmp 60), 0, "two.go:88", #[⟨11, .data⟩, ⟨12, .data⟩, ⟨8, .guard⟩], some (8, true)⟩ (v := ?_) ?_ ?_
              rotate_left 1
              · intro w hSw; (try dsimp only at hSw); go_simp; all_goals with_reducible rfl
              (try simp only [Act.put, PM1, PM2, PM3])
              refine tky 14 ⟨some 62, .fieldAddr 88 (.tmp 61) 0, 0, "two.go:88", #[⟨13, .data⟩, ⟨8, .guard⟩], some (8, true)⟩ (v := ?_) ?_ ?_
              rotate_left 1
              · intro w hSw; (try dsimp only at hSw); go_simp; all_goals with_reducible rfl
              (try simp only [Act.put, PM1, PM2, PM3])
              refine tky 15 ⟨some 63, .load 26 (.tmp 62), 26, "two.go:88", #[⟨14, .data⟩, ⟨8, .guard⟩], some (8, true)⟩ (v := ?_) ?_ ?_
              rotate_left 1
              · intro w hSw; (try dsimp only at hSw); go_simp; all_goals with_reducible rfl
              (try simp only [Act.put, PM1, PM2, PM3])
              refine tky 17 ⟨some 65, .fieldAddr 50 (.tmp 4) 4, 0, "two.go:88", #[⟨8, .guard⟩], some (8, true)⟩ (v := ?_) ?_ ?_
              rotate_left 1
              · intro w hSw; (try dsimp only at hSw); go_simp; all_goals with_reducible rfl
              (try simp only [Act.put, PM1, PM2, PM3])
              refine tky 18 ⟨some 66, .load 48 (.tmp 65), 48, "two.go:88", #[⟨17, .data⟩, ⟨8, .guard⟩], some (8, true)⟩ (v := ?_) ?_ ?_
              rotate_left 1
              · intro w hSw; (try dsimp only at hSw); go_simp; all_goals with_reducible rfl
              (try simp only [Act.put, PM1, PM2, PM3])
              refine tky 19 ⟨some 67, .move (.tmp 8), 3, "two.go:88", #[⟨8, .guard⟩], some (8, true)⟩ (v := ?_) ?_ ?_
              rotate_left 1
              · intro w hSw; (try dsimp only at hSw); go_simp; all_goals with_reducible rfl
              (try simp only [Act.put, PM1, PM2, PM3])
              refine tky 20 ⟨some 68, .indexAddr 48 (.tmp 66) (.tmp 67), 0, "two.go:88", #[⟨18, .data⟩, ⟨19, .data⟩, ⟨8, .guard⟩], some (8, true)⟩ (v := ?_) ?_ ?_
              rotate_left 1
              · intro w hSw; (try dsimp only at hSw); go_simp; all_goals with_reducible rfl
              (try simp only [Act.put, PM1, PM2, PM3])
              refine tky 21 ⟨some 69, .fieldAddr 88 (.tmp 68) 1, 0, "two.go:88", #[⟨20, .data⟩, ⟨8, .guard⟩], some (8, true)⟩ (v := ?_) ?_ ?_
              rotate_left 1
              · intro w hSw; (try dsimp only at hSw); go_simp; all_goals with_reducible rfl
              (try simp only [Act.put, PM1, PM2, PM3])
              refine tky 22 ⟨some 70, .load 3 (.tmp 69), 3, "two.go:88", #[⟨21, .data⟩, ⟨8, .guard⟩], some (8, true)⟩ (v := ?_) ?_ ?_
              rotate_left 1
              · intro w hSw; (try dsimp only at hSw); go_simp; all_goals with_reducible rfl
              (try simp only [Act.put, PM1, PM2, PM3])
              refine wpAnyH_ready (rs := [16]) (by as_aux_lemma => kernel_rfl) (by simp) (AllReadyH.cons (o := ⟨some 64, .call { callee := .value (.func 23), args := #[.tmp 57, .tmp 63], argTypes := #[50, 26] }, 3, "two.go:88", #[⟨9, .data⟩, ⟨15, .data⟩, ⟨8, .chain⟩, ⟨8, .guard⟩], some (8, true)⟩) rfl (fun K hK => ?_) AllReadyH.nil)
              go_simp
              go_at_call 23; refine (times_any a0 a1 a2 a3 la lc l c.t _ (HCKj.out.below (by first | exact (Below.refl _ wr).drew | exact Below.refl _ wr)) (by omega)).mono ?_; rintro e wa ⟨rfl, hba⟩; have hB1 : Below wr.heap.size wr wa := (by first | exact (Below.refl _ wr).drew.trans hba | exact hba); rw [HTM.out]
              refine hK.out _ _ (by (try dsimp only); (with_reducible refine HS.out _ ?_); first | with_reducible exact hB1 | with_reducible exact (Below.refl _ wr).drew | with_reducible exact (Below.refl _ wr)) (fun hHeld => ?_)
              clear hK K
              (try simp only [Act.put, PM1, PM2, PM3])
              refine tky 23 ⟨some 71, .binOp Go.BinOp.neq 3 (.tmp 64) (.tmp 70) 3, 4, "two.go:88", #[⟨16, .data⟩, ⟨22, .data⟩, ⟨8, .guard⟩], some (8, true)⟩ (v := ?_) ?_ ?_
              rotate_left 1
              · intro w hSw; (try dsimp only at hSw); go_simp; all_goals with_reducible rfl
              (try simp only [Act.put, PM1, PM2, PM3])
              refine tky 24 ⟨some 72, .pick (.tmp 56) (.tmp 71) (.const (Go.Value.bool false)), 4, "two.go:88", #[⟨8, .data⟩, ⟨23, .data⟩], none⟩ (v := ?_) ?_ ?_
              rotate_left 1
              · intro w hSw; (try dsimp only at hSw); go_simp; all_goals with_reducible rfl
              (try simp only [Act.put, PM1, PM2, PM3])
              refine wpAnyH_done (by as_aux_lemma => kernel_rfl) ?_ _
              go_wp2
              go_meet
              exact ⟨rfl, hB1⟩
          case rest =>
            obtain ⟨rfl, hBc⟩ := hcut
            have HBc := hide (HBj.out.trans (hBc.mono HBj.out.size))
            clear hBc HS HAj HKj HTj a4 al kl tl HCKj HBj cl
            go_wp2_with fail
            go_roundw
            case rel => exact ⟨j + 1, by omega, by go_num, HBc.out⟩
            case measure => simp [intOf]; omega
        · have hji : ¬ (j : Int) < (k.length : Int) := by omega
          have HBf := hide (HB.out.trans (HBj.out.mono HB.out.size))
          go_wp2_with fail
          go_ret
          exact ⟨rfl, HBf.out⟩

end Go.Proofs.YtoikglgnmjjpcabGreat
