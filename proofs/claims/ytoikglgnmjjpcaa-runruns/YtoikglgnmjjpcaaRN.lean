/-
  cmp.Compare, cmp.Or and the order by which run.counts sorts, walked.
-/
import Derived.Test.YtoikglgnmjjpcaaRM
import Derived.Sort.Grow
namespace Go.Proofs.Ytoikglgnmjjpcaa
open Go.RowKit Go.Maps Go.ChangeMaps
set_option linter.unusedVariables false

def cp (a b : Int) : Int := if a < b then -1 else if b < a then 1 else 0

set_option maxHeartbeats 400000 in
theorem nan_any (a : Int) (w : World) : Calls Try.prog 131 #[.int .i64 a] w fun e w' => e = .returned (.bool false) ∧ w' = w := by
  go_enter Try.func131, Try.ntmps131
  go_wp2
  go_ret
  exact ⟨by simp, rfl⟩

set_option maxHeartbeats 400000 in
theorem compare_any (a b : Int) (w : World) : Calls Try.prog 106 #[.int .i64 a, .int .i64 b] w fun e w' => e = .returned (.int .i64 (cp a b)) ∧ w' = w := by
  go_enter Try.func106, Try.ntmps106
  go_wp2_with (go_at_call 131; refine (nan_any _ _).mono ?_; rintro e w' ⟨rfl, rfl⟩)
  all_goals go_ret
  all_goals refine ⟨ret_int ?_, rfl⟩
  all_goals (unfold cp; repeat' split)
  all_goals omega

def or3 (a b c : Int) : Int := if a ≠ 0 then a else if b ≠ 0 then b else c

set_option maxHeartbeats 1000000 in
theorem or_any (b : Nat) (x y z : Int) (w : World) (h0 : w.cell? ⟨b, 0, none⟩ = some (.int .i64 x)) (h1 : w.cell? ⟨b, 1, none⟩ = some (.int .i64 y)) (h2 : w.cell? ⟨b, 2, none⟩ = some (.int .i64 z)) :
    Calls Try.prog 105 #[.slice (some ⟨b, 0, none⟩) 3 3] w fun e w' => e = .returned (.int .i64 (or3 x y z)) ∧ w' = w := by
  go_enter Try.func105, Try.ntmps105
  go_wp2
  refine wp_loop_rounds 4 ?_
  rw [rounds_succ]
  go_wp2
  all_goals (first | (rw [rounds_succ]; go_wp2) | skip)
  all_goals (first | (rw [rounds_succ]; go_wp2) | skip)
  all_goals (first | (rw [rounds_succ]; go_wp2) | skip)
  all_goals go_ret
  all_goals refine ⟨ret_int ?_, rfl⟩
  all_goals simp_all [or3]

/-- How two counts stand to each other. -/
def cpC (x y : Ct) : Int := or3 (cp x.t.op y.t.op) (cp x.t.a y.t.a) (cp x.t.b y.t.b)

theorem cpC_lt (x y : Ct) : decide (cpC x y < 0) = abv y.t x.t := by
  obtain ⟨⟨a1, a2, a3⟩, n⟩ := x
  obtain ⟨⟨b1, b2, b3⟩, m⟩ := y
  simp only [cpC, or3, cp, abv]
  repeat' split
  all_goals (first | omega | (simp; done) | (simp; omega) | simp_all)

open Go.Lib Go.Sort in
set_option maxRecDepth 100000 in
set_option maxHeartbeats 1000000 in
theorem closure_any (x y : Ct) (w : World) :
    Calls Try.prog 104 #[.agg #[.int .i64 x.t.op, .int .i64 x.t.a, .int .i64 x.t.b, .int .i64 x.n], .agg #[.int .i64 y.t.op, .int .i64 y.t.a, .int .i64 y.t.b, .int .i64 y.n]] w fun e w' => e = .returned (.int .i64 (cpC x y)) ∧ ∃ q os', w' = grow (w.drewN q) os' := by
  go_enter Try.func104, Try.ntmps104
  go_wp2
  have x0 : ((w.alloc (.cells #[.int .i64 x.t.op, .int .i64 x.t.a, .int .i64 x.t.b, .int .i64 x.n] 111)).alloc (.cells #[.int .i64 y.t.op, .int .i64 y.t.a, .int .i64 y.t.b, .int .i64 y.n] 111)).cell? ⟨w.heap.size, 0, none⟩ = some (.int .i64 x.t.op) := by simp
  have x1 : ((w.alloc (.cells #[.int .i64 x.t.op, .int .i64 x.t.a, .int .i64 x.t.b, .int .i64 x.n] 111)).alloc (.cells #[.int .i64 y.t.op, .int .i64 y.t.a, .int .i64 y.t.b, .int .i64 y.n] 111)).cell? ⟨w.heap.size, 1, none⟩ = some (.int .i64 x.t.a) := by simp
  have x2 : ((w.alloc (.cells #[.int .i64 x.t.op, .int .i64 x.t.a, .int .i64 x.t.b, .int .i64 x.n] 111)).alloc (.cells #[.int .i64 y.t.op, .int .i64 y.t.a, .int .i64 y.t.b, .int .i64 y.n] 111)).cell? ⟨w.heap.size, 2, none⟩ = some (.int .i64 x.t.b) := by simp
  have y0 : ((w.alloc (.cells #[.int .i64 x.t.op, .int .i64 x.t.a, .int .i64 x.t.b, .int .i64 x.n] 111)).alloc (.cells #[.int .i64 y.t.op, .int .i64 y.t.a, .int .i64 y.t.b, .int .i64 y.n] 111)).cell? ⟨w.heap.size + 1, 0, none⟩ = some (.int .i64 y.t.op) := by simp
  have y1 : ((w.alloc (.cells #[.int .i64 x.t.op, .int .i64 x.t.a, .int .i64 x.t.b, .int .i64 x.n] 111)).alloc (.cells #[.int .i64 y.t.op, .int .i64 y.t.a, .int .i64 y.t.b, .int .i64 y.n] 111)).cell? ⟨w.heap.size + 1, 1, none⟩ = some (.int .i64 y.t.a) := by simp
  have y2 : ((w.alloc (.cells #[.int .i64 x.t.op, .int .i64 x.t.a, .int .i64 x.t.b, .int .i64 x.n] 111)).alloc (.cells #[.int .i64 y.t.op, .int .i64 y.t.a, .int .i64 y.t.b, .int .i64 y.n] 111)).cell? ⟨w.heap.size + 1, 2, none⟩ = some (.int .i64 y.t.b) := by simp
  have HW : Hid (∃ os', (w.alloc (.cells #[.int .i64 x.t.op, .int .i64 x.t.a, .int .i64 x.t.b, .int .i64 x.n] 111)).alloc (.cells #[.int .i64 y.t.op, .int .i64 y.t.a, .int .i64 y.t.b, .int .i64 y.n] 111) = grow w os') := ⟨_, by rw [alloc_eq_grow, alloc_eq_grow, grow_grow]⟩
  generalize (w.alloc (.cells #[.int .i64 x.t.op, .int .i64 x.t.a, .int .i64 x.t.b, .int .i64 x.n] 111)).alloc (.cells #[.int .i64 y.t.op, .int .i64 y.t.a, .int .i64 y.t.b, .int .i64 y.n] 111) = W at x0 x1 x2 y0 y1 y2 HW ⊢
  refine wp_region_still_tail 21 (by kernel_rfl) (by kernel_rfl) ?_
  simp only [List.take_succ_cons, List.take_zero, List.drop_succ_cons, List.drop_zero]
  repeat still_step
  still_call (compare_any _ _ _)
  repeat still_step
  still_call (compare_any _ _ _)
  repeat still_step
  still_call (compare_any _ _ _)
  repeat still_step
  refine wpStill_nil ?_
  go_wp2_with fail
  refine (or_any _ (cp x.t.op y.t.op) (cp x.t.a y.t.a) (cp x.t.b y.t.b) _ (by simp) (by simp) (by simp)).mono ?_
  rintro e w' ⟨rfl, rfl⟩
  go_wp2
  go_ret
  obtain ⟨os', e⟩ := HW.out
  subst e
  exact ⟨rfl, 1, _, (alloc_eq_grow _ _).trans (grow_grow (w.drewN 1) os' _)⟩
end Go.Proofs.Ytoikglgnmjjpcaa
