/-
  hoistwaylaw.RunTimes, walked.
-/
import Derived.Test.YtoikglgnmjjpcaaRV
namespace Go.Proofs.Ytoikglgnmjjpcaa
open Go.RowKit
set_option linter.unusedVariables false

theorem times_at {w0 : World} (v0 v1 v2 v3 : Value) (a : Option Addr) (cap : Nat) (l : List Ct) (t : Tm) (W : World) (hl : l.length ≤ 9223372036854775807) (hC : CtsAt w0 a l) (hB : Below w0.heap.size w0 W) :
    Calls Try.prog 27 #[.agg #[v0, v1, v2, v3, .slice a l.length cap], .agg #[.int .i64 t.op, .int .i64 t.a, .int .i64 t.b]] W fun e w' => e = .returned (.int .i64 (tmo l t)) ∧ Below w0.heap.size w0 w' := by
  refine (times_any v0 v1 v2 v3 a cap l t W (hC.below hB) hl).mono ?_
  rintro e w' ⟨rfl, hb⟩
  exact ⟨rfl, hB.trans (hb.mono hB.size)⟩

theorem timesOf_at {w0 : World} (v0 v1 v2 v3 : Value) (a : Option Addr) (cap : Nat) (l : List Ct) (t : Tm) (W : World) (hl : l.length ≤ 9223372036854775807) (hC : CtsAt w0 a l) (hB : Below w0.heap.size w0 W) :
    Calls Try.prog 28 #[.agg #[v0, v1, v2, v3, .slice a l.length cap], .agg #[.int .i64 t.op, .int .i64 t.a, .int .i64 t.b]] W fun e w' => e = .returned (.int .i64 (tmo l t)) ∧ Below w0.heap.size w0 w' := by
  refine (timesOf_any v0 v1 v2 v3 a cap l t W (hC.below hB) hl).mono ?_
  rintro e w' ⟨rfl, hb⟩
  exact ⟨rfl, hB.trans (hb.mono hB.size)⟩

theorem held8 {w u : World} {b c : Nat} {x0 x1 x2 x3 x4 y0 y1 y2 : Value} {t t' : TypeId} (hb : w.heap[b]? = some (.cells #[x0, x1, x2, x3, x4] t (0, 0))) (hc : w.heap[c]? = some (.cells #[y0, y1, y2] t' (0, 0))) (hB : Below w.heap.size w u) :
    u.cell? ⟨b, 0, none⟩ = some x0 ∧ u.cell? ⟨b, 1, none⟩ = some x1 ∧ u.cell? ⟨b, 2, none⟩ = some x2 ∧ u.cell? ⟨b, 3, none⟩ = some x3 ∧ u.cell? ⟨b, 4, none⟩ = some x4 ∧ u.cell? ⟨c, 0, none⟩ = some y0 ∧ u.cell? ⟨c, 1, none⟩ = some y1 ∧ u.cell? ⟨c, 2, none⟩ = some y2 := by
  have hb' : u.heap[b]? = _ := (hB.block b (blk_lt hb)).trans hb
  have hc' : u.heap[c]? = _ := (hB.block c (blk_lt hc)).trans hc
  exact ⟨blk_cell hb' 0, blk_cell hb' 1, blk_cell hb' 2, blk_cell hb' 3, blk_cell hb' 4, blk_cell hc' 0, blk_cell hc' 1, blk_cell hc' 2⟩

set_option maxHeartbeats 1000000 in
set_option maxRecDepth 100000 in
theorem runTimes_any (ao : Option Addr) (no co : Nat) (ret : Int) (en : Bool) (st : Int) (a : Option Addr) (cap : Nat) (l : List Ct) (t : Tm) (w : World) (hC : CtsAt w a l) (hl : l.length ≤ 9223372036854775807) :
    Calls Try.prog 5 #[.agg #[.slice ao no co, .int .i64 ret, .bool en, .int .i64 st, .slice a l.length cap], .agg #[.int .i64 t.op, .int .i64 t.a, .int .i64 t.b]] w fun e w' => e = .returned (.bool true) ∧ Below w.heap.size w w' := by
  go_enter Try.func5, Try.ntmps5
  go_wp2
  have hb0 : Below w.heap.size w ((w.alloc (.cells #[.slice ao no co, .int .i64 ret, .bool en, .int .i64 st, .slice a l.length cap] 42)).alloc (.cells #[.int .i64 t.op, .int .i64 t.a, .int .i64 t.b] 36)) := ((Below.refl _ w).alloc (Nat.le_refl _) _).alloc (by simp) _
  have hk0 : ((w.alloc (.cells #[.slice ao no co, .int .i64 ret, .bool en, .int .i64 st, .slice a l.length cap] 42)).alloc (.cells #[.int .i64 t.op, .int .i64 t.a, .int .i64 t.b] 36)).heap[w.heap.size + 1]? = some (.cells #[.int .i64 t.op, .int .i64 t.a, .int .i64 t.b] 36 (0, 0)) := blk_new (by simp)
  have hr0 : ((w.alloc (.cells #[.slice ao no co, .int .i64 ret, .bool en, .int .i64 st, .slice a l.length cap] 42)).alloc (.cells #[.int .i64 t.op, .int .i64 t.a, .int .i64 t.b] 36)).heap[w.heap.size]? = some (.cells #[.slice ao no co, .int .i64 ret, .bool en, .int .i64 st, .slice a l.length cap] 42 (0, 0)) := blk_alloc _ (blk_new rfl)
  generalize (w.alloc (.cells #[.slice ao no co, .int .i64 ret, .bool en, .int .i64 st, .slice a l.length cap] 42)).alloc (.cells #[.int .i64 t.op, .int .i64 t.a, .int .i64 t.b] 36) = W0 at hb0 hk0 hr0 ⊢
  have HC := hide (hC.below hb0)
  have HT := hide (fun u hB => held8 (u := u) hr0 hk0 hB)
  have HB := hide hb0
  clear hC hb0 hk0 hr0
  go_region_held3 (fun u => u.cell? ⟨w.heap.size, 0, none⟩ = some (.slice ao no co) ∧ u.cell? ⟨w.heap.size, 1, none⟩ = some (.int .i64 ret) ∧ u.cell? ⟨w.heap.size, 2, none⟩ = some (.bool en) ∧ u.cell? ⟨w.heap.size, 3, none⟩ = some (.int .i64 st) ∧ u.cell? ⟨w.heap.size, 4, none⟩ = some (.slice a l.length cap) ∧ u.cell? ⟨w.heap.size + 1, 0, none⟩ = some (.int .i64 t.op) ∧ u.cell? ⟨w.heap.size + 1, 1, none⟩ = some (.int .i64 t.a) ∧ u.cell? ⟨w.heap.size + 1, 2, none⟩ = some (.int .i64 t.b)) (first
    | exact HT.out _ hB3
    | exact HT.out _ hBo
    | exact HT.out _ hBt
    | exact HT.out _ hB1
    | exact HT.out _ (Below.refl _ W0).drew
    | exact HT.out _ (Below.refl _ W0)) (first
    | (go_at_call 25; refine (runBegun_any _).mono ?_; rintro e w1 ⟨rfl, hb1⟩; have hB1 : Below W0.heap.size W0 w1 := (Below.refl _ W0).drew.trans hb1)
    | (go_at_call 27; refine (times_at _ _ _ _ a cap l t _ hl HC.out hBo).mono ?_; rintro e w3 ⟨rfl, hB3⟩)
    | (go_at_call 27; refine (times_at _ _ _ _ a cap l t _ hl HC.out hB1).mono ?_; rintro e w2 ⟨rfl, hBt⟩)
    | (go_at_call 28; refine (timesOf_at _ _ _ _ a cap l t _ hl HC.out hBt).mono ?_; rintro e w3 ⟨rfl, hB3⟩)
    | (go_at_call 28; refine (timesOf_at _ _ _ _ a cap l t _ hl HC.out hB1).mono ?_; rintro e w2 ⟨rfl, hBo⟩))
  all_goals go_wp2
  all_goals go_ret
  all_goals exact ⟨by simp, HB.out.trans (hB3.mono HB.out.size)⟩
end Go.Proofs.Ytoikglgnmjjpcaa
