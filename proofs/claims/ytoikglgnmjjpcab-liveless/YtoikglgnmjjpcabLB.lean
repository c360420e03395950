/-
  slices.AppendSeq and slices.Collect over a node's exits, walked.
-/
import Derived.RangeFuncBox
import Derived.Maps.AppendAt
import Derived.Test.YtoikglgnmjjpcabLA
import Derived.Test.YtoikglgnmjjpcabG
namespace Go.Proofs.Ytoikglgnmjjpcab
open Go.RowKit Go.Shelf
set_option linter.unusedVariables false

attribute [local go_sem] Oper.semAt_some

theorem KT.appended {W w1 : World} {n₀ B N : Nat} {t e : TypeId} {size : Nat} {v v' : Value} {k : Nat} {xs : List Value} {tmp : Obj} (hv1 : Boxed w1 B t v) (hte : e ≠ 90) (htt : t ≠ 90) (hrow : W.ownsRow n₀ e size v k xs) (hN : N < W.heap.size) (hNn : N < n₀) (hB : B ≠ N) (hgrow : (W.alloc tmp).grownBy w1 v.ownBlock) : KT N W (w1.setCell ⟨B, 0, none⟩ v') := by
  have h1 : KT N W (W.alloc tmp) := KT.of_below ((Below.refl _ W).alloc (Nat.le_refl _) _) hN
  have h2 : KT N (W.alloc tmp) w1 := by
    refine KT.grown hgrow (by simp; omega) fun g e' => ?_
    rcases (hrow.alloc tmp).2 with ⟨rfl, _⟩ | ⟨g', cap, cur, rfl, hb, hgb, _⟩
    · simp [Value.ownBlock] at e'
    · obtain rfl : g' = g := by simpa [Value.ownBlock] using e'
      exact ⟨by omega, _, _, _, hgb, hte⟩
  exact (h1.trans h2).trans (KT.setCell (o := 0) hv1 htt hB v')

set_option maxRecDepth 100000 in
set_option maxHeartbeats 2000000 in
/-- slices.AppendSeq(nil, exits): the exits, in memory of the call's own. -/
theorem appendSeq_in (n : Nat) (hn : 3 ≤ n) (B : Nat) (x : Nd) (w : World) (hx : NodeBox w B x) :
    CallsIn Fence.wide n Try.prog 73 #[.slice none 0 0, .func (.func 62) #[] #[.pointer (some ⟨B, 0, none⟩)]] w fun e W' => ∃ v, e = .returned v ∧ W'.ownsRow w.heap.size 3 1 v (exo x).length ((exo x).map (Value.int .i64)) ∧ Below w.heap.size w W' := by
  have h1 : 1 ≤ n := by omega
  obtain ⟨i0, hi, hz0, hz1, hz2⟩ := info_parts info_int
  refine callsIn_of_wp_marks Try.func73 rfl trivial ?_ rfl
  simp only [Try.ntmps73, List.size_toArray, List.length_cons, List.length_nil, Nat.reduceAdd, Nat.reduceSub, Array.replicate_succ, Array.replicate_zero, List.push_toArray, List.append_toArray, List.nil_append, List.cons_append]
  gi_wp2
  have bO := Boxed.new w 36 (.slice none 0 0)
  have hB0 : Below w.heap.size w (w.alloc (.cells #[.slice none 0 0] 36)) := (Below.refl _ w).alloc (Nat.le_refl _) _
  refine wpIn_rangeFunc_ownG rfl h1 (gf := 62) (lb := #[.pointer (some ⟨B, 0, none⟩)]) rfl trivial (enters_of Try.func62 (by kernel_rfl) rfl)
    (exits_stops (n - 1) (by omega) B x _ (hx.below hB0 hx.lt)) KT.trans (KT.putObj (by have := hx.lt; simp; omega)) (Below.refl _ _) (fun _ => rfl)
    (fun pre W => (∃ v, Boxed W w.heap.size 36 v ∧ W.ownsRow w.heap.size 3 1 v pre.length (pre.map fun y => Value.int .i64 y.1) ∧ True) ∧ Below w.heap.size w W)
    (fun _ _ _ => False)
    (OwnFrom.and (Own.from (holdsRow_own w.heap.size w.heap.size 36 3 1 (fun (pre : List (Ex x)) => pre.length) (fun (pre : List (Ex x)) => pre.map fun y => Value.int .i64 y.1) (fun pre v => True)) _) (ownFrom_below (Nat.le_refl _) (by simp)))
    (fun _ _ _ _ _ hs _ _ => hs)
    ⟨⟨_, bO, World.ownsRow_nil _ _ _ _, trivial⟩, hB0⟩
    (fun y => { tmps := #[.slice none 0 0, .func (.func 62) #[] #[.pointer (some ⟨B, 0, none⟩)], .pointer (some ⟨w.heap.size, 0, none⟩), undef, .slice none 0 0, .int .i64 y.1, .func (.func 62) #[] #[.pointer (some ⟨B, 0, none⟩)], .int .i64 y.1, undef, undef, undef, undef, undef], defers := [] }) ?assign ?body ?done ?stop
  case assign =>
    intro l y W K hK
    gi_wp2
    exact hK
  case body =>
    rintro l pre y W ⟨⟨v, hv, hrow, _⟩, hB⟩ hlt
    have hc := hv.cell
    have hpl : pre.length < 2 := Nat.lt_of_lt_of_le hlt (exo_len x)
    gi_wp2_with (gi_at_builtin; refine wpListIn_append_own _ rfl _ _ 36 rfl w.heap.size 3 i0 (.int .i64 0) 1 8 Try.underlying36 hi hz0 hz1 hz2 rfl (by decide) _ _ _ rfl (hrow.alloc _) ⟨W.heap.size, 0, none⟩ 1 1 [.int .i64 y.1] rfl rfl (cell_one_new _ _ _) (by simp [Value.oneCell']) (by unfold maxLen; omega) (by omega) (by have := hB.size; simp; omega) ?_; intro v' w1 hown' hgrow _; obtain ⟨g', cap', rfl⟩ := ownsRow_succ hown'; obtain ⟨hv1, hv2, hr2, hk2, hb2⟩ := hv.appended (by decide) hrow hB.size (Nat.le_refl _) hown' hgrow; have hc1 := hv1.cell; have hf1 := hv1.frozen)
    exact ⟨hk2.from _, KT.appended hv1 (by decide) (by decide) hrow (by have := hx.lt; have := hB.size; omega) hx.lt (by have := hx.lt; omega) hgrow, ⟨_, hv2, by simpa using hr2, trivial⟩, hB.trans hb2⟩
  case done =>
    rintro D ys W hD rfl ⟨⟨v, hv, hrow, _⟩, hB⟩ hK
    have hc := hv.cell
    gi_wp2
    refine ⟨by simp, .inl ⟨_, _, rfl, run_takeDeferred hK, ?_⟩⟩
    refine ⟨_, results_tmp rfl _ _ _, v, rfl, ?_, hB.trans (belowK_b (w := w) (Nat.le_refl _) W D _ _ (by simp at hD; omega) hK rfl rfl)⟩
    have h2 := ownsRow_putObj hrow (.deferred none) hK rfl
    have e1 : (exoA x).map (fun y => Value.int .i64 y.1) = (exo x).map (Value.int .i64) := by
      have := congrArg (List.map (Value.int .i64)) (exoA_map x)
      rw [List.map_map] at this; exact this
    rw [exoA_len, e1] at h2
    exact h2
  case stop =>
    rintro D c pre W _ _ h _
    exact h.elim

set_option maxHeartbeats 1000000 in
theorem collect_in (n : Nat) (hn : 4 ≤ n) (B : Nat) (x : Nd) (w : World) (hx : NodeBox w B x) :
    CallsIn Fence.wide n Try.prog 60 #[.func (.func 62) #[] #[.pointer (some ⟨B, 0, none⟩)]] w fun e W' => ∃ v, e = .returned v ∧ W'.ownsRow w.heap.size 3 1 v (exo x).length ((exo x).map (Value.int .i64)) ∧ Below w.heap.size w W' := by
  have h1 : 1 ≤ n := by omega
  have hA := appendSeq_in (n - 1) (by omega) B x w hx
  refine callsIn_of_wp Try.func60 rfl trivial ?_ rfl
  simp only [Try.ntmps60, List.size_toArray, List.length_cons, List.length_nil, Nat.reduceAdd, Nat.reduceSub, Array.replicate_succ, Array.replicate_zero, List.push_toArray, List.append_toArray, List.nil_append, List.cons_append]
  gi_wp2_with (refine ⟨trivial, ?_⟩; gi_at_call 73; refine hA.mono ?_; rintro e w1 ⟨v, rfl, hrow, hb⟩)
  go_ret
  exact ⟨v, rfl, hrow, hb⟩

end Go.Proofs.Ytoikglgnmjjpcab
