/-
  slices.Clone at nodes, and graph.turn, walked.
-/
import Derived.Test.YtoikglgnmjjpcaaLI
import Derived.Test.YtoikglgnmjjpcaaLB
namespace Go.Proofs.Ytoikglgnmjjpcaa
open Go.RowKit Go.Shelf
set_option linter.unusedVariables false

set_option maxRecDepth 100000 in
set_option maxHeartbeats 1000000 in
theorem clone_in (n : Nat) (b off cap : Nat) (ns : List Nd) (w : World) (hN : NodesAt w b off ns) (hl : 1 ≤ ns.length ∧ ns.length ≤ 512) :
    CallsIn Fence.wide n Try.prog 76 #[.slice (some ⟨b, off, none⟩) ns.length cap] w fun e w' => ∃ v, e = .returned v ∧ w'.ownsRow w.heap.size 87 6 v ns.length (ns.flatMap encNd) ∧ Below w.heap.size w w' := by
  obtain ⟨i0, hi0, hz0, hz1, hz2⟩ := info_parts info_node
  have q22 : ∀ (w : World) (a : Option Addr) (n c n' c' : Nat), (binOp .eql 22 (.slice a n c) (.slice none n' c')).run Try.prog w = .ok (.bool a.isNone) w := fun w a n c n' c' => Lib.run_eql_slice_nil w _ _ a n c n' c' Try.underlying22
  refine callsIn_of_wp Try.func76 rfl trivial ?_ rfl
  simp only [Try.ntmps76, List.size_toArray, List.length_cons, List.length_nil, Nat.reduceAdd, Nat.reduceSub, Array.replicate_succ, Array.replicate_zero, List.push_toArray, List.append_toArray, List.nil_append, List.cons_append]
  have hbT : Below w.heap.size w (w.alloc (.cells #[] 87)) := (Below.refl _ w).alloc (Nat.le_refl _) _
  gi_wp2_with (gi_at_builtin; refine wpListIn_append_own _ rfl _ _ 22 rfl w.heap.size 87 i0 _ 6 48 Try.underlying22 hi0 hz0 hz1 hz2 rfl (by decide) (.slice (some ⟨w.heap.size, 0, none⟩) 0 0) 0 [] rfl ⟨rfl, Or.inr ⟨w.heap.size, 0, #[], rfl, Nat.le_refl _, World.alloc_heap_new w _, Nat.le_refl _, by decide, rfl, rfl⟩⟩ ⟨b, off, none⟩ ns.length cap (ns.flatMap encNd) rfl (flat_len 6 encNd encNd_len ns) (nodes_flat (hN.below hbT hN.lt)) (encNd_one ns) (by unfold maxLen; omega) (by omega) (by simp) ?_; intro v' w1 hown hgrow _)
  rw [Nat.zero_add, List.nil_append] at hown
  go_ret
  exact ⟨v', rfl, hown, hbT.grown hgrow hbT.size (fun k e => by simp [Value.ownBlock] at e; omega)⟩

set_option maxHeartbeats 1000000 in
theorem turn_at (x : Nd) (fr to : Int) (w : World) :
    Calls Try.prog 77 #[.agg #[.int .i64 x.op, .int .i64 x.d, .int .i64 x.a, .int .i64 x.b, .int .i64 x.t, .int .i64 x.e], .int .i64 fr, .int .i64 to] w fun e w' => e = .returned (.agg #[.int .i64 (trn x fr to).op, .int .i64 (trn x fr to).d, .int .i64 (trn x fr to).a, .int .i64 (trn x fr to).b, .int .i64 (trn x fr to).t, .int .i64 (trn x fr to).e]) ∧ w' = (w.alloc (.cells (encNd (trn x fr to)).toArray 87)).alloc (.cells (encNd (trn x fr to)).toArray 87) := by
  obtain ⟨op, d, a, b, t, e⟩ := x
  go_enter Try.func77, Try.ntmps77
  go_wp2
  all_goals refine bodyPost_ret (v := .agg #[.int .i64 (trn ⟨op, d, a, b, t, e⟩ fr to).op, .int .i64 (trn ⟨op, d, a, b, t, e⟩ fr to).d, .int .i64 (trn ⟨op, d, a, b, t, e⟩ fr to).a, .int .i64 (trn ⟨op, d, a, b, t, e⟩ fr to).b, .int .i64 (trn ⟨op, d, a, b, t, e⟩ fr to).t, .int .i64 (trn ⟨op, d, a, b, t, e⟩ fr to).e]) ?_ rfl ⟨rfl, ?_⟩
  all_goals (rename_i h1 h2; simp only [beq_iff_eq, beq_eq_false_iff_ne, ne_eq] at h1 h2; simp [results, Try.results77, go_sem, trn, encNd, h1, h2])
end Go.Proofs.Ytoikglgnmjjpcaa
