/-
  slices.Sorted over a node's exits; prog.Next, walked.
-/
import Derived.Test.YtoikglgnmjjpcabLB
import Derived.Test.YtoikglgnmjjpcabI
import Derived.Test.YtoikglgnmjjpcabR
import Derived.Test.YtoikglgnmjjpcabSh
import Derived.Sort.OwnSortedInts
namespace Go.Proofs.Ytoikglgnmjjpcab
open Go.RowKit Go.Shelf Go.Sort
set_option linter.unusedVariables false

attribute [local go_sem] Oper.semAt_some

theorem exl_sort (x : Nd) : ((exo x).mergeSort fun a b => decide (a ≤ b)) = exl x := by
  unfold exo exl
  by_cases h11 : x.op = 11
  · rw [if_pos h11, if_pos h11]
    by_cases he : x.e = x.t
    · rw [if_pos he, if_pos he.symm, sort1]
    · rw [if_neg he, if_neg (fun q => he q.symm), sort2]
      by_cases hl : x.t < x.e
      · rw [if_pos hl, if_pos (by omega)]
      · rw [if_neg hl, if_neg (by omega)]
  · rw [if_neg h11, if_neg h11]
    cases wi x.op 0 11
    · simp
    · simp

theorem exl_len (x : Nd) : (exl x).length = (exo x).length := by rw [← exl_sort, List.length_mergeSort]

set_option maxRecDepth 100000 in
set_option maxHeartbeats 2000000 in
theorem sorted_in (n : Nat) (hn : 5 ≤ n) (B : Nat) (x : Nd) (w : World) (hx : NodeBox w B x) :
    CallsIn Fence.wide n Try.prog 53 #[.func (.func 62) #[] #[.pointer (some ⟨B, 0, none⟩)]] w fun e W' => ∃ v, e = .returned v ∧ W'.ownsRow w.heap.size 3 1 v (exl x).length ((exl x).map (Value.int .i64)) ∧ Below w.heap.size w W' := by
  have h1 : 1 ≤ n := by omega
  have hC := collect_in (n - 1) (by omega) B x w hx
  have hl2 := exo_len x
  refine callsIn_of_wp Try.func53 rfl trivial ?_ rfl
  simp only [Try.ntmps53, List.size_toArray, List.length_cons, List.length_nil, Nat.reduceAdd, Nat.reduceSub, Array.replicate_succ, Array.replicate_zero, List.push_toArray, List.append_toArray, List.nil_append, List.cons_append]
  gi_wp2_with (refine ⟨trivial, ?_⟩; gi_at_call 60; refine hC.mono ?_; rintro e W ⟨v, rfl, hrow, hb⟩)
  rcases hrow.2 with ⟨rfl, hz⟩ | ⟨gb, cap, cur, rfl, hbase, hgb, r1, r2, r3, r4⟩
  · have hsl : exl x = [] := List.eq_nil_of_length_eq_zero (by rw [exl_len]; exact hz)
    gi_wp2_with (refine ⟨trivial, ?_⟩; gi_at_call 61; refine (callsIn_wide.2 (Try.slices_Sort_int_none none 0 W)).mono ?_; rintro e w' ⟨rfl, rfl⟩)
    go_ret
    exact ⟨.slice none 0 0, rfl, by rw [hsl]; exact World.ownsRow_nil _ _ _ _, hb⟩
  · have hH : Holds (Value.int .i64) W gb 0 (exo x).toArray := holds_of_blockI hgb (by simpa using r4)
    have hS := callsIn_wide (n := n - 1).2 (Try.slices_Sort_int gb 0 cap (exo x) W hH (Array.getElem?_eq_some_iff.1 hgb).1 (by omega))
    gi_wp2_with (refine ⟨trivial, ?_⟩; gi_at_call 61; refine hS.mono ?_; rintro e w' ⟨rfl, q, os, rfl⟩)
    go_ret
    refine ⟨_, rfl, ?_, hb.grown (grownBy_sortedI (w := W) (g := gb) (n := q) (os := os) _) hb.size (fun k e => by cases e; exact hbase)⟩
    have h3 := ownsRow_sortedI (w := W) (n := q) (os := os) (base := w.heap.size) (ss := exo x) (ts := exl x) (exl_len x) hbase hgb r1 r2 r3
    rw [exl_len, exl_sort]
    exact h3

end Go.Proofs.Ytoikglgnmjjpcab
