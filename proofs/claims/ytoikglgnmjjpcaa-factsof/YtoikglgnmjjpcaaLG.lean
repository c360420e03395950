/-
  slices.Sorted over a node's exits; prog.Next, walked.
-/
import Derived.Test.YtoikglgnmjjpcaaLB
import Derived.Test.YtoikglgnmjjpcaaI
import Derived.Test.YtoikglgnmjjpcaaR
import Derived.Test.YtoikglgnmjjpcaaSh
import Derived.Sort.OwnSortedInts
namespace Go.Proofs.Ytoikglgnmjjpcaa
open Go.RowKit Go.Shelf Go.Sort
set_option linter.unusedVariables false

attribute [local go_sem] Oper.semAt_some

theorem exl_sort (x : Nd) : ((exo x).mergeSort fun a b => decide (a ≤ b)) = exl x := by
  unfold exo exl
  by_cases h11 : x.op = 11
  · rw [if_pos h11, if_pos h11]
    by_cases he : x.e = x.t
    · rw [if_pos he, if_pos he.symm, sort1]
    · rw [if_neg he, if_neg (fun q => he q.symm), sort2]
      by_cases hl : x.t < x.e
      · rw [if_pos hl, if_pos (by omega)]
      · rw [if_neg hl, if_neg (by omega)]
  · rw [if_neg h11, if_neg h11]
    cases wi x.op 0 11
    · simp
    · simp

theorem exl_len (x : Nd) : (exl x).length = (exo x).length := by rw [← exl_sort, List.length_mergeSort]

set_option maxRecDepth 100000 in
set_option maxHeartbeats 2000000 in
theorem sorted_in (n : Nat) (hn : 5 ≤ n) (B : Nat) (x : Nd) (w : World) (hx : NodeBox w B x) :
    CallsIn Fence.wide n Try.prog 55 #[.func (.func 97) #[] #[.pointer (some ⟨B, 0, none⟩)]] w fun e W' => ∃ v, e = .returned v ∧ W'.ownsRow w.heap.size 3 1 v (exl x).length ((exl x).map (Value.int .i64)) ∧ Below w.heap.size w W' := by
  have h1 : 1 ≤ n := by omega
  have hC := collect_in (n - 1) (by omega) B x w hx
  have hl2 := exo_len x
  refine callsIn_of_wp Try.func55 rfl trivial ?_ rfl
  simp only [Try.ntmps55, List.size_toArray, List.length_cons, List.length_nil, Nat.reduceAdd, Nat.reduceSub, Array.replicate_succ, Array.replicate_zero, List.push_toArray, List.append_toArray, List.nil_append, List.cons_append]
  gi_wp2_with (refine ⟨trivial, ?_⟩; gi_at_call 95; refine hC.mono ?_; rintro e W ⟨v, rfl, hrow, hb⟩)
  rcases hrow.2 with ⟨rfl, hz⟩ | ⟨gb, cap, cur, rfl, hbase, hgb, r1, r2, r3, r4⟩
  · have hsl : exl x = [] := List.eq_nil_of_length_eq_zero (by rw [exl_len]; exact hz)
    gi_wp2_with (refine ⟨trivial, ?_⟩; gi_at_call 96; refine (callsIn_wide.2 (Try.slices_Sort_int_none none 0 W)).mono ?_; rintro e w' ⟨rfl, rfl⟩)
    go_ret
    exact ⟨.slice none 0 0, rfl, by rw [hsl]; exact World.ownsRow_nil _ _ _ _, hb⟩
  · have hH : Holds (Value.int .i64) W gb 0 (exo x).toArray := holds_of_blockI hgb (by simpa using r4)
    have hS := callsIn_wide (n := n - 1).2 (Try.slices_Sort_int gb 0 cap (exo x) W hH (Array.getElem?_eq_some_iff.1 hgb).1 (by omega))
    gi_wp2_with (refine ⟨trivial, ?_⟩; gi_at_call 96; refine hS.mono ?_; rintro e w' ⟨rfl, q, os, rfl⟩)
    go_ret
    refine ⟨_, rfl, ?_, hb.grown (grownBy_sortedI (w := W) (g := gb) (n := q) (os := os) _) hb.size (fun k e => by cases e; exact hbase)⟩
    have h3 := ownsRow_sortedI (w := W) (n := q) (os := os) (base := w.heap.size) (ss := exo x) (ts := exl x) (exl_len x) hbase hgb r1 r2 r3
    rw [exl_len, exl_sort]
    exact h3

set_option maxHeartbeats 1000000 in
theorem next_any (r : Int) (a : Option Addr) (cap : Nat) (ns : List Nd) (n : Int) (w : World) (hN : SlN w a ns) (hl : ns.length ≤ 9223372036854775807) :
    Calls Try.prog 12 #[.agg #[.int .i64 r, .slice a ns.length cap], .int .i64 n] w fun e w' => ∃ a' cap', e = .returned (.tuple #[.slice a' (nexts r ns n).length cap', .int .i64 (chkN r ns n)]) ∧ IntsAt w' a' (nexts r ns n) ∧ Below w.heap.size w w' := by
  have hN1 : SlN (w.alloc (.cells #[.int .i64 r, .slice a ns.length cap] 24)) a ns := hN.below ((Below.refl w.heap.size w).alloc (Nat.le_refl _) _)
  by_cases hc : chkN r ns n = 0
  · obtain ⟨h0, k, rfl, hk⟩ := chkN_zero hc
    obtain ⟨x, hx⟩ := get_lt hk
    obtain ⟨b, off, rfl, hNb⟩ := hN.some (by omega)
    have hnx : nexts r ns (k : Int) = exl x := by
      simp only [nexts, hc, if_true, Int.toNat_natCast, hx]
      exact (exl_ok h0 (List.mem_of_getElem? hx)).symm
    rw [hnx, hc]
    go_enter Try.func12, Try.ntmps12
    go_wp2_with fail
    refine (checkNode_any r _ cap ns _ _ hN1 hl).mono ?_
    rintro e w1 ⟨rfl, hb1⟩
    have hs1 := hb1.size
    simp only [World.size_alloc] at hs1 hb1
    have hB1 : Below w.heap.size w w1 := ((Below.refl _ _).alloc (Nat.le_refl _) _).trans (hb1.mono (by omega))
    have q1 : w1.cell? ⟨w.heap.size, 1, none⟩ = some (.slice (some ⟨b, off, none⟩) ns.length cap) := by rw [hb1.cell (p := ⟨w.heap.size, 1, none⟩) (by simp)]; simp
    have hs1' : w.heap.size < w1.heap.size := by omega
    have hN2 := hNb.below hB1 hNb.lt
    have hlt2 := hN2.lt
    have c0 := hN2.c0 k x hx
    have c1 := hN2.c1 k x hx
    have c2 := hN2.c2 k x hx
    have c3 := hN2.c3 k x hx
    have c4 := hN2.c4 k x hx
    have c5 := hN2.c5 k x hx
    clear hb1 hx hnx hN2 hN1 hNb
    rw [hc]
    clear hc h0
    go_wp2_with fail
    refine (callsIn_wide.1 (exits_in 1 _ _ _ _ _ _ w1)).mono ?_
    rintro e w2 ⟨rfl, rfl⟩
    have hS := callsIn_wide.1 (sorted_in 5 (by decide) w1.heap.size x _ (nodeBox_new w1 x))
    have HS := hide' hS
    clear hS
    go_wp2_with fail
    refine HS.out.mono ?_
    rintro e w3 ⟨v, rfl, hrow, hb3⟩
    obtain ⟨a2, cap2, rfl, hI⟩ := ints_of_owns hrow
    have hsz3 := hb3.size
    simp only [World.size_alloc] at hsz3 hb3
    clear hrow
    go_wp2
    go_ret2
    exact ⟨a2, cap2, rfl, hI, (hB1.alloc hB1.size _).trans (hb3.mono (by omega))⟩
  · have hnx : nexts r ns n = [] := by simp [nexts, hc]
    rw [hnx]
    have hb : (chkN r ns n != 0) = true := by simp [hc]
    clear hc hnx
    go_enter Try.func12, Try.ntmps12
    go_wp2_with fail
    refine (checkNode_any r _ cap ns _ _ hN1 hl).mono ?_
    rintro e w1 ⟨rfl, hb1⟩
    have hs1 := hb1.size
    simp only [World.size_alloc] at hs1 hb1
    have hB1 : Below w.heap.size w w1 := ((Below.refl _ _).alloc (Nat.le_refl _) _).trans (hb1.mono (by omega))
    go_wp2
    go_ret2
    exact ⟨none, 0, rfl, Or.inl rfl, hB1⟩
end Go.Proofs.Ytoikglgnmjjpcaa
