/-
  hoistwaylaw.choose and begins, hoistwayref.SameResults, walked.
-/
import Derived.Test.YtoikglgnmjjpcaaRV
namespace Go.Proofs.Ytoikglgnmjjpcaa
open Go.RowKit
set_option linter.unusedVariables false

def pickC (c : Int) : Int := (if c < 0 then -(c + 1) else c) % 4096

theorem pickC_range (c : Int) : 0 ≤ pickC c ∧ pickC c < 4096 := by unfold pickC; omega

set_option maxHeartbeats 400000 in
theorem choose_any (c : Int) (w : World) (h : -9223372036854775808 ≤ c ∧ c ≤ 9223372036854775807) :
    Calls Try.prog 29 #[.int .i64 c, .int .i64 4096] w fun e w' => e = .returned (.int .i64 (pickC c)) ∧ w' = w := by
  by_cases h0 : c < 0
  · go_enter Try.func29, Try.ntmps29
    go_wp2
    go_ret
    refine ⟨ret_int ?_, rfl⟩
    have e : (c + 1).tmod 4096 = -((-(c + 1)).tmod 4096) := by rw [Int.neg_tmod]; omega
    rw [e, Int.tmod_eq_emod_of_nonneg (by omega), pickC, if_pos h0]
    omega
  · go_enter Try.func29, Try.ntmps29
    go_wp2
    go_ret
    refine ⟨ret_int ?_, rfl⟩
    rw [pickC, if_neg (by omega)]

theorem IntsAt.take {w : World} {a : Option Addr} {l : List Int} (h : IntsAt w a l) (n : Nat) : IntsAt w a (l.take n) := by
  rcases h with h | ⟨b, off, rfl, hlt, h⟩
  · left; rw [h]; simp
  · refine Or.inr ⟨b, off, rfl, hlt, fun j z hz => h j z ?_⟩
    rw [List.getElem?_take] at hz
    split at hz
    · exact hz
    · cases hz

set_option maxHeartbeats 1000000 in
theorem begins_any (a b : Option Addr) (ca cb : Nat) (xs ys : List Int) (w : World) (hx : IntsAt w a xs) (hy : IntsAt w b ys) (hl : xs.length ≤ 140737488351232) (hl' : ys.length ≤ 140737488351232) (hca : xs.length ≤ ca) (hp : ys <+: xs) :
    Calls Try.prog 30 #[.slice a xs.length ca, .slice b ys.length cb] w fun e w' => e = .returned (.bool true) ∧ Below w.heap.size w w' := by
  have hle := hp.length_le
  have ht : xs.take ys.length = ys := (List.prefix_iff_eq_take.1 hp).symm
  have hle' : (ys.length : Int) ≤ (xs.length : Int) := by omega
  go_enter Try.func30, Try.ntmps30
  go_wp2_with fail
  have hT := hx.take ys.length
  rw [ht] at hT
  refine (sameInts_any a b ca cb ys ys w hT hy hl' hl').mono ?_
  rintro e w1 ⟨rfl, n, rfl⟩
  go_wp2
  go_ret
  exact ⟨by simp, below_drewN (Below.refl _ _) n⟩

set_option maxHeartbeats 1000000 in
theorem sameResults_any (ao bo ac bc : Option Addr) (co do' cc dc : Nat) (out : List Int) (ret : Int) (en : Bool) (st : Int) (l : List Ct) (w : World) (hA : IntsAt w ao out) (hB : IntsAt w bo out) (hC : CtsAt w ac l) (hD : CtsAt w bc l) (h1 : out.length ≤ 140737488351232) (h2 : l.length ≤ 140737488351232) :
    Calls Try.prog 26 #[.agg #[.slice ao out.length co, .int .i64 ret, .bool en, .int .i64 st, .slice ac l.length cc], .agg #[.slice bo out.length do', .int .i64 ret, .bool en, .int .i64 st, .slice bc l.length dc]] w fun e w' => e = .returned (.bool true) ∧ Below w.heap.size w w' := by
  go_enter Try.func26, Try.ntmps26
  go_wp2_with fail
  have hb0 : Below w.heap.size w ((w.alloc (.cells #[.slice ao out.length co, .int .i64 ret, .bool en, .int .i64 st, .slice ac l.length cc] 42)).alloc (.cells #[.slice bo out.length do', .int .i64 ret, .bool en, .int .i64 st, .slice bc l.length dc] 42)) := ((Below.refl _ w).alloc (Nat.le_refl _) _).alloc (by simp) _
  have hr0 : ((w.alloc (.cells #[.slice ao out.length co, .int .i64 ret, .bool en, .int .i64 st, .slice ac l.length cc] 42)).alloc (.cells #[.slice bo out.length do', .int .i64 ret, .bool en, .int .i64 st, .slice bc l.length dc] 42)).heap[w.heap.size]? = some (.cells #[.slice ao out.length co, .int .i64 ret, .bool en, .int .i64 st, .slice ac l.length cc] 42 (0, 0)) := blk_alloc _ (blk_new rfl)
  have hk0 : ((w.alloc (.cells #[.slice ao out.length co, .int .i64 ret, .bool en, .int .i64 st, .slice ac l.length cc] 42)).alloc (.cells #[.slice bo out.length do', .int .i64 ret, .bool en, .int .i64 st, .slice bc l.length dc] 42)).heap[w.heap.size + 1]? = some (.cells #[.slice bo out.length do', .int .i64 ret, .bool en, .int .i64 st, .slice bc l.length dc] 42 (0, 0)) := blk_new (by simp)
  generalize (w.alloc (.cells #[.slice ao out.length co, .int .i64 ret, .bool en, .int .i64 st, .slice ac l.length cc] 42)).alloc (.cells #[.slice bo out.length do', .int .i64 ret, .bool en, .int .i64 st, .slice bc l.length dc] 42) = W0 at hb0 hr0 hk0 ⊢
  have HA := hide (hA.below hb0)
  have HB := hide (hB.below hb0)
  have HC := hide (hC.below hb0)
  have HD := hide (hD.below hb0)
  have H0 := hide hb0
  have c4 := blk_cell hr0 4
  have d4 := blk_cell hk0 4
  simp at c4 d4
  clear hA hB hC hD hb0 hr0 hk0
  refine (sameInts_any ao bo co do' out out W0 HA.out HB.out h1 h1).mono ?_
  rintro e w1 ⟨rfl, n, rfl⟩
  simp only [beq_self_eq_true]
  go_wp2_with fail
  refine (sameCounts_any ac bc cc dc l l _ (HC.out.below (below_drewN (Below.refl _ _) n)) (HD.out.below (below_drewN (Below.refl _ _) n)) h2 h2).mono ?_
  rintro e w2 ⟨rfl, m, rfl⟩
  go_wp2
  go_ret
  exact ⟨by simp, below_drewN H0.out (n + m)⟩
end Go.Proofs.Ytoikglgnmjjpcaa
