/-
  graph.Split where the program is wrong; hoistwaylaw.graphBegun, walked.
-/
import Derived.Test.YtoikglgnmjjpcaaLS
import Derived.Test.YtoikglgnmjjpcaaLQ
import Derived.Test.YtoikglgnmjjpcaaLM
import Derived.Test.YtoikglgnmjjpcaaLN
namespace Go.Proofs.Ytoikglgnmjjpcaa
open Go.RowKit Go.Shelf
set_option linter.unusedVariables false

set_option maxHeartbeats 1000000 in
theorem split_err (r : Int) (a : Option Addr) (cap : Nat) (ns : List Nd) (w : World) (hN : SlN w a ns) (hc : chk r ns ≠ 0) :
    Calls Try.prog 33 #[.agg #[.int .i64 r, .slice a ns.length cap]] w fun e w' => e = .returned (.tuple #[.agg #[.int .i64 0, .slice none 0 0], .int .i64 (chk r ns)]) ∧ Below w.heap.size w w' := by
  have hb0 : Below w.heap.size w ((w.alloc (.cells #[.int .i64 r, .slice a ns.length cap] 24)).alloc (.cells #[.int .i64 0, .slice none 0 0] 24)) := ((Below.refl _ w).alloc (Nat.le_refl _) _).alloc (by simp) _
  have hck := check_any r a cap ns _ (hN.below hb0)
  have hcb : (chk r ns != 0) = true := by simpa using hc
  have HCK := hide hck
  clear hck hc
  generalize chk r ns = c at hcb HCK ⊢
  go_enter Try.func33, Try.ntmps33
  go_wp2_with fail
  refine HCK.out.mono ?_
  rintro e w1 ⟨rfl, hb1⟩
  have hs1 := hb1.size
  have hk : w1.heap[w.heap.size + 1]? = some (.cells #[.int .i64 0, .slice none 0 0] 24 (0, 0)) := by
    rw [hb1.block _ (by simp)]
    have := World.alloc_heap_new (w.alloc (.cells #[.int .i64 r, .slice a ns.length cap] 24)) (.cells #[.int .i64 0, .slice none 0 0] 24)
    rwa [World.size_alloc] at this
  simp only [World.size_alloc] at hs1 hb1
  have hB1 : Below w.heap.size w w1 := hb0.trans (hb1.mono (by omega))
  have z0 := blk_cell hk 0
  have z1 := blk_cell hk 1
  have f0 := blk_frozen hk 0
  have f1 := blk_frozen hk 1
  simp at z0 z1
  go_wp2
  refine bodyPost_ret (v := .tuple #[.agg #[.int .i64 0, .slice none 0 0], .int .i64 c]) ?_ rfl ⟨rfl, (hB1.setCell (p := ⟨w.heap.size + 1, 0, none⟩) (by simp) _).setCell (p := ⟨w.heap.size + 1, 1, none⟩) (by simp) _⟩
  have hk2 : ((w1.setCell ⟨w.heap.size + 1, 0, none⟩ (.int .i64 0)).setCell ⟨w.heap.size + 1, 1, none⟩ (.slice none 0 0)).heap[w.heap.size + 1]? = some (.cells #[.int .i64 0, .slice none 0 0] 24 (0, 0)) := by
    rw [blk_set _ (blk_set _ hk)]; simp
  have y0 := blk_cell hk2 0
  have y1 := blk_cell hk2 1
  simp at y0 y1
  simp [results, Try.results33, go_sem, y0, y1]

def smallP : List Nd := smallN ++ [⟨0, 0, 0, 0, 6, 0⟩]
theorem smallP_chk : chk 3 smallP = 0 := by kernel_rfl
theorem smallN_chk : chk 3 smallN = 0 := by kernel_rfl
theorem smallP_reach : rchL smallP = [true, true, true, true, true, true, true, false] := by kernel_rfl
theorem smallP_trim : trimN smallP = smallN := by kernel_rfl
def smallQ : List Nd := [⟨9, 0, 0, 0, 1, 0⟩, ⟨9, 1, 0, 0, 2, 0⟩, ⟨11, 0, 0, 0, 3, 7⟩, ⟨3, 2, 0, 1, 4, 0⟩, ⟨10, 0, 2, 0, 8, 0⟩, ⟨3, 2, 0, 1, 6, 0⟩, ⟨12, 0, 2, 0, 0, 0⟩, ⟨0, 0, 0, 0, 5, 0⟩, ⟨0, 0, 0, 0, 5, 0⟩]
theorem smallN_split : splitN smallN = smallQ := by kernel_rfl

set_option maxHeartbeats 1000000 in
theorem small_own (w : World) :
    Calls Try.prog 64 #[] w fun r w' => ∃ v, r = .returned (.agg #[.int .i64 3, v]) ∧ w'.ownsRow w.heap.size 87 6 v 7 (smallN.flatMap encNd) ∧ Below w.heap.size w w' := by
  go_enter Try.func64, Try.ntmps64
  go_wp2
  refine bodyPost_ret (v := .agg #[.int .i64 3, .slice (some ⟨w.heap.size + 1, 0, none⟩) 7 7]) (by simp [results, Try.results64, go_sem]) rfl ⟨_, rfl, ⟨rfl, Or.inr ⟨w.heap.size + 1, 7, ((smallN.flatMap encNd)).toArray, rfl, by omega, ?_, by decide, by decide, rfl, rfl⟩⟩, ((Below.refl _ _).alloc (Nat.le_refl _) _).alloc (by simp) _⟩
  have h := World.alloc_heap_new (w.alloc (.cells #[.int .i64 3, .slice (some ⟨w.heap.size + 1, 0, none⟩) 7 7] 24)) (.cells (smallN.flatMap encNd).toArray 87)
  rw [World.size_alloc] at h
  exact h
end Go.Proofs.Ytoikglgnmjjpcaa
