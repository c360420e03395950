/-
  hoistwaylaw.flowBegun, walked.
-/
import Derived.Test.YtoikglgnmjjpcaaMK
namespace Go.Proofs.Ytoikglgnmjjpcaa
open Go.RowKit Go.Shelf
set_option linter.unusedVariables false

def no7 : List Bool := [false, false, false, false, false, false, false]
def yes7 : List Bool := [true, true, true, true, true, true, true]
def end7 : List Bool := [false, false, false, false, false, false, true]
def fl7a : Flw := ⟨true, false, end7, yes7, no7, yes7⟩
def fl7b : Flw := ⟨false, false, no7, yes7, no7, yes7⟩
theorem fl7a_chk : fchk 3 smallN fl7a = 0 := by kernel_rfl
theorem fl7b_chk : fchk 3 smallN fl7b = 0 := by kernel_rfl
theorem fl7a_solve : solve smallN fl7a = yes7 := by kernel_rfl
theorem fl7b_hold : hold smallN fl7b yes7 = false := by kernel_rfl

theorem bools_blk {W : World} {b : Nat} {zs : List Bool} {t : TypeId} {fr : Nat × Nat} (h : W.heap[b]? = some (.cells (zs.map Value.bool).toArray t fr)) : BoolsAt W (some ⟨b, 0, none⟩) zs :=
  Or.inr ⟨b, 0, rfl, blk_lt h, fun j z hz => by rw [Nat.zero_add, blk_cell h, List.getElem?_toArray, List.getElem?_map, hz]; rfl⟩

set_option maxHeartbeats 8000000 in
set_option maxRecDepth 100000 in
theorem flowBegun_any (w : World) :
    Calls Try.prog 47 #[] w fun e w' => e = .returned (.bool true) ∧ Below w.heap.size w w' := by
  have hms : ∀ W : World, Sem.run Try.prog (Instr.makeSlice 53 (.int .i64 7) (.int .i64 7)) W = .ok (.slice (some ⟨W.heap.size, 0, none⟩) 7 7) (W.alloc (.cells #[.bool false, .bool false, .bool false, .bool false, .bool false, .bool false, .bool false] 4)) := fun W => by
    have h := run_make_row' (P := Try.prog) 53 4 _ 1 Try.underlying53 info_boolF rfl .i64 .i64 7 (by omega) (by omega) W
    rw [made_boolsF] at h
    simpa using h
  go_enter Try.func47, Try.ntmps47
  go_upto_region 4 with fail
  have hbA : Below w.heap.size w (((w.alloc (.cells #[.bool false, .bool false, .bool false, .bool false, .bool false, .bool false, .bool false] 4)).alloc (.cells #[.bool true, .bool true, .bool true, .bool true, .bool true, .bool true, .bool true] 4)).alloc (.cells #[.bool false, .bool false, .bool false, .bool false, .bool false, .bool false, .bool true] 4)) := (((Below.refl _ w).alloc (Nat.le_refl _) _).alloc (by simp) _).alloc (by simp; omega) _
  have k1 : (((w.alloc (.cells #[.bool false, .bool false, .bool false, .bool false, .bool false, .bool false, .bool false] 4)).alloc (.cells #[.bool true, .bool true, .bool true, .bool true, .bool true, .bool true, .bool true] 4)).alloc (.cells #[.bool false, .bool false, .bool false, .bool false, .bool false, .bool false, .bool true] 4)).heap[w.heap.size]? = some (.cells (no7.map Value.bool).toArray 4 (0, 0)) := (Below.heap_alloc _ _ _ (by simp; omega)).trans ((Below.heap_alloc _ _ _ (by simp)).trans (World.alloc_heap_new w _))
  have k2 : (((w.alloc (.cells #[.bool false, .bool false, .bool false, .bool false, .bool false, .bool false, .bool false] 4)).alloc (.cells #[.bool true, .bool true, .bool true, .bool true, .bool true, .bool true, .bool true] 4)).alloc (.cells #[.bool false, .bool false, .bool false, .bool false, .bool false, .bool false, .bool true] 4)).heap[w.heap.size + 1]? = some (.cells (yes7.map Value.bool).toArray 4 (0, 0)) := by
    have := World.alloc_heap_new (w.alloc (.cells #[.bool false, .bool false, .bool false, .bool false, .bool false, .bool false, .bool false] 4)) (.cells #[.bool true, .bool true, .bool true, .bool true, .bool true, .bool true, .bool true] 4)
    rw [World.size_alloc] at this
    exact (Below.heap_alloc _ _ _ (by simp)).trans this
  have k3 : (((w.alloc (.cells #[.bool false, .bool false, .bool false, .bool false, .bool false, .bool false, .bool false] 4)).alloc (.cells #[.bool true, .bool true, .bool true, .bool true, .bool true, .bool true, .bool true] 4)).alloc (.cells #[.bool false, .bool false, .bool false, .bool false, .bool false, .bool false, .bool true] 4)).heap[w.heap.size + 1 + 1]? = some (.cells (end7.map Value.bool).toArray 4 (0, 0)) := by
    have := World.alloc_heap_new ((w.alloc (.cells #[.bool false, .bool false, .bool false, .bool false, .bool false, .bool false, .bool false] 4)).alloc (.cells #[.bool true, .bool true, .bool true, .bool true, .bool true, .bool true, .bool true] 4)) (.cells #[.bool false, .bool false, .bool false, .bool false, .bool false, .bool false, .bool true] 4)
    rwa [World.size_alloc, World.size_alloc] at this
  generalize (((w.alloc (.cells #[.bool false, .bool false, .bool false, .bool false, .bool false, .bool false, .bool false] 4)).alloc (.cells #[.bool true, .bool true, .bool true, .bool true, .bool true, .bool true, .bool true] 4)).alloc (.cells #[.bool false, .bool false, .bool false, .bool false, .bool false, .bool false, .bool true] 4)) = W at hbA k1 k2 k3 ⊢
  have HK := hide (And.intro (bools_blk k1) (And.intro (bools_blk k2) (bools_blk k3)))
  have HW := hide hbA
  clear k1 k2 k3 hbA hms
  generalize w.heap.size + 1 + 1 = B3 at HK ⊢
  generalize w.heap.size + 1 = B2 at HK ⊢
  obtain ⟨B1, hB1⟩ : ∃ B1, w.heap.size = B1 := ⟨_, rfl⟩
  have hsv := fun (w1 : World) (h : Below W.heap.size W w1) (b : Nat) (hN : NodesAt w1 b 0 smallN) => solve_right 3 b 0 7 smallN fl7a (some ⟨B3, 0, none⟩) (some ⟨B2, 0, none⟩) (some ⟨w.heap.size, 0, none⟩) (some ⟨B2, 0, none⟩) 7 7 7 7 w1 hN fl7a_chk (HK.out.2.2.below h) (HK.out.2.1.below h) (HK.out.1.below h) (HK.out.2.1.below h)
  have hho := fun (w1 : World) (h : Below W.heap.size W w1) (b : Nat) (hN : NodesAt w1 b 0 smallN) => holds_right 3 b 0 7 smallN fl7b (some ⟨w.heap.size, 0, none⟩) (some ⟨B2, 0, none⟩) (some ⟨w.heap.size, 0, none⟩) (some ⟨B2, 0, none⟩) (some ⟨B2, 0, none⟩) 7 7 7 7 7 yes7 w1 hN fl7b_chk (HK.out.1.below h) (HK.out.2.1.below h) (HK.out.1.below h) (HK.out.2.1.below h) (HK.out.2.1.below h)
  rw [fl7a_solve] at hsv
  have e1 : (if yes7.length = smallN.length then hold smallN fl7b yes7 else false) = false := by rw [fl7b_hold]; rfl
  have e2 : (if yes7.length = smallN.length then (0 : Int) else 1) = 0 := by kernel_rfl
  simp only [e1, e2] at hho
  have HSV := hide hsv
  have HHO := hide hho
  have hB1' := hB1
  clear hsv hho e1 e2 hB1 hB1'
  go_upto_region 5 with (first
    | (go_at_call 64; refine (small_any _).mono ?_; rintro e w1 ⟨rfl, hN1, hb1⟩)
    | (go_at_call 42; refine (HSV.out _ hb1 _ hN1).mono ?_; rintro e w2 ⟨v2, rfl, hv2, hb2⟩; obtain ⟨va, vc, rfl⟩ := owns_slice hv2))
  have HB2 := hide (hb1.trans (hb2.mono hb1.size))
  have HV2 := hide hv2
  clear hb1 hb2 hv2 hN1 HSV
  go_upto_region 6 with (first
    | (go_at_call 64; refine (small_any _).mono ?_; rintro e w3 ⟨rfl, hN3, hb3⟩)
    | (go_at_call 43; refine (HHO.out _ (HB2.out.trans (hb3.mono HB2.out.size)) _ hN3).mono ?_; rintro e w4 ⟨rfl, hb4⟩))
  have HB4 := hide (HB2.out.trans ((hb3.trans (hb4.mono hb3.size)).mono HB2.out.size))
  have hv4 : w4.ownsRow _ 4 1 (.slice va yes7.length vc) yes7.length (yes7.map Value.bool) := ownsRow_below (ownsRow_below HV2.out hb3 (Nat.le_refl _)) hb4 (Nat.le_refl _)
  obtain ⟨_, _, e, hy4⟩ := bools_of_owns hv4
  cases e
  have hsb := sameBools_same va (some ⟨B2, 0, none⟩) vc 7 yes7 w4 hy4 (HK.out.2.1.below HB4.out) (by decide)
  have HSB := hide hsb
  clear hb3 hb4 hv4 hy4 hsb HB2 HV2 hN3
  go_wp2_with fail
  refine HSB.out.mono ?_
  rintro e w5 ⟨rfl, hb5⟩
  go_wp2
  go_ret
  exact ⟨rfl, HW.out.trans ((HB4.out.trans (hb5.mono HB4.out.size)).mono HW.out.size)⟩
end Go.Proofs.Ytoikglgnmjjpcaa
