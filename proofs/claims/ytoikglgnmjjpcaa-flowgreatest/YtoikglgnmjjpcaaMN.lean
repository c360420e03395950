/-
  hoistwaylaw.FlowGreatest, walked.
-/
import Derived.Test.YtoikglgnmjjpcaaMM
namespace Go.Proofs.Ytoikglgnmjjpcaa
open Go.RowKit Go.Shelf
set_option linter.unusedVariables false

theorem solve_isG (ns : List Nd) (f : Flw) : IsG (sayF ns f) ns.length (solve ns f) := gr_isG (sayF_mono ns f) ns.length
theorem solve_hold (ns : List Nd) (f : Flw) : hold ns f (solve ns f) = true := by
  rw [hold, List.all_eq_true]
  intro n hn
  have := (solve_isG ns f).fix n (by simpa using hn)
  rw [beq_iff_eq]; exact this
theorem hold_top {ns : List Nd} {f : Flw} {x : List Bool} (hl : x.length = ns.length) (h : hold ns f x = true) {n : Nat} (hn : bat x n = true) : bat (solve ns f) n = true := by
  rw [hold, List.all_eq_true] at h
  refine (solve_isG ns f).top (bat x) (fun n hn => bat_beyond (by omega)) (fun m hm hb => ?_) n hn
  have := h m (by simpa using hm)
  rw [beq_iff_eq] at this
  rw [← this]; exact hb

set_option maxHeartbeats 8000000 in
set_option maxRecDepth 100000 in
theorem flowGreatest_wrong (r : Int) (a : Option Addr) (cap : Nat) (ns : List Nd) (f : Flw) (a1 a2 a3 a4 xa : Option Addr) (c1 c2 c3 c4 xn xc : Nat) (w : World) (hN : SlN w a ns) (hc : fchk r ns f ≠ 0) :
    Calls Try.prog 10 #[.agg #[.int .i64 r, .slice a ns.length cap], .agg #[.bool f.back, .bool f.empty, .slice a1 f.gen.length c1, .slice a2 f.pass.length c2, .slice a3 f.plus.length c3, .slice a4 f.lets.length c4], .slice xa xn xc] w fun e w' => e = .returned (.bool true) ∧ Below w.heap.size w w' := by
  have hsv := fun W (h : Below w.heap.size w W) => solve_wrong r a cap ns f a1 a2 a3 a4 c1 c2 c3 c4 W (hN.below h) hc
  generalize fchk r ns f = C at hc hsv
  have hCb : (C == 0) = false := by simp [hc]
  have HSV := hide hsv
  clear hsv hN
  have hbA : Below w.heap.size w ((w.alloc (.cells #[.int .i64 r, .slice a ns.length cap] 24)).alloc (.cells #[.bool f.back, .bool f.empty, .slice a1 f.gen.length c1, .slice a2 f.pass.length c2, .slice a3 f.plus.length c3, .slice a4 f.lets.length c4] 66)) := ((Below.refl _ w).alloc (Nat.le_refl _) _).alloc (by simp) _
  have hpA : ((w.alloc (.cells #[.int .i64 r, .slice a ns.length cap] 24)).alloc (.cells #[.bool f.back, .bool f.empty, .slice a1 f.gen.length c1, .slice a2 f.pass.length c2, .slice a3 f.plus.length c3, .slice a4 f.lets.length c4] 66)).heap[w.heap.size]? = some (.cells #[.int .i64 r, .slice a ns.length cap] 24 (0, 0)) := (Below.heap_alloc _ _ _ (by simp)).trans (World.alloc_heap_new w _)
  have hfA : ((w.alloc (.cells #[.int .i64 r, .slice a ns.length cap] 24)).alloc (.cells #[.bool f.back, .bool f.empty, .slice a1 f.gen.length c1, .slice a2 f.pass.length c2, .slice a3 f.plus.length c3, .slice a4 f.lets.length c4] 66)).heap[w.heap.size + 1]? = some (.cells #[.bool f.back, .bool f.empty, .slice a1 f.gen.length c1, .slice a2 f.pass.length c2, .slice a3 f.plus.length c3, .slice a4 f.lets.length c4] 66 (0, 0)) := by
    have := World.alloc_heap_new (w.alloc (.cells #[.int .i64 r, .slice a ns.length cap] 24)) (.cells #[.bool f.back, .bool f.empty, .slice a1 f.gen.length c1, .slice a2 f.pass.length c2, .slice a3 f.plus.length c3, .slice a4 f.lets.length c4] 66)
    rwa [World.size_alloc] at this
  go_enter Try.func10, Try.ntmps10
  go_upto_region 1 with fail
  generalize ((w.alloc (.cells #[.int .i64 r, .slice a ns.length cap] 24)).alloc (.cells #[.bool f.back, .bool f.empty, .slice a1 f.gen.length c1, .slice a2 f.pass.length c2, .slice a3 f.plus.length c3, .slice a4 f.lets.length c4] 66)) = W at hbA hpA hfA ⊢
  have HBX : Hid (∀ u : World, Below W.heap.size W u → u.cell? ⟨w.heap.size, 0, none⟩ = some (.int .i64 r) ∧ u.cell? ⟨w.heap.size, 1, none⟩ = some (.slice a ns.length cap) ∧ u.cell? ⟨w.heap.size + 1, 0, none⟩ = some (.bool f.back) ∧ u.cell? ⟨w.heap.size + 1, 1, none⟩ = some (.bool f.empty) ∧ u.cell? ⟨w.heap.size + 1, 2, none⟩ = some (.slice a1 f.gen.length c1) ∧ u.cell? ⟨w.heap.size + 1, 3, none⟩ = some (.slice a2 f.pass.length c2) ∧ u.cell? ⟨w.heap.size + 1, 4, none⟩ = some (.slice a3 f.plus.length c3) ∧ u.cell? ⟨w.heap.size + 1, 5, none⟩ = some (.slice a4 f.lets.length c4) ∧ w.heap.size < u.heap.size ∧ w.heap.size + 1 < u.heap.size) := fun u h => by
    have k1 := (h.block _ (blk_lt hpA)).trans hpA
    have k2 := (h.block _ (blk_lt hfA)).trans hfA
    refine ⟨?_, ?_, ?_, ?_, ?_, ?_, ?_, ?_, blk_lt k1, blk_lt k2⟩
    · rw [blk_cell k1]; rfl
    · rw [blk_cell k1]; rfl
    · rw [blk_cell k2]; rfl
    · rw [blk_cell k2]; rfl
    · rw [blk_cell k2]; rfl
    · rw [blk_cell k2]; rfl
    · rw [blk_cell k2]; rfl
    · rw [blk_cell k2]; rfl
  have HW := hide hbA
  clear hbA hpA hfA
  obtain ⟨p0, p1, q0, q1, q2, q3, q4, q5, pl, fl⟩ := HBX.out _ (Below.refl _ W)
  go_upto_region 2 with (go_at_call 42; refine (HSV.out _ HW.out).mono ?_; rintro e w1 ⟨rfl, hb1⟩)
  clear p0 p1 q0 q1 q2 q3 q4 q5 pl fl
  go_wp2_with fail
  refine (flowBegun_any _).mono ?_
  rintro e w2 ⟨rfl, hb2⟩
  go_wp2
  go_ret
  exact ⟨rfl, HW.out.trans ((hb1.trans (hb2.mono hb1.size)).mono HW.out.size)⟩

set_option maxHeartbeats 8000000 in
set_option maxRecDepth 100000 in
theorem flowGreatest_form (r : Int) (b off cap : Nat) (ns : List Nd) (f : Flw) (a1 a2 a3 a4 xa : Option Addr) (c1 c2 c3 c4 xc : Nat) (x : List Bool) (w : World) (hN : NodesAt w b off ns) (hc : fchk r ns f = 0) (h1 : BoolsAt w a1 f.gen) (h2 : BoolsAt w a2 f.pass) (h3 : BoolsAt w a3 f.plus) (h4 : BoolsAt w a4 f.lets) (hx : BoolsAt w xa x) (hxl : x.length ≠ ns.length) :
    Calls Try.prog 10 #[.agg #[.int .i64 r, .slice (some ⟨b, off, none⟩) ns.length cap], .agg #[.bool f.back, .bool f.empty, .slice a1 f.gen.length c1, .slice a2 f.pass.length c2, .slice a3 f.plus.length c3, .slice a4 f.lets.length c4], .slice xa x.length xc] w fun e w' => e = .returned (.bool true) ∧ Below w.heap.size w w' := by
  have hsv := fun W (h : Below w.heap.size w W) => solve_right r b off cap ns f a1 a2 a3 a4 c1 c2 c3 c4 W (hN.below h hN.lt) hc (h1.below h) (h2.below h) (h3.below h) (h4.below h)
  have hho := fun W (h : Below w.heap.size w W) => holds_right r b off cap ns f a1 a2 a3 a4 xa c1 c2 c3 c4 xc x W (hN.below h hN.lt) hc (h1.below h) (h2.below h) (h3.below h) (h4.below h) (hx.below h)
  have hhs := fun ya yc W (h : Below w.heap.size w W) (hy : BoolsAt W ya (solve ns f)) => holds_right r b off cap ns f a1 a2 a3 a4 ya c1 c2 c3 c4 yc (solve ns f) W (hN.below h hN.lt) hc (h1.below h) (h2.below h) (h3.below h) (h4.below h) hy
  simp only [solve_len, if_true, solve_hold] at hhs
  simp only [hxl, if_false] at hho
  have hl := (chk_zero (fchk_zero hc).1).1
  have hsl := solve_len ns f
  generalize solve ns f = S at hsv hhs hsl
  have HSV := hide hsv
  have HHO := hide hho
  have HHS := hide hhs
  have HSL := hide hsl
  have HXX := hide hx
  clear hsv hho hhs hN h1 h2 h3 h4 hx hc hsl hxl
  have hbA : Below w.heap.size w ((w.alloc (.cells #[.int .i64 r, .slice (some ⟨b, off, none⟩) ns.length cap] 24)).alloc (.cells #[.bool f.back, .bool f.empty, .slice a1 f.gen.length c1, .slice a2 f.pass.length c2, .slice a3 f.plus.length c3, .slice a4 f.lets.length c4] 66)) := ((Below.refl _ w).alloc (Nat.le_refl _) _).alloc (by simp) _
  have hpA : ((w.alloc (.cells #[.int .i64 r, .slice (some ⟨b, off, none⟩) ns.length cap] 24)).alloc (.cells #[.bool f.back, .bool f.empty, .slice a1 f.gen.length c1, .slice a2 f.pass.length c2, .slice a3 f.plus.length c3, .slice a4 f.lets.length c4] 66)).heap[w.heap.size]? = some (.cells #[.int .i64 r, .slice (some ⟨b, off, none⟩) ns.length cap] 24 (0, 0)) := (Below.heap_alloc _ _ _ (by simp)).trans (World.alloc_heap_new w _)
  have hfA : ((w.alloc (.cells #[.int .i64 r, .slice (some ⟨b, off, none⟩) ns.length cap] 24)).alloc (.cells #[.bool f.back, .bool f.empty, .slice a1 f.gen.length c1, .slice a2 f.pass.length c2, .slice a3 f.plus.length c3, .slice a4 f.lets.length c4] 66)).heap[w.heap.size + 1]? = some (.cells #[.bool f.back, .bool f.empty, .slice a1 f.gen.length c1, .slice a2 f.pass.length c2, .slice a3 f.plus.length c3, .slice a4 f.lets.length c4] 66 (0, 0)) := by
    have := World.alloc_heap_new (w.alloc (.cells #[.int .i64 r, .slice (some ⟨b, off, none⟩) ns.length cap] 24)) (.cells #[.bool f.back, .bool f.empty, .slice a1 f.gen.length c1, .slice a2 f.pass.length c2, .slice a3 f.plus.length c3, .slice a4 f.lets.length c4] 66)
    rwa [World.size_alloc] at this
  go_enter Try.func10, Try.ntmps10
  go_upto_region 1 with fail
  generalize ((w.alloc (.cells #[.int .i64 r, .slice (some ⟨b, off, none⟩) ns.length cap] 24)).alloc (.cells #[.bool f.back, .bool f.empty, .slice a1 f.gen.length c1, .slice a2 f.pass.length c2, .slice a3 f.plus.length c3, .slice a4 f.lets.length c4] 66)) = W at hbA hpA hfA ⊢
  have HBX : Hid (∀ u : World, Below W.heap.size W u → u.cell? ⟨w.heap.size, 0, none⟩ = some (.int .i64 r) ∧ u.cell? ⟨w.heap.size, 1, none⟩ = some (.slice (some ⟨b, off, none⟩) ns.length cap) ∧ u.cell? ⟨w.heap.size + 1, 0, none⟩ = some (.bool f.back) ∧ u.cell? ⟨w.heap.size + 1, 1, none⟩ = some (.bool f.empty) ∧ u.cell? ⟨w.heap.size + 1, 2, none⟩ = some (.slice a1 f.gen.length c1) ∧ u.cell? ⟨w.heap.size + 1, 3, none⟩ = some (.slice a2 f.pass.length c2) ∧ u.cell? ⟨w.heap.size + 1, 4, none⟩ = some (.slice a3 f.plus.length c3) ∧ u.cell? ⟨w.heap.size + 1, 5, none⟩ = some (.slice a4 f.lets.length c4) ∧ w.heap.size < u.heap.size ∧ w.heap.size + 1 < u.heap.size) := fun u h => by
    have k1 := (h.block _ (blk_lt hpA)).trans hpA
    have k2 := (h.block _ (blk_lt hfA)).trans hfA
    refine ⟨?_, ?_, ?_, ?_, ?_, ?_, ?_, ?_, blk_lt k1, blk_lt k2⟩
    · rw [blk_cell k1]; rfl
    · rw [blk_cell k1]; rfl
    · rw [blk_cell k2]; rfl
    · rw [blk_cell k2]; rfl
    · rw [blk_cell k2]; rfl
    · rw [blk_cell k2]; rfl
    · rw [blk_cell k2]; rfl
    · rw [blk_cell k2]; rfl
  have HW := hide hbA
  clear hbA hpA hfA
  obtain ⟨p0, p1, q0, q1, q2, q3, q4, q5, pl, fl⟩ := HBX.out _ (Below.refl _ W)
  have HG : Hid (∀ u : World, Below W.heap.size W u → Below w.heap.size w u) := fun u h => HW.out.trans (h.mono HW.out.size)
  go_upto_region 2 with (go_at_call 42; refine (HSV.out _ HW.out).mono ?_; rintro e w1 ⟨v1, rfl, hv1, hb1⟩; obtain ⟨va, vc, rfl⟩ := owns_slice hv1)
  have hv1' : w1.ownsRow W.heap.size 4 1 (.slice va S.length vc) S.length (S.map Value.bool) := by rw [HSL.out]; exact hv1
  obtain ⟨_, _, e1, o1⟩ := bools_of_owns hv1'
  cases e1
  have HO1 := hide o1
  clear hv1 hv1' o1
  clear p0 p1 q0 q1 q2 q3 q4 q5 pl fl
  obtain ⟨p0, p1, q0, q1, q2, q3, q4, q5, pl, fl⟩ := HBX.out _ hb1
  go_upto_region 5 with (go_at_call 43; refine (HHS.out va vc _ (HG.out _ hb1) HO1.out).mono ?_; rintro e w2 ⟨rfl, hb2'⟩)
  have hb2 := hb1.trans (hb2'.mono hb1.size)
  replace HO1 := hide (HO1.out.below hb2')
  clear hb1 hb2'
  clear p0 p1 q0 q1 q2 q3 q4 q5 pl fl
  obtain ⟨p0, p1, q0, q1, q2, q3, q4, q5, pl, fl⟩ := HBX.out _ hb2
  go_upto_region 6 with (go_at_call 43; refine (HHO.out _ (HG.out _ hb2)).mono ?_; rintro e w3 ⟨rfl, hb3'⟩)
  have hb3 := hb2.trans (hb3'.mono hb2.size)
  replace HO1 := hide (HO1.out.below hb3')
  have HX3 := hide (HXX.out.below (HG.out _ hb3))
  clear hb2 hb3' p0 p1 q0 q1 q2 q3 q4 q5 pl fl
  go_wp2_with fail
  go_loopw [13] (fun i wr => i = .int .i64 0 ∧ wr = w3) (fun _ _ => 0)
  case atStart => exact ⟨rfl, rfl⟩
  case round =>
    obtain ⟨rfl, rfl⟩ := hrel
    rcases Nat.eq_zero_or_pos x.length with hz | hz
    · have hzi : ¬ ((0 : Int) < (x.length : Int)) := by omega
      go_wp2_with fail
      refine (flowBegun_any _).mono ?_
      rintro e w4 ⟨rfl, hb4⟩
      go_wp2
      go_ret
      exact ⟨rfl, HG.out _ (hb3.trans (hb4.mono hb3.size))⟩
    · have hzi : (0 : Int) < (x.length : Int) := by omega
      go_wp2_with fail
      refine (flowBegun_any _).mono ?_
      rintro e w4 ⟨rfl, hb4⟩
      go_wp2
      go_ret
      exact ⟨rfl, HG.out _ (hb3.trans (hb4.mono hb3.size))⟩

set_option maxHeartbeats 8000000 in
set_option maxRecDepth 100000 in
theorem flowGreatest_no (r : Int) (b off cap : Nat) (ns : List Nd) (f : Flw) (a1 a2 a3 a4 xa : Option Addr) (c1 c2 c3 c4 xc : Nat) (x : List Bool) (w : World) (hN : NodesAt w b off ns) (hc : fchk r ns f = 0) (h1 : BoolsAt w a1 f.gen) (h2 : BoolsAt w a2 f.pass) (h3 : BoolsAt w a3 f.plus) (h4 : BoolsAt w a4 f.lets) (hx : BoolsAt w xa x) (hxl : x.length = ns.length) (hH : hold ns f x = false) :
    Calls Try.prog 10 #[.agg #[.int .i64 r, .slice (some ⟨b, off, none⟩) ns.length cap], .agg #[.bool f.back, .bool f.empty, .slice a1 f.gen.length c1, .slice a2 f.pass.length c2, .slice a3 f.plus.length c3, .slice a4 f.lets.length c4], .slice xa x.length xc] w fun e w' => e = .returned (.bool true) ∧ Below w.heap.size w w' := by
  have hsv := fun W (h : Below w.heap.size w W) => solve_right r b off cap ns f a1 a2 a3 a4 c1 c2 c3 c4 W (hN.below h hN.lt) hc (h1.below h) (h2.below h) (h3.below h) (h4.below h)
  have hho := fun W (h : Below w.heap.size w W) => holds_right r b off cap ns f a1 a2 a3 a4 xa c1 c2 c3 c4 xc x W (hN.below h hN.lt) hc (h1.below h) (h2.below h) (h3.below h) (h4.below h) (hx.below h)
  have hhs := fun ya yc W (h : Below w.heap.size w W) (hy : BoolsAt W ya (solve ns f)) => holds_right r b off cap ns f a1 a2 a3 a4 ya c1 c2 c3 c4 yc (solve ns f) W (hN.below h hN.lt) hc (h1.below h) (h2.below h) (h3.below h) (h4.below h) hy
  simp only [solve_len, if_true, solve_hold] at hhs
  simp only [hxl, if_true, hH] at hho
  have hl := (chk_zero (fchk_zero hc).1).1
  have hsl := solve_len ns f
  rw [hxl]
  generalize solve ns f = S at hsv hhs hsl
  have HSV := hide hsv
  have HHO := hide hho
  have HHS := hide hhs
  have HSL := hide hsl
  have HXX := hide hx
  clear hsv hho hhs hN h1 h2 h3 h4 hx hc hsl hxl
  have hbA : Below w.heap.size w ((w.alloc (.cells #[.int .i64 r, .slice (some ⟨b, off, none⟩) ns.length cap] 24)).alloc (.cells #[.bool f.back, .bool f.empty, .slice a1 f.gen.length c1, .slice a2 f.pass.length c2, .slice a3 f.plus.length c3, .slice a4 f.lets.length c4] 66)) := ((Below.refl _ w).alloc (Nat.le_refl _) _).alloc (by simp) _
  have hpA : ((w.alloc (.cells #[.int .i64 r, .slice (some ⟨b, off, none⟩) ns.length cap] 24)).alloc (.cells #[.bool f.back, .bool f.empty, .slice a1 f.gen.length c1, .slice a2 f.pass.length c2, .slice a3 f.plus.length c3, .slice a4 f.lets.length c4] 66)).heap[w.heap.size]? = some (.cells #[.int .i64 r, .slice (some ⟨b, off, none⟩) ns.length cap] 24 (0, 0)) := (Below.heap_alloc _ _ _ (by simp)).trans (World.alloc_heap_new w _)
  have hfA : ((w.alloc (.cells #[.int .i64 r, .slice (some ⟨b, off, none⟩) ns.length cap] 24)).alloc (.cells #[.bool f.back, .bool f.empty, .slice a1 f.gen.length c1, .slice a2 f.pass.length c2, .slice a3 f.plus.length c3, .slice a4 f.lets.length c4] 66)).heap[w.heap.size + 1]? = some (.cells #[.bool f.back, .bool f.empty, .slice a1 f.gen.length c1, .slice a2 f.pass.length c2, .slice a3 f.plus.length c3, .slice a4 f.lets.length c4] 66 (0, 0)) := by
    have := World.alloc_heap_new (w.alloc (.cells #[.int .i64 r, .slice (some ⟨b, off, none⟩) ns.length cap] 24)) (.cells #[.bool f.back, .bool f.empty, .slice a1 f.gen.length c1, .slice a2 f.pass.length c2, .slice a3 f.plus.length c3, .slice a4 f.lets.length c4] 66)
    rwa [World.size_alloc] at this
  go_enter Try.func10, Try.ntmps10
  go_upto_region 1 with fail
  generalize ((w.alloc (.cells #[.int .i64 r, .slice (some ⟨b, off, none⟩) ns.length cap] 24)).alloc (.cells #[.bool f.back, .bool f.empty, .slice a1 f.gen.length c1, .slice a2 f.pass.length c2, .slice a3 f.plus.length c3, .slice a4 f.lets.length c4] 66)) = W at hbA hpA hfA ⊢
  have HBX : Hid (∀ u : World, Below W.heap.size W u → u.cell? ⟨w.heap.size, 0, none⟩ = some (.int .i64 r) ∧ u.cell? ⟨w.heap.size, 1, none⟩ = some (.slice (some ⟨b, off, none⟩) ns.length cap) ∧ u.cell? ⟨w.heap.size + 1, 0, none⟩ = some (.bool f.back) ∧ u.cell? ⟨w.heap.size + 1, 1, none⟩ = some (.bool f.empty) ∧ u.cell? ⟨w.heap.size + 1, 2, none⟩ = some (.slice a1 f.gen.length c1) ∧ u.cell? ⟨w.heap.size + 1, 3, none⟩ = some (.slice a2 f.pass.length c2) ∧ u.cell? ⟨w.heap.size + 1, 4, none⟩ = some (.slice a3 f.plus.length c3) ∧ u.cell? ⟨w.heap.size + 1, 5, none⟩ = some (.slice a4 f.lets.length c4) ∧ w.heap.size < u.heap.size ∧ w.heap.size + 1 < u.heap.size) := fun u h => by
    have k1 := (h.block _ (blk_lt hpA)).trans hpA
    have k2 := (h.block _ (blk_lt hfA)).trans hfA
    refine ⟨?_, ?_, ?_, ?_, ?_, ?_, ?_, ?_, blk_lt k1, blk_lt k2⟩
    · rw [blk_cell k1]; rfl
    · rw [blk_cell k1]; rfl
    · rw [blk_cell k2]; rfl
    · rw [blk_cell k2]; rfl
    · rw [blk_cell k2]; rfl
    · rw [blk_cell k2]; rfl
    · rw [blk_cell k2]; rfl
    · rw [blk_cell k2]; rfl
  have HW := hide hbA
  clear hbA hpA hfA
  obtain ⟨p0, p1, q0, q1, q2, q3, q4, q5, pl, fl⟩ := HBX.out _ (Below.refl _ W)
  have HG : Hid (∀ u : World, Below W.heap.size W u → Below w.heap.size w u) := fun u h => HW.out.trans (h.mono HW.out.size)
  go_upto_region 2 with (go_at_call 42; refine (HSV.out _ HW.out).mono ?_; rintro e w1 ⟨v1, rfl, hv1, hb1⟩; obtain ⟨va, vc, rfl⟩ := owns_slice hv1)
  have hv1' : w1.ownsRow W.heap.size 4 1 (.slice va S.length vc) S.length (S.map Value.bool) := by rw [HSL.out]; exact hv1
  obtain ⟨_, _, e1, o1⟩ := bools_of_owns hv1'
  cases e1
  have HO1 := hide o1
  clear hv1 hv1' o1
  clear p0 p1 q0 q1 q2 q3 q4 q5 pl fl
  obtain ⟨p0, p1, q0, q1, q2, q3, q4, q5, pl, fl⟩ := HBX.out _ hb1
  go_upto_region 5 with (go_at_call 43; refine (HHS.out va vc _ (HG.out _ hb1) HO1.out).mono ?_; rintro e w2 ⟨rfl, hb2'⟩)
  have hb2 := hb1.trans (hb2'.mono hb1.size)
  replace HO1 := hide (HO1.out.below hb2')
  clear hb1 hb2'
  clear p0 p1 q0 q1 q2 q3 q4 q5 pl fl
  obtain ⟨p0, p1, q0, q1, q2, q3, q4, q5, pl, fl⟩ := HBX.out _ hb2
  go_upto_region 6 with (go_at_call 43; refine (HHO.out _ (HG.out _ hb2)).mono ?_; rintro e w3 ⟨rfl, hb3'⟩)
  have hb3 := hb2.trans (hb3'.mono hb2.size)
  replace HO1 := hide (HO1.out.below hb3')
  have HX3 := hide (HXX.out.below (HG.out _ hb3))
  clear hb2 hb3' p0 p1 q0 q1 q2 q3 q4 q5 pl fl
  go_wp2_with fail
  go_loopw [13] (fun i wr => i = .int .i64 0 ∧ wr = w3) (fun _ _ => 0)
  case atStart => exact ⟨rfl, rfl⟩
  case round =>
    obtain ⟨rfl, rfl⟩ := hrel
    rcases Nat.eq_zero_or_pos ns.length with hz | hz
    · have hzi : ¬ ((0 : Int) < (ns.length : Int)) := by omega
      go_wp2_with fail
      refine (flowBegun_any _).mono ?_
      rintro e w4 ⟨rfl, hb4⟩
      go_wp2
      go_ret
      exact ⟨rfl, HG.out _ (hb3.trans (hb4.mono hb3.size))⟩
    · have hzi : (0 : Int) < (ns.length : Int) := by omega
      go_wp2_with fail
      refine (flowBegun_any _).mono ?_
      rintro e w4 ⟨rfl, hb4⟩
      go_wp2
      go_ret
      exact ⟨rfl, HG.out _ (hb3.trans (hb4.mono hb3.size))⟩

set_option maxHeartbeats 8000000 in
set_option maxRecDepth 100000 in
theorem flowGreatest_yes (r : Int) (b off cap : Nat) (ns : List Nd) (f : Flw) (a1 a2 a3 a4 xa : Option Addr) (c1 c2 c3 c4 xc : Nat) (x : List Bool) (w : World) (hN : NodesAt w b off ns) (hc : fchk r ns f = 0) (h1 : BoolsAt w a1 f.gen) (h2 : BoolsAt w a2 f.pass) (h3 : BoolsAt w a3 f.plus) (h4 : BoolsAt w a4 f.lets) (hx : BoolsAt w xa x) (hxl : x.length = ns.length) (hH : hold ns f x = true) :
    Calls Try.prog 10 #[.agg #[.int .i64 r, .slice (some ⟨b, off, none⟩) ns.length cap], .agg #[.bool f.back, .bool f.empty, .slice a1 f.gen.length c1, .slice a2 f.pass.length c2, .slice a3 f.plus.length c3, .slice a4 f.lets.length c4], .slice xa x.length xc] w fun e w' => e = .returned (.bool true) ∧ Below w.heap.size w w' := by
  have hsv := fun W (h : Below w.heap.size w W) => solve_right r b off cap ns f a1 a2 a3 a4 c1 c2 c3 c4 W (hN.below h hN.lt) hc (h1.below h) (h2.below h) (h3.below h) (h4.below h)
  have hho := fun W (h : Below w.heap.size w W) => holds_right r b off cap ns f a1 a2 a3 a4 xa c1 c2 c3 c4 xc x W (hN.below h hN.lt) hc (h1.below h) (h2.below h) (h3.below h) (h4.below h) (hx.below h)
  have hhs := fun ya yc W (h : Below w.heap.size w W) (hy : BoolsAt W ya (solve ns f)) => holds_right r b off cap ns f a1 a2 a3 a4 ya c1 c2 c3 c4 yc (solve ns f) W (hN.below h hN.lt) hc (h1.below h) (h2.below h) (h3.below h) (h4.below h) hy
  simp only [solve_len, if_true, solve_hold] at hhs
  simp only [hxl, if_true, hH] at hho
  have hl := (chk_zero (fchk_zero hc).1).1
  have hsl := solve_len ns f
  have htop : ∀ n, bat x n = true → bat (solve ns f) n = true := fun n h => hold_top hxl hH h
  have HXL := hide hxl
  rw [hxl]
  generalize solve ns f = S at hsv hhs hsl htop
  have HTOP := hide htop
  clear htop
  have HSV := hide hsv
  have HHO := hide hho
  have HHS := hide hhs
  have HSL := hide hsl
  have HXX := hide hx
  clear hsv hho hhs hN h1 h2 h3 h4 hx hc hsl hxl
  have hbA : Below w.heap.size w ((w.alloc (.cells #[.int .i64 r, .slice (some ⟨b, off, none⟩) ns.length cap] 24)).alloc (.cells #[.bool f.back, .bool f.empty, .slice a1 f.gen.length c1, .slice a2 f.pass.length c2, .slice a3 f.plus.length c3, .slice a4 f.lets.length c4] 66)) := ((Below.refl _ w).alloc (Nat.le_refl _) _).alloc (by simp) _
  have hpA : ((w.alloc (.cells #[.int .i64 r, .slice (some ⟨b, off, none⟩) ns.length cap] 24)).alloc (.cells #[.bool f.back, .bool f.empty, .slice a1 f.gen.length c1, .slice a2 f.pass.length c2, .slice a3 f.plus.length c3, .slice a4 f.lets.length c4] 66)).heap[w.heap.size]? = some (.cells #[.int .i64 r, .slice (some ⟨b, off, none⟩) ns.length cap] 24 (0, 0)) := (Below.heap_alloc _ _ _ (by simp)).trans (World.alloc_heap_new w _)
  have hfA : ((w.alloc (.cells #[.int .i64 r, .slice (some ⟨b, off, none⟩) ns.length cap] 24)).alloc (.cells #[.bool f.back, .bool f.empty, .slice a1 f.gen.length c1, .slice a2 f.pass.length c2, .slice a3 f.plus.length c3, .slice a4 f.lets.length c4] 66)).heap[w.heap.size + 1]? = some (.cells #[.bool f.back, .bool f.empty, .slice a1 f.gen.length c1, .slice a2 f.pass.length c2, .slice a3 f.plus.length c3, .slice a4 f.lets.length c4] 66 (0, 0)) := by
    have := World.alloc_heap_new (w.alloc (.cells #[.int .i64 r, .slice (some ⟨b, off, none⟩) ns.length cap] 24)) (.cells #[.bool f.back, .bool f.empty, .slice a1 f.gen.length c1, .slice a2 f.pass.length c2, .slice a3 f.plus.length c3, .slice a4 f.lets.length c4] 66)
    rwa [World.size_alloc] at this
  go_enter Try.func10, Try.ntmps10
  go_upto_region 1 with fail
  generalize ((w.alloc (.cells #[.int .i64 r, .slice (some ⟨b, off, none⟩) ns.length cap] 24)).alloc (.cells #[.bool f.back, .bool f.empty, .slice a1 f.gen.length c1, .slice a2 f.pass.length c2, .slice a3 f.plus.length c3, .slice a4 f.lets.length c4] 66)) = W at hbA hpA hfA ⊢
  have HBX : Hid (∀ u : World, Below W.heap.size W u → u.cell? ⟨w.heap.size, 0, none⟩ = some (.int .i64 r) ∧ u.cell? ⟨w.heap.size, 1, none⟩ = some (.slice (some ⟨b, off, none⟩) ns.length cap) ∧ u.cell? ⟨w.heap.size + 1, 0, none⟩ = some (.bool f.back) ∧ u.cell? ⟨w.heap.size + 1, 1, none⟩ = some (.bool f.empty) ∧ u.cell? ⟨w.heap.size + 1, 2, none⟩ = some (.slice a1 f.gen.length c1) ∧ u.cell? ⟨w.heap.size + 1, 3, none⟩ = some (.slice a2 f.pass.length c2) ∧ u.cell? ⟨w.heap.size + 1, 4, none⟩ = some (.slice a3 f.plus.length c3) ∧ u.cell? ⟨w.heap.size + 1, 5, none⟩ = some (.slice a4 f.lets.length c4) ∧ w.heap.size < u.heap.size ∧ w.heap.size + 1 < u.heap.size) := fun u h => by
    have k1 := (h.block _ (blk_lt hpA)).trans hpA
    have k2 := (h.block _ (blk_lt hfA)).trans hfA
    refine ⟨?_, ?_, ?_, ?_, ?_, ?_, ?_, ?_, blk_lt k1, blk_lt k2⟩
    · rw [blk_cell k1]; rfl
    · rw [blk_cell k1]; rfl
    · rw [blk_cell k2]; rfl
    · rw [blk_cell k2]; rfl
    · rw [blk_cell k2]; rfl
    · rw [blk_cell k2]; rfl
    · rw [blk_cell k2]; rfl
    · rw [blk_cell k2]; rfl
  have HW := hide hbA
  clear hbA hpA hfA
  obtain ⟨p0, p1, q0, q1, q2, q3, q4, q5, pl, fl⟩ := HBX.out _ (Below.refl _ W)
  have HG : Hid (∀ u : World, Below W.heap.size W u → Below w.heap.size w u) := fun u h => HW.out.trans (h.mono HW.out.size)
  go_upto_region 2 with (go_at_call 42; refine (HSV.out _ HW.out).mono ?_; rintro e w1 ⟨v1, rfl, hv1, hb1⟩; obtain ⟨va, vc, rfl⟩ := owns_slice hv1)
  have hv1' : w1.ownsRow W.heap.size 4 1 (.slice va S.length vc) S.length (S.map Value.bool) := by rw [HSL.out]; exact hv1
  obtain ⟨_, _, e1, o1⟩ := bools_of_owns hv1'
  cases e1
  have HO1 := hide o1
  clear hv1 hv1' o1
  clear p0 p1 q0 q1 q2 q3 q4 q5 pl fl
  obtain ⟨p0, p1, q0, q1, q2, q3, q4, q5, pl, fl⟩ := HBX.out _ hb1
  go_upto_region 5 with (go_at_call 43; refine (HHS.out va vc _ (HG.out _ hb1) HO1.out).mono ?_; rintro e w2 ⟨rfl, hb2'⟩)
  have hb2 := hb1.trans (hb2'.mono hb1.size)
  replace HO1 := hide (HO1.out.below hb2')
  clear hb1 hb2'
  clear p0 p1 q0 q1 q2 q3 q4 q5 pl fl
  obtain ⟨p0, p1, q0, q1, q2, q3, q4, q5, pl, fl⟩ := HBX.out _ hb2
  go_upto_region 6 with (go_at_call 43; refine (HHO.out _ (HG.out _ hb2)).mono ?_; rintro e w3 ⟨rfl, hb3'⟩)
  have hb3 := hb2.trans (hb3'.mono hb2.size)
  replace HO1 := hide (HO1.out.below hb3')
  have HX3 := hide (HXX.out.below (HG.out _ hb3))
  clear hb2 hb3' p0 p1 q0 q1 q2 q3 q4 q5 pl fl
  go_wp2_with fail
  go_loopw [13] (fun i wr => ∃ k : Nat, k ≤ ns.length ∧ i = .int .i64 k ∧ wr = w3) (fun i _ => ns.length - (intOf i).toNat)
  case atStart => exact ⟨0, Nat.zero_le _, rfl, rfl⟩
  case round =>
    obtain ⟨k, hk, rfl, rfl⟩ := hrel
    by_cases hlt : k < ns.length
    · have hki : (k : Int) < (ns.length : Int) := by omega
      obtain ⟨bx, ox, rfl, lx, vx⟩ := bools_cell HX3.out (k := k) (by rw [HXL.out]; exact hlt)
      obtain ⟨by', oy, rfl, ly, vy⟩ := bools_cell HO1.out (k := k) (by rw [HSL.out]; exact hlt)
      have htp := HTOP.out k
      generalize hZ : bat x k = Z at vx htp
      generalize hY : bat S k = Y at vy htp
      clear hZ hY
      cases Z
      · clear htp
        go_wp2
        go_roundw
        case rel => exact ⟨k + 1, by omega, by go_num, trivial⟩
        case measure => simp [intOf]; omega
      · obtain rfl := htp rfl
        clear htp
        go_wp2
        go_roundw
        case rel => exact ⟨k + 1, by omega, by go_num, trivial⟩
        case measure => simp [intOf]; omega
    · have ek : k = ns.length := by omega
      subst ek
      go_wp2_with fail
      refine (flowBegun_any _).mono ?_
      rintro e w4 ⟨rfl, hb4⟩
      go_wp2
      go_ret
      exact ⟨rfl, HG.out _ (hb3.trans (hb4.mono hb3.size))⟩

theorem flowGreatest_right (r : Int) (b off cap : Nat) (ns : List Nd) (f : Flw) (a1 a2 a3 a4 xa : Option Addr) (c1 c2 c3 c4 xc : Nat) (x : List Bool) (w : World) (hN : NodesAt w b off ns) (hc : fchk r ns f = 0) (h1 : BoolsAt w a1 f.gen) (h2 : BoolsAt w a2 f.pass) (h3 : BoolsAt w a3 f.plus) (h4 : BoolsAt w a4 f.lets) (hx : BoolsAt w xa x) (hxl : x.length = ns.length) :
    Calls Try.prog 10 #[.agg #[.int .i64 r, .slice (some ⟨b, off, none⟩) ns.length cap], .agg #[.bool f.back, .bool f.empty, .slice a1 f.gen.length c1, .slice a2 f.pass.length c2, .slice a3 f.plus.length c3, .slice a4 f.lets.length c4], .slice xa x.length xc] w fun e w' => e = .returned (.bool true) ∧ Below w.heap.size w w' := by
  cases hH : hold ns f x
  · exact flowGreatest_no r b off cap ns f a1 a2 a3 a4 xa c1 c2 c3 c4 xc x w hN hc h1 h2 h3 h4 hx hxl hH
  · exact flowGreatest_yes r b off cap ns f a1 a2 a3 a4 xa c1 c2 c3 c4 xc x w hN hc h1 h2 h3 h4 hx hxl hH
end Go.Proofs.Ytoikglgnmjjpcaa
