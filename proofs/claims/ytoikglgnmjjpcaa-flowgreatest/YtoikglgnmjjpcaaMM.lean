/-
  hoistwaylaw.FlowSolves, walked.
-/
import Derived.Test.YtoikglgnmjjpcaaML
namespace Go.Proofs.Ytoikglgnmjjpcaa
open Go.RowKit Go.Shelf
set_option linter.unusedVariables false

set_option maxHeartbeats 8000000 in
set_option maxRecDepth 100000 in
theorem flowSolves_wrong (r : Int) (a : Option Addr) (cap : Nat) (ns : List Nd) (f : Flw) (a1 a2 a3 a4 xa : Option Addr) (c1 c2 c3 c4 xn xc : Nat) (w : World) (hN : SlN w a ns) (hc : fchk r ns f ≠ 0) :
    Calls Try.prog 9 #[.agg #[.int .i64 r, .slice a ns.length cap], .agg #[.bool f.back, .bool f.empty, .slice a1 f.gen.length c1, .slice a2 f.pass.length c2, .slice a3 f.plus.length c3, .slice a4 f.lets.length c4], .slice xa xn xc] w fun e w' => e = .returned (.bool true) ∧ Below w.heap.size w w' := by
  have hsv := fun W (h : Below w.heap.size w W) => solve_wrong r a cap ns f a1 a2 a3 a4 c1 c2 c3 c4 W (hN.below h) hc
  have hho := fun W (h : Below w.heap.size w W) => holds_wrong r a cap ns f a1 a2 a3 a4 c1 c2 c3 c4 (.slice xa xn xc) W (hN.below h) hc
  have hfe := fun W (h : Below w.heap.size w W) => flowError_any r a cap ns f a1 a2 a3 a4 c1 c2 c3 c4 W (hN.below h)
  have hck := fun W (h : Below w.heap.size w W) => fcheck_any r a cap ns f a1 a2 a3 a4 c1 c2 c3 c4 W (hN.below h)
  generalize fchk r ns f = C at hc hsv hho hfe hck
  have hCb : (C == 0) = false := by simp [hc]
  have HSV := hide hsv
  have HHO := hide hho
  have HFE := hide hfe
  have HCK := hide hck
  clear hsv hho hfe hck hN
  have hbA : Below w.heap.size w ((w.alloc (.cells #[.int .i64 r, .slice a ns.length cap] 24)).alloc (.cells #[.bool f.back, .bool f.empty, .slice a1 f.gen.length c1, .slice a2 f.pass.length c2, .slice a3 f.plus.length c3, .slice a4 f.lets.length c4] 66)) := ((Below.refl _ w).alloc (Nat.le_refl _) _).alloc (by simp) _
  have hpA : ((w.alloc (.cells #[.int .i64 r, .slice a ns.length cap] 24)).alloc (.cells #[.bool f.back, .bool f.empty, .slice a1 f.gen.length c1, .slice a2 f.pass.length c2, .slice a3 f.plus.length c3, .slice a4 f.lets.length c4] 66)).heap[w.heap.size]? = some (.cells #[.int .i64 r, .slice a ns.length cap] 24 (0, 0)) := (Below.heap_alloc _ _ _ (by simp)).trans (World.alloc_heap_new w _)
  have hfA : ((w.alloc (.cells #[.int .i64 r, .slice a ns.length cap] 24)).alloc (.cells #[.bool f.back, .bool f.empty, .slice a1 f.gen.length c1, .slice a2 f.pass.length c2, .slice a3 f.plus.length c3, .slice a4 f.lets.length c4] 66)).heap[w.heap.size + 1]? = some (.cells #[.bool f.back, .bool f.empty, .slice a1 f.gen.length c1, .slice a2 f.pass.length c2, .slice a3 f.plus.length c3, .slice a4 f.lets.length c4] 66 (0, 0)) := by
    have := World.alloc_heap_new (w.alloc (.cells #[.int .i64 r, .slice a ns.length cap] 24)) (.cells #[.bool f.back, .bool f.empty, .slice a1 f.gen.length c1, .slice a2 f.pass.length c2, .slice a3 f.plus.length c3, .slice a4 f.lets.length c4] 66)
    rwa [World.size_alloc] at this
  go_enter Try.func9, Try.ntmps9
  go_upto_region 1 with fail
  generalize ((w.alloc (.cells #[.int .i64 r, .slice a ns.length cap] 24)).alloc (.cells #[.bool f.back, .bool f.empty, .slice a1 f.gen.length c1, .slice a2 f.pass.length c2, .slice a3 f.plus.length c3, .slice a4 f.lets.length c4] 66)) = W at hbA hpA hfA ⊢
  have HBX : Hid (∀ u : World, Below W.heap.size W u → u.cell? ⟨w.heap.size, 0, none⟩ = some (.int .i64 r) ∧ u.cell? ⟨w.heap.size, 1, none⟩ = some (.slice a ns.length cap) ∧ u.cell? ⟨w.heap.size + 1, 0, none⟩ = some (.bool f.back) ∧ u.cell? ⟨w.heap.size + 1, 1, none⟩ = some (.bool f.empty) ∧ u.cell? ⟨w.heap.size + 1, 2, none⟩ = some (.slice a1 f.gen.length c1) ∧ u.cell? ⟨w.heap.size + 1, 3, none⟩ = some (.slice a2 f.pass.length c2) ∧ u.cell? ⟨w.heap.size + 1, 4, none⟩ = some (.slice a3 f.plus.length c3) ∧ u.cell? ⟨w.heap.size + 1, 5, none⟩ = some (.slice a4 f.lets.length c4) ∧ w.heap.size < u.heap.size ∧ w.heap.size + 1 < u.heap.size) := fun u h => by
    have k1 := (h.block _ (blk_lt hpA)).trans hpA
    have k2 := (h.block _ (blk_lt hfA)).trans hfA
    refine ⟨?_, ?_, ?_, ?_, ?_, ?_, ?_, ?_, blk_lt k1, blk_lt k2⟩
    · rw [blk_cell k1]; rfl
    · rw [blk_cell k1]; rfl
    · rw [blk_cell k2]; rfl
    · rw [blk_cell k2]; rfl
    · rw [blk_cell k2]; rfl
    · rw [blk_cell k2]; rfl
    · rw [blk_cell k2]; rfl
    · rw [blk_cell k2]; rfl
  have HW := hide hbA
  clear hbA hpA hfA
  obtain ⟨p0, p1, q0, q1, q2, q3, q4, q5, pl, fl⟩ := HBX.out _ (Below.refl _ W)
  have HG : Hid (∀ u : World, Below W.heap.size W u → Below w.heap.size w u) := fun u h => HW.out.trans (h.mono HW.out.size)
  go_upto_region 2 with (go_at_call 42; refine (HSV.out _ HW.out).mono ?_; rintro e w1 ⟨rfl, hb1⟩)
  clear p0 p1 q0 q1 q2 q3 q4 q5 pl fl
  obtain ⟨p0, p1, q0, q1, q2, q3, q4, q5, pl, fl⟩ := HBX.out _ hb1
  go_upto_region 3 with (go_at_call 43; refine (HHO.out _ (HG.out _ hb1)).mono ?_; rintro e w2 ⟨rfl, hb2'⟩)
  have hb2 := hb1.trans (hb2'.mono hb1.size)
  clear hb1 hb2'
  clear p0 p1 q0 q1 q2 q3 q4 q5 pl fl
  obtain ⟨p0, p1, q0, q1, q2, q3, q4, q5, pl, fl⟩ := HBX.out _ hb2
  go_upto_region 4 with (go_at_call 44; refine (HFE.out _ (HG.out _ hb2)).mono ?_; rintro e w3 ⟨rfl, hb3'⟩)
  have hb3 := hb2.trans (hb3'.mono hb2.size)
  clear hb2 hb3'
  clear p0 p1 q0 q1 q2 q3 q4 q5 pl fl
  obtain ⟨p0, p1, q0, q1, q2, q3, q4, q5, pl, fl⟩ := HBX.out _ hb3
  go_upto_region 12 with fail
  go_wp2_with fail
  refine (flowBegun_any _).mono ?_
  rintro e w4 ⟨rfl, hb4'⟩
  have hb4 := hb3.trans (hb4'.mono hb3.size)
  clear hb3 hb4'
  clear p0 p1 q0 q1 q2 q3 q4 q5 pl fl
  obtain ⟨p0, p1, q0, q1, q2, q3, q4, q5, pl, fl⟩ := HBX.out _ hb4
  go_wp2_with fail
  refine (HCK.out _ (HG.out _ hb4)).mono ?_
  rintro e w5 ⟨rfl, hb5'⟩
  have hb5 := hb4.trans (hb5'.mono hb4.size)
  clear hb4 hb5'
  go_wp2_with fail
  refine (sameBools_same none none 0 0 [] _ (Or.inl rfl) (Or.inl rfl) (by decide)).mono ?_
  rintro e w6 ⟨rfl, hb6⟩
  go_wp2
  go_ret
  exact ⟨rfl, HG.out _ (hb5.trans (hb6.mono hb5.size))⟩

set_option maxHeartbeats 8000000 in
set_option maxRecDepth 100000 in
theorem flowSolves_form (r : Int) (b off cap : Nat) (ns : List Nd) (f : Flw) (a1 a2 a3 a4 xa : Option Addr) (c1 c2 c3 c4 xc : Nat) (x : List Bool) (w : World) (hN : NodesAt w b off ns) (hc : fchk r ns f = 0) (h1 : BoolsAt w a1 f.gen) (h2 : BoolsAt w a2 f.pass) (h3 : BoolsAt w a3 f.plus) (h4 : BoolsAt w a4 f.lets) (hx : BoolsAt w xa x) (hxl : x.length ≠ ns.length) :
    Calls Try.prog 9 #[.agg #[.int .i64 r, .slice (some ⟨b, off, none⟩) ns.length cap], .agg #[.bool f.back, .bool f.empty, .slice a1 f.gen.length c1, .slice a2 f.pass.length c2, .slice a3 f.plus.length c3, .slice a4 f.lets.length c4], .slice xa x.length xc] w fun e w' => e = .returned (.bool true) ∧ Below w.heap.size w w' := by
  have hsv := fun W (h : Below w.heap.size w W) => solve_right r b off cap ns f a1 a2 a3 a4 c1 c2 c3 c4 W (hN.below h hN.lt) hc (h1.below h) (h2.below h) (h3.below h) (h4.below h)
  have hso := fun W (h : Below w.heap.size w W) => solveOf_any r b off cap ns f a1 a2 a3 a4 c1 c2 c3 c4 W (hN.below h hN.lt) hc (h1.below h) (h2.below h) (h3.below h) (h4.below h)
  have hho := fun W (h : Below w.heap.size w W) => holds_right r b off cap ns f a1 a2 a3 a4 xa c1 c2 c3 c4 xc x W (hN.below h hN.lt) hc (h1.below h) (h2.below h) (h3.below h) (h4.below h) (hx.below h)
  have hfe := fun W (h : Below w.heap.size w W) => flowError_any r (some ⟨b, off, none⟩) cap ns f a1 a2 a3 a4 c1 c2 c3 c4 W (Or.inr ⟨b, off, rfl, hN.below h hN.lt⟩)
  have hck := fun W (h : Below w.heap.size w W) => fcheck_any r (some ⟨b, off, none⟩) cap ns f a1 a2 a3 a4 c1 c2 c3 c4 W (Or.inr ⟨b, off, rfl, hN.below h hN.lt⟩)
  rw [hc] at hfe hck
  simp only [hxl, if_false] at hho
  have hl := (chk_zero (fchk_zero hc).1).1
  have hsl := solve_len ns f
  have hxi : ¬ ((x.length : Int) = (ns.length : Int)) := by omega
  generalize solve ns f = S at hsv hso hsl
  have HSV := hide hsv
  have HSO := hide hso
  have HHO := hide hho
  have HFE := hide hfe
  have HCK := hide hck
  have HSL := hide hsl
  clear hsv hso hho hfe hck hN h1 h2 h3 h4 hx hc hsl hxl
  have hbA : Below w.heap.size w ((w.alloc (.cells #[.int .i64 r, .slice (some ⟨b, off, none⟩) ns.length cap] 24)).alloc (.cells #[.bool f.back, .bool f.empty, .slice a1 f.gen.length c1, .slice a2 f.pass.length c2, .slice a3 f.plus.length c3, .slice a4 f.lets.length c4] 66)) := ((Below.refl _ w).alloc (Nat.le_refl _) _).alloc (by simp) _
  have hpA : ((w.alloc (.cells #[.int .i64 r, .slice (some ⟨b, off, none⟩) ns.length cap] 24)).alloc (.cells #[.bool f.back, .bool f.empty, .slice a1 f.gen.length c1, .slice a2 f.pass.length c2, .slice a3 f.plus.length c3, .slice a4 f.lets.length c4] 66)).heap[w.heap.size]? = some (.cells #[.int .i64 r, .slice (some ⟨b, off, none⟩) ns.length cap] 24 (0, 0)) := (Below.heap_alloc _ _ _ (by simp)).trans (World.alloc_heap_new w _)
  have hfA : ((w.alloc (.cells #[.int .i64 r, .slice (some ⟨b, off, none⟩) ns.length cap] 24)).alloc (.cells #[.bool f.back, .bool f.empty, .slice a1 f.gen.length c1, .slice a2 f.pass.length c2, .slice a3 f.plus.length c3, .slice a4 f.lets.length c4] 66)).heap[w.heap.size + 1]? = some (.cells #[.bool f.back, .bool f.empty, .slice a1 f.gen.length c1, .slice a2 f.pass.length c2, .slice a3 f.plus.length c3, .slice a4 f.lets.length c4] 66 (0, 0)) := by
    have := World.alloc_heap_new (w.alloc (.cells #[.int .i64 r, .slice (some ⟨b, off, none⟩) ns.length cap] 24)) (.cells #[.bool f.back, .bool f.empty, .slice a1 f.gen.length c1, .slice a2 f.pass.length c2, .slice a3 f.plus.length c3, .slice a4 f.lets.length c4] 66)
    rwa [World.size_alloc] at this
  go_enter Try.func9, Try.ntmps9
  go_upto_region 1 with fail
  generalize ((w.alloc (.cells #[.int .i64 r, .slice (some ⟨b, off, none⟩) ns.length cap] 24)).alloc (.cells #[.bool f.back, .bool f.empty, .slice a1 f.gen.length c1, .slice a2 f.pass.length c2, .slice a3 f.plus.length c3, .slice a4 f.lets.length c4] 66)) = W at hbA hpA hfA ⊢
  have HBX : Hid (∀ u : World, Below W.heap.size W u → u.cell? ⟨w.heap.size, 0, none⟩ = some (.int .i64 r) ∧ u.cell? ⟨w.heap.size, 1, none⟩ = some (.slice (some ⟨b, off, none⟩) ns.length cap) ∧ u.cell? ⟨w.heap.size + 1, 0, none⟩ = some (.bool f.back) ∧ u.cell? ⟨w.heap.size + 1, 1, none⟩ = some (.bool f.empty) ∧ u.cell? ⟨w.heap.size + 1, 2, none⟩ = some (.slice a1 f.gen.length c1) ∧ u.cell? ⟨w.heap.size + 1, 3, none⟩ = some (.slice a2 f.pass.length c2) ∧ u.cell? ⟨w.heap.size + 1, 4, none⟩ = some (.slice a3 f.plus.length c3) ∧ u.cell? ⟨w.heap.size + 1, 5, none⟩ = some (.slice a4 f.lets.length c4) ∧ w.heap.size < u.heap.size ∧ w.heap.size + 1 < u.heap.size) := fun u h => by
    have k1 := (h.block _ (blk_lt hpA)).trans hpA
    have k2 := (h.block _ (blk_lt hfA)).trans hfA
    refine ⟨?_, ?_, ?_, ?_, ?_, ?_, ?_, ?_, blk_lt k1, blk_lt k2⟩
    · rw [blk_cell k1]; rfl
    · rw [blk_cell k1]; rfl
    · rw [blk_cell k2]; rfl
    · rw [blk_cell k2]; rfl
    · rw [blk_cell k2]; rfl
    · rw [blk_cell k2]; rfl
    · rw [blk_cell k2]; rfl
    · rw [blk_cell k2]; rfl
  have HW := hide hbA
  clear hbA hpA hfA
  obtain ⟨p0, p1, q0, q1, q2, q3, q4, q5, pl, fl⟩ := HBX.out _ (Below.refl _ W)
  have HG : Hid (∀ u : World, Below W.heap.size W u → Below w.heap.size w u) := fun u h => HW.out.trans (h.mono HW.out.size)
  go_upto_region 2 with (go_at_call 42; refine (HSV.out _ HW.out).mono ?_; rintro e w1 ⟨v1, rfl, hv1, hb1⟩; obtain ⟨va, vc, rfl⟩ := owns_slice hv1)
  have HV1 := hide hv1
  clear hv1
  clear p0 p1 q0 q1 q2 q3 q4 q5 pl fl
  obtain ⟨p0, p1, q0, q1, q2, q3, q4, q5, pl, fl⟩ := HBX.out _ hb1
  go_upto_region 3 with (go_at_call 43; refine (HHO.out _ (HG.out _ hb1)).mono ?_; rintro e w2 ⟨rfl, hb2'⟩)
  have hb2 := hb1.trans (hb2'.mono hb1.size)
  replace HV1 := hide (ownsRow_below HV1.out hb2' (Nat.le_refl _))
  clear hb1 hb2'
  clear p0 p1 q0 q1 q2 q3 q4 q5 pl fl
  obtain ⟨p0, p1, q0, q1, q2, q3, q4, q5, pl, fl⟩ := HBX.out _ hb2
  go_upto_region 4 with (go_at_call 44; refine (HFE.out _ (HG.out _ hb2)).mono ?_; rintro e w3 ⟨rfl, hb3'⟩)
  have hb3 := hb2.trans (hb3'.mono hb2.size)
  replace HV1 := hide (ownsRow_below HV1.out hb3' (Nat.le_refl _))
  clear hb2 hb3'
  clear p0 p1 q0 q1 q2 q3 q4 q5 pl fl
  obtain ⟨p0, p1, q0, q1, q2, q3, q4, q5, pl, fl⟩ := HBX.out _ hb3
  go_upto_region 10 with (go_at_call 45; refine (HSO.out _ (HG.out _ hb3)).mono ?_; rintro e w4 ⟨v4, rfl, hv4, hb4'⟩; obtain ⟨wa, wc, rfl⟩ := owns_slice hv4)
  have hb4 := hb3.trans (hb4'.mono hb3.size)
  replace HV1 := hide (ownsRow_below HV1.out hb4' (Nat.le_refl _))
  have HV4 := hide hv4
  clear hb3 hb4' hv4
  clear p0 p1 q0 q1 q2 q3 q4 q5 pl fl
  obtain ⟨p0, p1, q0, q1, q2, q3, q4, q5, pl, fl⟩ := HBX.out _ hb4
  have hb5 := hb4
  clear hb4
  go_wp2_with fail
  refine (flowBegun_any _).mono ?_
  rintro e w6 ⟨rfl, hb6'⟩
  have hb6 := hb5.trans (hb6'.mono hb5.size)
  replace HV1 := hide (ownsRow_below HV1.out hb6' (Nat.le_refl _))
  replace HV4 := hide (ownsRow_below HV4.out hb6' (Nat.le_refl _))
  clear hb5 hb6'
  clear p0 p1 q0 q1 q2 q3 q4 q5 pl fl
  obtain ⟨p0, p1, q0, q1, q2, q3, q4, q5, pl, fl⟩ := HBX.out _ hb6
  go_wp2_with fail
  refine (HCK.out _ (HG.out _ hb6)).mono ?_
  rintro e w7 ⟨rfl, hb7'⟩
  have hb7 := hb6.trans (hb7'.mono hb6.size)
  have hv1 := ownsRow_below HV1.out hb7' (Nat.le_refl _)
  have hv4 := ownsRow_below HV4.out hb7' (Nat.le_refl _)
  rw [← HSL.out] at hv1 hv4
  obtain ⟨_, _, e1, o1⟩ := bools_of_owns hv1
  cases e1
  obtain ⟨_, _, e4, o4⟩ := bools_of_owns hv4
  cases e4
  have hsb := sameBools_same va wa vc wc S w7 o1 o4 (by rw [HSL.out]; omega)
  rw [HSL.out] at hsb
  have HSB := hide hsb
  clear hb6 hb7' hv1 hv4 o1 o4 hsb HV1 HV4
  go_wp2_with fail
  refine HSB.out.mono ?_
  rintro e w8 ⟨rfl, hb8⟩
  go_wp2
  go_ret
  exact ⟨rfl, HG.out _ (hb7.trans (hb8.mono hb7.size))⟩

set_option maxHeartbeats 8000000 in
set_option maxRecDepth 100000 in
theorem flowSolves_right (r : Int) (b off cap : Nat) (ns : List Nd) (f : Flw) (a1 a2 a3 a4 xa : Option Addr) (c1 c2 c3 c4 xc : Nat) (x : List Bool) (w : World) (hN : NodesAt w b off ns) (hc : fchk r ns f = 0) (h1 : BoolsAt w a1 f.gen) (h2 : BoolsAt w a2 f.pass) (h3 : BoolsAt w a3 f.plus) (h4 : BoolsAt w a4 f.lets) (hx : BoolsAt w xa x) (hxl : x.length = ns.length) :
    Calls Try.prog 9 #[.agg #[.int .i64 r, .slice (some ⟨b, off, none⟩) ns.length cap], .agg #[.bool f.back, .bool f.empty, .slice a1 f.gen.length c1, .slice a2 f.pass.length c2, .slice a3 f.plus.length c3, .slice a4 f.lets.length c4], .slice xa x.length xc] w fun e w' => e = .returned (.bool true) ∧ Below w.heap.size w w' := by
  have hsv := fun W (h : Below w.heap.size w W) => solve_right r b off cap ns f a1 a2 a3 a4 c1 c2 c3 c4 W (hN.below h hN.lt) hc (h1.below h) (h2.below h) (h3.below h) (h4.below h)
  have hso := fun W (h : Below w.heap.size w W) => solveOf_any r b off cap ns f a1 a2 a3 a4 c1 c2 c3 c4 W (hN.below h hN.lt) hc (h1.below h) (h2.below h) (h3.below h) (h4.below h)
  have hho := fun W (h : Below w.heap.size w W) => holds_right r b off cap ns f a1 a2 a3 a4 xa c1 c2 c3 c4 xc x W (hN.below h hN.lt) hc (h1.below h) (h2.below h) (h3.below h) (h4.below h) (hx.below h)
  have hhf := fun W (h : Below w.heap.size w W) => holdsOf_any r b off cap ns f a1 a2 a3 a4 xa c1 c2 c3 c4 xc x W (hN.below h hN.lt) hc (h1.below h) (h2.below h) (h3.below h) (h4.below h) (hx.below h) hxl
  have hfe := fun W (h : Below w.heap.size w W) => flowError_any r (some ⟨b, off, none⟩) cap ns f a1 a2 a3 a4 c1 c2 c3 c4 W (Or.inr ⟨b, off, rfl, hN.below h hN.lt⟩)
  have hck := fun W (h : Below w.heap.size w W) => fcheck_any r (some ⟨b, off, none⟩) cap ns f a1 a2 a3 a4 c1 c2 c3 c4 W (Or.inr ⟨b, off, rfl, hN.below h hN.lt⟩)
  rw [hc] at hfe hck
  simp only [hxl, if_true] at hho
  have hl := (chk_zero (fchk_zero hc).1).1
  have hsl := solve_len ns f
  simp only [hxl] at hhf
  rw [hxl]
  generalize solve ns f = S at hsv hso hsl
  generalize hold ns f x = H at hho hhf
  have HHF := hide hhf
  clear hhf
  have HXL := hide hxl
  have HSV := hide hsv
  have HSO := hide hso
  have HHO := hide hho
  have HFE := hide hfe
  have HCK := hide hck
  have HSL := hide hsl
  clear hsv hso hho hfe hck hN h1 h2 h3 h4 hx hc hsl hxl
  have hbA : Below w.heap.size w ((w.alloc (.cells #[.int .i64 r, .slice (some ⟨b, off, none⟩) ns.length cap] 24)).alloc (.cells #[.bool f.back, .bool f.empty, .slice a1 f.gen.length c1, .slice a2 f.pass.length c2, .slice a3 f.plus.length c3, .slice a4 f.lets.length c4] 66)) := ((Below.refl _ w).alloc (Nat.le_refl _) _).alloc (by simp) _
  have hpA : ((w.alloc (.cells #[.int .i64 r, .slice (some ⟨b, off, none⟩) ns.length cap] 24)).alloc (.cells #[.bool f.back, .bool f.empty, .slice a1 f.gen.length c1, .slice a2 f.pass.length c2, .slice a3 f.plus.length c3, .slice a4 f.lets.length c4] 66)).heap[w.heap.size]? = some (.cells #[.int .i64 r, .slice (some ⟨b, off, none⟩) ns.length cap] 24 (0, 0)) := (Below.heap_alloc _ _ _ (by simp)).trans (World.alloc_heap_new w _)
  have hfA : ((w.alloc (.cells #[.int .i64 r, .slice (some ⟨b, off, none⟩) ns.length cap] 24)).alloc (.cells #[.bool f.back, .bool f.empty, .slice a1 f.gen.length c1, .slice a2 f.pass.length c2, .slice a3 f.plus.length c3, .slice a4 f.lets.length c4] 66)).heap[w.heap.size + 1]? = some (.cells #[.bool f.back, .bool f.empty, .slice a1 f.gen.length c1, .slice a2 f.pass.length c2, .slice a3 f.plus.length c3, .slice a4 f.lets.length c4] 66 (0, 0)) := by
    have := World.alloc_heap_new (w.alloc (.cells #[.int .i64 r, .slice (some ⟨b, off, none⟩) ns.length cap] 24)) (.cells #[.bool f.back, .bool f.empty, .slice a1 f.gen.length c1, .slice a2 f.pass.length c2, .slice a3 f.plus.length c3, .slice a4 f.lets.length c4] 66)
    rwa [World.size_alloc] at this
  go_enter Try.func9, Try.ntmps9
  go_upto_region 1 with fail
  generalize ((w.alloc (.cells #[.int .i64 r, .slice (some ⟨b, off, none⟩) ns.length cap] 24)).alloc (.cells #[.bool f.back, .bool f.empty, .slice a1 f.gen.length c1, .slice a2 f.pass.length c2, .slice a3 f.plus.length c3, .slice a4 f.lets.length c4] 66)) = W at hbA hpA hfA ⊢
  have HBX : Hid (∀ u : World, Below W.heap.size W u → u.cell? ⟨w.heap.size, 0, none⟩ = some (.int .i64 r) ∧ u.cell? ⟨w.heap.size, 1, none⟩ = some (.slice (some ⟨b, off, none⟩) ns.length cap) ∧ u.cell? ⟨w.heap.size + 1, 0, none⟩ = some (.bool f.back) ∧ u.cell? ⟨w.heap.size + 1, 1, none⟩ = some (.bool f.empty) ∧ u.cell? ⟨w.heap.size + 1, 2, none⟩ = some (.slice a1 f.gen.length c1) ∧ u.cell? ⟨w.heap.size + 1, 3, none⟩ = some (.slice a2 f.pass.length c2) ∧ u.cell? ⟨w.heap.size + 1, 4, none⟩ = some (.slice a3 f.plus.length c3) ∧ u.cell? ⟨w.heap.size + 1, 5, none⟩ = some (.slice a4 f.lets.length c4) ∧ w.heap.size < u.heap.size ∧ w.heap.size + 1 < u.heap.size) := fun u h => by
    have k1 := (h.block _ (blk_lt hpA)).trans hpA
    have k2 := (h.block _ (blk_lt hfA)).trans hfA
    refine ⟨?_, ?_, ?_, ?_, ?_, ?_, ?_, ?_, blk_lt k1, blk_lt k2⟩
    · rw [blk_cell k1]; rfl
    · rw [blk_cell k1]; rfl
    · rw [blk_cell k2]; rfl
    · rw [blk_cell k2]; rfl
    · rw [blk_cell k2]; rfl
    · rw [blk_cell k2]; rfl
    · rw [blk_cell k2]; rfl
    · rw [blk_cell k2]; rfl
  have HW := hide hbA
  clear hbA hpA hfA
  obtain ⟨p0, p1, q0, q1, q2, q3, q4, q5, pl, fl⟩ := HBX.out _ (Below.refl _ W)
  have HG : Hid (∀ u : World, Below W.heap.size W u → Below w.heap.size w u) := fun u h => HW.out.trans (h.mono HW.out.size)
  go_upto_region 2 with (go_at_call 42; refine (HSV.out _ HW.out).mono ?_; rintro e w1 ⟨v1, rfl, hv1, hb1⟩; obtain ⟨va, vc, rfl⟩ := owns_slice hv1)
  have HV1 := hide hv1
  clear hv1
  clear p0 p1 q0 q1 q2 q3 q4 q5 pl fl
  obtain ⟨p0, p1, q0, q1, q2, q3, q4, q5, pl, fl⟩ := HBX.out _ hb1
  go_upto_region 3 with (go_at_call 43; refine (HHO.out _ (HG.out _ hb1)).mono ?_; rintro e w2 ⟨rfl, hb2'⟩)
  have hb2 := hb1.trans (hb2'.mono hb1.size)
  replace HV1 := hide (ownsRow_below HV1.out hb2' (Nat.le_refl _))
  clear hb1 hb2'
  clear p0 p1 q0 q1 q2 q3 q4 q5 pl fl
  obtain ⟨p0, p1, q0, q1, q2, q3, q4, q5, pl, fl⟩ := HBX.out _ hb2
  go_upto_region 4 with (go_at_call 44; refine (HFE.out _ (HG.out _ hb2)).mono ?_; rintro e w3 ⟨rfl, hb3'⟩)
  have hb3 := hb2.trans (hb3'.mono hb2.size)
  replace HV1 := hide (ownsRow_below HV1.out hb3' (Nat.le_refl _))
  clear hb2 hb3'
  clear p0 p1 q0 q1 q2 q3 q4 q5 pl fl
  obtain ⟨p0, p1, q0, q1, q2, q3, q4, q5, pl, fl⟩ := HBX.out _ hb3
  go_upto_region 10 with (go_at_call 45; refine (HSO.out _ (HG.out _ hb3)).mono ?_; rintro e w4 ⟨v4, rfl, hv4, hb4'⟩; obtain ⟨wa, wc, rfl⟩ := owns_slice hv4)
  have hb4 := hb3.trans (hb4'.mono hb3.size)
  replace HV1 := hide (ownsRow_below HV1.out hb4' (Nat.le_refl _))
  have HV4 := hide hv4
  clear hb3 hb4' hv4
  clear p0 p1 q0 q1 q2 q3 q4 q5 pl fl
  obtain ⟨p0, p1, q0, q1, q2, q3, q4, q5, pl, fl⟩ := HBX.out _ hb4
  go_upto_region 12 with (go_at_call 46; refine (HHF.out _ (HG.out _ hb4)).mono ?_; rintro e w5 ⟨rfl, hb5'⟩)
  have hb5 := hb4.trans (hb5'.mono hb4.size)
  replace HV1 := hide (ownsRow_below HV1.out hb5' (Nat.le_refl _))
  replace HV4 := hide (ownsRow_below HV4.out hb5' (Nat.le_refl _))
  clear hb4 hb5'
  clear p0 p1 q0 q1 q2 q3 q4 q5 pl fl
  obtain ⟨p0, p1, q0, q1, q2, q3, q4, q5, pl, fl⟩ := HBX.out _ hb5
  go_wp2_with fail
  refine (flowBegun_any _).mono ?_
  rintro e w6 ⟨rfl, hb6'⟩
  have hb6 := hb5.trans (hb6'.mono hb5.size)
  replace HV1 := hide (ownsRow_below HV1.out hb6' (Nat.le_refl _))
  replace HV4 := hide (ownsRow_below HV4.out hb6' (Nat.le_refl _))
  clear hb5 hb6'
  clear p0 p1 q0 q1 q2 q3 q4 q5 pl fl
  obtain ⟨p0, p1, q0, q1, q2, q3, q4, q5, pl, fl⟩ := HBX.out _ hb6
  go_wp2_with fail
  refine (HCK.out _ (HG.out _ hb6)).mono ?_
  rintro e w7 ⟨rfl, hb7'⟩
  have hb7 := hb6.trans (hb7'.mono hb6.size)
  have hv1 := ownsRow_below HV1.out hb7' (Nat.le_refl _)
  have hv4 := ownsRow_below HV4.out hb7' (Nat.le_refl _)
  rw [← HSL.out] at hv1 hv4
  obtain ⟨_, _, e1, o1⟩ := bools_of_owns hv1
  cases e1
  obtain ⟨_, _, e4, o4⟩ := bools_of_owns hv4
  cases e4
  have hsb := sameBools_same va wa vc wc S w7 o1 o4 (by rw [HSL.out]; omega)
  rw [HSL.out] at hsb
  have HSB := hide hsb
  clear hb6 hb7' hv1 hv4 o1 o4 hsb HV1 HV4
  go_wp2_with fail
  refine HSB.out.mono ?_
  rintro e w8 ⟨rfl, hb8⟩
  cases H
  · go_wp2
    go_ret
    exact ⟨rfl, HG.out _ (hb7.trans (hb8.mono hb7.size))⟩
  · go_wp2
    go_ret
    exact ⟨rfl, HG.out _ (hb7.trans (hb8.mono hb7.size))⟩
end Go.Proofs.Ytoikglgnmjjpcaa
