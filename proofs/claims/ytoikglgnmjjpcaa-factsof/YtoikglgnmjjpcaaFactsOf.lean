/-
  Whatever program and term hoistwaylaw.FactsOf is handed, it returns true and leaves its arguments as they were: facts.Of answers what the document's own reckoning answers, errors too. No condition.
  hoistwaylaw.factsBegun, walked.
  hoistwaylaw.FactsOf, walked: where the program or the term is wrong, and where they are right.
  A term that came in.
-/
import Derived.Test.YtoikglgnmjjpcaaFK
import Derived.Test.YtoikglgnmjjpcaaFM
import Derived.Test.YtoikglgnmjjpcaaY
import Derived.Test.YtoikglgnmjjpcaaGC
namespace Go.Proofs.Ytoikglgnmjjpcaa
open Go.RowKit Go.Shelf
set_option linter.unusedVariables false
set_option linter.unusedSimpArgs false

def sumT : Tm := ⟨3, 0, 1⟩
def down7 : List Bool := [false, false, true, true, true, true, false]
def early7 : List Bool := [false, false, true, false, false, false, false]
theorem sum_chk : tchk 3 smallN sumT = 0 := by kernel_rfl
theorem sum_down : downL smallN sumT = down7 := by kernel_rfl
def up7 : List Bool := [false, false, false, false, true, false, true]
def delay7 : List Bool := [false, false, true, true, false, false, false]
theorem sum_up : upL smallN sumT = up7 := by kernel_rfl
theorem sum_early : earlyL smallN sumT = early7 := by unfold earlyL; rw [sum_down, sum_up]; kernel_rfl
theorem sum_delay : delayL smallN sumT = delay7 := by unfold delayL delayW; rw [sum_early]; kernel_rfl

theorem boolsN_blk {W : World} {b : Nat} {zs : List Bool} {t : TypeId} {fr : Nat × Nat} (h : W.heap[b]? = some (.cells (zs.map Value.bool).toArray t fr)) : BoolsAt W (some ⟨b, 0, none⟩) zs :=
  Or.inr ⟨b, 0, rfl, blk_lt h, fun j z hz => by rw [Nat.zero_add, blk_cell h, List.getElem?_toArray, List.getElem?_map, hz]; rfl⟩

set_option maxHeartbeats 8000000 in
set_option maxRecDepth 100000 in
theorem factsBegun_any (w : World) :
    Calls Try.prog 52 #[] w fun e w' => e = .returned (.bool true) ∧ Below w.heap.size w w' := by
  have hof : ∀ (W : World) (b : Nat), NodesAt W b 0 smallN → Calls Try.prog 49 #[.agg #[.int .i64 3, .slice (some ⟨b, 0, none⟩) 7 7], .agg #[.int .i64 3, .int .i64 0, .int .i64 1]] W fun e w' => ∃ a0 a1 a2 a3 a4 a5 c0 c1 c2 c3 c4 c5, e = .returned (.tuple #[.agg #[.slice a0 7 c0, .slice a1 7 c1, .slice a2 7 c2, .slice a3 7 c3, .slice a4 7 c4, .slice a5 7 c5], .int .i64 0]) ∧ (w'.ownsRow W.heap.size 4 1 (.slice a0 7 c0) 7 (List.map Value.bool (downL smallN sumT)) ∧ w'.ownsRow W.heap.size 4 1 (.slice a1 7 c1) 7 (List.map Value.bool (upL smallN sumT)) ∧ w'.ownsRow W.heap.size 4 1 (.slice a2 7 c2) 7 (List.map Value.bool (earlyL smallN sumT)) ∧ w'.ownsRow W.heap.size 4 1 (.slice a3 7 c3) 7 (List.map Value.bool (delayL smallN sumT)) ∧ w'.ownsRow W.heap.size 4 1 (.slice a4 7 c4) 7 (List.map Value.bool (lateL smallN sumT)) ∧ w'.ownsRow W.heap.size 4 1 (.slice a5 7 c5) 7 (List.map Value.bool (aloneL smallN sumT))) ∧ Below W.heap.size W w' := fun W b hN => of_right 3 b 0 7 smallN sumT W hN sum_chk
  simp only [sum_down, sum_early, sum_delay] at hof
  have HOF := hide hof
  clear hof
  go_enter Try.func52, Try.ntmps52
  go_upto_region 2 with (first
    | (go_at_call 64; refine (small_any _).mono ?_; rintro e w1 ⟨rfl, hN1, hb1⟩)
    | (go_at_call 65; refine (sum_any _).mono ?_; rintro e w2 ⟨rfl, hb2⟩)
    | (go_at_call 49; refine (HOF.out _ _ (hN1.below hb2 hN1.lt)).mono ?_; rintro e w3 ⟨a0, a1, a2, a3, a4, a5, c0, c1, c2, c3, c4, c5, rfl, ⟨o0, o1, o2, o3, o4, o5⟩, hb3⟩))
  have HB3 := hide (hb1.trans ((hb2.trans (hb3.mono hb2.size)).mono hb1.size))
  have hbA : Below w3.heap.size w3 (w3.alloc (.cells #[.slice a0 7 c0, .slice a1 7 c1, .slice a2 7 c2, .slice a3 7 c3, .slice a4 7 c4, .slice a5 7 c5] 74)) := (Below.refl _ w3).alloc (Nat.le_refl _) _
  have hA : (w3.alloc (.cells #[.slice a0 7 c0, .slice a1 7 c1, .slice a2 7 c2, .slice a3 7 c3, .slice a4 7 c4, .slice a5 7 c5] 74)).heap[w3.heap.size]? = some (.cells #[.slice a0 7 c0, .slice a1 7 c1, .slice a2 7 c2, .slice a3 7 c3, .slice a4 7 c4, .slice a5 7 c5] 74 (0, 0)) := World.alloc_heap_new w3 _
  have y0 : BoolsAt w3 a0 down7 := bools_owned o0 rfl
  have y2 : BoolsAt w3 a2 early7 := bools_owned o2 rfl
  have y3 : BoolsAt w3 a3 delay7 := bools_owned o3 rfl
  have Y0 := hide (y0.below hbA)
  have Y2 := hide (y2.below hbA)
  have Y3 := hide (y3.below hbA)
  have HBA := hide hbA
  clear o0 o1 o2 o3 o4 o5 y0 y2 y3 hb1 hb2 hb3 hN1 HOF
  generalize (w3.alloc (.cells #[.slice a0 7 c0, .slice a1 7 c1, .slice a2 7 c2, .slice a3 7 c3, .slice a4 7 c4, .slice a5 7 c5] 74)) = V at hA Y0 Y2 Y3 HBA ⊢
  have s0 := blk_cell hA 0
  have s1 := blk_cell hA 1
  have s2 := blk_cell hA 2
  have s3 := blk_cell hA 3
  have s4 := blk_cell hA 4
  have s5 := blk_cell hA 5
  simp at s0 s1 s2 s3 s4 s5
  have sl := blk_lt hA
  have HA := hide hA
  clear hA
  go_wp2_with fail
  have hbD : Below V.heap.size V (V.alloc (.cells #[.bool false, .bool false, .bool true, .bool true, .bool true, .bool true, .bool false] 4)) := (Below.refl _ V).alloc (Nat.le_refl _) _
  have hD : BoolsAt (V.alloc (.cells #[.bool false, .bool false, .bool true, .bool true, .bool true, .bool true, .bool false] 4)) (some ⟨V.heap.size, 0, none⟩) down7 := boolsN_blk (World.alloc_heap_new V _)
  refine (sameBools_same a0 (some ⟨V.heap.size, 0, none⟩) c0 7 down7 _ (Y0.out.below hbD) hD (by decide)).mono ?_
  rintro e V1 ⟨rfl, hb4⟩
  have hB4 := hbD.trans (hb4.mono hbD.size)
  have hA := (hB4.block _ (blk_lt HA.out)).trans HA.out
  clear s0 s1 s2 s3 s4 s5 sl hD hbD hb4
  have s0 := blk_cell hA 0
  have s1 := blk_cell hA 1
  have s2 := blk_cell hA 2
  have s3 := blk_cell hA 3
  have s4 := blk_cell hA 4
  have s5 := blk_cell hA 5
  simp at s0 s1 s2 s3 s4 s5
  have sl := blk_lt hA
  have HA1 := hide hA
  have HB4 := hide hB4
  clear hA hB4
  go_wp2_with fail
  have hbD : Below V1.heap.size V1 (V1.alloc (.cells #[.bool false, .bool false, .bool true, .bool false, .bool false, .bool false, .bool false] 4)) := (Below.refl _ V1).alloc (Nat.le_refl _) _
  have hD : BoolsAt (V1.alloc (.cells #[.bool false, .bool false, .bool true, .bool false, .bool false, .bool false, .bool false] 4)) (some ⟨V1.heap.size, 0, none⟩) early7 := boolsN_blk (World.alloc_heap_new V1 _)
  refine (sameBools_same a2 (some ⟨V1.heap.size, 0, none⟩) c2 7 early7 _ ((Y2.out.below HB4.out).below hbD) hD (by decide)).mono ?_
  rintro e V2 ⟨rfl, hb5⟩
  have hB5 := HB4.out.trans ((hbD.trans (hb5.mono hbD.size)).mono HB4.out.size)
  have hA := (hB5.block _ (blk_lt HA.out)).trans HA.out
  clear s0 s1 s2 s3 s4 s5 sl hD hbD hb5
  have s0 := blk_cell hA 0
  have s1 := blk_cell hA 1
  have s2 := blk_cell hA 2
  have s3 := blk_cell hA 3
  have s4 := blk_cell hA 4
  have s5 := blk_cell hA 5
  simp at s0 s1 s2 s3 s4 s5
  have sl := blk_lt hA
  obtain ⟨db, dof, rfl, dlt, d3⟩ := bools_cell (k := 3) (Y3.out.below hB5) (by decide)
  obtain ⟨db', dof', e, _, d4⟩ := bools_cell (k := 4) (Y3.out.below hB5) (by decide)
  simp at e
  obtain ⟨rfl, rfl⟩ := e
  simp only [delay7, bat, List.getD_cons_succ, List.getD_cons_zero] at d3 d4
  have HB5 := hide hB5
  clear hA hB5 Y0 Y2 Y3 HA HA1 HB4
  go_wp2
  go_ret
  exact ⟨rfl, HB3.out.trans ((HBA.out.trans (HB5.out.mono HBA.out.size)).mono HB3.out.size)⟩
end Go.Proofs.Ytoikglgnmjjpcaa

namespace Go.Proofs.Ytoikglgnmjjpcaa
open Go.RowKit Go.Shelf
set_option linter.unusedVariables false
set_option linter.unusedSimpArgs false

set_option maxHeartbeats 8000000 in
set_option maxRecDepth 100000 in
theorem lawFacts_wrong (r : Int) (a : Option Addr) (cap : Nat) (ns : List Nd) (t : Tm) (w : World) (hN : SlN w a ns) (hc : tchk r ns t ≠ 0) :
    Calls Try.prog 11 #[.agg #[.int .i64 r, .slice a ns.length cap], .agg #[.int .i64 t.op, .int .i64 t.a, .int .i64 t.b]] w fun e w' => e = .returned (.bool true) ∧ Below w.heap.size w w' := by
  have hof := fun (W : World) (h : Below w.heap.size w W) => of_wrong r a cap ns t W (hN.below h) hc
  have hfe := fun (W : World) (h : Below w.heap.size w W) => factsError_any r a cap ns t W (hN.below h)
  have hsf := fun (W : World) => sameFacts_same none none none none none none none none none none none none 0 0 0 0 0 0 0 0 0 0 0 0 [] [] [] [] [] [] W (by simp) (Or.inl rfl) (Or.inl rfl) (by simp) (Or.inl rfl) (Or.inl rfl) (by simp) (Or.inl rfl) (Or.inl rfl) (by simp) (Or.inl rfl) (Or.inl rfl) (by simp) (Or.inl rfl) (Or.inl rfl) (by simp) (Or.inl rfl) (Or.inl rfl)
  generalize tchk r ns t = C at hof hfe hc
  have hCb : (C == 0) = false := by simp [hc]
  have HOF := hide hof
  have HFE := hide hfe
  have HSF := hide hsf
  clear hof hfe hsf hN
  have hbA : Below w.heap.size w ((w.alloc (.cells #[.int .i64 r, .slice a ns.length cap] 24)).alloc (.cells #[.int .i64 t.op, .int .i64 t.a, .int .i64 t.b] 36)) := ((Below.refl _ w).alloc (Nat.le_refl _) _).alloc (by simp) _
  have p0 : ((w.alloc (.cells #[.int .i64 r, .slice a ns.length cap] 24)).alloc (.cells #[.int .i64 t.op, .int .i64 t.a, .int .i64 t.b] 36)).heap[w.heap.size]? = some (.cells #[.int .i64 r, .slice a ns.length cap] 24 (0, 0)) := (Below.heap_alloc _ _ _ (by simp)).trans (World.alloc_heap_new w _)
  have p1 : ((w.alloc (.cells #[.int .i64 r, .slice a ns.length cap] 24)).alloc (.cells #[.int .i64 t.op, .int .i64 t.a, .int .i64 t.b] 36)).heap[w.heap.size + 1]? = some (.cells #[.int .i64 t.op, .int .i64 t.a, .int .i64 t.b] 36 (0, 0)) := by
    have := World.alloc_heap_new (w.alloc (.cells #[.int .i64 r, .slice a ns.length cap] 24)) (.cells #[.int .i64 t.op, .int .i64 t.a, .int .i64 t.b] 36)
    rwa [World.size_alloc] at this
  go_enter Try.func11, Try.ntmps11
  go_upto_region 1 with fail
  generalize ((w.alloc (.cells #[.int .i64 r, .slice a ns.length cap] 24)).alloc (.cells #[.int .i64 t.op, .int .i64 t.a, .int .i64 t.b] 36)) = W at hbA p0 p1 ⊢
  have q0 := blk_cell p0 0
  have q1 := blk_cell p0 1
  simp at q0 q1
  have t0 := blk_cell p1 0
  have t1 := blk_cell p1 1
  have t2 := blk_cell p1 2
  simp at t0 t1 t2
  have pl := blk_lt p0
  have tl := blk_lt p1
  have HA := hide hbA
  have HP0 := hide p0
  have HP1 := hide p1
  clear hbA p0 p1
  go_wp2_with fail
  refine (HOF.out _ HA.out).mono ?_
  rintro e w1 ⟨rfl, hb1⟩
  go_upto_region 2 with fail
  have HB1 := hide (HA.out.trans (hb1.mono HA.out.size))
  have hbF : Below w1.heap.size w1 (w1.alloc (.cells #[.slice none 0 0, .slice none 0 0, .slice none 0 0, .slice none 0 0, .slice none 0 0, .slice none 0 0] 74)) := (Below.refl _ w1).alloc (Nat.le_refl _) _
  have hF1 : (w1.alloc (.cells #[.slice none 0 0, .slice none 0 0, .slice none 0 0, .slice none 0 0, .slice none 0 0, .slice none 0 0] 74)).heap[w1.heap.size]? = some (.cells #[.slice none 0 0, .slice none 0 0, .slice none 0 0, .slice none 0 0, .slice none 0 0, .slice none 0 0] 74 (0, 0)) := World.alloc_heap_new w1 _
  have HB2 := hide (HB1.out.trans (hbF.mono HB1.out.size))
  have hP := (hbF.block _ (blk_lt ((hb1.block _ pl).trans HP0.out))).trans ((hb1.block _ pl).trans HP0.out)
  have hT := (hbF.block _ (blk_lt ((hb1.block _ tl).trans HP1.out))).trans ((hb1.block _ tl).trans HP1.out)
  clear q0 q1 t0 t1 t2 pl tl
  generalize (w1.alloc (.cells #[.slice none 0 0, .slice none 0 0, .slice none 0 0, .slice none 0 0, .slice none 0 0, .slice none 0 0] 74)) = V1 at hF1 HB2 hP hT ⊢
  have q0 := blk_cell hP 0
  have q1 := blk_cell hP 1
  simp at q0 q1
  have t0 := blk_cell hT 0
  have t1 := blk_cell hT 1
  have t2 := blk_cell hT 2
  simp at t0 t1 t2
  have pl := blk_lt hP
  have tl := blk_lt hT
  have HP := hide hP
  have HT := hide hT
  have HF1 := hide hF1
  clear hP hT hF1 hb1 hbF HP0 HP1 HB1
  go_wp2_with fail
  refine (HFE.out _ HB2.out).mono ?_
  rintro e w2 ⟨rfl, hb2⟩
  have HLE := hide (Nat.le_trans HB2.out.size hb2.size)
  go_upto_region 4 with fail
  have hbG : Below w2.heap.size w2 (w2.alloc (.cells #[.slice none 0 0, .slice none 0 0, .slice none 0 0, .slice none 0 0, .slice none 0 0, .slice none 0 0] 74)) := (Below.refl _ w2).alloc (Nat.le_refl _) _
  have hF2 : (w2.alloc (.cells #[.slice none 0 0, .slice none 0 0, .slice none 0 0, .slice none 0 0, .slice none 0 0, .slice none 0 0] 74)).heap[w2.heap.size]? = some (.cells #[.slice none 0 0, .slice none 0 0, .slice none 0 0, .slice none 0 0, .slice none 0 0, .slice none 0 0] 74 (0, 0)) := World.alloc_heap_new w2 _
  have hbV := hb2.trans (hbG.mono hb2.size)
  have HB3 := hide (HB2.out.trans (hbV.mono HB2.out.size))
  have hne : w1.heap.size ≠ w2.heap.size := by have := blk_lt HF1.out; have := hb2.size; omega
  have hF1 := (hbV.block _ (blk_lt HF1.out)).trans HF1.out
  clear hbG hb2 q0 q1 t0 t1 t2 pl tl HF1 HP HT
  generalize (w2.alloc (.cells #[.slice none 0 0, .slice none 0 0, .slice none 0 0, .slice none 0 0, .slice none 0 0, .slice none 0 0] 74)) = V2 at hF1 hF2 HB3 hbV ⊢
  have HF1 := hide hF1
  have HF2 := hide hF2
  clear hF1 hF2 hbV hne
  go_wp2_with fail
  refine (factsBegun_any _).mono ?_
  rintro e V3 ⟨rfl, hb3⟩
  have hF1 := (hb3.block _ (blk_lt HF1.out)).trans HF1.out
  have hF2 := (hb3.block _ (blk_lt HF2.out)).trans HF2.out
  have s0 := blk_cell hF1 0
  have s1 := blk_cell hF1 1
  have s2 := blk_cell hF1 2
  have s3 := blk_cell hF1 3
  have s4 := blk_cell hF1 4
  have s5 := blk_cell hF1 5
  simp at s0 s1 s2 s3 s4 s5
  have u0 := blk_cell hF2 0
  have u1 := blk_cell hF2 1
  have u2 := blk_cell hF2 2
  have u3 := blk_cell hF2 3
  have u4 := blk_cell hF2 4
  have u5 := blk_cell hF2 5
  simp at u0 u1 u2 u3 u4 u5
  have sl := blk_lt hF1
  have ul := blk_lt hF2
  have HB4 := hide (HB3.out.trans (hb3.mono HB3.out.size))
  clear hF1 hF2 hb3 HF1 HF2
  go_wp2_with fail
  refine (HSF.out _).mono ?_
  rintro e V4 ⟨rfl, hb4⟩
  go_wp2
  go_ret
  exact ⟨rfl, HB4.out.trans (hb4.mono HB4.out.size)⟩

set_option maxHeartbeats 8000000 in
set_option maxRecDepth 100000 in
theorem lawFacts_right (r : Int) (b off cap : Nat) (ns : List Nd) (t : Tm) (w : World) (hN : NodesAt w b off ns) (hc : tchk r ns t = 0) :
    Calls Try.prog 11 #[.agg #[.int .i64 r, .slice (some ⟨b, off, none⟩) ns.length cap], .agg #[.int .i64 t.op, .int .i64 t.a, .int .i64 t.b]] w fun e w' => e = .returned (.bool true) ∧ Below w.heap.size w w' := by
  have hof := fun (W : World) (h : Below w.heap.size w W) => of_right r b off cap ns t W (hN.below h hN.lt) hc
  have hfe := fun (W : World) (h : Below w.heap.size w W) => factsError_any r (some ⟨b, off, none⟩) cap ns t W (Or.inr ⟨b, off, rfl, hN.below h hN.lt⟩)
  have hfo := fun (W : World) (h : Below w.heap.size w W) => factsOf_any r b off cap ns t W (hN.below h hN.lt) (tchk_zero hc).1
  rw [hc] at hfe
  have HL := hide (chk_zero (tchk_zero hc).1).1
  have HOF := hide hof
  have HFE := hide hfe
  have HFO := hide hfo
  clear hof hfe hfo hN hc
  have hbA : Below w.heap.size w ((w.alloc (.cells #[.int .i64 r, .slice (some ⟨b, off, none⟩) ns.length cap] 24)).alloc (.cells #[.int .i64 t.op, .int .i64 t.a, .int .i64 t.b] 36)) := ((Below.refl _ w).alloc (Nat.le_refl _) _).alloc (by simp) _
  have p0 : ((w.alloc (.cells #[.int .i64 r, .slice (some ⟨b, off, none⟩) ns.length cap] 24)).alloc (.cells #[.int .i64 t.op, .int .i64 t.a, .int .i64 t.b] 36)).heap[w.heap.size]? = some (.cells #[.int .i64 r, .slice (some ⟨b, off, none⟩) ns.length cap] 24 (0, 0)) := (Below.heap_alloc _ _ _ (by simp)).trans (World.alloc_heap_new w _)
  have p1 : ((w.alloc (.cells #[.int .i64 r, .slice (some ⟨b, off, none⟩) ns.length cap] 24)).alloc (.cells #[.int .i64 t.op, .int .i64 t.a, .int .i64 t.b] 36)).heap[w.heap.size + 1]? = some (.cells #[.int .i64 t.op, .int .i64 t.a, .int .i64 t.b] 36 (0, 0)) := by
    have := World.alloc_heap_new (w.alloc (.cells #[.int .i64 r, .slice (some ⟨b, off, none⟩) ns.length cap] 24)) (.cells #[.int .i64 t.op, .int .i64 t.a, .int .i64 t.b] 36)
    rwa [World.size_alloc] at this
  go_enter Try.func11, Try.ntmps11
  go_upto_region 1 with fail
  generalize ((w.alloc (.cells #[.int .i64 r, .slice (some ⟨b, off, none⟩) ns.length cap] 24)).alloc (.cells #[.int .i64 t.op, .int .i64 t.a, .int .i64 t.b] 36)) = W at hbA p0 p1 ⊢
  have q0 := blk_cell p0 0
  have q1 := blk_cell p0 1
  simp at q0 q1
  have t0 := blk_cell p1 0
  have t1 := blk_cell p1 1
  have t2 := blk_cell p1 2
  simp at t0 t1 t2
  have pl := blk_lt p0
  have tl := blk_lt p1
  have HA := hide hbA
  have HP0 := hide p0
  have HP1 := hide p1
  clear hbA p0 p1
  go_wp2_with fail
  refine (HOF.out _ HA.out).mono ?_
  rintro e w1 ⟨a0, a1, a2, a3, a4, a5, c0, c1, c2, c3, c4, c5, rfl, ⟨o0, o1, o2, o3, o4, o5⟩, hb1⟩
  go_upto_region 2 with fail
  have HB1 := hide (HA.out.trans (hb1.mono HA.out.size))
  have hbF : Below w1.heap.size w1 (w1.alloc (.cells #[.slice a0 ns.length c0, .slice a1 ns.length c1, .slice a2 ns.length c2, .slice a3 ns.length c3, .slice a4 ns.length c4, .slice a5 ns.length c5] 74)) := (Below.refl _ w1).alloc (Nat.le_refl _) _
  have hF1 : (w1.alloc (.cells #[.slice a0 ns.length c0, .slice a1 ns.length c1, .slice a2 ns.length c2, .slice a3 ns.length c3, .slice a4 ns.length c4, .slice a5 ns.length c5] 74)).heap[w1.heap.size]? = some (.cells #[.slice a0 ns.length c0, .slice a1 ns.length c1, .slice a2 ns.length c2, .slice a3 ns.length c3, .slice a4 ns.length c4, .slice a5 ns.length c5] 74 (0, 0)) := World.alloc_heap_new w1 _
  have HB2 := hide (HB1.out.trans (hbF.mono HB1.out.size))
  have hP := (hbF.block _ (blk_lt ((hb1.block _ pl).trans HP0.out))).trans ((hb1.block _ pl).trans HP0.out)
  have hT := (hbF.block _ (blk_lt ((hb1.block _ tl).trans HP1.out))).trans ((hb1.block _ tl).trans HP1.out)
  clear q0 q1 t0 t1 t2 pl tl
  have b0 := ownsRow_below o0 hbF (Nat.le_refl _)
  have b1 := ownsRow_below o1 hbF (Nat.le_refl _)
  have b2 := ownsRow_below o2 hbF (Nat.le_refl _)
  have b3 := ownsRow_below o3 hbF (Nat.le_refl _)
  have b4 := ownsRow_below o4 hbF (Nat.le_refl _)
  have b5 := ownsRow_below o5 hbF (Nat.le_refl _)
  clear o0 o1 o2 o3 o4 o5
  generalize (w1.alloc (.cells #[.slice a0 ns.length c0, .slice a1 ns.length c1, .slice a2 ns.length c2, .slice a3 ns.length c3, .slice a4 ns.length c4, .slice a5 ns.length c5] 74)) = V1 at hF1 HB2 hP hT b0 b1 b2 b3 b4 b5 ⊢
  have q0 := blk_cell hP 0
  have q1 := blk_cell hP 1
  simp at q0 q1
  have t0 := blk_cell hT 0
  have t1 := blk_cell hT 1
  have t2 := blk_cell hT 2
  simp at t0 t1 t2
  have pl := blk_lt hP
  have tl := blk_lt hT
  have HP := hide hP
  have HT := hide hT
  have HF1 := hide hF1
  clear hP hT hF1 hb1 hbF HP0 HP1 HB1
  go_wp2_with fail
  refine (HFE.out _ HB2.out).mono ?_
  rintro e w2 ⟨rfl, hb2⟩
  have HLE := hide (Nat.le_trans HB2.out.size hb2.size)
  go_upto_region 4 with fail
  have hbG : Below w2.heap.size w2 (w2.alloc (.cells #[.slice none 0 0, .slice none 0 0, .slice none 0 0, .slice none 0 0, .slice none 0 0, .slice none 0 0] 74)) := (Below.refl _ w2).alloc (Nat.le_refl _) _
  have hF2 : (w2.alloc (.cells #[.slice none 0 0, .slice none 0 0, .slice none 0 0, .slice none 0 0, .slice none 0 0, .slice none 0 0] 74)).heap[w2.heap.size]? = some (.cells #[.slice none 0 0, .slice none 0 0, .slice none 0 0, .slice none 0 0, .slice none 0 0, .slice none 0 0] 74 (0, 0)) := World.alloc_heap_new w2 _
  have hbV := hb2.trans (hbG.mono hb2.size)
  have HB3 := hide (HB2.out.trans (hbV.mono HB2.out.size))
  have hne : w1.heap.size ≠ w2.heap.size := by have := blk_lt HF1.out; have := hb2.size; omega
  have hF1 := (hbV.block _ (blk_lt HF1.out)).trans HF1.out
  have hP := (hbV.block _ pl).trans HP.out
  have hT := (hbV.block _ tl).trans HT.out
  have hb0_ := ownsRow_below b0 hbV (Nat.le_refl _)
  have hb1_ := ownsRow_below b1 hbV (Nat.le_refl _)
  have hb2_ := ownsRow_below b2 hbV (Nat.le_refl _)
  have hb3_ := ownsRow_below b3 hbV (Nat.le_refl _)
  have hb4_ := ownsRow_below b4 hbV (Nat.le_refl _)
  have hb5_ := ownsRow_below b5 hbV (Nat.le_refl _)
  clear hbG hb2 q0 q1 t0 t1 t2 pl tl HF1 HP HT b0 b1 b2 b3 b4 b5
  generalize (w2.alloc (.cells #[.slice none 0 0, .slice none 0 0, .slice none 0 0, .slice none 0 0, .slice none 0 0, .slice none 0 0] 74)) = V2 at hF1 hF2 HB3 hbV hP hT hb0_ hb1_ hb2_ hb3_ hb4_ hb5_ ⊢
  have q0 := blk_cell hP 0
  have q1 := blk_cell hP 1
  simp at q0 q1
  have t0 := blk_cell hT 0
  have t1 := blk_cell hT 1
  have t2 := blk_cell hT 2
  simp at t0 t1 t2
  have pl := blk_lt hP
  have tl := blk_lt hT
  have HF1 := hide hF1
  have HF2 := hide hF2
  have Y0 := hide hb0_
  have Y1 := hide hb1_
  have Y2 := hide hb2_
  have Y3 := hide hb3_
  have Y4 := hide hb4_
  have Y5 := hide hb5_
  clear hF1 hF2 hbV hP hT hb0_ hb1_ hb2_ hb3_ hb4_ hb5_
  go_wp2_with fail
  refine (HFO.out _ HB3.out).mono ?_
  rintro e w4 ⟨X, rfl, hX, hb4⟩
  have hG := (hb4.block _ (blk_lt HF2.out)).trans HF2.out
  have hE := (hb4.block _ (blk_lt HF1.out)).trans HF1.out
  have u0 := blk_cell hG 0
  have u1 := blk_cell hG 1
  have u2 := blk_cell hG 2
  have u3 := blk_cell hG 3
  have u4 := blk_cell hG 4
  have u5 := blk_cell hG 5
  simp at u0 u1 u2 u3 u4 u5
  have z0 := blk_frozen hG 0
  have z1 := blk_frozen hG 1
  have z2 := blk_frozen hG 2
  have z3 := blk_frozen hG 3
  have z4 := blk_frozen hG 4
  have z5 := blk_frozen hG 5
  have ul := blk_lt hG
  have HB4 := hide (HB3.out.trans (hb4.mono HB3.out.size))
  have HG := hide hG
  have HE := hide hE
  have HX := hide hX
  have T0 := hide (ownsRow_below Y0.out hb4 (Nat.le_refl _))
  have T1 := hide (ownsRow_below Y1.out hb4 (Nat.le_refl _))
  have T2 := hide (ownsRow_below Y2.out hb4 (Nat.le_refl _))
  have T3 := hide (ownsRow_below Y3.out hb4 (Nat.le_refl _))
  have T4 := hide (ownsRow_below Y4.out hb4 (Nat.le_refl _))
  have T5 := hide (ownsRow_below Y5.out hb4 (Nat.le_refl _))
  clear hG hE hX hb4 HF1 HF2 Y0 Y1 Y2 Y3 Y4 Y5 q0 q1 t0 t1 t2 pl tl
  go_wp2_with fail
  have hG2 : ((((((w4.setCell ⟨w2.heap.size, 0, none⟩ (.slice (some ⟨X 0, 0, none⟩) ns.length ns.length)).setCell ⟨w2.heap.size, 1, none⟩ (.slice (some ⟨X 1, 0, none⟩) ns.length ns.length)).setCell ⟨w2.heap.size, 2, none⟩ (.slice (some ⟨X 4, 0, none⟩) ns.length ns.length)).setCell ⟨w2.heap.size, 3, none⟩ (.slice (some ⟨X 2, 0, none⟩) ns.length ns.length)).setCell ⟨w2.heap.size, 4, none⟩ (.slice (some ⟨X 5, 0, none⟩) ns.length ns.length)).setCell ⟨w2.heap.size, 5, none⟩ (.slice (some ⟨X 3, 0, none⟩) ns.length ns.length)).heap[w2.heap.size]? = some (.cells #[.slice (some ⟨X 0, 0, none⟩) ns.length ns.length, .slice (some ⟨X 1, 0, none⟩) ns.length ns.length, .slice (some ⟨X 4, 0, none⟩) ns.length ns.length, .slice (some ⟨X 2, 0, none⟩) ns.length ns.length, .slice (some ⟨X 5, 0, none⟩) ns.length ns.length, .slice (some ⟨X 3, 0, none⟩) ns.length ns.length] 74 (0, 0)) := blk_set6 HG.out
  have hE2 : ((((((w4.setCell ⟨w2.heap.size, 0, none⟩ (.slice (some ⟨X 0, 0, none⟩) ns.length ns.length)).setCell ⟨w2.heap.size, 1, none⟩ (.slice (some ⟨X 1, 0, none⟩) ns.length ns.length)).setCell ⟨w2.heap.size, 2, none⟩ (.slice (some ⟨X 4, 0, none⟩) ns.length ns.length)).setCell ⟨w2.heap.size, 3, none⟩ (.slice (some ⟨X 2, 0, none⟩) ns.length ns.length)).setCell ⟨w2.heap.size, 4, none⟩ (.slice (some ⟨X 5, 0, none⟩) ns.length ns.length)).setCell ⟨w2.heap.size, 5, none⟩ (.slice (some ⟨X 3, 0, none⟩) ns.length ns.length)).heap[w1.heap.size]? = some (.cells #[.slice a0 ns.length c0, .slice a1 ns.length c1, .slice a2 ns.length c2, .slice a3 ns.length c3, .slice a4 ns.length c4, .slice a5 ns.length c5] 74 (0, 0)) := blk_set_ne _ (blk_set_ne _ (blk_set_ne _ (blk_set_ne _ (blk_set_ne _ (blk_set_ne _ HE.out hne) hne) hne) hne) hne) hne
  have hBX : Below w.heap.size w ((((((w4.setCell ⟨w2.heap.size, 0, none⟩ (.slice (some ⟨X 0, 0, none⟩) ns.length ns.length)).setCell ⟨w2.heap.size, 1, none⟩ (.slice (some ⟨X 1, 0, none⟩) ns.length ns.length)).setCell ⟨w2.heap.size, 2, none⟩ (.slice (some ⟨X 4, 0, none⟩) ns.length ns.length)).setCell ⟨w2.heap.size, 3, none⟩ (.slice (some ⟨X 2, 0, none⟩) ns.length ns.length)).setCell ⟨w2.heap.size, 4, none⟩ (.slice (some ⟨X 5, 0, none⟩) ns.length ns.length)).setCell ⟨w2.heap.size, 5, none⟩ (.slice (some ⟨X 3, 0, none⟩) ns.length ns.length)) := below_set6 HB4.out HLE.out
  have hXX : ∀ i, i < 6 → ((((((w4.setCell ⟨w2.heap.size, 0, none⟩ (.slice (some ⟨X 0, 0, none⟩) ns.length ns.length)).setCell ⟨w2.heap.size, 1, none⟩ (.slice (some ⟨X 1, 0, none⟩) ns.length ns.length)).setCell ⟨w2.heap.size, 2, none⟩ (.slice (some ⟨X 4, 0, none⟩) ns.length ns.length)).setCell ⟨w2.heap.size, 3, none⟩ (.slice (some ⟨X 2, 0, none⟩) ns.length ns.length)).setCell ⟨w2.heap.size, 4, none⟩ (.slice (some ⟨X 5, 0, none⟩) ns.length ns.length)).setCell ⟨w2.heap.size, 5, none⟩ (.slice (some ⟨X 3, 0, none⟩) ns.length ns.length)).heap[X i]? = some (.cells ((LF ns t i).map Value.bool).toArray 4 (0, 0)) := fun i hi => by
    have hn := blk_ne (HX.out i hi) HG.out (by decide)
    exact blk_set_ne _ (blk_set_ne _ (blk_set_ne _ (blk_set_ne _ (blk_set_ne _ (blk_set_ne _ (HX.out i hi) hn) hn) hn) hn) hn) hn
  have r0 := owns_set6 (v0 := .slice (some ⟨X 0, 0, none⟩) ns.length ns.length) (v1 := .slice (some ⟨X 1, 0, none⟩) ns.length ns.length) (v2 := .slice (some ⟨X 4, 0, none⟩) ns.length ns.length) (v3 := .slice (some ⟨X 2, 0, none⟩) ns.length ns.length) (v4 := .slice (some ⟨X 5, 0, none⟩) ns.length ns.length) (v5 := .slice (some ⟨X 3, 0, none⟩) ns.length ns.length) T0.out HG.out (by decide)
  have r1 := owns_set6 (v0 := .slice (some ⟨X 0, 0, none⟩) ns.length ns.length) (v1 := .slice (some ⟨X 1, 0, none⟩) ns.length ns.length) (v2 := .slice (some ⟨X 4, 0, none⟩) ns.length ns.length) (v3 := .slice (some ⟨X 2, 0, none⟩) ns.length ns.length) (v4 := .slice (some ⟨X 5, 0, none⟩) ns.length ns.length) (v5 := .slice (some ⟨X 3, 0, none⟩) ns.length ns.length) T1.out HG.out (by decide)
  have r2 := owns_set6 (v0 := .slice (some ⟨X 0, 0, none⟩) ns.length ns.length) (v1 := .slice (some ⟨X 1, 0, none⟩) ns.length ns.length) (v2 := .slice (some ⟨X 4, 0, none⟩) ns.length ns.length) (v3 := .slice (some ⟨X 2, 0, none⟩) ns.length ns.length) (v4 := .slice (some ⟨X 5, 0, none⟩) ns.length ns.length) (v5 := .slice (some ⟨X 3, 0, none⟩) ns.length ns.length) T2.out HG.out (by decide)
  have r3 := owns_set6 (v0 := .slice (some ⟨X 0, 0, none⟩) ns.length ns.length) (v1 := .slice (some ⟨X 1, 0, none⟩) ns.length ns.length) (v2 := .slice (some ⟨X 4, 0, none⟩) ns.length ns.length) (v3 := .slice (some ⟨X 2, 0, none⟩) ns.length ns.length) (v4 := .slice (some ⟨X 5, 0, none⟩) ns.length ns.length) (v5 := .slice (some ⟨X 3, 0, none⟩) ns.length ns.length) T3.out HG.out (by decide)
  have r4 := owns_set6 (v0 := .slice (some ⟨X 0, 0, none⟩) ns.length ns.length) (v1 := .slice (some ⟨X 1, 0, none⟩) ns.length ns.length) (v2 := .slice (some ⟨X 4, 0, none⟩) ns.length ns.length) (v3 := .slice (some ⟨X 2, 0, none⟩) ns.length ns.length) (v4 := .slice (some ⟨X 5, 0, none⟩) ns.length ns.length) (v5 := .slice (some ⟨X 3, 0, none⟩) ns.length ns.length) T4.out HG.out (by decide)
  have r5 := owns_set6 (v0 := .slice (some ⟨X 0, 0, none⟩) ns.length ns.length) (v1 := .slice (some ⟨X 1, 0, none⟩) ns.length ns.length) (v2 := .slice (some ⟨X 4, 0, none⟩) ns.length ns.length) (v3 := .slice (some ⟨X 2, 0, none⟩) ns.length ns.length) (v4 := .slice (some ⟨X 5, 0, none⟩) ns.length ns.length) (v5 := .slice (some ⟨X 3, 0, none⟩) ns.length ns.length) T5.out HG.out (by decide)
  clear HG HE HX HB4 HB2 HLE T0 T1 T2 T3 T4 T5
  generalize ((((((w4.setCell ⟨w2.heap.size, 0, none⟩ (.slice (some ⟨X 0, 0, none⟩) ns.length ns.length)).setCell ⟨w2.heap.size, 1, none⟩ (.slice (some ⟨X 1, 0, none⟩) ns.length ns.length)).setCell ⟨w2.heap.size, 2, none⟩ (.slice (some ⟨X 4, 0, none⟩) ns.length ns.length)).setCell ⟨w2.heap.size, 3, none⟩ (.slice (some ⟨X 2, 0, none⟩) ns.length ns.length)).setCell ⟨w2.heap.size, 4, none⟩ (.slice (some ⟨X 5, 0, none⟩) ns.length ns.length)).setCell ⟨w2.heap.size, 5, none⟩ (.slice (some ⟨X 3, 0, none⟩) ns.length ns.length)) = V5 at hG2 hE2 hBX hXX r0 r1 r2 r3 r4 r5 ⊢
  have HB5 := hide hBX
  have HG := hide hG2
  have HE := hide hE2
  have HX := hide hXX
  have R0 := hide r0
  have R1 := hide r1
  have R2 := hide r2
  have R3 := hide r3
  have R4 := hide r4
  have R5 := hide r5
  clear hG2 hE2 hBX hXX r0 r1 r2 r3 r4 r5
  refine (factsBegun_any _).mono ?_
  rintro e V6 ⟨rfl, hb6⟩
  have hE := (hb6.block _ (blk_lt HE.out)).trans HE.out
  have hG := (hb6.block _ (blk_lt HG.out)).trans HG.out
  have s0 := blk_cell hE 0
  have s1 := blk_cell hE 1
  have s2 := blk_cell hE 2
  have s3 := blk_cell hE 3
  have s4 := blk_cell hE 4
  have s5 := blk_cell hE 5
  simp at s0 s1 s2 s3 s4 s5
  have v0 := blk_cell hG 0
  have v1 := blk_cell hG 1
  have v2 := blk_cell hG 2
  have v3 := blk_cell hG 3
  have v4 := blk_cell hG 4
  have v5 := blk_cell hG 5
  simp at v0 v1 v2 v3 v4 v5
  have sl := blk_lt hE
  have ul2 := blk_lt hG
  have hX6 := fun i hi => (hb6.block _ (blk_lt (HX.out i hi))).trans (HX.out i hi)
  have e0 : (downL ns t).length = ns.length := solve_len _ _
  have e1 : (upL ns t).length = ns.length := solve_len _ _
  have e2 : (earlyL ns t).length = ns.length := by simp [earlyL]
  have e3 : (delayL ns t).length = ns.length := solve_len _ _
  have e4 : (lateL ns t).length = ns.length := by simp [lateL]
  have e5 : (aloneL ns t).length = ns.length := solve_len _ _
  have hl := HL.out.2
  have hsf := sameFacts_same a0 (some ⟨X 0, 0, none⟩) a1 (some ⟨X 1, 0, none⟩) a2 (some ⟨X 4, 0, none⟩) a3 (some ⟨X 2, 0, none⟩) a4 (some ⟨X 5, 0, none⟩) a5 (some ⟨X 3, 0, none⟩) c0 ns.length c1 ns.length c2 ns.length c3 ns.length c4 ns.length c5 ns.length (downL ns t) (upL ns t) (earlyL ns t) (delayL ns t) (lateL ns t) (aloneL ns t) V6 (by omega) (bools_owned (ownsRow_below R0.out hb6 (Nat.le_refl _)) e0) (boolsN_blk (hX6 0 (by decide))) (by omega) (bools_owned (ownsRow_below R1.out hb6 (Nat.le_refl _)) e1) (boolsN_blk (hX6 1 (by decide))) (by omega) (bools_owned (ownsRow_below R2.out hb6 (Nat.le_refl _)) e2) (boolsN_blk (hX6 4 (by decide))) (by omega) (bools_owned (ownsRow_below R3.out hb6 (Nat.le_refl _)) e3) (boolsN_blk (hX6 2 (by decide))) (by omega) (bools_owned (ownsRow_below R4.out hb6 (Nat.le_refl _)) e4) (boolsN_blk (hX6 5 (by decide))) (by omega) (bools_owned (ownsRow_below R5.out hb6 (Nat.le_refl _)) e5) (boolsN_blk (hX6 3 (by decide)))
  rw [e0, e1, e2, e3, e4, e5] at hsf
  have HSF := hide hsf
  have HB6 := hide (HB5.out.trans (hb6.mono HB5.out.size))
  clear hE hG hX6 hsf hb6 HE HG HX hl e0 e1 e2 e3 e4 e5 R0 R1 R2 R3 R4 R5
  go_wp2_with fail
  refine HSF.out.mono ?_
  rintro e V7 ⟨rfl, hb7⟩
  go_wp2
  go_ret
  exact ⟨rfl, HB6.out.trans (hb7.mono HB6.out.size)⟩
end Go.Proofs.Ytoikglgnmjjpcaa

namespace Go.Proofs.Ytoikglgnmjjpcaa
open Go.ChangeShapes Go.WideShapes Go.ChangeAt Go.RowKit Go.Joins Go.Deep
set_option linter.unusedVariables false

theorem cellsT_term : Try.prog.cellsOf 36 = 3 := by kernel_rfl
theorem listT3 {α : Type} {l : List α} (h : l.length = 3) : ∃ a b c, l = [a, b, c] := by
  match l, h with
  | [a, b, c], _ => exact ⟨a, b, c, rfl⟩

set_option maxRecDepth 100000 in
theorem termT_trod {H : Type} {enc : TypeId × Value → H} {W : World} {sp : Nat → Bool} {n : Nat} {c0 c1 c2 : Value} {y : DataW H × List MemPlace}
    (ht : DataW.trod enc Try.prog W 0 sp true n 36 [c0, c1, c2] = some y) : ∃ t : Tm, c0 = .int .i64 t.op ∧ c1 = .int .i64 t.a ∧ c2 = .int .i64 t.b := by
  obtain ⟨xs, m, _, _, _, hxs, hf⟩ := DataW.trod_struct Try.underlying36 ht
  obtain ⟨x0, x1, x2, rfl⟩ := listT3 (l := xs) hxs
  have f0 := hf 0 _ rfl
  have f1 := hf 1 _ rfl
  have f2 := hf 2 _ rfl
  simp only [List.getElem?_cons_zero, List.getElem?_cons_succ] at f0 f1 f2
  obtain ⟨z0, e0, _⟩ := DataW.trod_int Try.underlying3 f0
  obtain ⟨z1, e1, _⟩ := DataW.trod_int Try.underlying3 f1
  obtain ⟨z2, e2, _⟩ := DataW.trod_int Try.underlying3 f2
  cases e0; cases e1; cases e2
  exact ⟨⟨z0, z1, z2⟩, rfl, rfl, rfl⟩

set_option maxRecDepth 100000 in
theorem openT_term {H : Type} {enc : TypeId × Value → H} {W : World} {sp : Nat → Bool} {base : Nat} {v : Value} {d : DataW H} {p : List MemPlace}
    (hv : Value.okWide Try.prog W .any base 36 v) (h : DataW.Trod enc Try.prog W 0 sp true 36 v d p) :
    ∃ t : Tm, v = .agg #[.int .i64 t.op, .int .i64 t.a, .int .i64 t.b] := by
  obtain ⟨cs, rfl, hsz⟩ := okWide_struct Try.underlying36 hv
  rw [cellsT_term] at hsz
  obtain ⟨l⟩ := cs
  obtain ⟨c0, c1, c2, rfl⟩ := listT3 (l := l) (by simpa using hsz)
  obtain ⟨fuel, hf⟩ := h
  obtain ⟨t, rfl, rfl, rfl⟩ := termT_trod hf
  exact ⟨t, rfl⟩
end Go.Proofs.Ytoikglgnmjjpcaa

namespace Go.Proofs.Ytoikglgnmjjpcaa
open Go.ChangeShapes Go.WideShapes Go.ChangeAt Go.RowKit
set_option linter.unusedVariables false

theorem factsOfLaw_any (r : Int) (a : Option Addr) (cap : Nat) (ns : List Nd) (t : Tm) (w : World) (hN : SlN w a ns) :
    Calls Try.prog 11 #[.agg #[.int .i64 r, .slice a ns.length cap], .agg #[.int .i64 t.op, .int .i64 t.a, .int .i64 t.b]] w fun e w' => e = .returned (.bool true) ∧ Below w.heap.size w w' := by
  by_cases hc : tchk r ns t = 0
  · obtain ⟨b, off, rfl, hN'⟩ := hN.some (chk_zero (tchk_zero hc).1).1.1
    exact lawFacts_right r b off cap ns t w hN' hc
  · exact lawFacts_wrong r a cap ns t w hN hc

set_option maxRecDepth 100000 in
theorem factsOfLaw_lifted (os : Os) (started : os.Started) (H : Type) (enc : TypeId × Value → H) :
    ReturnsInHanded {} Try.checked os 11 .any (Rows.factsOfSpec.pre6 enc Try.prog Try.f11 Rows.factsOfRow.domain false) (Rows.factsOfSpec.post enc Try.prog Try.f11 false true false false) := by
  refine returnsInHanded_of_change (C := Try.checked) own started (by kernel_rfl) Try.func11
    (ChangeSpec.witness6 (enc := enc) (C := Try.checked) false ⟨#[], #[.agg #[.int .i64 0, .slice none 0 0], .agg #[.int .i64 0, .int .i64 0, .int .i64 0]], []⟩ 8 (by kernel_rfl) (by kernel_rfl) (by kernel_rfl) (by kernel_rfl)) ?_
  intro W base args ds gs before hval0 hW hcnd _
  have hval : ∀ (j : Nat) t v, Try.f11.params[j]? = some t → args[j]? = some v → Value.okWide Try.prog W .any base t v := hval0
  have hW' := hW
  obtain ⟨p, q, hA0, hV, rfl, hfz, hnd⟩ := hW
  have hA : DataW.TrodAll enc Try.prog W 0 (fun _ => true) true Try.f11.params.toList args.toList ds p := hA0
  rw [Try.params11] at hA hval
  obtain ⟨v0, vs0, d0, ds0, p0, q0, hargs, rfl, rfl, h0, r0⟩ := trodAll_cons hA
  obtain ⟨v1, vs1, d1, ds1, p1, q1, rfl, rfl, rfl, h1, r1⟩ := trodAll_cons r0
  obtain ⟨rfl, rfl, rfl⟩ := trodAll_nil r1
  obtain rfl : args = #[v0, v1] := by cases args; simp_all
  obtain ⟨rfl, rfl⟩ := trodVars_none hV
  have k0 := h0
  have lt0 : ∀ x ∈ p0, x.block < W.heap.size := by obtain ⟨m, hm⟩ := k0; exact DataW.trod_lt m _ _ _ hm
  have k1 := h1
  have lt1 : ∀ x ∈ p1, x.block < W.heap.size := by obtain ⟨m, hm⟩ := k1; exact DataW.trod_lt m _ _ _ hm
  obtain ⟨r, a, cap, ns, rfl, hN, hl⟩ := open_prog (hval 0 24 v0 rfl rfl) h0
  obtain ⟨t, rfl⟩ := openT_term (hval 1 36 v1 rfl rfl) h1
  clear hA0 hval0
  refine (factsOfLaw_any r a cap ns t W hN).mono fun e W' ⟨he, bel⟩ => ?_
  subst he
  exact ⟨_, rfl, _, _, _, [], _, [], hW', trodAll_mk1 (shut_bool Try.underlying4 _), (trodAll_cons_mk (Below.trod laidOut (by kernel_rfl) (of_decide_eq_true (by kernel_rfl)) k0 bel lt0) (trodAll_cons_mk (Below.trod laidOut (by kernel_rfl) (of_decide_eq_true (by kernel_rfl)) k1 bel lt1) trodAll_mk0)), rfl, bel.frame _, fun h => by cases h⟩

theorem factsOfLaw_over : Rows.factsOfRow.holds Try.pinned (OpenSpec.ofChange Rows.factsOfSpec) :=
  OpenClaim.holds_of_wide 11 Try.f11 rfl rfl rfl rfl rfl rfl rfl ⟨rfl, rfl, rfl, rfl, rfl⟩ rfl rfl rfl rfl rfl (by kernel_rfl) Try.func11 (by kernel_rfl)
    (of_decide_eq_true (by kernel_rfl)) (by unfold Func.isWrapper; first | (rw [if_pos (by decide +kernel)]; kernel_rfl) | (rw [if_neg (by decide +kernel)]; exact ⟨rfl, rfl⟩))
    (fun os started H enc _ => factsOfLaw_lifted os started H enc)

theorem factsOfLaw_holds : Rows.FactsOfSaid := factsOfLaw_over
#print axioms factsOfLaw_holds
end Go.Proofs.Ytoikglgnmjjpcaa

