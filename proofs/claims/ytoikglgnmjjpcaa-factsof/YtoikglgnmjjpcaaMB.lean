/-
  flow.Check and the document's FlowError, walked.
-/
import Derived.Test.YtoikglgnmjjpcaaMA
import Derived.Test.YtoikglgnmjjpcaaE
import Derived.Deep.DeepCutAuto
namespace Go.Proofs.Ytoikglgnmjjpcaa
open Go.RowKit Go.Shelf
set_option linter.unusedVariables false

def fits (ns : List Nd) (f : Flw) : Bool := f.gen.length == ns.length && (f.pass.length == ns.length && (f.plus.length == ns.length && f.lets.length == ns.length))
/-- What flow.Check answers. -/
def fchk (r : Int) (ns : List Nd) (f : Flw) : Int := if chk r ns = 0 then (if fits ns f then 0 else 1) else chk r ns

theorem fchk_zero {r : Int} {ns : List Nd} {f : Flw} (h : fchk r ns f = 0) : chk r ns = 0 ∧ f.gen.length = ns.length ∧ f.pass.length = ns.length ∧ f.plus.length = ns.length ∧ f.lets.length = ns.length := by
  unfold fchk at h
  split at h
  · rename_i hc
    split at h
    · rename_i hf
      simp only [fits, Bool.and_eq_true, beq_iff_eq] at hf
      exact ⟨hc, hf.1, hf.2.1, hf.2.2.1, hf.2.2.2⟩
    · cases h
  · rename_i hc; exact absurd h hc

set_option maxHeartbeats 1000000 in
theorem fits1_any (va : Option Addr) (vn vc B : Nat) (a : Option Addr) (k cap : Nat) (w : World) (h1 : w.cell? ⟨B, 1, none⟩ = some (.slice a k cap)) (hB : B < w.heap.size) :
    Calls Try.prog 82 #[.slice va vn vc, .pointer (some ⟨B, 0, none⟩)] w fun e w' => e = .returned (.bool (decide ((vn : Int) = (k : Int)))) ∧ w' = w := by
  go_enter Try.func82, Try.ntmps82
  go_wp2
  go_ret
  exact ⟨rfl, rfl⟩

set_option maxHeartbeats 2000000 in
set_option maxRecDepth 100000 in
theorem fcheck_any (r : Int) (a : Option Addr) (cap : Nat) (ns : List Nd) (f : Flw) (a1 a2 a3 a4 : Option Addr) (c1 c2 c3 c4 : Nat) (w : World) (hN : SlN w a ns) :
    Calls Try.prog 48 #[.agg #[.int .i64 r, .slice a ns.length cap], .agg #[.bool f.back, .bool f.empty, .slice a1 f.gen.length c1, .slice a2 f.pass.length c2, .slice a3 f.plus.length c3, .slice a4 f.lets.length c4]] w fun e w' => e = .returned (.int .i64 (fchk r ns f)) ∧ Below w.heap.size w w' := by
  have eg1 : ∀ args w, (callFunc 82 args).run Try.prog w = .ok (.enter 82 args) w := enters_of Try.func82 (by kernel_rfl) rfl
  have HF : Hid (fchk r ns f = if chk r ns = 0 then (if fits ns f then 0 else 1) else chk r ns) := rfl
  generalize fchk r ns f = C at HF ⊢
  have HN := hide hN
  clear hN
  go_enter Try.func48, Try.ntmps48
  go_upto_region 1 with fail
  have hb0 : Below w.heap.size w ((w.alloc (.cells #[.int .i64 r, .slice a ns.length cap] 24)).alloc (.cells #[.bool f.back, .bool f.empty, .slice a1 f.gen.length c1, .slice a2 f.pass.length c2, .slice a3 f.plus.length c3, .slice a4 f.lets.length c4] 66)) := ((Below.refl _ w).alloc (Nat.le_refl _) _).alloc (by simp) _
  have hp0 : ((w.alloc (.cells #[.int .i64 r, .slice a ns.length cap] 24)).alloc (.cells #[.bool f.back, .bool f.empty, .slice a1 f.gen.length c1, .slice a2 f.pass.length c2, .slice a3 f.plus.length c3, .slice a4 f.lets.length c4] 66)).heap[w.heap.size]? = some (.cells #[.int .i64 r, .slice a ns.length cap] 24 (0, 0)) := (Below.heap_alloc _ _ _ (by simp)).trans (World.alloc_heap_new w _)
  have hq0 : ((w.alloc (.cells #[.int .i64 r, .slice a ns.length cap] 24)).alloc (.cells #[.bool f.back, .bool f.empty, .slice a1 f.gen.length c1, .slice a2 f.pass.length c2, .slice a3 f.plus.length c3, .slice a4 f.lets.length c4] 66)).heap[w.heap.size + 1]? = some (.cells #[.bool f.back, .bool f.empty, .slice a1 f.gen.length c1, .slice a2 f.pass.length c2, .slice a3 f.plus.length c3, .slice a4 f.lets.length c4] 66 (0, 0)) := by
    have := World.alloc_heap_new (w.alloc (.cells #[.int .i64 r, .slice a ns.length cap] 24)) (.cells #[.bool f.back, .bool f.empty, .slice a1 f.gen.length c1, .slice a2 f.pass.length c2, .slice a3 f.plus.length c3, .slice a4 f.lets.length c4] 66)
    rwa [World.size_alloc] at this
  generalize ((w.alloc (.cells #[.int .i64 r, .slice a ns.length cap] 24)).alloc (.cells #[.bool f.back, .bool f.empty, .slice a1 f.gen.length c1, .slice a2 f.pass.length c2, .slice a3 f.plus.length c3, .slice a4 f.lets.length c4] 66)) = W0 at hb0 hp0 hq0 ⊢
  have p0 := blk_cell hp0 0
  have p1 := blk_cell hp0 1
  have pl := blk_lt hp0
  have ql := blk_lt hq0
  simp at p0 p1
  have HB0 := hide hb0
  have HQ := hide hq0
  have HP := hide hp0
  clear hb0 hp0 hq0
  go_upto_region 2 with (go_at_call 20; refine (check_any r a cap ns _ (HN.out.below (HB0.out.mono (Nat.le_refl _)))).mono ?_; rintro e w1 ⟨rfl, hb1⟩)
  have hB1 : Below w.heap.size w w1 := HB0.out.trans (hb1.mono HB0.out.size)
  have hp1 := (hb1.block _ pl).trans HP.out
  have hq1 := (hb1.block _ ql).trans HQ.out
  by_cases hc : chk r ns = 0
  · rw [hc]
    have z0 := blk_cell hp1 0
    have z1 := blk_cell hp1 1
    have y0 := blk_cell hq1 0
    have y1 := blk_cell hq1 1
    have y2 := blk_cell hq1 2
    have y3 := blk_cell hq1 3
    have y4 := blk_cell hq1 4
    have y5 := blk_cell hq1 5
    simp at z0 z1 y0 y1 y2 y3 y4 y5
    have pl1 := blk_lt hp1
    have ql1 := blk_lt hq1
    clear p0 p1 pl ql hb1 hp1 hq1
    go_wp2_with fail
    have hbA : Below w1.heap.size w1 (w1.alloc (.cells #[.slice a1 f.gen.length c1, .slice a2 f.pass.length c2, .slice a3 f.plus.length c3, .slice a4 f.lets.length c4] 53)) := (Below.refl _ w1).alloc (Nat.le_refl _) _
    have hn : (w1.alloc (.cells #[.slice a1 f.gen.length c1, .slice a2 f.pass.length c2, .slice a3 f.plus.length c3, .slice a4 f.lets.length c4] 53)).heap[w1.heap.size]? = some (.cells #[.slice a1 f.gen.length c1, .slice a2 f.pass.length c2, .slice a3 f.plus.length c3, .slice a4 f.lets.length c4] 53 (0, 0)) := World.alloc_heap_new w1 _
    generalize (w1.alloc (.cells #[.slice a1 f.gen.length c1, .slice a2 f.pass.length c2, .slice a3 f.plus.length c3, .slice a4 f.lets.length c4] 53)) = W2 at hbA hn ⊢
    have hcell := (hbA.cell (p := ⟨w.heap.size, 1, none⟩) pl1).trans z1
    have hpl2 : w.heap.size < W2.heap.size := Nat.lt_of_lt_of_le pl1 hbA.size
    refine (everyRow_any (fun z => decide (z = (ns.length : Int))) 82 #[.pointer (some ⟨w.heap.size, 0, none⟩)] w1.heap.size 4 [(a1, f.gen.length, c1), (a2, f.pass.length, c2), (a3, f.plus.length, c3), (a4, f.lets.length, c4)] W2 (blk_lt hn) ?_ (by simp) eg1 ?_).mono ?_
    · intro j v hj
      rw [blk_cell hn]
      match j, hj with
      | 0, hj | 1, hj | 2, hj | 3, hj => simp at hj; subst hj; rfl
      | j + 4, hj => simp at hj
    · intro v hv W hW
      refine (fits1_any v.1 v.2.1 v.2.2 w.heap.size a ns.length cap W ((hW.cell (p := ⟨w.heap.size, 1, none⟩) hpl2).trans hcell) (Nat.lt_of_lt_of_le hpl2 hW.size)).mono ?_
      rintro e w' ⟨rfl, rfl⟩
      exact ⟨rfl, Below.refl _ _⟩
    rintro e w3 ⟨rfl, hb3⟩
    have hB3 : Below w.heap.size w w3 := hB1.trans ((hbA.trans (hb3.mono hbA.size)).mono hB1.size)
    have he : ([(a1, f.gen.length, c1), (a2, f.pass.length, c2), (a3, f.plus.length, c3), (a4, f.lets.length, c4)].all fun v : Option Addr × Nat × Nat => decide ((v.2.1 : Int) = (ns.length : Int))) = fits ns f := by
      have hd : ∀ k : Nat, decide ((k : Int) = (ns.length : Int)) = (k == ns.length) := fun k => by
        by_cases q : k = ns.length
        · simp [q]
        · have q2 : ¬ ((k : Int) = (ns.length : Int)) := by omega
          simp [q, q2]
      simp only [List.all_cons, List.all_nil, Bool.and_true, hd, fits]
    rw [he]
    clear he hn hbA hb3 hcell z0 z1 y0 y1 y2 y3 y4 y5
    cases hf : fits ns f
    · go_wp2
      go_ret
      refine ⟨ret_int ?_, hB3⟩
      rw [HF.out, if_pos hc, hf]; rfl
    · go_wp2
      go_ret
      refine ⟨ret_int ?_, hB3⟩
      rw [HF.out, if_pos hc, hf]; rfl
  · have HC := hide hc
    clear p0 p1 pl ql hb1 hp1 hq1
    have hne : ¬ (chk r ns = 0) := hc
    go_wp2
    go_ret
    refine ⟨ret_int ?_, hB1⟩
    rw [HF.out, if_neg HC.out]

set_option maxHeartbeats 2000000 in
set_option maxRecDepth 100000 in
theorem flowError_any (r : Int) (a : Option Addr) (cap : Nat) (ns : List Nd) (f : Flw) (a1 a2 a3 a4 : Option Addr) (c1 c2 c3 c4 : Nat) (w : World) (hN : SlN w a ns) :
    Calls Try.prog 44 #[.agg #[.int .i64 r, .slice a ns.length cap], .agg #[.bool f.back, .bool f.empty, .slice a1 f.gen.length c1, .slice a2 f.pass.length c2, .slice a3 f.plus.length c3, .slice a4 f.lets.length c4]] w fun e w' => e = .returned (.int .i64 (fchk r ns f)) ∧ Below w.heap.size w w' := by
  have HF : Hid (fchk r ns f = if chk r ns = 0 then (if fits ns f then 0 else 1) else chk r ns) := rfl
  generalize fchk r ns f = C at HF ⊢
  have HN := hide hN
  clear hN
  go_enter Try.func44, Try.ntmps44
  go_upto_region 1 with fail
  have hb0 : Below w.heap.size w ((w.alloc (.cells #[.int .i64 r, .slice a ns.length cap] 24)).alloc (.cells #[.bool f.back, .bool f.empty, .slice a1 f.gen.length c1, .slice a2 f.pass.length c2, .slice a3 f.plus.length c3, .slice a4 f.lets.length c4] 66)) := ((Below.refl _ w).alloc (Nat.le_refl _) _).alloc (by simp) _
  have hp0 : ((w.alloc (.cells #[.int .i64 r, .slice a ns.length cap] 24)).alloc (.cells #[.bool f.back, .bool f.empty, .slice a1 f.gen.length c1, .slice a2 f.pass.length c2, .slice a3 f.plus.length c3, .slice a4 f.lets.length c4] 66)).heap[w.heap.size]? = some (.cells #[.int .i64 r, .slice a ns.length cap] 24 (0, 0)) := (Below.heap_alloc _ _ _ (by simp)).trans (World.alloc_heap_new w _)
  have hq0 : ((w.alloc (.cells #[.int .i64 r, .slice a ns.length cap] 24)).alloc (.cells #[.bool f.back, .bool f.empty, .slice a1 f.gen.length c1, .slice a2 f.pass.length c2, .slice a3 f.plus.length c3, .slice a4 f.lets.length c4] 66)).heap[w.heap.size + 1]? = some (.cells #[.bool f.back, .bool f.empty, .slice a1 f.gen.length c1, .slice a2 f.pass.length c2, .slice a3 f.plus.length c3, .slice a4 f.lets.length c4] 66 (0, 0)) := by
    have := World.alloc_heap_new (w.alloc (.cells #[.int .i64 r, .slice a ns.length cap] 24)) (.cells #[.bool f.back, .bool f.empty, .slice a1 f.gen.length c1, .slice a2 f.pass.length c2, .slice a3 f.plus.length c3, .slice a4 f.lets.length c4] 66)
    rwa [World.size_alloc] at this
  generalize ((w.alloc (.cells #[.int .i64 r, .slice a ns.length cap] 24)).alloc (.cells #[.bool f.back, .bool f.empty, .slice a1 f.gen.length c1, .slice a2 f.pass.length c2, .slice a3 f.plus.length c3, .slice a4 f.lets.length c4] 66)) = W0 at hb0 hp0 hq0 ⊢
  have p0 := blk_cell hp0 0
  have p1 := blk_cell hp0 1
  have pl := blk_lt hp0
  have ql := blk_lt hq0
  simp at p0 p1
  have HB0 := hide hb0
  have HQ := hide hq0
  have HP := hide hp0
  clear hb0 hp0 hq0
  go_upto_region 2 with (go_at_call 15; refine (checkProg_any r a cap ns _ (HN.out.below HB0.out)).mono ?_; rintro e w1 ⟨rfl, hb1⟩)
  have hB1 : Below w.heap.size w w1 := HB0.out.trans (hb1.mono HB0.out.size)
  have hp1 := (hb1.block _ pl).trans HP.out
  have hq1 := (hb1.block _ ql).trans HQ.out
  by_cases hc : chk r ns = 0
  · rw [hc]
    have z0 := blk_cell hp1 0
    have z1 := blk_cell hp1 1
    have y2 := blk_cell hq1 2
    have y3 := blk_cell hq1 3
    have y4 := blk_cell hq1 4
    have y5 := blk_cell hq1 5
    simp at z0 z1 y2 y3 y4 y5
    have pl1 := blk_lt hp1
    have ql1 := blk_lt hq1
    clear p0 p1 pl ql hb1 hp1 hq1
    have HR : Hid (C = if fits ns f then 0 else 1) := by show _ = _; rw [HF.out, if_pos hc]
    have hi : ∀ k : Nat, k ≠ ns.length → ¬ ((k : Int) = (ns.length : Int)) := fun k h => by omega
    by_cases g1 : f.gen.length = ns.length
    · by_cases g2 : f.pass.length = ns.length
      · by_cases g3 : f.plus.length = ns.length
        · by_cases g4 : f.lets.length = ns.length
          · have hfit : fits ns f = true := by simp [fits, g1, g2, g3, g4]
            go_wp2
            go_ret
            refine ⟨ret_int ?_, hB1⟩
            rw [HR.out, hfit]; rfl
          · have hfit : fits ns f = false := by simp [fits, g4]
            have n4 := hi _ g4
            go_wp2
            go_ret
            refine ⟨ret_int ?_, hB1⟩
            rw [HR.out, hfit]; rfl
        · have hfit : fits ns f = false := by simp [fits, g3]
          have n3 := hi _ g3
          go_wp2
          go_ret
          refine ⟨ret_int ?_, hB1⟩
          rw [HR.out, hfit]; rfl
      · have hfit : fits ns f = false := by simp [fits, g2]
        have n2 := hi _ g2
        go_wp2
        go_ret
        refine ⟨ret_int ?_, hB1⟩
        rw [HR.out, hfit]; rfl
    · have hfit : fits ns f = false := by simp [fits, g1]
      have n1 := hi _ g1
      go_wp2
      go_ret
      refine ⟨ret_int ?_, hB1⟩
      rw [HR.out, hfit]; rfl
  · have HC := hide hc
    clear p0 p1 pl ql hb1 hp1 hq1
    have hne : ¬ (chk r ns = 0) := hc
    go_wp2
    go_ret
    refine ⟨ret_int ?_, hB1⟩
    rw [HF.out, if_neg HC.out]
end Go.Proofs.Ytoikglgnmjjpcaa
