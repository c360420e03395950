/-
  hoistwaylaw.RunRuns, walked, under what RunOf answers.
-/
import Derived.Test.YtoikglgnmjjpcaaSE
namespace Go.Proofs.Ytoikglgnmjjpcaa
open Go.RowKit
set_option linter.unusedVariables false

/-- What RunOf answers where nothing is wrong. -/
def RunsOf : Prop := ∀ (r : Int) (nb noff cap : Nat) (ns : List Nd) (ia : Option Addr) (ic : Nat) (inp : List Int) (fuel : Int) (w : World), NodesAt w nb noff ns → IntsAt w ia inp → rerr r ns inp.length fuel = 0 →
    Calls Try.prog 24 #[.agg #[.int .i64 r, .slice (some ⟨nb, noff, none⟩) ns.length cap], .slice ia inp.length ic, .int .i64 fuel] w fun e w' => ∃ vo vc, e = .returned (.agg #[vo, .int .i64 (fin r ns inp fuel).ret, .bool (fin r ns inp fuel).ended, .int .i64 (fin r ns inp fuel).steps, vc]) ∧
      w'.ownsRow w.heap.size 3 1 vo (fin r ns inp fuel).out.length ((fin r ns inp fuel).out.map (Value.int .i64)) ∧ w'.ownsRow w.heap.size 111 4 vc (fin r ns inp fuel).cts.length ((fin r ns inp fuel).cts.flatMap encCt) ∧ Below w.heap.size w w'

theorem ints_slice {w : World} {base : Nat} {e : TypeId} {a : Option Addr} {c : Nat} {zs : List Int} (h : w.ownsRow base e 1 (.slice a zs.length c) zs.length (zs.map (Value.int .i64))) : IntsAt w a zs := by
  obtain ⟨a1, c1, q, hI⟩ := ints_of_owns h
  injection q with q
  subst q
  exact hI

theorem cts_slice {w : World} {base : Nat} {e : TypeId} {a : Option Addr} {c : Nat} {l : List Ct} (h : w.ownsRow base e 4 (.slice a l.length c) l.length (l.flatMap encCt)) : CtsAt w a l := by
  obtain ⟨a1, c1, q, hC⟩ := cts_of_owns h
  injection q with q
  subst q
  exact hC

set_option maxHeartbeats 2000000 in
set_option maxRecDepth 100000 in
theorem runRuns_any (hRO : RunsOf) (r : Int) (a : Option Addr) (cap : Nat) (ns : List Nd) (ia : Option Addr) (ic : Nat) (inp : List Int) (fuel : Int) (w : World) (hN : SlN w a ns) (hI : IntsAt w ia inp) (hic : inp.length ≤ ic) (hil : inp.length ≤ 9223372036854775807) :
    Calls Try.prog 4 #[.agg #[.int .i64 r, .slice a ns.length cap], .slice ia inp.length ic, .int .i64 fuel] w fun e w' => e = .returned (.bool true) ∧ Below w.heap.size w w' := by
  go_enter Try.func4, Try.ntmps4
  go_wp2_with fail
  have hb0 : Below w.heap.size w (w.alloc (.cells #[.int .i64 r, .slice a ns.length cap] 24)) := (Below.refl _ w).alloc (Nat.le_refl _) _
  refine (run_any r a cap ns ia ic inp fuel _ (hN.below hb0) (hI.below hb0) hic hil).mono ?_
  rintro e w1 ⟨ao, co, ac, cc, rfl, hI1, hC1, hb1, hco, _⟩
  have hs1 := hb1.size
  simp only [World.size_alloc] at hs1 hb1
  have hB1 : Below w.heap.size w w1 := hb0.trans (hb1.mono (by omega))
  have hp1 : w1.heap[w.heap.size]? = some (.cells #[.int .i64 r, .slice a ns.length cap] 24 (0, 0)) := by
    rw [hb1.block _ (by omega)]; exact blk_new rfl
  have HL := hide (res_len r ns inp fuel)
  have HRS := hide (show rerr r ns inp.length fuel = 0 → res r ns inp fuel = fin r ns inp fuel from fun h => by rw [res, if_pos h])
  have HRZ := hide (show ¬ rerr r ns inp.length fuel = 0 → res r ns inp fuel = st0 0 [] from fun h => by rw [res, if_neg h])
  generalize res r ns inp fuel = σ at *
  have HN := hide hN
  have HI := hide hI
  have HB1 := hide hB1
  have HP1 := hide hp1
  have HJ1 := hide hI1
  have HC1 := hide hC1
  have pa := blk_cell hp1 0
  have pb := blk_cell hp1 1
  simp at pa pb
  have hw1 : w.heap.size < w1.heap.size := by omega
  clear hN hI hB1 hp1 hb0 hb1 hI1 hC1
  go_wp2_with fail
  have hb2 : Below w1.heap.size w1 (w1.alloc (.cells #[.slice ao σ.out.length co, .int .i64 σ.ret, .bool σ.ended, .int .i64 σ.steps, .slice ac σ.cts.length cc] 42)) := (Below.refl _ w1).alloc (Nat.le_refl _) _
  have hB2 := HB1.out.trans (hb2.mono (by omega))
  refine (runError_any r a cap ns ia inp.length ic fuel _ (HN.out.below hB2) hil).mono ?_
  rintro e w3 ⟨rfl, hb3⟩
  have hs3 := hb3.size
  simp only [World.size_alloc] at hs3 hb3
  have hr3 : w3.heap[w1.heap.size]? = some (.cells #[.slice ao σ.out.length co, .int .i64 σ.ret, .bool σ.ended, .int .i64 σ.steps, .slice ac σ.cts.length cc] 42 (0, 0)) := by
    rw [hb3.block _ (by omega)]; exact blk_new rfl
  have hB3 : Below w1.heap.size w1 w3 := hb2.trans (hb3.mono (by omega))
  have hp3 : w3.heap[w.heap.size]? = _ := (hB3.block _ hw1).trans HP1.out
  have HB3 := hide (HB1.out.trans (hB3.mono (by omega)))
  have HJ3 := hide (HJ1.out.below hB3)
  have HC3 := hide (HC1.out.below hB3)
  have HR3 := hide hr3
  replace pa := (hB3.cell (p := ⟨w.heap.size, 0, none⟩) hw1).trans pa
  replace pb := (hB3.cell (p := ⟨w.heap.size, 1, none⟩) hw1).trans pb
  have hw3 : w1.heap.size < w3.heap.size := by omega
  have hw03 : w.heap.size < w3.heap.size := by omega
  clear hb2 hB2 hb3 hr3 hB3 hp3
  generalize her : rerr r ns inp.length fuel = er at *
  have Her := hide her
  clear her
  by_cases h0 : er = 0
  · have HE0 := hide (HRS.out h0)
    clear HRS HRZ
    subst h0
    obtain ⟨nb, noff, rfl, hNb⟩ := HN.out.some (chk_zero (rerr_zero Her.out).1).1.1
    have HNb := hide hNb
    clear hNb
    go_wp2_with fail
    have hb4 : Below w3.heap.size w3 (w3.alloc (.cells #[.slice none 0 0, .int .i64 0, .bool false, .int .i64 0, .slice none 0 0] 42)) := (Below.refl _ w3).alloc (Nat.le_refl _) _
    have hB4 := HB3.out.trans (hb4.mono (by omega))
    refine (hRO r nb noff cap ns ia ic inp fuel _ (HNb.out.below hB4 HNb.out.lt) (HI.out.below hB4) Her.out).mono ?_
    rintro e w5 ⟨vo, vc, rfl, ho5, hc5, hb5⟩
    have hs5 := hb5.size
    simp only [World.size_alloc] at hs5 hb5 ho5 hc5
    have hk5 : w5.heap[w3.heap.size]? = some (.cells #[.slice none 0 0, .int .i64 0, .bool false, .int .i64 0, .slice none 0 0] 42 (0, 0)) := by
      rw [hb5.block _ (by omega)]; exact blk_new rfl
    obtain ⟨bo, do', rfl⟩ := owns_val ho5
    obtain ⟨bc, dc, rfl⟩ := owns_val hc5
    have e0 := blk_cell hk5 0
    have e1 := blk_cell hk5 1
    have e2 := blk_cell hk5 2
    have e3 := blk_cell hk5 3
    have e4 := blk_cell hk5 4
    have f0 := blk_frozen hk5 0
    have f1 := blk_frozen hk5 1
    have f2 := blk_frozen hk5 2
    have f3 := blk_frozen hk5 3
    have f4 := blk_frozen hk5 4
    simp at e0 e1 e2 e3 e4
    rw [← HE0.out] at ho5 hc5 ⊢
    have KF : Keeps [w3.heap.size] w5 (((((w5.setCell ⟨w3.heap.size, 0, none⟩ (.slice bo σ.out.length do')).setCell ⟨w3.heap.size, 1, none⟩ (.int .i64 σ.ret)).setCell ⟨w3.heap.size, 2, none⟩ (.bool σ.ended)).setCell ⟨w3.heap.size, 3, none⟩ (.int .i64 σ.steps)).setCell ⟨w3.heap.size, 4, none⟩ (.slice bc σ.cts.length dc)) := fill5_keeps w5 w3.heap.size (.slice bo σ.out.length do') (.int .i64 σ.ret) (.bool σ.ended) (.int .i64 σ.steps) (.slice bc σ.cts.length dc)
    have hk6 : (((((w5.setCell ⟨w3.heap.size, 0, none⟩ (.slice bo σ.out.length do')).setCell ⟨w3.heap.size, 1, none⟩ (.int .i64 σ.ret)).setCell ⟨w3.heap.size, 2, none⟩ (.bool σ.ended)).setCell ⟨w3.heap.size, 3, none⟩ (.int .i64 σ.steps)).setCell ⟨w3.heap.size, 4, none⟩ (.slice bc σ.cts.length dc)).heap[w3.heap.size]? = some (.cells #[.slice bo σ.out.length do', .int .i64 σ.ret, .bool σ.ended, .int .i64 σ.steps, .slice bc σ.cts.length dc] 42 (0, 0)) := fill5_blk hk5 (.slice bo σ.out.length do') (.int .i64 σ.ret) (.bool σ.ended) (.int .i64 σ.steps) (.slice bc σ.cts.length dc)
    have HKF := hide KF
    have HK6 := hide hk6
    have HO5 := hide ho5
    have HC5 := hide hc5
    have HB5 := hide (show Below w3.heap.size w3 w5 from hb4.trans (hb5.mono (by omega)))
    clear KF hk6 ho5 hc5 hb4 hB4 hb5 hk5 HE0
    go_upto_region 6 with fail
    generalize (((((w5.setCell ⟨w3.heap.size, 0, none⟩ (.slice bo σ.out.length do')).setCell ⟨w3.heap.size, 1, none⟩ (.int .i64 σ.ret)).setCell ⟨w3.heap.size, 2, none⟩ (.bool σ.ended)).setCell ⟨w3.heap.size, 3, none⟩ (.int .i64 σ.steps)).setCell ⟨w3.heap.size, 4, none⟩ (.slice bc σ.cts.length dc)) = w6 at HKF HK6 ⊢
    have hB6 := HB5.out.trans (HKF.out.below (B := w3.heap.size) (by simp) HB5.out.size)
    have HJ6 := hide (ints_slice (HKF.out.owns HO5.out (by simp)))
    have HC6 := hide (cts_slice (HKF.out.owns HC5.out (by simp)))
    have hr6 := (hB6.block _ hw3).trans HR3.out
    have HJ := hide (HJ3.out.below hB6)
    have HC := hide (HC3.out.below hB6)
    have HBw := hide (HB3.out.trans (hB6.mono (by omega)))
    have hsw := HBw.out.size
    have HTW := hide (fun (u : World) (hB : Below w6.heap.size w6 u) => two_of (u := u) hr6 HK6.out hB)
    clear hB6 hr6 e0 e1 e2 e3 e4 f0 f1 f2 f3 f4 pa pb
    go_wp2_with fail
    refine (runBegun_any _).mono ?_
    rintro e w7 ⟨rfl, hb7⟩
    obtain ⟨x0, x1, x2, x3, x4, y0, y1, y2, y3, y4⟩ := HTW.out w7 hb7
    have HB7 := hide hb7
    clear hb7
    go_wp2_with fail
    refine (sameResults_any ao bo ac bc co do' cc dc σ.out σ.ret _ σ.steps σ.cts w7 (HJ.out.below HB7.out) (HJ6.out.below HB7.out) (HC.out.below HB7.out) (HC6.out.below HB7.out) (by have := HL.out; omega) (by have := HL.out; omega)).mono ?_
    rintro e w8 ⟨rfl, hb8⟩
    go_wp2
    go_ret
    exact ⟨by simp, HBw.out.trans ((HB7.out.trans (hb8.mono HB7.out.size)).mono hsw)⟩
  · have HE0 := hide (HRZ.out h0)
    clear HRS HRZ
    have hb : (er == 0) = false := by simpa using h0
    go_wp2_with fail
    have hb4 : Below w3.heap.size w3 (w3.alloc (.cells #[.slice none 0 0, .int .i64 0, .bool false, .int .i64 0, .slice none 0 0] 42)) := (Below.refl _ w3).alloc (Nat.le_refl _) _
    have hk4 : (w3.alloc (.cells #[.slice none 0 0, .int .i64 0, .bool false, .int .i64 0, .slice none 0 0] 42)).heap[w3.heap.size]? = some (.cells #[.slice none 0 0, .int .i64 0, .bool false, .int .i64 0, .slice none 0 0] 42 (0, 0)) := blk_new rfl
    generalize (w3.alloc (.cells #[.slice none 0 0, .int .i64 0, .bool false, .int .i64 0, .slice none 0 0] 42)) = w4 at hb4 hk4 ⊢
    have hr4 : w4.heap[w1.heap.size]? = _ := (hb4.block _ hw3).trans HR3.out
    have HJ := hide (HJ3.out.below hb4)
    have HC := hide (HC3.out.below hb4)
    have HBw := hide (HB3.out.trans (hb4.mono (by omega)))
    have hsw := HBw.out.size
    have HTW := hide (fun (u : World) (hB : Below w4.heap.size w4 u) => two_of (u := u) hr4 hk4 hB)
    clear hb4 hk4 hr4
    refine (runBegun_any _).mono ?_
    rintro e w7 ⟨rfl, hb7⟩
    obtain ⟨x0, x1, x2, x3, x4, y0, y1, y2, y3, y4⟩ := HTW.out w7 hb7
    have HB7 := hide hb7
    clear hb7 pa pb
    have hz := HE0.out
    subst hz
    go_wp2_with fail
    refine (sameResults_any ao none ac none co 0 cc 0 [] 0 false 0 [] w7 (HJ.out.below HB7.out) (Or.inl rfl) (HC.out.below HB7.out) (Or.inl rfl) (by simp) (by simp)).mono ?_
    rintro e w8 ⟨rfl, hb8⟩
    go_wp2
    go_ret
    exact ⟨by simp, HBw.out.trans ((HB7.out.trans (hb8.mono HB7.out.size)).mono hsw)⟩
end Go.Proofs.Ytoikglgnmjjpcaa
