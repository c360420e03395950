/-
  hoistwaylaw.RunMore, walked.
-/
import Derived.Test.YtoikglgnmjjpcaaRY
import Derived.Deep.CutRange
namespace Go.Proofs.Ytoikglgnmjjpcaa
open Go.RowKit
set_option linter.unusedVariables false

/-- The second run's result lies in memory. -/
structure Got (σ : St) (er : Int) (W wx : World) (v12 v13 : Value) : Prop where
  blk : ∃ b ao co ac cc, v12 = .pointer (some ⟨b, 0, none⟩) ∧ wx.heap[b]? = some (.cells #[.slice ao σ.out.length co, .int .i64 σ.ret, .bool σ.ended, .int .i64 σ.steps, .slice ac σ.cts.length cc] 42 (0, 0)) ∧ IntsAt wx ao σ.out ∧ CtsAt wx ac σ.cts ∧ σ.out.length ≤ co
  val : v13 = .int .i64 er
  below : Below W.heap.size W wx

set_option maxHeartbeats 8000000 in
set_option maxRecDepth 100000 in
theorem runMore_any (r : Int) (a : Option Addr) (cap : Nat) (ns : List Nd) (ia : Option Addr) (ic : Nat) (inp : List Int) (fuel more : Int) (w : World) (hN : SlN w a ns) (hI : IntsAt w ia inp) (hic : inp.length ≤ ic) (hil : inp.length ≤ 9223372036854775807)
    (hf : -9223372036854775808 ≤ fuel ∧ fuel ≤ 9223372036854775807) (hm : -9223372036854775808 ≤ more ∧ more ≤ 9223372036854775807) :
    Calls Try.prog 6 #[.agg #[.int .i64 r, .slice a ns.length cap], .slice ia inp.length ic, .int .i64 fuel, .int .i64 more] w fun e w' => e = .returned (.bool true) ∧ Below w.heap.size w w' := by
  go_enter Try.func6, Try.ntmps6
  go_wp2_with fail
  refine (choose_any fuel _ hf).mono ?_
  rintro e w0 ⟨rfl, rfl⟩
  have hpf := pickC_range fuel
  have hpm := pickC_range more
  generalize pickC fuel = n at *
  go_wp2_with fail
  have hb0 : Below w.heap.size w (w.alloc (.cells #[.int .i64 r, .slice a ns.length cap] 24)) := (Below.refl _ w).alloc (Nat.le_refl _) _
  refine (run_any r a cap ns ia ic inp n _ (hN.below hb0) (hI.below hb0) hic hil).mono ?_
  rintro e w1 ⟨ao, co, ac, cc, rfl, hI1, hC1, hb1, hco, _⟩
  have hs1 := hb1.size
  simp only [World.size_alloc] at hs1 hb1
  have hB1 : Below w.heap.size w w1 := hb0.trans (hb1.mono (by omega))
  have hp1 : w1.heap[w.heap.size]? = some (.cells #[.int .i64 r, .slice a ns.length cap] 24 (0, 0)) := by
    rw [hb1.block _ (by omega)]; exact blk_new rfl
  clear hb1
  generalize hσ : res r ns inp n = σ at *
  have Hσ := hide hσ
  clear hσ
  generalize her : rerr r ns inp.length n = er at *
  have Her := hide her
  clear her
  have HN := hide hN
  have HI := hide hI
  have HB1 := hide hB1
  have HP1 := hide hp1
  clear hN hI hB1 hp1 hb0
  go_wp2
  have hb2 : Below w1.heap.size w1 (w1.alloc (.cells #[.slice ao σ.out.length co, .int .i64 σ.ret, .bool σ.ended, .int .i64 σ.steps, .slice ac σ.cts.length cc] 42)) := (Below.refl _ w1).alloc (Nat.le_refl _) _
  have hr2 : (w1.alloc (.cells #[.slice ao σ.out.length co, .int .i64 σ.ret, .bool σ.ended, .int .i64 σ.steps, .slice ac σ.cts.length cc] 42)).heap[w1.heap.size]? = some (.cells #[.slice ao σ.out.length co, .int .i64 σ.ret, .bool σ.ended, .int .i64 σ.steps, .slice ac σ.cts.length cc] 42 (0, 0)) := blk_new rfl
  have hs2 : (w1.alloc (.cells #[.slice ao σ.out.length co, .int .i64 σ.ret, .bool σ.ended, .int .i64 σ.steps, .slice ac σ.cts.length cc] 42)).heap.size = w1.heap.size + 1 := by simp
  generalize w1.alloc (.cells #[.slice ao σ.out.length co, .int .i64 σ.ret, .bool σ.ended, .int .i64 σ.steps, .slice ac σ.cts.length cc] 42) = W2 at hb2 hr2 hs2 ⊢
  have hp2 : W2.heap[w.heap.size]? = _ := (hb2.block _ (by omega)).trans HP1.out
  have HB2 := hide (HB1.out.trans (hb2.mono (by omega)))
  have HN2 := hide (HN.out.below HB2.out)
  have HI2 := hide (HI.out.below HB2.out)
  have HR2 := hide hr2
  have HJ := hide (hI1.below hb2)
  have HC := hide (hC1.below hb2)
  have HPK := hide (fun (u : World) (hB : Below W2.heap.size W2 u) => (show u.cell? ⟨w.heap.size, 0, none⟩ = some (.int .i64 r) ∧ u.cell? ⟨w.heap.size, 1, none⟩ = some (.slice a ns.length cap) from ⟨(hB.cell (p := ⟨w.heap.size, 0, none⟩) (blk_lt hp2)).trans (blk_cell hp2 0), (hB.cell (p := ⟨w.heap.size, 1, none⟩) (blk_lt hp2)).trans (blk_cell hp2 1)⟩))
  clear hb2 hr2 hp2 hI1 hC1 HB1 HP1 HN HI
  have hsum : n + pickC more ≤ 8190 := by omega
  have hs2' : w1.heap.size < W2.heap.size := by omega
  clear hs2
  generalize hmq : pickC more = m at *
  have Hmq := hide hmq
  clear hmq
  have n0 : 0 ≤ n := hpf.1
  have n1 : n < 4096 := hpf.2
  have m0 : 0 ≤ m := hpm.1
  have m1 : m < 4096 := hpm.2
  have q0 : -9223372036854775808 ≤ n + m := by omega
  have q1 : n + m ≤ 9223372036854775807 := by omega
  clear hpf hpm
  have HWR := hide (show IntKind.i64.wrap (n + m) = n + m by rw [IntWalk.i64_left]; unfold wrap64; omega)
  go_cut [12, 13] from 23 to 32 (fun v12 v13 wx => Got (res r ns inp (n + m)) (rerr r ns inp.length (n + m)) W2 wx v12 v13)
  case first =>
    go_region_held3 (fun u => u.cell? ⟨w.heap.size, 0, none⟩ = some (.int .i64 r) ∧ u.cell? ⟨w.heap.size, 1, none⟩ = some (.slice a ns.length cap)) (first | (with_reducible exact HPK.out _ hB3) | (refine HPK.out _ ?_ <;> ((repeat with_reducible first | exact hB3 | exact Below.refl _ _ | refine Below.drew ?_ | refine Below.alloc ?_ ?_ _) <;> (first | exact hB3.size | exact Nat.le_refl _ | simp))) | exact HPK.out _ (hB3.trans (fill5_below (Nat.le_refl _) hB3.size _ _ _ _ _))) (first
      | (go_at_call 29; refine (choose_any more _ hm).mono ?_; rintro e w' ⟨rfl, rfl⟩; rw [Hmq.out])
      | (go_at_call 22; rw [HWR.out]; refine (run_at2 r a cap ns ia ic inp (n + m) W2 HN2.out HI2.out hic hil).mono ?_; rintro e w3 ⟨ao3, co3, ac3, cc3, rfl, hI3, hC3, hco3, hB3, hk3, hQ3⟩; have z0 : w3.cell? ⟨W2.heap.size, 0, none⟩ = some (.slice none 0 0) := blk_cell hk3 0; have f0 := blk_frozen hk3 0; have z1 : w3.cell? ⟨W2.heap.size, 1, none⟩ = some (.int .i64 0) := blk_cell hk3 1; have f1 := blk_frozen hk3 1; have z2 : w3.cell? ⟨W2.heap.size, 2, none⟩ = some (.bool false) := blk_cell hk3 2; have f2 := blk_frozen hk3 2; have z3 : w3.cell? ⟨W2.heap.size, 3, none⟩ = some (.int .i64 0) := blk_cell hk3 3; have f3 := blk_frozen hk3 3; have z4 : w3.cell? ⟨W2.heap.size, 4, none⟩ = some (.slice none 0 0) := blk_cell hk3 4; have f4 := blk_frozen hk3 4; have HX3 := hide (And.intro hI3 (And.intro hC3 (And.intro hco3 (And.intro hk3 hQ3)))); have hlt3 := blk_lt hk3; clear hI3 hC3 hco3 hk3 hQ3)
      | (go_at_call 22; rw [HWR.out]; refine (run_at1 r a cap ns ia ic inp (n + m) W2 HN2.out HI2.out hic hil).mono ?_; rintro e w3 ⟨ao3, co3, ac3, cc3, rfl, hI3, hC3, hco3, hB3⟩; have HX3 := hide (And.intro hI3 (And.intro hC3 hco3)); clear hI3 hC3 hco3))
    all_goals (go_wp2; go_meet)
    all_goals first
      | exact ⟨⟨_, ao3, co3, ac3, cc3, rfl, fill5_blk HX3.out.2.2.2.1 _ _ _ _ _, (HX3.out.2.2.2.2 _ _ _ _ _).1, (HX3.out.2.2.2.2 _ _ _ _ _).2, HX3.out.2.2.1⟩, rfl, hB3.trans (fill5_below (Nat.le_refl _) hB3.size _ _ _ _ _)⟩
      | exact ⟨⟨_, ao3, co3, ac3, cc3, rfl, blk_new rfl, HX3.out.1.below ((Below.refl _ w3).alloc (Nat.le_refl _) _), HX3.out.2.1.below ((Below.refl _ w3).alloc (Nat.le_refl _) _), HX3.out.2.2⟩, rfl, hB3.alloc hB3.size _⟩
  case rest =>
    obtain ⟨⟨b, ao3, co3, ac3, cc3, rfl, hk, hI3, hC3, hco3⟩, rfl, hBc⟩ := hcut
    have hr : wc.heap[w1.heap.size]? = _ := (hBc.block _ hs2').trans HR2.out
    have HBw := hide (HB2.out.trans (hBc.mono HB2.out.size))
    have hsw := HBw.out.size
    have hee : rerr r ns inp.length (n + m) = er := (rerr_fuel ⟨by omega, by omega⟩ ⟨by omega, by omega⟩).trans Her.out
    have HJ' := hide (HJ.out.below hBc)
    have HC' := hide (HC.out.below hBc)
    have HL := hide (res_len r ns inp n)
    have HL2 := hide (res_len r ns inp (n + m))
    rw [Hσ.out] at HL
    have HE := hide hee
    rw [hee]
    clear hee hBc HR2 HB2 HN2 HI2 HPK HJ HC
    have HM1 := hide (fun h0 he => more_ended (r := r) (ns := ns) (inp := inp) (f := n) (g := n + m) (by omega) (by omega) (Her.out.trans h0) (HE.out.trans h0) he)
    have HM2 := hide (fun h0 he => more_going (r := r) (ns := ns) (inp := inp) (f := n) (g := n + m) (by omega) (by omega) (Her.out.trans h0) (HE.out.trans h0) he)
    rw [Hσ.out] at HM1 HM2
    generalize res r ns inp (n + m) = τ at *
    have c0 := blk_cell hr 0
    have c1 := blk_cell hr 1
    have c2 := blk_cell hr 2
    have c3 := blk_cell hr 3
    have c4 := blk_cell hr 4
    have d0 := blk_cell hk 0
    have d1 := blk_cell hk 1
    have d2 := blk_cell hk 2
    have d3 := blk_cell hk 3
    have d4 := blk_cell hk 4
    have hbl := blk_lt hk
    have hrl := blk_lt hr
    simp at c0 c1 c2 c3 c4 d0 d1 d2 d3 d4
    have HTW := hide (fun (u : World) (hB : Below wc.heap.size wc u) => two_of (u := u) hr hk hB)
    have HI3 := hide hI3
    have HC3 := hide hC3
    have HJC := hide hco3
    clear hr hk hI3 hC3 hco3
    by_cases h0 : er = 0
    · have G1 := hide (HM1.out h0)
      have G2 := hide (HM2.out h0)
      clear HM1 HM2
      subst h0
      cases he : σ.ended
      · have hq := G2.out he
        rw [he] at c2
        have hst : ((σ.steps : Int) == n) = true := by simpa using hq.1
        have hge : n ≤ (τ.steps : Int) := hq.2.2
        have HP := hide hq.2.1
        clear hq G1 G2
        go_wp2_with fail
        refine (runBegun_any _).mono ?_
        rintro e w5 ⟨rfl, hb5⟩
        obtain ⟨x0, x1, x2, x3, x4, y0, y1, y2, y3, y4⟩ := HTW.out w5 hb5
        have HB5 := hide hb5
        have hs5 := hb5.size
        clear hb5 c0 c1 c2 c3 c4 d0 d1 d2 d3 d4
        go_wp2_with fail
        refine (begins_any ao3 ao co3 co τ.out σ.out w5 (HI3.out.below HB5.out) (HJ'.out.below HB5.out) (by have := HL2.out; omega) (by have := HL.out; omega) HJC.out HP.out).mono ?_
        rintro e w6 ⟨rfl, hb6⟩
        obtain ⟨x0', x1', x2', x3', x4', y0', y1', y2', y3', y4'⟩ := HTW.out w6 (HB5.out.trans (hb6.mono hs5))
        have HB6 := hide hb6
        clear hb6 x0 x1 x2 x3 x4 y0 y1 y2 y3 y4
        go_wp2
        go_ret
        exact ⟨by simp, HBw.out.trans ((HB5.out.trans (HB6.out.mono hs5)).mono hsw)⟩
      · have hq := G1.out he
        subst hq
        rw [he] at c2
        clear G1 G2
        go_wp2_with fail
        refine (runBegun_any _).mono ?_
        rintro e w5 ⟨rfl, hb5⟩
        obtain ⟨x0, x1, x2, x3, x4, y0, y1, y2, y3, y4⟩ := HTW.out w5 hb5
        have HB5 := hide hb5
        have hs5 := hb5.size
        clear hb5 c0 c1 c2 c3 c4 d0 d1 d2 d3 d4
        go_wp2_with fail
        refine (sameResults_any ao3 ao ac3 ac co3 co cc3 cc τ.out τ.ret _ τ.steps τ.cts w5 (HI3.out.below HB5.out) (HJ'.out.below HB5.out) (HC3.out.below HB5.out) (HC'.out.below HB5.out) (by have := HL2.out; omega) (by have := HL2.out; omega)).mono ?_
        rintro e w6 ⟨rfl, hb6⟩
        go_wp2
        go_ret
        exact ⟨by simp, HBw.out.trans ((HB5.out.trans (hb6.mono hs5)).mono hsw)⟩
    · have hb : (er != 0) = true := by simpa using h0
      clear HM1 HM2
      go_wp2_with fail
      refine (runBegun_any _).mono ?_
      rintro e w5 ⟨rfl, hb5⟩
      go_wp2
      go_ret
      exact ⟨by simp, HBw.out.trans (hb5.mono hsw)⟩
end Go.Proofs.Ytoikglgnmjjpcaa
