/-
  Whatever program, numbers and fuel hoistwaylaw.LiveSame is handed, it returns true and leaves its arguments as they were: what is dead is left out, and the program does what it did, step by step, and reckons nothing more often; nothing is dead any more then. No condition.
  hoistwaylaw.LiveSame, walked.
-/
import Derived.Test.YtoikglgnmjjpcabNI
import Derived.Test.YtoikglgnmjjpcabGW
import Derived.Test.YtoikglgnmjjpcabYR
namespace Go.Proofs.Ytoikglgnmjjpcab
open Go.RowKit Go.Shelf
set_option linter.unusedVariables false
set_option linter.unusedSimpArgs false

theorem rerr_okN {r : Int} {ns : List Nd} {il : Nat} {n : Int} (hc : chk r ns = 0) (hi : il ≤ 256) (h0 : 0 ≤ n) (h1 : n ≤ 131072) : rerr r ns il n = 0 := by
  unfold rerr
  rw [if_pos hc, if_neg (by omega), if_neg (by omega)]
theorem res_finN {r : Int} {ns : List Nd} {inp : List Int} {n : Int} (h : rerr r ns inp.length n = 0) : res r ns inp n = runN ns n.toNat (st0 r.toNat inp) := by
  unfold res
  rw [if_pos h]; rfl

theorem srt_run {r : Int} {ns : List Nd} (hc : chk r ns = 0) (n k : Nat) (inp : List Int) : Srt (runN ns n (st0 k inp)).cts := (DR.run hc n (DR.start hc k inp)).ss

theorem ct_mem : ∀ {l : List Ct}, Srt l → ∀ {c : Ct}, c ∈ l → ctOf l c.t = some c.n
  | d :: l, h, c, hc => by
    unfold Srt at h
    rw [List.pairwise_cons] at h
    rw [ctOf_cons]
    rcases List.mem_cons.1 hc with rfl | hc
    · rw [if_pos rfl]
    · rw [if_neg, ct_mem h.2 hc]
      intro e
      have := h.1 c hc
      rw [e, abv_irrefl] at this
      cases this

theorem dead_fit (r : Int) (b off cap : Nat) (ns : List Nd) (w : World) (hN : NodesAt w b off ns) (hc : chk r ns = 0) :
    Calls Try.prog 7 #[.agg #[.int .i64 r, .slice (some ⟨b, off, none⟩) ns.length cap]] w fun e w' => ∃ cb cc, e = .returned (.tuple #[.agg #[.int .i64 r, .slice (some ⟨cb, 0, none⟩) (deadN ns).length cc], .int .i64 0]) ∧ NodesAt w' cb 0 (deadN ns) ∧ Below w.heap.size w w' := by
  have hdl := (DeadOf.all ns).len
  refine (dead_right r b off cap ns w hN hc).mono ?_
  rintro e w' ⟨cb, cc, rfl, hV, hB⟩
  refine ⟨cb, cc, by rw [hdl], ?_, hB⟩
  rw [← hdl] at hV
  exact nodes_own hV (by have := (chk_full hc).1; omega)

set_option maxRecDepth 100000 in
set_option maxHeartbeats 4000000 in
theorem liveSame_wrong (r : Int) (a : Option Addr) (cap : Nat) (ns : List Nd) (ia : Option Addr) (ic il : Nat) (fuel : Int) (w : World) (hN : SlN w a ns) (hc : chk r ns ≠ 0) :
    Calls Try.prog 4 #[.agg #[.int .i64 r, .slice a ns.length cap], .slice ia il ic, .int .i64 fuel] w fun e w' => e = .returned (.bool true) ∧ Below w.heap.size w w' := by
  have hcb : (chk r ns == 0) = false := by simp [hc]
  have hcn : (chk r ns != 0) = true := by simp [hc]
  have HD := hide (fun W (h : Below w.heap.size w W) => dead_wrong r a cap ns W (hN.below h) hc)
  clear hc hN
  generalize chk r ns = C at *
  have hb0 : Below w.heap.size w (w.alloc (.cells #[.int .i64 r, .slice a ns.length cap] 24)) := (Below.refl _ w).alloc (Nat.le_refl _) _
  have hp0 : (w.alloc (.cells #[.int .i64 r, .slice a ns.length cap] 24)).heap[w.heap.size]? = some (.cells #[.int .i64 r, .slice a ns.length cap] 24 (0, 0)) := World.alloc_heap_new w _
  go_enter Try.func4, Try.ntmps4
  go_upto_region 1 with fail
  generalize (w.alloc (.cells #[.int .i64 r, .slice a ns.length cap] 24)) = W0 at hb0 hp0 ⊢
  have p0 := blk_cell hp0 0
  have p1 := blk_cell hp0 1
  simp at p0 p1
  have pl := blk_lt hp0
  have HB0 := hide hb0
  clear hb0 hp0
  go_upto_region 2 with (go_at_call 7; refine (HD.out _ HB0.out).mono ?_; rintro e w1 ⟨rfl, hb1⟩)
  have hb1' := hb1.alloc hb1.size (.cells #[.int .i64 0, .slice none 0 0] 24)
  have HB1 := hide (HB0.out.trans (hb1'.mono HB0.out.size))
  generalize (w1.alloc (.cells #[.int .i64 0, .slice none 0 0] 24)) = W1 at HB1 ⊢
  generalize w1.heap.size = QB
  clear hb1 hb1' HB0 p0 p1 pl
  go_wp2_with fail
  refine (liveBegun_any _).mono ?_
  rintro e w4 ⟨rfl, hb4⟩
  go_wp2
  go_ret
  exact ⟨by first | rfl | simp, HB1.out.trans (hb4.mono HB1.out.size)⟩

set_option maxRecDepth 100000 in
set_option maxHeartbeats 40000000 in
theorem liveSame_right (r : Int) (b off cap : Nat) (ns : List Nd) (ia : Option Addr) (ic : Nat) (inp : List Int) (fuel : Int) (w : World) (hN : NodesAt w b off ns) (hI : IntsAt w ia inp) (hic : inp.length ≤ ic) (hil : inp.length ≤ 9223372036854775807) (hf : -9223372036854775808 ≤ fuel ∧ fuel ≤ 9223372036854775807) (hc : chk r ns = 0) :
    Calls Try.prog 4 #[.agg #[.int .i64 r, .slice (some ⟨b, off, none⟩) ns.length cap], .slice ia inp.length ic, .int .i64 fuel] w fun e w' => e = .returned (.bool true) ∧ Below w.heap.size w w' := by
  have HFEW := hide (fun u => few_any ia ic inp u hic hil)
  have hJ := hI.take 256
  have hj256 : (inp.take 256).length ≤ 256 := by simp; omega
  have hjc : (inp.take 256).length ≤ ic := by simp; omega
  have hjl : (inp.take 256).length ≤ 9223372036854775807 := by omega
  generalize inp.take 256 = jn at HFEW hJ hj256 hjc hjl
  have hpf := pickC_range fuel
  have HC := hide hc
  have HCD := hide ((DeadOf.all ns).chk hc)
  have HDL := hide (DeadOf.all ns).len
  have hl := (chk_full hc).1
  have HN := hide hN
  have HJ := hide hJ
  have hb0 : Below w.heap.size w (w.alloc (.cells #[.int .i64 r, .slice (some ⟨b, off, none⟩) ns.length cap] 24)) := (Below.refl _ w).alloc (Nat.le_refl _) _
  have hp0 : (w.alloc (.cells #[.int .i64 r, .slice (some ⟨b, off, none⟩) ns.length cap] 24)).heap[w.heap.size]? = some (.cells #[.int .i64 r, .slice (some ⟨b, off, none⟩) ns.length cap] 24 (0, 0)) := World.alloc_heap_new w _
  clear hc hN hI hJ hil
  go_enter Try.func4, Try.ntmps4
  go_upto_region 1 with fail
  generalize (w.alloc (.cells #[.int .i64 r, .slice (some ⟨b, off, none⟩) ns.length cap] 24)) = W0 at hb0 hp0 ⊢
  have p0 := blk_cell hp0 0
  have p1 := blk_cell hp0 1
  simp at p0 p1
  have pl := blk_lt hp0
  have HB0 := hide hb0
  have HP0 := hide hp0
  clear hb0 hp0
  go_upto_region 2 with (go_at_call 7; refine (dead_fit r b off cap ns _ (HN.out.below HB0.out HN.out.lt) HC.out).mono ?_; rintro e w1 ⟨cb, cc, rfl, hn1, hb1⟩)
  have hx1 : Below w1.heap.size w1 (w1.alloc (.cells #[.int .i64 r, .slice (some ⟨cb, 0, none⟩) (deadN ns).length cc] 24)) := (Below.refl _ w1).alloc (Nat.le_refl _) _
  have hb1' := hb1.trans (hx1.mono hb1.size)
  have HB1 := hide (HB0.out.trans (hb1'.mono HB0.out.size))
  have HP1 := hide ((hb1'.block _ (blk_lt HP0.out)).trans HP0.out)
  have HQ1 := hide (World.alloc_heap_new w1 (.cells #[.int .i64 r, .slice (some ⟨cb, 0, none⟩) (deadN ns).length cc] 24))
  have HND1 := hide (hn1.below hx1 hn1.lt)
  clear hb1 hb1' hx1 hn1 HB0 HP0 p0 p1 pl
  generalize (w1.alloc (.cells #[.int .i64 r, .slice (some ⟨cb, 0, none⟩) (deadN ns).length cc] 24)) = W1 at HB1 HP1 HQ1 HND1 ⊢
  generalize w1.heap.size = Q at HQ1 ⊢
  go_upto_region 5 with (go_at_call 14; refine (choose_any fuel _ hf).mono ?_; rintro e w3 ⟨rfl, hw3⟩; subst w3)
  generalize pickC fuel = n at hpf ⊢
  have n0 := hpf.1
  have n1 := hpf.2
  clear hpf hf
  have HE1 := hide (rerr_okN (r := r) (ns := ns) (il := jn.length) (n := n) HC.out hj256 n0 (by omega))
  have HE2 := hide (rerr_okN (r := r) (ns := deadN ns) (il := jn.length) (n := n) HCD.out hj256 n0 (by omega))
  have HNk := hide (show SlN W1 (some ⟨b, off, none⟩) ns from Or.inr ⟨b, off, rfl, HN.out.below HB1.out HN.out.lt⟩)
  have HJk := hide (HJ.out.below HB1.out)
  have HPK := hide (fun (u : World) (hB : Below W1.heap.size W1 u) => (show u.cell? ⟨w.heap.size, 0, none⟩ = some (.int .i64 r) ∧ u.cell? ⟨w.heap.size, 1, none⟩ = some (.slice (some ⟨b, off, none⟩) ns.length cap) from ⟨(hB.cell (p := ⟨w.heap.size, 0, none⟩) (blk_lt HP1.out)).trans (blk_cell HP1.out 0), (hB.cell (p := ⟨w.heap.size, 1, none⟩) (blk_lt HP1.out)).trans (blk_cell HP1.out 1)⟩))
  go_cut [10, 11] from 27 to 34 (fun v1 v2 wx => Got (res r ns jn n) (rerr r ns jn.length n) W1 wx v1 v2)
  case first =>
    go_region_held3 (fun u => u.cell? ⟨w.heap.size, 0, none⟩ = some (.int .i64 r) ∧ u.cell? ⟨w.heap.size, 1, none⟩ = some (.slice (some ⟨b, off, none⟩) ns.length cap)) (first | (with_reducible exact HPK.out _ hB3) | (refine HPK.out _ ?_ <;> ((repeat with_reducible first | exact hB3 | exact Below.refl _ _ | refine Below.drew ?_ | refine Below.alloc ?_ ?_ _) <;> (first | exact hB3.size | exact Nat.le_refl _ | simp))) | exact HPK.out _ (hB3.trans (fill5_below (Nat.le_refl _) hB3.size _ _ _ _ _))) (first
      | (go_at_call 16; refine (HFEW.out _).mono ?_; rintro e w' ⟨rfl, hw'⟩; subst w')
      | (go_at_call 15; refine (run_at2 r (some ⟨b, off, none⟩) cap ns ia ic jn n W1 HNk.out HJk.out hjc hjl).mono ?_; rintro e w3 ⟨ao3, co3, ac3, cc3, rfl, hI3, hC3, hco3, hB3, hk3, hQ3⟩; have z0 : w3.cell? ⟨W1.heap.size, 0, none⟩ = some (.slice none 0 0) := blk_cell hk3 0; have f0 := blk_frozen hk3 0; have z1 : w3.cell? ⟨W1.heap.size, 1, none⟩ = some (.int .i64 0) := blk_cell hk3 1; have f1 := blk_frozen hk3 1; have z2 : w3.cell? ⟨W1.heap.size, 2, none⟩ = some (.bool false) := blk_cell hk3 2; have f2 := blk_frozen hk3 2; have z3 : w3.cell? ⟨W1.heap.size, 3, none⟩ = some (.int .i64 0) := blk_cell hk3 3; have f3 := blk_frozen hk3 3; have z4 : w3.cell? ⟨W1.heap.size, 4, none⟩ = some (.slice none 0 0) := blk_cell hk3 4; have f4 := blk_frozen hk3 4; have HX3 := hide (And.intro hI3 (And.intro hC3 (And.intro hco3 (And.intro hk3 hQ3)))); have hlt3 := blk_lt hk3; clear hI3 hC3 hco3 hk3 hQ3)
      | (go_at_call 15; refine (run_at1 r (some ⟨b, off, none⟩) cap ns ia ic jn n W1 HNk.out HJk.out hjc hjl).mono ?_; rintro e w3 ⟨ao3, co3, ac3, cc3, rfl, hI3, hC3, hco3, hB3⟩; have HX3 := hide (And.intro hI3 (And.intro hC3 hco3)); clear hI3 hC3 hco3))
    all_goals (go_wp2; go_meet)
    all_goals first
      | exact ⟨⟨_, ao3, co3, ac3, cc3, rfl, fill5_blk HX3.out.2.2.2.1 _ _ _ _ _, (HX3.out.2.2.2.2 _ _ _ _ _).1, (HX3.out.2.2.2.2 _ _ _ _ _).2, HX3.out.2.2.1⟩, rfl, hB3.trans (fill5_below (Nat.le_refl _) hB3.size _ _ _ _ _)⟩
      | exact ⟨⟨_, ao3, co3, ac3, cc3, rfl, blk_new rfl, HX3.out.1.below ((Below.refl _ w3).alloc (Nat.le_refl _) _), HX3.out.2.1.below ((Below.refl _ w3).alloc (Nat.le_refl _) _), HX3.out.2.2⟩, rfl, hB3.alloc hB3.size _⟩
  case rest =>
    obtain ⟨⟨ra, aoa, coa, aca, cca, rfl, hka, hIa, hCa, hcoa⟩, rfl, hBc⟩ := hcut
    rw [HE1.out]
    have hse := dead_same HC.out n.toNat r.toNat jn
    have hsr := srt_run HCD.out n.toNat r.toNat jn
    have HLN := hide (res_len r ns jn n)
    have HLT := hide (res_len r (deadN ns) jn n)
    rw [← res_finN HE1.out, ← res_finN HE2.out] at hse
    rw [← res_finN HE2.out] at hsr
    have HSE := hide hse
    have HSR := hide hsr
    clear hse hsr
    generalize hσ : res r ns jn n = σ at *
    clear hσ
    have HB2 := hide (HB1.out.trans (hBc.mono HB1.out.size))
    have HP2 := hide ((hBc.block _ (blk_lt HP1.out)).trans HP1.out)
    have HQ2 := hide ((hBc.block _ (blk_lt HQ1.out)).trans HQ1.out)
    have HND2 := hide (HND1.out.below hBc HND1.out.lt)
    have HRa := hide hka
    have HIa := hide (And.intro hIa (And.intro hCa hcoa))
    clear hka hIa hCa hcoa hBc HB1 HP1 HQ1 HND1 HNk HJk HPK
    generalize hW : wc = W2 at *
    clear hW
    have HNk := hide (show SlN W2 (some ⟨cb, 0, none⟩) (deadN ns) from Or.inr ⟨cb, 0, rfl, HND2.out⟩)
    have HJk := hide (HJ.out.below HB2.out)
    go_upto_region 6 with fail
    have HPK := hide (fun (u : World) (hB : Below W2.heap.size W2 u) => (show u.cell? ⟨Q, 0, none⟩ = some (.int .i64 r) ∧ u.cell? ⟨Q, 1, none⟩ = some (.slice (some ⟨cb, 0, none⟩) (deadN ns).length cc) from ⟨(hB.cell (p := ⟨Q, 0, none⟩) (blk_lt HQ2.out)).trans (blk_cell HQ2.out 0), (hB.cell (p := ⟨Q, 1, none⟩) (blk_lt HQ2.out)).trans (blk_cell HQ2.out 1)⟩))
    go_cut [12, 13] from 35 to 42 (fun v1 v2 wx => Got (res r (deadN ns) jn n) (rerr r (deadN ns) jn.length n) W2 wx v1 v2)
    case first =>
      go_region_held3 (fun u => u.cell? ⟨Q, 0, none⟩ = some (.int .i64 r) ∧ u.cell? ⟨Q, 1, none⟩ = some (.slice (some ⟨cb, 0, none⟩) (deadN ns).length cc)) (first | (with_reducible exact HPK.out _ hB3) | (refine HPK.out _ ?_ <;> ((repeat with_reducible first | exact hB3 | exact Below.refl _ _ | refine Below.drew ?_ | refine Below.alloc ?_ ?_ _) <;> (first | exact hB3.size | exact Nat.le_refl _ | simp))) | exact HPK.out _ (hB3.trans (fill5_below (Nat.le_refl _) hB3.size _ _ _ _ _))) (first
        | (go_at_call 16; refine (HFEW.out _).mono ?_; rintro e w' ⟨rfl, hw'⟩; subst w')
        | (go_at_call 15; refine (run_at2 r (some ⟨cb, 0, none⟩) cc (deadN ns) ia ic jn n W2 HNk.out HJk.out hjc hjl).mono ?_; rintro e w3 ⟨ao3, co3, ac3, cc3, rfl, hI3, hC3, hco3, hB3, hk3, hQ3⟩; have z0 : w3.cell? ⟨W2.heap.size, 0, none⟩ = some (.slice none 0 0) := blk_cell hk3 0; have f0 := blk_frozen hk3 0; have z1 : w3.cell? ⟨W2.heap.size, 1, none⟩ = some (.int .i64 0) := blk_cell hk3 1; have f1 := blk_frozen hk3 1; have z2 : w3.cell? ⟨W2.heap.size, 2, none⟩ = some (.bool false) := blk_cell hk3 2; have f2 := blk_frozen hk3 2; have z3 : w3.cell? ⟨W2.heap.size, 3, none⟩ = some (.int .i64 0) := blk_cell hk3 3; have f3 := blk_frozen hk3 3; have z4 : w3.cell? ⟨W2.heap.size, 4, none⟩ = some (.slice none 0 0) := blk_cell hk3 4; have f4 := blk_frozen hk3 4; have HX3 := hide (And.intro hI3 (And.intro hC3 (And.intro hco3 (And.intro hk3 hQ3)))); have hlt3 := blk_lt hk3; clear hI3 hC3 hco3 hk3 hQ3)
        | (go_at_call 15; refine (run_at1 r (some ⟨cb, 0, none⟩) cc (deadN ns) ia ic jn n W2 HNk.out HJk.out hjc hjl).mono ?_; rintro e w3 ⟨ao3, co3, ac3, cc3, rfl, hI3, hC3, hco3, hB3⟩; have HX3 := hide (And.intro hI3 (And.intro hC3 hco3)); clear hI3 hC3 hco3))
      all_goals (go_wp2; go_meet)
      all_goals first
        | exact ⟨⟨_, ao3, co3, ac3, cc3, rfl, fill5_blk HX3.out.2.2.2.1 _ _ _ _ _, (HX3.out.2.2.2.2 _ _ _ _ _).1, (HX3.out.2.2.2.2 _ _ _ _ _).2, HX3.out.2.2.1⟩, rfl, hB3.trans (fill5_below (Nat.le_refl _) hB3.size _ _ _ _ _)⟩
        | exact ⟨⟨_, ao3, co3, ac3, cc3, rfl, blk_new rfl, HX3.out.1.below ((Below.refl _ w3).alloc (Nat.le_refl _) _), HX3.out.2.1.below ((Below.refl _ w3).alloc (Nat.le_refl _) _), HX3.out.2.2⟩, rfl, hB3.alloc hB3.size _⟩
    case rest =>
      obtain ⟨⟨rb, aob, cob, acb, ccb, rfl, hkb, hIb, hCb, hcob⟩, rfl, hBc⟩ := hcut
      rw [HE2.out]
      generalize hτ : res r (deadN ns) jn n = τ at *
      clear hτ
      obtain ⟨s1, s2, s3, s4, s5⟩ := HSE.out
      rw [s1, s2, s3, s4] at hkb
      rw [s1] at hIb
      have HCT := hide s5
      clear s1 s2 s3 s4 s5 hcob HSE
      have HB3 := hide (HB2.out.trans (hBc.mono HB2.out.size))
      have HQ3 := hide ((hBc.block _ (blk_lt HQ2.out)).trans HQ2.out)
      have HND3 := hide (HND2.out.below hBc HND2.out.lt)
      have HRa3 := hide ((hBc.block _ (blk_lt HRa.out)).trans HRa.out)
      have HIa3 := hide (HIa.out.1.below hBc)
      have HCa3 := hide (HIa.out.2.1.below hBc)
      have HRb3 := hide hkb
      have HIb3 := hide hIb
      have HCb3 := hide hCb
      have q0 := blk_cell HQ3.out 0
      have q1 := blk_cell HQ3.out 1
      have ql := blk_lt HQ3.out
      simp at q0 q1
      clear hkb hIb hCb hBc HB2 HP2 HQ2 HND2 HRa HIa HNk HJk HPK
      go_upto_region 8 with (go_at_call 7; refine (dead_fit r cb 0 cc (deadN ns) _ HND3.out HCD.out).mono ?_; rintro e w5 ⟨sb, sc, rfl, hn5, hb5⟩; rw [deadN_idem] at hn5 ⊢)
      have hx5 : Below w5.heap.size w5 (w5.alloc (.cells #[.int .i64 r, .slice (some ⟨sb, 0, none⟩) (deadN ns).length sc] 24)) := (Below.refl _ w5).alloc (Nat.le_refl _) _
      have hb5' := hb5.trans (hx5.mono hb5.size)
      have HB4 := hide (HB3.out.trans (hb5'.mono HB3.out.size))
      have HS4 := hide (World.alloc_heap_new w5 (.cells #[.int .i64 r, .slice (some ⟨sb, 0, none⟩) (deadN ns).length sc] 24))
      have HNs := hide (show SlN _ (some ⟨sb, 0, none⟩) (deadN ns) from Or.inr ⟨sb, 0, rfl, hn5.below hx5 hn5.lt⟩)
      have HNq := hide (show SlN _ (some ⟨cb, 0, none⟩) (deadN ns) from Or.inr ⟨cb, 0, rfl, HND3.out.below hb5' HND3.out.lt⟩)
      have HQ4 := hide ((hb5'.block _ (blk_lt HQ3.out)).trans HQ3.out)
      have HRa4 := hide ((hb5'.block _ (blk_lt HRa3.out)).trans HRa3.out)
      have HRb4 := hide ((hb5'.block _ (blk_lt HRb3.out)).trans HRb3.out)
      have HIa4 := hide (HIa3.out.below hb5')
      have HIb4 := hide (HIb3.out.below hb5')
      have HCa4 := hide (HCa3.out.below hb5')
      have HCb4 := hide (HCb3.out.below hb5')
      clear hb5 hb5' hx5 hn5 HB3 HQ3 HND3 HRa3 HRb3 HIa3 HIb3 HCa3 HCb3 q0 q1 ql
      generalize (w5.alloc (.cells #[.int .i64 r, .slice (some ⟨sb, 0, none⟩) (deadN ns).length sc] 24)) = W4 at HB4 HS4 HNs HNq HQ4 HRa4 HRb4 HIa4 HIb4 HCa4 HCb4 ⊢
      generalize w5.heap.size = S' at HS4 ⊢
      have q0 := blk_cell HQ4.out 0
      have q1 := blk_cell HQ4.out 1
      have ql := blk_lt HQ4.out
      have z0 := blk_cell HS4.out 0
      have z1 := blk_cell HS4.out 1
      have zl := blk_lt HS4.out
      simp at q0 q1 z0 z1
      go_wp2_with fail
      refine (sameProgs_same r (some ⟨cb, 0, none⟩) (some ⟨sb, 0, none⟩) cc sc (deadN ns) W4 HNq.out HNs.out (by rw [HDL.out]; omega)).mono ?_
      rintro e w6 ⟨rfl, hb6⟩
      have HB5 := hide (HB4.out.trans (hb6.mono HB4.out.size))
      have HRa5 := hide ((hb6.block _ (blk_lt HRa4.out)).trans HRa4.out)
      have HRb5 := hide ((hb6.block _ (blk_lt HRb4.out)).trans HRb4.out)
      have HIa5 := hide (HIa4.out.below hb6)
      have HIb5 := hide (HIb4.out.below hb6)
      have HCa5 := hide (HCa4.out.below hb6)
      have HCb5 := hide (HCb4.out.below hb6)
      clear q0 q1 ql z0 z1 zl hb6 HB4 HS4 HNs HNq HQ4 HRa4 HRb4 HIa4 HIb4 HCa4 HCb4
      have hlt5 : τ.cts.length ≤ 131072 := HLT.out.2
      go_wp2_with fail
      go_loopw [16] (fun i wr => ∃ k : Nat, k ≤ τ.cts.length ∧ i = .int .i64 k ∧ Below w6.heap.size w6 wr) (fun i _ => τ.cts.length - (intOf i).toNat)
      case atStart => exact ⟨0, by omega, rfl, Below.refl _ _⟩
      case round =>
        obtain ⟨k, hk, rfl, hBk⟩ := hrel
        have HRA := hide ((hBk.block _ (blk_lt HRa5.out)).trans HRa5.out)
        have HRB := hide ((hBk.block _ (blk_lt HRb5.out)).trans HRb5.out)
        have b4 := blk_cell HRB.out 4
        simp at b4
        have bl := blk_lt HRB.out
        by_cases hlt : k < τ.cts.length
        · obtain ⟨c, hcx⟩ := get_lt hlt
          obtain ⟨kb, ko, rfl, kl, kc0, kc1, kc2, kc3⟩ := (HCb5.out.below hBk).at hcx
          have hki : (k : Int) < (τ.cts.length : Int) := by omega
          have hle : c.n ≤ tmo σ.cts c.t := by
            have h1 := HCT.out c.t
            have h2 := ct_mem HSR.out (List.mem_of_getElem? hcx)
            simp only [cnt, h2, Option.getD_some] at h1
            exact h1
          have hnl : ¬ tmo σ.cts c.t < c.n := by omega
          have HBk := hide hBk
          have HTM := hide (fun (u : World) (hB : Below wr.heap.size wr u) => times_any (.slice aoa σ.out.length coa) (.int .i64 σ.ret) (.bool σ.ended) (.int .i64 σ.steps) aca cca σ.cts c.t u ((HCa5.out.below hBk).below hB) (by have := HLN.out; omega))
          have HPS := hide (fun (u : World) (hB : Below wr.heap.size wr u) => (show u.cell? ⟨ra, 0, none⟩ = some (.slice aoa σ.out.length coa) ∧ u.cell? ⟨ra, 1, none⟩ = some (.int .i64 σ.ret) ∧ u.cell? ⟨ra, 2, none⟩ = some (.bool σ.ended) ∧ u.cell? ⟨ra, 3, none⟩ = some (.int .i64 σ.steps) ∧ u.cell? ⟨ra, 4, none⟩ = some (.slice aca σ.cts.length cca) ∧ u.cell? ⟨rb, 4, none⟩ = some (.slice (some ⟨kb, ko, none⟩) τ.cts.length ccb) ∧ u.cell? ⟨kb, ko + k * 4, none⟩ = some (.int .i64 c.t.op) ∧ u.cell? ⟨kb, ko + k * 4 + 1, none⟩ = some (.int .i64 c.t.a) ∧ u.cell? ⟨kb, ko + k * 4 + 2, none⟩ = some (.int .i64 c.t.b) ∧ u.cell? ⟨kb, ko + k * 4 + 3, none⟩ = some (.int .i64 c.n) from ⟨cell_ofN HRA.out hB 0 rfl, cell_ofN HRA.out hB 1 rfl, cell_ofN HRA.out hB 2 rfl, cell_ofN HRA.out hB 3 rfl, cell_ofN HRA.out hB 4 rfl, cell_ofN HRB.out hB 4 rfl, (hB.cell (p := ⟨kb, _, none⟩) kl).trans kc0, (hB.cell (p := ⟨kb, _, none⟩) kl).trans kc1, (hB.cell (p := ⟨kb, _, none⟩) kl).trans kc2, (hB.cell (p := ⟨kb, _, none⟩) kl).trans kc3⟩))
          clear hBk hcx kc0 kc1 kc2 kc3 hle
          generalize tmo σ.cts c.t = TM at HTM hnl
          go_upto_region 13 with fail
          go_cut [85] from 71 to 84 (fun v wx => v = .bool false ∧ Below wr.heap.size wr wx)
          case first =>
            go_region_held3 (fun u => u.cell? ⟨ra, 0, none⟩ = some (.slice aoa σ.out.length coa) ∧ u.cell? ⟨ra, 1, none⟩ = some (.int .i64 σ.ret) ∧ u.cell? ⟨ra, 2, none⟩ = some (.bool σ.ended) ∧ u.cell? ⟨ra, 3, none⟩ = some (.int .i64 σ.steps) ∧ u.cell? ⟨ra, 4, none⟩ = some (.slice aca σ.cts.length cca) ∧ u.cell? ⟨rb, 4, none⟩ = some (.slice (some ⟨kb, ko, none⟩) τ.cts.length ccb) ∧ u.cell? ⟨kb, ko + k * 4, none⟩ = some (.int .i64 c.t.op) ∧ u.cell? ⟨kb, ko + k * 4 + 1, none⟩ = some (.int .i64 c.t.a) ∧ u.cell? ⟨kb, ko + k * 4 + 2, none⟩ = some (.int .i64 c.t.b) ∧ u.cell? ⟨kb, ko + k * 4 + 3, none⟩ = some (.int .i64 c.n)) (first
              | (with_reducible exact HPS.out _ hB1)
              | exact HPS.out _ (Below.refl _ wr).drew
              | exact HPS.out _ (Below.refl _ wr)) (first | (go_at_call 17; refine (HTM.out _ (by first | exact (Below.refl _ wr).drew | exact Below.refl _ wr)).mono ?_; rintro e wa ⟨rfl, hba⟩; have hB1 : Below wr.heap.size wr wa := (by first | exact (Below.refl _ wr).drew.trans hba | exact hba)))
            all_goals go_wp2
            all_goals go_meet
            all_goals exact ⟨by simp; omega, hB1⟩
          case rest =>
            obtain ⟨rfl, hBc⟩ := hcut
            have HBc := hide (HBk.out.trans (hBc.mono HBk.out.size))
            clear hBc HPS HTM HRA HRB b4 bl
            go_wp2_with fail
            go_roundw
            case rel => exact ⟨k + 1, by omega, by go_num, HBc.out⟩
            case measure => simp [intOf]; omega
        · have ek : k = τ.cts.length := by omega
          subst ek
          have HB6 := hide (HB5.out.trans (hBk.mono HB5.out.size))
          have HIa6 := hide (HIa5.out.below hBk)
          have HIb6 := hide (HIb5.out.below hBk)
          clear hBk
          go_wp2_with fail
          refine (liveBegun_any _).mono ?_
          rintro e w7 ⟨rfl, hb7⟩
          have HRA7 := hide ((hb7.block _ (blk_lt HRA.out)).trans HRA.out)
          have HRB7 := hide ((hb7.block _ (blk_lt HRB.out)).trans HRB.out)
          have HB7 := hide (HB6.out.trans (hb7.mono HB6.out.size))
          have HIa7 := hide (HIa6.out.below hb7)
          have HIb7 := hide (HIb6.out.below hb7)
          clear b4 bl hb7
          have a0 := blk_cell HRA7.out 0
          have b0 := blk_cell HRB7.out 0
          have a1 := blk_cell HRA7.out 1
          have b1 := blk_cell HRB7.out 1
          have a2 := blk_cell HRA7.out 2
          have b2 := blk_cell HRB7.out 2
          have a3 := blk_cell HRA7.out 3
          have b3 := blk_cell HRB7.out 3
          simp at a0 a1 a2 a3 b0 b1 b2 b3
          have al := blk_lt HRA7.out
          have bl := blk_lt HRB7.out
          have ho := HLN.out.1
          go_wp2_with fail
          refine (sameInts_any aoa aob coa cob σ.out σ.out w7 HIa7.out HIb7.out (by omega) (by omega)).mono ?_
          rintro e w8 ⟨rfl, m, rfl⟩
          go_wp2
          go_ret
          exact ⟨by simp, below_drewN HB7.out m⟩
end Go.Proofs.Ytoikglgnmjjpcab

namespace Go.Proofs.Ytoikglgnmjjpcab
open Go.ChangeShapes Go.WideShapes Go.ChangeAt Go.RowKit
set_option linter.unusedVariables false

theorem liveSame_any (r : Int) (a : Option Addr) (cap : Nat) (ns : List Nd) (ia : Option Addr) (ic : Nat) (inp : List Int) (fuel : Int) (w : World) (hN : SlN w a ns) (hI : IntsAt w ia inp) (hic : inp.length ≤ ic) (hil : inp.length ≤ 9223372036854775807) (hf : -9223372036854775808 ≤ fuel ∧ fuel ≤ 9223372036854775807) :
    Calls Try.prog 4 #[.agg #[.int .i64 r, .slice a ns.length cap], .slice ia inp.length ic, .int .i64 fuel] w fun e w' => e = .returned (.bool true) ∧ Below w.heap.size w w' := by
  by_cases hc : chk r ns = 0
  · obtain ⟨b, off, rfl, hNb⟩ := hN.some (chk_zero hc).1.1
    exact liveSame_right r b off cap ns ia ic inp fuel w hNb hI hic hil hf hc
  · exact liveSame_wrong r a cap ns ia ic inp.length fuel w hN hc

set_option maxRecDepth 100000 in
theorem liveSame_lifted (os : Os) (started : os.Started) (H : Type) (enc : TypeId × Value → H) :
    ReturnsInHanded {} Try.checked os 4 .any (Rows.liveSameSpec.pre6 enc Try.prog Try.f4 Rows.liveSameRow.domain false) (Rows.liveSameSpec.post enc Try.prog Try.f4 false true false false) := by
  refine returnsInHanded_of_change (C := Try.checked) own started (by kernel_rfl) Try.func4
    (ChangeSpec.witness6 (enc := enc) (C := Try.checked) false ⟨#[], #[.agg #[.int .i64 0, .slice none 0 0], .slice none 0 0, .int .i64 0], []⟩ 8 (by kernel_rfl) (by kernel_rfl) (by kernel_rfl) (by kernel_rfl)) ?_
  intro W base args ds gs before hval0 hW hcnd _
  have hval : ∀ (j : Nat) t v, Try.f4.params[j]? = some t → args[j]? = some v → Value.okWide Try.prog W .any base t v := hval0
  have hW' := hW
  obtain ⟨p, q, hA0, hV, rfl, hfz, hnd⟩ := hW
  have hA : DataW.TrodAll enc Try.prog W 0 (fun _ => true) true Try.f4.params.toList args.toList ds p := hA0
  rw [Try.params4] at hA hval
  obtain ⟨v0, vs0, d0, ds0, p0, q0, hargs, rfl, rfl, h0, r0⟩ := trodAll_cons hA
  obtain ⟨v1, vs1, d1, ds1, p1, q1, rfl, rfl, rfl, h1, r1⟩ := trodAll_cons r0
  obtain ⟨v2, vs2, d2, ds2, p2, q2, rfl, rfl, rfl, h2, r2⟩ := trodAll_cons r1
  obtain ⟨rfl, rfl, rfl⟩ := trodAll_nil r2
  obtain rfl : args = #[v0, v1, v2] := by cases args; simp_all
  obtain ⟨rfl, rfl⟩ := trodVars_none hV
  have k0 := h0
  have lt0 : ∀ x ∈ p0, x.block < W.heap.size := by obtain ⟨m, hm⟩ := k0; exact DataW.trod_lt m _ _ _ hm
  have k1 := h1
  have lt1 : ∀ x ∈ p1, x.block < W.heap.size := by obtain ⟨m, hm⟩ := k1; exact DataW.trod_lt m _ _ _ hm
  obtain ⟨r, a, cap, ns, rfl, hN, hl⟩ := open_prog (hval 0 24 v0 rfl rfl) h0
  obtain ⟨ia, ic, inp, rfl, hI, hil, hic⟩ := open_ints_arg (hval 1 36 v1 rfl rfl) h1
  obtain ⟨n, rfl, rfl, rfl, w2⟩ := open_int Try.underlying3 (hval 2 3 v2 rfl rfl) h2
  clear hA0 hval0
  refine (liveSame_any r a cap ns ia ic inp n W hN hI hic hil (wf_range w2)).mono fun e W' ⟨he, bel⟩ => ?_
  subst he
  exact ⟨_, rfl, _, _, _, [], _, [], hW', trodAll_mk1 (shut_bool Try.underlying4 _), (trodAll_cons_mk (Below.trod laidOut (by kernel_rfl) (of_decide_eq_true (by kernel_rfl)) k0 bel lt0) (trodAll_cons_mk (Below.trod laidOut (by kernel_rfl) (of_decide_eq_true (by kernel_rfl)) k1 bel lt1) (trodAll_cons_mk (shut_int Try.underlying3 w2) trodAll_mk0))), rfl, bel.frame _, fun h => by cases h⟩

theorem liveSame_over : Rows.liveSameRow.holds Try.pinned (OpenSpec.ofChange Rows.liveSameSpec) :=
  OpenClaim.holds_of_wide 4 Try.f4 rfl rfl rfl rfl rfl rfl rfl ⟨rfl, rfl, rfl, rfl, rfl⟩ rfl rfl rfl rfl rfl (by kernel_rfl) Try.func4 (by kernel_rfl)
    (of_decide_eq_true (by kernel_rfl)) (by unfold Func.isWrapper; first | (rw [if_pos (by decide +kernel)]; kernel_rfl) | (rw [if_neg (by decide +kernel)]; exact ⟨rfl, rfl⟩))
    (fun os started H enc _ => liveSame_lifted os started H enc)

theorem liveSame_holds : Rows.LiveSameSaid := liveSame_over
#print axioms liveSame_holds
end Go.Proofs.Ytoikglgnmjjpcab


