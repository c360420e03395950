/-
  Whatever program, term, places, numbers and fuel hoistwaylaw.MoveSame is handed, it returns true and leaves its arguments as they were: what is moved does what it did: by One, by All, by Busy's places and by any Rival's. No condition.
  hoistwaylaw.MoveSame, walked.
-/
import Derived.Test.YtoikglgnmjjpcabGreatT6
import Derived.Test.YtoikglgnmjjpcabGreatT14
namespace Go.Proofs.YtoikglgnmjjpcabGreat
open Go.RowKit Go.Shelf
set_option linter.unusedVariables false
set_option linter.unusedSimpArgs false

set_option maxHeartbeats 40000000 in
set_option maxRecDepth 100000 in
theorem moveSame_walk (r : Int) (a : Option Addr) (cap : Nat) (ns : List Nd) (t : Tm) (ba : Option Addr) (bc : Nat) (us : List Bool) (ia : Option Addr) (ic : Nat) (inp : List Int) (fuel : Int) (w : World) (hN : SlN w a ns) (hP : BoolsAt w ba us) (hI : IntsAt w ia inp) (hic : inp.length ≤ ic) (hil : inp.length ≤ 9223372036854775807) (hf : -9223372036854775808 ≤ fuel ∧ fuel ≤ 9223372036854775807) :
    Calls Tryz.prog 4 #[.agg #[.int .i64 r, .slice a ns.length cap], .agg #[.int .i64 t.op, .int .i64 t.a, .int .i64 t.b], .slice ba us.length bc, .slice ia inp.length ic, .int .i64 fuel] w fun e w' => e = .returned (.bool true) ∧ Below w.heap.size w w' := by
  have HFEW := hide (fun u => few_any ia ic inp u hic hil)
  have hJ := hI.take 256
  have hj256 : (inp.take 256).length ≤ 256 := by simp; omega
  have hjc : (inp.take 256).length ≤ ic := by simp; omega
  generalize inp.take 256 = jn at HFEW hJ hj256 hjc
  have hpf := pickF_range fuel
  have HN := hide hN
  have HJ := hide hJ
  have HU := hide hP
  clear hN hI hJ hP hil
  have hb0 : Below w.heap.size w ((w.alloc (.cells #[.int .i64 r, .slice a ns.length cap] 24)).alloc (.cells #[.int .i64 t.op, .int .i64 t.a, .int .i64 t.b] 26)) := ((Below.refl _ w).alloc (Nat.le_refl _) _).alloc (by simp) _
  have hp0 : ((w.alloc (.cells #[.int .i64 r, .slice a ns.length cap] 24)).alloc (.cells #[.int .i64 t.op, .int .i64 t.a, .int .i64 t.b] 26)).heap[w.heap.size]? = some (.cells #[.int .i64 r, .slice a ns.length cap] 24 (0, 0)) := by
    have := World.alloc_heap_new w (.cells #[.int .i64 r, .slice a ns.length cap] 24)
    exact (Below.heap_alloc _ _ _ (by simp; try omega)).trans this
  have ht0 : ((w.alloc (.cells #[.int .i64 r, .slice a ns.length cap] 24)).alloc (.cells #[.int .i64 t.op, .int .i64 t.a, .int .i64 t.b] 26)).heap[w.heap.size + 1]? = some (.cells #[.int .i64 t.op, .int .i64 t.a, .int .i64 t.b] 26 (0, 0)) := by
    have := World.alloc_heap_new (w.alloc (.cells #[.int .i64 r, .slice a ns.length cap] 24)) (.cells #[.int .i64 t.op, .int .i64 t.a, .int .i64 t.b] 26)
    simp only [World.size_alloc] at this
    exact this
  go_enter Tryz.func4, Tryz.ntmps4
  go_upto_region 1 with fail
  generalize ((w.alloc (.cells #[.int .i64 r, .slice a ns.length cap] 24)).alloc (.cells #[.int .i64 t.op, .int .i64 t.a, .int .i64 t.b] 26)) = W0 at hb0 hp0 ht0 ⊢
  have HB := hide hb0
  have HP := hide hp0
  have HT := hide ht0
  clear hb0 hp0 ht0
  go_upto_region 2 with (go_at_call 17; refine (choose400_any fuel _ hf).mono ?_; rintro e w3 ⟨rfl, hw3⟩; subst w3)
  generalize pickF fuel = n at hpf ⊢
  have n0 := hpf.1
  have n1 := hpf.2
  clear hpf hf
  have p0 := blk_cell HP.out 0
  have p1 := blk_cell HP.out 1
  simp at p0 p1
  have pl := blk_lt HP.out
  have t0 := blk_cell HT.out 0
  have t1 := blk_cell HT.out 1
  have t2 := blk_cell HT.out 2
  simp at t0 t1 t2
  have tl := blk_lt HT.out
  go_wp2_with fail
  refine (oneD_any r a cap ns t _ (HN.out.below HB.out)).mono ?_
  rintro e w1 ⟨g1, q1, m1, c1, e1, rfl, hS1, hD1, hb1⟩
  have hx : Below w1.heap.size w1 (w1.alloc (.cells #[.int .i64 q1, .slice g1 (List.length m1) c1] 24)) := (Below.refl _ w1).alloc (Nat.le_refl _) _
  have hq : (w1.alloc (.cells #[.int .i64 q1, .slice g1 (List.length m1) c1] 24)).heap[w1.heap.size]? = some (.cells #[.int .i64 q1, .slice g1 (List.length m1) c1] 24 (0, 0)) := World.alloc_heap_new w1 _
  have hb' := hb1.trans (hx.mono hb1.size)
  replace HB := hide (HB.out.trans (hb'.mono HB.out.size))
  replace HP := hide ((hb'.block _ (blk_lt HP.out)).trans HP.out)
  replace HT := hide ((hb'.block _ (blk_lt HT.out)).trans HT.out)
  have HM0 := hide (hS1.below hx)
  have HD1 := hide (hD1)
  clear hb1 hb' hx hS1 hD1 p0 p1 pl t0 t1 t2 tl
  go_upto_region 3 with fail
  generalize (w1.alloc (.cells #[.int .i64 q1, .slice g1 (List.length m1) c1] 24)) = W1 at HB HP HT HM0 hq ⊢
  generalize w1.heap.size = QA at hq ⊢
  have HA := hide hq
  clear hq
  have p0 := blk_cell HP.out 0
  have p1 := blk_cell HP.out 1
  simp at p0 p1
  have pl := blk_lt HP.out
  go_wp2_with fail
  refine (allD_any r a cap ns _ (HN.out.below HB.out)).mono ?_
  rintro e w2 ⟨g2, q2, m2, c2, e2, rfl, hS2, hD2, hb2⟩
  have hx : Below w2.heap.size w2 (w2.alloc (.cells #[.int .i64 q2, .slice g2 (List.length m2) c2] 24)) := (Below.refl _ w2).alloc (Nat.le_refl _) _
  have hq : (w2.alloc (.cells #[.int .i64 q2, .slice g2 (List.length m2) c2] 24)).heap[w2.heap.size]? = some (.cells #[.int .i64 q2, .slice g2 (List.length m2) c2] 24 (0, 0)) := World.alloc_heap_new w2 _
  have hb' := hb2.trans (hx.mono hb2.size)
  replace HB := hide (HB.out.trans (hb'.mono HB.out.size))
  replace HP := hide ((hb'.block _ (blk_lt HP.out)).trans HP.out)
  replace HT := hide ((hb'.block _ (blk_lt HT.out)).trans HT.out)
  replace HA := hide ((hb'.block _ (blk_lt HA.out)).trans HA.out)
  replace HM0 := hide (HM0.out.below hb')
  have HM1 := hide (hS2.below hx)
  have HD2 := hide (hD2)
  clear hb2 hb' hx hS2 hD2 p0 p1 pl
  go_upto_region 4 with fail
  generalize (w2.alloc (.cells #[.int .i64 q2, .slice g2 (List.length m2) c2] 24)) = W2 at HB HP HT HA HM0 HM1 hq ⊢
  generalize w2.heap.size = QC at hq ⊢
  have HC := hide hq
  clear hq
  have HNk := hide (HN.out.below HB.out)
  have HJk := hide (HJ.out.below HB.out)
  have HS : Hid (∀ u : World, Below W2.heap.size W2 u → u.cell? ⟨w.heap.size, 0, none⟩ = some (.int .i64 r) ∧ u.cell? ⟨w.heap.size, 1, none⟩ = some (.slice a ns.length cap) ∧ u.cell? ⟨QA, 0, none⟩ = some (.int .i64 q1) ∧ u.cell? ⟨QA, 1, none⟩ = some (.slice g1 (List.length m1) c1) ∧ u.cell? ⟨QC, 0, none⟩ = some (.int .i64 q2) ∧ u.cell? ⟨QC, 1, none⟩ = some (.slice g2 (List.length m2) c2)) := fun u h => by
    have k0 := (h.block _ (blk_lt HP.out)).trans HP.out
    have k1 := (h.block _ (blk_lt HA.out)).trans HA.out
    have k2 := (h.block _ (blk_lt HC.out)).trans HC.out
    refine ⟨?_, ?_, ?_, ?_, ?_, ?_⟩
    · rw [blk_cell k0]; rfl
    · rw [blk_cell k0]; rfl
    · rw [blk_cell k1]; rfl
    · rw [blk_cell k1]; rfl
    · rw [blk_cell k2]; rfl
    · rw [blk_cell k2]; rfl
  have HDa := hide (fun (u : World) (hB : Below W2.heap.size W2 u) (h : OkDo r ns q1 m1) => doesD_any r q1 a g1 cap c1 ns m1 ia ic jn n u h (HNk.out.below hB) (HM0.out.below hB) (HJk.out.below hB) hjc hj256 n0 n1)
  have HDb := hide (fun (u : World) (hB : Below W2.heap.size W2 u) (h : OkDo r ns q2 m2) => doesD_any r q2 a g2 cap c2 ns m2 ia ic jn n u h (HNk.out.below hB) (HM1.out.below hB) (HJk.out.below hB) hjc hj256 n0 n1)
  have pl := blk_lt HP.out
  have al := blk_lt HA.out
  have cl := blk_lt HC.out
  go_cut [60] from 37 to 60 (fun v wx => v = .bool false ∧ Below W2.heap.size W2 wx)
  case first =>
    by_cases h1 : e1 = 0
    · have hc1 : (e1 == 0) = true := by simp [h1]
      have H1 := hide h1
      clear h1
      by_cases h2 : e2 = 0
      · have hc2 : (e2 == 0) = true := by simp [h2]
        have H2 := hide h2
        clear h2
        refine wp_region_held_drew (S := (fun u => u.cell? ⟨w.heap.size, 0, none⟩ = some (.int .i64 r) ∧ u.cell? ⟨w.heap.size, 1, none⟩ = some (.slice a ns.length cap) ∧ u.cell? ⟨QA, 0, none⟩ = some (.int .i64 q1) ∧ u.cell? ⟨QA, 1, none⟩ = some (.slice g1 (List.length m1) c1) ∧ u.cell? ⟨QC, 0, none⟩ = some (.int .i64 q2) ∧ u.cell? ⟨QC, 1, none⟩ = some (.slice g2 (List.length m2) c2))) (by as_aux_lemma => kernel_rfl) (by (try dsimp only); (with_reducible refine HS.out _ ?_); first | with_reducible exact hB6 | with_reducible exact hB5 | with_reducible exact (Below.refl _ W2).drew | with_reducible exact (Below.refl _ W2)) (fun hHeld => ?_)
        refine tky 0 ⟨some 37, .move (.tmp 13), 30, "two.go:67", #[], none⟩ (by intro w hSw; (try dsimp only at hSw); go_simp; all_goals with_reducible rfl) ?_
        (try simp only [Act.put, PM1, PM2, PM3])
        refine tky 1 ⟨some 38, .binOp Go.BinOp.eql 30 (.tmp 37) (.const (Go.Value.int Go.IntKind.i64 0)) 30, 4, "two.go:67", #[⟨0, .data⟩], none⟩ (by intro w hSw; (try dsimp only at hSw); go_simp; all_goals with_reducible rfl) ?_
        (try simp only [Act.put, PM1, PM2, PM3])
        (try rw [hc1])
        refine tky 2 ⟨some 39, .move (.tmp 38), 4, "two.go:67", #[⟨1, .data⟩], none⟩ (by intro w hSw; (try dsimp only at hSw); go_simp; all_goals with_reducible rfl) ?_
        (try simp only [Act.put, PM1, PM2, PM3])
        refine tky 3 ⟨some 40, .load 24 (.tmp 5), 24, "two.go:67", #[⟨2, .guard⟩], some (2, true)⟩ (by intro w hSw; (try dsimp only at hSw); go_simp; all_goals with_reducible rfl) ?_
        (try simp only [Act.put, PM1, PM2, PM3])
        refine tky 4 ⟨some 41, .load 24 (.tmp 12), 24, "two.go:67", #[⟨2, .guard⟩], some (2, true)⟩ (by intro w hSw; (try dsimp only at hSw); go_simp; all_goals with_reducible rfl) ?_
        (try simp only [Act.put, PM1, PM2, PM3])
        refine tky 5 ⟨some 42, .move (.tmp 3), 40, "two.go:67", #[⟨2, .guard⟩], some (2, true)⟩ (by intro w hSw; (try dsimp only at hSw); go_simp; all_goals with_reducible rfl) ?_
        (try simp only [Act.put, PM1, PM2, PM3])
        refine tky 7 ⟨some 44, .move (.tmp 11), 3, "two.go:67", #[⟨2, .guard⟩], some (2, true)⟩ (by intro w hSw; (try dsimp only at hSw); go_simp; all_goals with_reducible rfl) ?_
        (try simp only [Act.put, PM1, PM2, PM3])
        refine wpAnyH_ready (rs := [6]) (by as_aux_lemma => kernel_rfl) (by simp) (AllReadyH.cons (o := ⟨some 43, .call { callee := .value (.func 19), args := #[.tmp 42], argTypes := #[40] }, 40, "two.go:67", #[⟨5, .data⟩, ⟨2, .chain⟩, ⟨2, .guard⟩], some (2, true)⟩) rfl (fun K hK => ?_) AllReadyH.nil)
        go_simp
        go_at_call 19; refine (HFEW.out _).mono ?_; rintro e wf ⟨rfl, hwf⟩; subst wf
        refine hK.out _ _ (by (try dsimp only); (with_reducible refine HS.out _ ?_); first | with_reducible exact hB6 | with_reducible exact hB5 | with_reducible exact (Below.refl _ W2).drew | with_reducible exact (Below.refl _ W2)) (fun hHeld => ?_)
        clear hK K
        (try simp only [Act.put, PM1, PM2, PM3])
        refine wpAnyH_ready (rs := [8]) (by as_aux_lemma => kernel_rfl) (by simp) (AllReadyH.cons (o := ⟨some 45, .call { callee := .value (.func 18), args := #[.tmp 40, .tmp 41, .tmp 43, .tmp 44], argTypes := #[24, 24, 40, 3] }, 4, "two.go:67", #[⟨3, .data⟩, ⟨4, .data⟩, ⟨6, .data⟩, ⟨7, .data⟩, ⟨6, .chain⟩, ⟨2, .guard⟩], some (2, true)⟩) rfl (fun K hK => ?_) AllReadyH.nil)
        go_simp
        go_at_call 18; refine (HDa.out _ (by first | exact hB6 | exact hB5 | exact (Below.refl _ W2).drew | exact Below.refl _ W2) (HD1.out H1.out)).mono ?_; rintro e w5 ⟨rfl, hb5⟩; have hB5 : Below W2.heap.size W2 w5 := (by first | exact hB5.trans (hb5.mono hB5.size) | exact (Below.refl _ W2).drew.trans hb5 | exact hb5)
        refine hK.out _ _ (by (try dsimp only); (with_reducible refine HS.out _ ?_); first | with_reducible exact hB6 | with_reducible exact hB5 | with_reducible exact (Below.refl _ W2).drew | with_reducible exact (Below.refl _ W2)) (fun hHeld => ?_)
        clear hK K
        (try simp only [Act.put, PM1, PM2, PM3])
        refine tky 9 ⟨some 46, .unOp Go.UnOp.not 4 (.tmp 45), 4, "two.go:67", #[⟨8, .data⟩, ⟨2, .guard⟩], some (2, true)⟩ (by intro w hSw; (try dsimp only at hSw); go_simp; all_goals with_reducible rfl) ?_
        (try simp only [Act.put, PM1, PM2, PM3])
        refine tky 10 ⟨some 47, .pick (.tmp 39) (.tmp 46) (.const (Go.Value.bool false)), 4, "two.go:67", #[⟨2, .data⟩, ⟨9, .data⟩], none⟩ (by intro w hSw; (try dsimp only at hSw); go_simp; all_goals with_reducible rfl) ?_
        (try simp only [Act.put, PM1, PM2, PM3])
        refine tky 11 ⟨some 48, .move (.tmp 47), 4, "two.go:67", #[⟨10, .data⟩, ⟨8, .chain⟩], none⟩ (by intro w hSw; (try dsimp only at hSw); go_simp; all_goals with_reducible rfl) ?_
        (try simp only [Act.put, PM1, PM2, PM3])
        refine tky 12 ⟨some 49, .move (.tmp 15), 30, "two.go:67", #[⟨11, .guard⟩], some (11, false)⟩ (by intro w hSw; (try dsimp only at hSw); go_simp; all_goals with_reducible rfl) ?_
        (try simp only [Act.put, PM1, PM2, PM3])
        refine tky 13 ⟨some 50, .binOp Go.BinOp.eql 30 (.tmp 49) (.const (Go.Value.int Go.IntKind.i64 0)) 30, 4, "two.go:67", #[⟨12, .data⟩, ⟨11, .guard⟩], some (11, false)⟩ (by intro w hSw; (try dsimp only at hSw); go_simp; all_goals with_reducible rfl) ?_
        (try simp only [Act.put, PM1, PM2, PM3])
        (try rw [hc2])
        refine tky 14 ⟨some 51, .move (.tmp 50), 4, "two.go:67", #[⟨13, .data⟩, ⟨11, .chain⟩, ⟨11, .guard⟩], some (11, false)⟩ (by intro w hSw; (try dsimp only at hSw); go_simp; all_goals with_reducible rfl) ?_
        (try simp only [Act.put, PM1, PM2, PM3])
        refine tky 15 ⟨some 52, .load 24 (.tmp 5), 24, "two.go:67", #[⟨14, .guard⟩], some (14, true)⟩ (by intro w hSw; (try dsimp only at hSw); go_simp; all_goals with_reducible rfl) ?_
        (try simp only [Act.put, PM1, PM2, PM3])
        refine tky 16 ⟨some 53, .load 24 (.tmp 14), 24, "two.go:67", #[⟨14, .guard⟩], some (14, true)⟩ (by intro w hSw; (try dsimp only at hSw); go_simp; all_goals with_reducible rfl) ?_
        (try simp only [Act.put, PM1, PM2, PM3])
        refine tky 17 ⟨some 54, .move (.tmp 3), 40, "two.go:67", #[⟨14, .guard⟩], some (14, true)⟩ (by intro w hSw; (try dsimp only at hSw); go_simp; all_goals with_reducible rfl) ?_
        (try simp only [Act.put, PM1, PM2, PM3])
        refine tky 19 ⟨some 56, .move (.tmp 11), 3, "two.go:67", #[⟨14, .guard⟩], some (14, true)⟩ (by intro w hSw; (try dsimp only at hSw); go_simp; all_goals with_reducible rfl) ?_
        (try simp only [Act.put, PM1, PM2, PM3])
        refine wpAnyH_ready (rs := [18]) (by as_aux_lemma => kernel_rfl) (by simp) (AllReadyH.cons (o := ⟨some 55, .call { callee := .value (.func 19), args := #[.tmp 54], argTypes := #[40] }, 40, "two.go:67", #[⟨17, .data⟩, ⟨14, .chain⟩, ⟨14, .guard⟩], some (14, true)⟩) rfl (fun K hK => ?_) AllReadyH.nil)
        go_simp
        go_at_call 19; refine (HFEW.out _).mono ?_; rintro e wf ⟨rfl, hwf⟩; subst wf
        refine hK.out _ _ (by (try dsimp only); (with_reducible refine HS.out _ ?_); first | with_reducible exact hB6 | with_reducible exact hB5 | with_reducible exact (Below.refl _ W2).drew | with_reducible exact (Below.refl _ W2)) (fun hHeld => ?_)
        clear hK K
        (try simp only [Act.put, PM1, PM2, PM3])
        refine wpAnyH_ready (rs := [20]) (by as_aux_lemma => kernel_rfl) (by simp) (AllReadyH.cons (o := ⟨some 57, .call { callee := .value (.func 18), args := #[.tmp 52, .tmp 53, .tmp 55, .tmp 56], argTypes := #[24, 24, 40, 3] }, 4, "two.go:67", #[⟨15, .data⟩, ⟨16, .data⟩, ⟨18, .data⟩, ⟨19, .data⟩, ⟨18, .chain⟩, ⟨14, .guard⟩], some (14, true)⟩) rfl (fun K hK => ?_) AllReadyH.nil)
        go_simp
        go_at_call 18; refine (HDb.out _ (by first | exact hB6 | exact hB5 | exact (Below.refl _ W2).drew | exact Below.refl _ W2) (HD2.out H2.out)).mono ?_; rintro e w6 ⟨rfl, hb6⟩; have hB6 : Below W2.heap.size W2 w6 := (by first | exact hB5.trans (hb6.mono hB5.size) | exact (Below.refl _ W2).drew.trans hb6 | exact hb6)
        refine hK.out _ _ (by (try dsimp only); (with_reducible refine HS.out _ ?_); first | with_reducible exact hB6 | with_reducible exact hB5 | with_reducible exact (Below.refl _ W2).drew | with_reducible exact (Below.refl _ W2)) (fun hHeld => ?_)
        clear hK K
        (try simp only [Act.put, PM1, PM2, PM3])
        refine tky 21 ⟨some 58, .unOp Go.UnOp.not 4 (.tmp 57), 4, "two.go:67", #[⟨20, .data⟩, ⟨14, .guard⟩], some (14, true)⟩ (by intro w hSw; (try dsimp only at hSw); go_simp; all_goals with_reducible rfl) ?_
        (try simp only [Act.put, PM1, PM2, PM3])
        refine tky 22 ⟨some 59, .pick (.tmp 51) (.tmp 58) (.const (Go.Value.bool false)), 4, "two.go:67", #[⟨14, .data⟩, ⟨21, .data⟩, ⟨11, .guard⟩], some (11, false)⟩ (by intro w hSw; (try dsimp only at hSw); go_simp; all_goals with_reducible rfl) ?_
        (try simp only [Act.put, PM1, PM2, PM3])
        refine tky 23 ⟨some 60, .pick (.tmp 48) (.const (Go.Value.bool true)) (.tmp 59), 4, "two.go:67", #[⟨11, .data⟩, ⟨22, .data⟩], none⟩ (by intro w hSw; (try dsimp only at hSw); go_simp; all_goals with_reducible rfl) ?_
        (try simp only [Act.put, PM1, PM2, PM3])
        refine wpAnyH_done (by as_aux_lemma => kernel_rfl) ?_ _
        go_wp2
        go_meet
        exact ⟨rfl, by first | exact hB6 | exact hB5 | exact (Below.refl _ W2).drew | exact Below.refl _ _⟩
      · have hc2 : (e2 == 0) = false := by simp [h2]
        have H2 := hide h2
        clear h2
        refine wp_region_held_drew (S := (fun u => u.cell? ⟨w.heap.size, 0, none⟩ = some (.int .i64 r) ∧ u.cell? ⟨w.heap.size, 1, none⟩ = some (.slice a ns.length cap) ∧ u.cell? ⟨QA, 0, none⟩ = some (.int .i64 q1) ∧ u.cell? ⟨QA, 1, none⟩ = some (.slice g1 (List.length m1) c1) ∧ u.cell? ⟨QC, 0, none⟩ = some (.int .i64 q2) ∧ u.cell? ⟨QC, 1, none⟩ = some (.slice g2 (List.length m2) c2))) (by as_aux_lemma => kernel_rfl) (by (try dsimp only); (with_reducible refine HS.out _ ?_); first | with_reducible exact hB6 | with_reducible exact hB5 | with_reducible exact (Below.refl _ W2).drew | with_reducible exact (Below.refl _ W2)) (fun hHeld => ?_)
        refine tky 0 ⟨some 37, .move (.tmp 13), 30, "two.go:67", #[], none⟩ (by intro w hSw; (try dsimp only at hSw); go_simp; all_goals with_reducible rfl) ?_
        (try simp only [Act.put, PM1, PM2, PM3])
        refine tky 1 ⟨some 38, .binOp Go.BinOp.eql 30 (.tmp 37) (.const (Go.Value.int Go.IntKind.i64 0)) 30, 4, "two.go:67", #[⟨0, .data⟩], none⟩ (by intro w hSw; (try dsimp only at hSw); go_simp; all_goals with_reducible rfl) ?_
        (try simp only [Act.put, PM1, PM2, PM3])
        (try rw [hc1])
        refine tky 2 ⟨some 39, .move (.tmp 38), 4, "two.go:67", #[⟨1, .data⟩], none⟩ (by intro w hSw; (try dsimp only at hSw); go_simp; all_goals with_reducible rfl) ?_
        (try simp only [Act.put, PM1, PM2, PM3])
        refine tky 3 ⟨some 40, .load 24 (.tmp 5), 24, "two.go:67", #[⟨2, .guard⟩], some (2, true)⟩ (by intro w hSw; (try dsimp only at hSw); go_simp; all_goals with_reducible rfl) ?_
        (try simp only [Act.put, PM1, PM2, PM3])
        refine tky 4 ⟨some 41, .load 24 (.tmp 12), 24, "two.go:67", #[⟨2, .guard⟩], some (2, true)⟩ (by intro w hSw; (try dsimp only at hSw); go_simp; all_goals with_reducible rfl) ?_
        (try simp only [Act.put, PM1, PM2, PM3])
        refine tky 5 ⟨some 42, .move (.tmp 3), 40, "two.go:67", #[⟨2, .guard⟩], some (2, true)⟩ (by intro w hSw; (try dsimp only at hSw); go_simp; all_goals with_reducible rfl) ?_
        (try simp only [Act.put, PM1, PM2, PM3])
        refine tky 7 ⟨some 44, .move (.tmp 11), 3, "two.go:67", #[⟨2, .guard⟩], some (2, true)⟩ (by intro w hSw; (try dsimp only at hSw); go_simp; all_goals with_reducible rfl) ?_
        (try simp only [Act.put, PM1, PM2, PM3])
        refine wpAnyH_ready (rs := [6]) (by as_aux_lemma => kernel_rfl) (by simp) (AllReadyH.cons (o := ⟨some 43, .call { callee := .value (.func 19), args := #[.tmp 42], argTypes := #[40] }, 40, "two.go:67", #[⟨5, .data⟩, ⟨2, .chain⟩, ⟨2, .guard⟩], some (2, true)⟩) rfl (fun K hK => ?_) AllReadyH.nil)
        go_simp
        go_at_call 19; refine (HFEW.out _).mono ?_; rintro e wf ⟨rfl, hwf⟩; subst wf
        refine hK.out _ _ (by (try dsimp only); (with_reducible refine HS.out _ ?_); first | with_reducible exact hB6 | with_reducible exact hB5 | with_reducible exact (Below.refl _ W2).drew | with_reducible exact (Below.refl _ W2)) (fun hHeld => ?_)
        clear hK K
        (try simp only [Act.put, PM1, PM2, PM3])
        refine wpAnyH_ready (rs := [8]) (by as_aux_lemma => kernel_rfl) (by simp) (AllReadyH.cons (o := ⟨some 45, .call { callee := .value (.func 18), args := #[.tmp 40, .tmp 41, .tmp 43, .tmp 44], argTypes := #[24, 24, 40, 3] }, 4, "two.go:67", #[⟨3, .data⟩, ⟨4, .data⟩, ⟨6, .data⟩, ⟨7, .data⟩, ⟨6, .chain⟩, ⟨2, .guard⟩], some (2, true)⟩) rfl (fun K hK => ?_) AllReadyH.nil)
        go_simp
        go_at_call 18; refine (HDa.out _ (by first | exact hB6 | exact hB5 | exact (Below.refl _ W2).drew | exact Below.refl _ W2) (HD1.out H1.out)).mono ?_; rintro e w5 ⟨rfl, hb5⟩; have hB5 : Below W2.heap.size W2 w5 := (by first | exact hB5.trans (hb5.mono hB5.size) | exact (Below.refl _ W2).drew.trans hb5 | exact hb5)
        refine hK.out _ _ (by (try dsimp only); (with_reducible refine HS.out _ ?_); first | with_reducible exact hB6 | with_reducible exact hB5 | with_reducible exact (Below.refl _ W2).drew | with_reducible exact (Below.refl _ W2)) (fun hHeld => ?_)
        clear hK K
        (try simp only [Act.put, PM1, PM2, PM3])
        refine tky 9 ⟨some 46, .unOp Go.UnOp.not 4 (.tmp 45), 4, "two.go:67", #[⟨8, .data⟩, ⟨2, .guard⟩], some (2, true)⟩ (by intro w hSw; (try dsimp only at hSw); go_simp; all_goals with_reducible rfl) ?_
        (try simp only [Act.put, PM1, PM2, PM3])
        refine tky 10 ⟨some 47, .pick (.tmp 39) (.tmp 46) (.const (Go.Value.bool false)), 4, "two.go:67", #[⟨2, .data⟩, ⟨9, .data⟩], none⟩ (by intro w hSw; (try dsimp only at hSw); go_simp; all_goals with_reducible rfl) ?_
        (try simp only [Act.put, PM1, PM2, PM3])
        refine tky 11 ⟨some 48, .move (.tmp 47), 4, "two.go:67", #[⟨10, .data⟩, ⟨8, .chain⟩], none⟩ (by intro w hSw; (try dsimp only at hSw); go_simp; all_goals with_reducible rfl) ?_
        (try simp only [Act.put, PM1, PM2, PM3])
        refine tky 12 ⟨some 49, .move (.tmp 15), 30, "two.go:67", #[⟨11, .guard⟩], some (11, false)⟩ (by intro w hSw; (try dsimp only at hSw); go_simp; all_goals with_reducible rfl) ?_
        (try simp only [Act.put, PM1, PM2, PM3])
        refine tky 13 ⟨some 50, .binOp Go.BinOp.eql 30 (.tmp 49) (.const (Go.Value.int Go.IntKind.i64 0)) 30, 4, "two.go:67", #[⟨12, .data⟩, ⟨11, .guard⟩], some (11, false)⟩ (by intro w hSw; (try dsimp only at hSw); go_simp; all_goals with_reducible rfl) ?_
        (try simp only [Act.put, PM1, PM2, PM3])
        (try rw [hc2])
        refine tky 14 ⟨some 51, .move (.tmp 50), 4, "two.go:67", #[⟨13, .data⟩, ⟨11, .chain⟩, ⟨11, .guard⟩], some (11, false)⟩ (by intro w hSw; (try dsimp only at hSw); go_simp; all_goals with_reducible rfl) ?_
        (try simp only [Act.put, PM1, PM2, PM3])
        refine tkn 15 ⟨some 52, .load 24 (.tmp 5), 24, "two.go:67", #[⟨14, .guard⟩], some (14, true)⟩ ?_
        (try simp only [Act.put, PM1, PM2, PM3])
        refine tkn 16 ⟨some 53, .load 24 (.tmp 14), 24, "two.go:67", #[⟨14, .guard⟩], some (14, true)⟩ ?_
        (try simp only [Act.put, PM1, PM2, PM3])
        refine tkn 17 ⟨some 54, .move (.tmp 3), 40, "two.go:67", #[⟨14, .guard⟩], some (14, true)⟩ ?_
        (try simp only [Act.put, PM1, PM2, PM3])
        refine tkn 18 ⟨some 55, .call { callee := .value (.func 19), args := #[.tmp 54], argTypes := #[40] }, 40, "two.go:67", #[⟨17, .data⟩, ⟨14, .chain⟩, ⟨14, .guard⟩], some (14, true)⟩ ?_
        (try simp only [Act.put, PM1, PM2, PM3])
        refine tkn 19 ⟨some 56, .move (.tmp 11), 3, "two.go:67", #[⟨14, .guard⟩], some (14, true)⟩ ?_
        (try simp only [Act.put, PM1, PM2, PM3])
        refine tkn 20 ⟨some 57, .call { callee := .value (.func 18), args := #[.tmp 52, .tmp 53, .tmp 55, .tmp 56], argTypes := #[24, 24, 40, 3] }, 4, "two.go:67", #[⟨15, .data⟩, ⟨16, .data⟩, ⟨18, .data⟩, ⟨19, .data⟩, ⟨18, .chain⟩, ⟨14, .guard⟩], some (14, true)⟩ ?_
        (try simp only [Act.put, PM1, PM2, PM3])
        refine tkn 21 ⟨some 58, .unOp Go.UnOp.not 4 (.tmp 57), 4, "two.go:67", #[⟨20, .data⟩, ⟨14, .guard⟩], some (14, true)⟩ ?_
        (try simp only [Act.put, PM1, PM2, PM3])
        refine tky 22 ⟨some 59, .pick (.tmp 51) (.tmp 58) (.const (Go.Value.bool false)), 4, "two.go:67", #[⟨14, .data⟩, ⟨21, .data⟩, ⟨11, .guard⟩], some (11, false)⟩ (by intro w hSw; (try dsimp only at hSw); go_simp; all_goals with_reducible rfl) ?_
        (try simp only [Act.put, PM1, PM2, PM3])
        refine tky 23 ⟨some 60, .pick (.tmp 48) (.const (Go.Value.bool true)) (.tmp 59), 4, "two.go:67", #[⟨11, .data⟩, ⟨22, .data⟩], none⟩ (by intro w hSw; (try dsimp only at hSw); go_simp; all_goals with_reducible rfl) ?_
        (try simp only [Act.put, PM1, PM2, PM3])
        refine wpAnyH_done (by as_aux_lemma => kernel_rfl) ?_ _
        go_wp2
        go_meet
        exact ⟨rfl, by first | exact hB6 | exact hB5 | exact (Below.refl _ W2).drew | exact Below.refl _ _⟩
    · have hc1 : (e1 == 0) = false := by simp [h1]
      have H1 := hide h1
      clear h1
      by_cases h2 : e2 = 0
      · have hc2 : (e2 == 0) = true := by simp [h2]
        have H2 := hide h2
        clear h2
        refine wp_region_held_drew (S := (fun u => u.cell? ⟨w.heap.size, 0, none⟩ = some (.int .i64 r) ∧ u.cell? ⟨w.heap.size, 1, none⟩ = some (.slice a ns.length cap) ∧ u.cell? ⟨QA, 0, none⟩ = some (.int .i64 q1) ∧ u.cell? ⟨QA, 1, none⟩ = some (.slice g1 (List.length m1) c1) ∧ u.cell? ⟨QC, 0, none⟩ = some (.int .i64 q2) ∧ u.cell? ⟨QC, 1, none⟩ = some (.slice g2 (List.length m2) c2))) (by as_aux_lemma => kernel_rfl) (by (try dsimp only); (with_reducible refine HS.out _ ?_); first | with_reducible exact hB6 | with_reducible exact hB5 | with_reducible exact (Below.refl _ W2).drew | with_reducible exact (Below.refl _ W2)) (fun hHeld => ?_)
        refine tky 0 ⟨some 37, .move (.tmp 13), 30, "two.go:67", #[], none⟩ (by intro w hSw; (try dsimp only at hSw); go_simp; all_goals with_reducible rfl) ?_
        (try simp only [Act.put, PM1, PM2, PM3])
        refine tky 1 ⟨some 38, .binOp Go.BinOp.eql 30 (.tmp 37) (.const (Go.Value.int Go.IntKind.i64 0)) 30, 4, "two.go:67", #[⟨0, .data⟩], none⟩ (by intro w hSw; (try dsimp only at hSw); go_simp; all_goals with_reducible rfl) ?_
        (try simp only [Act.put, PM1, PM2, PM3])
        (try rw [hc1])
        refine tky 2 ⟨some 39, .move (.tmp 38), 4, "two.go:67", #[⟨1, .data⟩], none⟩ (by intro w hSw; (try dsimp only at hSw); go_simp; all_goals with_reducible rfl) ?_
        (try simp only [Act.put, PM1, PM2, PM3])
        refine tkn 3 ⟨some 40, .load 24 (.tmp 5), 24, "two.go:67", #[⟨2, .guard⟩], some (2, true)⟩ ?_
        (try simp only [Act.put, PM1, PM2, PM3])
        refine tkn 4 ⟨some 41, .load 24 (.tmp 12), 24, "two.go:67", #[⟨2, .guard⟩], some (2, true)⟩ ?_
        (try simp only [Act.put, PM1, PM2, PM3])
        refine tkn 5 ⟨some 42, .move (.tmp 3), 40, "two.go:67", #[⟨2, .guard⟩], some (2, true)⟩ ?_
        (try simp only [Act.put, PM1, PM2, PM3])
        refine tkn 6 ⟨some 43, .call { callee := .value (.func 19), args := #[.tmp 42], argTypes := #[40] }, 40, "two.go:67", #[⟨5, .data⟩, ⟨2, .chain⟩, ⟨2, .guard⟩], some (2, true)⟩ ?_
        (try simp only [Act.put, PM1, PM2, PM3])
        refine tkn 7 ⟨some 44, .move (.tmp 11), 3, "two.go:67", #[⟨2, .guard⟩], some (2, true)⟩ ?_
        (try simp only [Act.put, PM1, PM2, PM3])
        refine tkn 8 ⟨some 45, .call { callee := .value (.func 18), args := #[.tmp 40, .tmp 41, .tmp 43, .tmp 44], argTypes := #[24, 24, 40, 3] }, 4, "two.go:67", #[⟨3, .data⟩, ⟨4, .data⟩, ⟨6, .data⟩, ⟨7, .data⟩, ⟨6, .chain⟩, ⟨2, .guard⟩], some (2, true)⟩ ?_
        (try simp only [Act.put, PM1, PM2, PM3])
        refine tkn 9 ⟨some 46, .unOp Go.UnOp.not 4 (.tmp 45), 4, "two.go:67", #[⟨8, .data⟩, ⟨2, .guard⟩], some (2, true)⟩ ?_
        (try simp only [Act.put, PM1, PM2, PM3])
        refine tky 10 ⟨some 47, .pick (.tmp 39) (.tmp 46) (.const (Go.Value.bool false)), 4, "two.go:67", #[⟨2, .data⟩, ⟨9, .data⟩], none⟩ (by intro w hSw; (try dsimp only at hSw); go_simp; all_goals with_reducible rfl) ?_
        (try simp only [Act.put, PM1, PM2, PM3])
        refine tky 11 ⟨some 48, .move (.tmp 47), 4, "two.go:67", #[⟨10, .data⟩, ⟨8, .chain⟩], none⟩ (by intro w hSw; (try dsimp only at hSw); go_simp; all_goals with_reducible rfl) ?_
        (try simp only [Act.put, PM1, PM2, PM3])
        refine tky 12 ⟨some 49, .move (.tmp 15), 30, "two.go:67", #[⟨11, .guard⟩], some (11, false)⟩ (by intro w hSw; (try dsimp only at hSw); go_simp; all_goals with_reducible rfl) ?_
        (try simp only [Act.put, PM1, PM2, PM3])
        refine tky 13 ⟨some 50, .binOp Go.BinOp.eql 30 (.tmp 49) (.const (Go.Value.int Go.IntKind.i64 0)) 30, 4, "two.go:67", #[⟨12, .data⟩, ⟨11, .guard⟩], some (11, false)⟩ (by intro w hSw; (try dsimp only at hSw); go_simp; all_goals with_reducible rfl) ?_
        (try simp only [Act.put, PM1, PM2, PM3])
        (try rw [hc2])
        refine tky 14 ⟨some 51, .move (.tmp 50), 4, "two.go:67", #[⟨13, .data⟩, ⟨11, .chain⟩, ⟨11, .guard⟩], some (11, false)⟩ (by intro w hSw; (try dsimp only at hSw); go_simp; all_goals with_reducible rfl) ?_
        (try simp only [Act.put, PM1, PM2, PM3])
        refine tky 15 ⟨some 52, .load 24 (.tmp 5), 24, "two.go:67", #[⟨14, .guard⟩], some (14, true)⟩ (by intro w hSw; (try dsimp only at hSw); go_simp; all_goals with_reducible rfl) ?_
        (try simp only [Act.put, PM1, PM2, PM3])
        refine tky 16 ⟨some 53, .load 24 (.tmp 14), 24, "two.go:67", #[⟨14, .guard⟩], some (14, true)⟩ (by intro w hSw; (try dsimp only at hSw); go_simp; all_goals with_reducible rfl) ?_
        (try simp only [Act.put, PM1, PM2, PM3])
        refine tky 17 ⟨some 54, .move (.tmp 3), 40, "two.go:67", #[⟨14, .guard⟩], some (14, true)⟩ (by intro w hSw; (try dsimp only at hSw); go_simp; all_goals with_reducible rfl) ?_
        (try simp only [Act.put, PM1, PM2, PM3])
        refine tky 19 ⟨some 56, .move (.tmp 11), 3, "two.go:67", #[⟨14, .guard⟩], some (14, true)⟩ (by intro w hSw; (try dsimp only at hSw); go_simp; all_goals with_reducible rfl) ?_
        (try simp only [Act.put, PM1, PM2, PM3])
        refine wpAnyH_ready (rs := [18]) (by as_aux_lemma => kernel_rfl) (by simp) (AllReadyH.cons (o := ⟨some 55, .call { callee := .value (.func 19), args := #[.tmp 54], argTypes := #[40] }, 40, "two.go:67", #[⟨17, .data⟩, ⟨14, .chain⟩, ⟨14, .guard⟩], some (14, true)⟩) rfl (fun K hK => ?_) AllReadyH.nil)
        go_simp
        go_at_call 19; refine (HFEW.out _).mono ?_; rintro e wf ⟨rfl, hwf⟩; subst wf
        refine hK.out _ _ (by (try dsimp only); (with_reducible refine HS.out _ ?_); first | with_reducible exact hB6 | with_reducible exact hB5 | with_reducible exact (Below.refl _ W2).drew | with_reducible exact (Below.refl _ W2)) (fun hHeld => ?_)
        clear hK K
        (try simp only [Act.put, PM1, PM2, PM3])
        refine wpAnyH_ready (rs := [20]) (by as_aux_lemma => kernel_rfl) (by simp) (AllReadyH.cons (o := ⟨some 57, .call { callee := .value (.func 18), args := #[.tmp 52, .tmp 53, .tmp 55, .tmp 56], argTypes := #[24, 24, 40, 3] }, 4, "two.go:67", #[⟨15, .data⟩, ⟨16, .data⟩, ⟨18, .data⟩, ⟨19, .data⟩, ⟨18, .chain⟩, ⟨14, .guard⟩], some (14, true)⟩) rfl (fun K hK => ?_) AllReadyH.nil)
        go_simp
        go_at_call 18; refine (HDb.out _ (by first | exact hB6 | exact hB5 | exact (Below.refl _ W2).drew | exact Below.refl _ W2) (HD2.out H2.out)).mono ?_; rintro e w6 ⟨rfl, hb6⟩; have hB6 : Below W2.heap.size W2 w6 := (by first | exact hB5.trans (hb6.mono hB5.size) | exact (Below.refl _ W2).drew.trans hb6 | exact hb6)
        refine hK.out _ _ (by (try dsimp only); (with_reducible refine HS.out _ ?_); first | with_reducible exact hB6 | with_reducible exact hB5 | with_reducible exact (Below.refl _ W2).drew | with_reducible exact (Below.refl _ W2)) (fun hHeld => ?_)
        clear hK K
        (try simp only [Act.put, PM1, PM2, PM3])
        refine tky 21 ⟨some 58, .unOp Go.UnOp.not 4 (.tmp 57), 4, "two.go:67", #[⟨20, .data⟩, ⟨14, .guard⟩], some (14, true)⟩ (by intro w hSw; (try dsimp only at hSw); go_simp; all_goals with_reducible rfl) ?_
        (try simp only [Act.put, PM1, PM2, PM3])
        refine tky 22 ⟨some 59, .pick (.tmp 51) (.tmp 58) (.const (Go.Value.bool false)), 4, "two.go:67", #[⟨14, .data⟩, ⟨21, .data⟩, ⟨11, .guard⟩], some (11, false)⟩ (by intro w hSw; (try dsimp only at hSw); go_simp; all_goals with_reducible rfl) ?_
        (try simp only [Act.put, PM1, PM2, PM3])
        refine tky 23 ⟨some 60, .pick (.tmp 48) (.const (Go.Value.bool true)) (.tmp 59), 4, "two.go:67", #[⟨11, .data⟩, ⟨22, .data⟩], none⟩ (by intro w hSw; (try dsimp only at hSw); go_simp; all_goals with_reducible rfl) ?_
        (try simp only [Act.put, PM1, PM2, PM3])
        refine wpAnyH_done (by as_aux_lemma => kernel_rfl) ?_ _
        go_wp2
        go_meet
        exact ⟨rfl, by first | exact hB6 | exact hB5 | exact (Below.refl _ W2).drew | exact Below.refl _ _⟩
      · have hc2 : (e2 == 0) = false := by simp [h2]
        have H2 := hide h2
        clear h2
        refine wp_region_held_drew (S := (fun u => u.cell? ⟨w.heap.size, 0, none⟩ = some (.int .i64 r) ∧ u.cell? ⟨w.heap.size, 1, none⟩ = some (.slice a ns.length cap) ∧ u.cell? ⟨QA, 0, none⟩ = some (.int .i64 q1) ∧ u.cell? ⟨QA, 1, none⟩ = some (.slice g1 (List.length m1) c1) ∧ u.cell? ⟨QC, 0, none⟩ = some (.int .i64 q2) ∧ u.cell? ⟨QC, 1, none⟩ = some (.slice g2 (List.length m2) c2))) (by as_aux_lemma => kernel_rfl) (by (try dsimp only); (with_reducible refine HS.out _ ?_); first | with_reducible exact hB6 | with_reducible exact hB5 | with_reducible exact (Below.refl _ W2).drew | with_reducible exact (Below.refl _ W2)) (fun hHeld => ?_)
        refine tky 0 ⟨some 37, .move (.tmp 13), 30, "two.go:67", #[], none⟩ (by intro w hSw; (try dsimp only at hSw); go_simp; all_goals with_reducible rfl) ?_
        (try simp only [Act.put, PM1, PM2, PM3])
        refine tky 1 ⟨some 38, .binOp Go.BinOp.eql 30 (.tmp 37) (.const (Go.Value.int Go.IntKind.i64 0)) 30, 4, "two.go:67", #[⟨0, .data⟩], none⟩ (by intro w hSw; (try dsimp only at hSw); go_simp; all_goals with_reducible rfl) ?_
        (try simp only [Act.put, PM1, PM2, PM3])
        (try rw [hc1])
        refine tky 2 ⟨some 39, .move (.tmp 38), 4, "two.go:67", #[⟨1, .data⟩], none⟩ (by intro w hSw; (try dsimp only at hSw); go_simp; all_goals with_reducible rfl) ?_
        (try simp only [Act.put, PM1, PM2, PM3])
        refine tkn 3 ⟨some 40, .load 24 (.tmp 5), 24, "two.go:67", #[⟨2, .guard⟩], some (2, true)⟩ ?_
        (try simp only [Act.put, PM1, PM2, PM3])
        refine tkn 4 ⟨some 41, .load 24 (.tmp 12), 24, "two.go:67", #[⟨2, .guard⟩], some (2, true)⟩ ?_
        (try simp only [Act.put, PM1, PM2, PM3])
        refine tkn 5 ⟨some 42, .move (.tmp 3), 40, "two.go:67", #[⟨2, .guard⟩], some (2, true)⟩ ?_
        (try simp only [Act.put, PM1, PM2, PM3])
        refine tkn 6 ⟨some 43, .call { callee := .value (.func 19), args := #[.tmp 42], argTypes := #[40] }, 40, "two.go:67", #[⟨5, .data⟩, ⟨2, .chain⟩, ⟨2, .guard⟩], some (2, true)⟩ ?_
        (try simp only [Act.put, PM1, PM2, PM3])
        refine tkn 7 ⟨some 44, .move (.tmp 11), 3, "two.go:67", #[⟨2, .guard⟩], some (2, true)⟩ ?_
        (try simp only [Act.put, PM1, PM2, PM3])
        refine tkn 8 ⟨some 45, .call { callee := .value (.func 18), args := #[.tmp 40, .tmp 41, .tmp 43, .tmp 44], argTypes := #[24, 24, 40, 3] }, 4, "two.go:67", #[⟨3, .data⟩, ⟨4, .data⟩, ⟨6, .data⟩, ⟨7, .data⟩, ⟨6, .chain⟩, ⟨2, .guard⟩], some (2, true)⟩ ?_
        (try simp only [Act.put, PM1, PM2, PM3])
        refine tkn 9 ⟨some 46, .unOp Go.UnOp.not 4 (.tmp 45), 4, "two.go:67", #[⟨8, .data⟩, ⟨2, .guard⟩], some (2, true)⟩ ?_
        (try simp only [Act.put, PM1, PM2, PM3])
        refine tky 10 ⟨some 47, .pick (.tmp 39) (.tmp 46) (.const (Go.Value.bool false)), 4, "two.go:67", #[⟨2, .data⟩, ⟨9, .data⟩], none⟩ (by intro w hSw; (try dsimp only at hSw); go_simp; all_goals with_reducible rfl) ?_
        (try simp only [Act.put, PM1, PM2, PM3])
        refine tky 11 ⟨some 48, .move (.tmp 47), 4, "two.go:67", #[⟨10, .data⟩, ⟨8, .chain⟩], none⟩ (by intro w hSw; (try dsimp only at hSw); go_simp; all_goals with_reducible rfl) ?_
        (try simp only [Act.put, PM1, PM2, PM3])
        refine tky 12 ⟨some 49, .move (.tmp 15), 30, "two.go:67", #[⟨11, .guard⟩], some (11, false)⟩ (by intro w hSw; (try dsimp only at hSw); go_simp; all_goals with_reducible rfl) ?_
        (try simp only [Act.put, PM1, PM2, PM3])
        refine tky 13 ⟨some 50, .binOp Go.BinOp.eql 30 (.tmp 49) (.const (Go.Value.int Go.IntKind.i64 0)) 30, 4, "two.go:67", #[⟨12, .data⟩, ⟨11, .guard⟩], some (11, false)⟩ (by intro w hSw; (try dsimp only at hSw); go_simp; all_goals with_reducible rfl) ?_
        (try simp only [Act.put, PM1, PM2, PM3])
        (try rw [hc2])
        refine tky 14 ⟨some 51, .move (.tmp 50), 4, "two.go:67", #[⟨13, .data⟩, ⟨11, .chain⟩, ⟨11, .guard⟩], some (11, false)⟩ (by intro w hSw; (try dsimp only at hSw); go_simp; all_goals with_reducible rfl) ?_
        (try simp only [Act.put, PM1, PM2, PM3])
        refine tkn 15 ⟨some 52, .load 24 (.tmp 5), 24, "two.go:67", #[⟨14, .guard⟩], some (14, true)⟩ ?_
        (try simp only [Act.put, PM1, PM2, PM3])
        refine tkn 16 ⟨some 53, .load 24 (.tmp 14), 24, "two.go:67", #[⟨14, .guard⟩], some (14, true)⟩ ?_
        (try simp only [Act.put, PM1, PM2, PM3])
        refine tkn 17 ⟨some 54, .move (.tmp 3), 40, "two.go:67", #[⟨14, .guard⟩], some (14, true)⟩ ?_
        (try simp only [Act.put, PM1, PM2, PM3])
        refine tkn 18 ⟨some 55, .call { callee := .value (.func 19), args := #[.tmp 54], argTypes := #[40] }, 40, "two.go:67", #[⟨17, .data⟩, ⟨14, .chain⟩, ⟨14, .guard⟩], some (14, true)⟩ ?_
        (try simp only [Act.put, PM1, PM2, PM3])
        refine tkn 19 ⟨some 56, .move (.tmp 11), 3, "two.go:67", #[⟨14, .guard⟩], some (14, true)⟩ ?_
        (try simp only [Act.put, PM1, PM2, PM3])
        refine tkn 20 ⟨some 57, .call { callee := .value (.func 18), args := #[.tmp 52, .tmp 53, .tmp 55, .tmp 56], argTypes := #[24, 24, 40, 3] }, 4, "two.go:67", #[⟨15, .data⟩, ⟨16, .data⟩, ⟨18, .data⟩, ⟨19, .data⟩, ⟨18, .chain⟩, ⟨14, .guard⟩], some (14, true)⟩ ?_
        (try simp only [Act.put, PM1, PM2, PM3])
        refine tkn 21 ⟨some 58, .unOp Go.UnOp.not 4 (.tmp 57), 4, "two.go:67", #[⟨20, .data⟩, ⟨14, .guard⟩], some (14, true)⟩ ?_
        (try simp only [Act.put, PM1, PM2, PM3])
        refine tky 22 ⟨some 59, .pick (.tmp 51) (.tmp 58) (.const (Go.Value.bool false)), 4, "two.go:67", #[⟨14, .data⟩, ⟨21, .data⟩, ⟨11, .guard⟩], some (11, false)⟩ (by intro w hSw; (try dsimp only at hSw); go_simp; all_goals with_reducible rfl) ?_
        (try simp only [Act.put, PM1, PM2, PM3])
        refine tky 23 ⟨some 60, .pick (.tmp 48) (.const (Go.Value.bool true)) (.tmp 59), 4, "two.go:67", #[⟨11, .data⟩, ⟨22, .data⟩], none⟩ (by intro w hSw; (try dsimp only at hSw); go_simp; all_goals with_reducible rfl) ?_
        (try simp only [Act.put, PM1, PM2, PM3])
        refine wpAnyH_done (by as_aux_lemma => kernel_rfl) ?_ _
        go_wp2
        go_meet
        exact ⟨rfl, by first | exact hB6 | exact hB5 | exact (Below.refl _ W2).drew | exact Below.refl _ _⟩
  case rest =>
    obtain ⟨rfl, hBc⟩ := hcut
    replace HB := hide (HB.out.trans (hBc.mono HB.out.size))
    replace HP := hide ((hBc.block _ (blk_lt HP.out)).trans HP.out)
    replace HT := hide ((hBc.block _ (blk_lt HT.out)).trans HT.out)
    clear hBc pl al cl HS HDa HDb HNk HJk HA HC HM0 HM1 HD1 HD2
    generalize hW : wc = W3 at *
    clear hW
    go_upto_region 6 with fail
    have p0 := blk_cell HP.out 0
    have p1 := blk_cell HP.out 1
    simp at p0 p1
    have pl := blk_lt HP.out
    have t0 := blk_cell HT.out 0
    have t1 := blk_cell HT.out 1
    have t2 := blk_cell HT.out 2
    simp at t0 t1 t2
    have tl := blk_lt HT.out
    go_wp2_with fail
    refine (busyD_any r a cap ns t _ (HN.out.below HB.out)).mono ?_
    rintro e w4 ⟨a1, d1, a2, d2, pu1, tk1, e3, rfl, hx1, hx2, hO1, hb4⟩
    have hx : Below w4.heap.size w4 (w4.alloc (.cells #[.slice a1 (List.length pu1) d1, .slice a2 (List.length tk1) d2] 29)) := (Below.refl _ w4).alloc (Nat.le_refl _) _
    have hq : (w4.alloc (.cells #[.slice a1 (List.length pu1) d1, .slice a2 (List.length tk1) d2] 29)).heap[w4.heap.size]? = some (.cells #[.slice a1 (List.length pu1) d1, .slice a2 (List.length tk1) d2] 29 (0, 0)) := World.alloc_heap_new w4 _
    have hb' := hb4.trans (hx.mono hb4.size)
    replace HB := hide (HB.out.trans (hb'.mono HB.out.size))
    replace HP := hide ((hb'.block _ (blk_lt HP.out)).trans HP.out)
    replace HT := hide ((hb'.block _ (blk_lt HT.out)).trans HT.out)
    have HX1 := hide (hx1.below hx)
    have HX2 := hide (hx2.below hx)
    have HDO1 := hide (hO1)
    clear hb4 hb' hx hx1 hx2 hO1 p0 p1 pl t0 t1 t2 tl
    go_upto_region 7 with fail
    generalize (w4.alloc (.cells #[.slice a1 (List.length pu1) d1, .slice a2 (List.length tk1) d2] 29)) = W4 at HB HP HT HX1 HX2 hq ⊢
    generalize w4.heap.size = L1 at hq ⊢
    have HL1 := hide hq
    clear hq
    have p0 := blk_cell HP.out 0
    have p1 := blk_cell HP.out 1
    simp at p0 p1
    have pl := blk_lt HP.out
    have t0 := blk_cell HT.out 0
    have t1 := blk_cell HT.out 1
    have t2 := blk_cell HT.out 2
    simp at t0 t1 t2
    have tl := blk_lt HT.out
    go_wp2_with fail
    refine (rivalD_any r a cap ns t ba bc us _ (HN.out.below HB.out) (HU.out.below HB.out)).mono ?_
    rintro e w5 ⟨a3, d3, a4, d4, pu2, tk2, e5, rfl, hx3, hx4, hO2, hb5⟩
    have hx : Below w5.heap.size w5 (w5.alloc (.cells #[.slice a3 (List.length pu2) d3, .slice a4 (List.length tk2) d4] 29)) := (Below.refl _ w5).alloc (Nat.le_refl _) _
    have hq : (w5.alloc (.cells #[.slice a3 (List.length pu2) d3, .slice a4 (List.length tk2) d4] 29)).heap[w5.heap.size]? = some (.cells #[.slice a3 (List.length pu2) d3, .slice a4 (List.length tk2) d4] 29 (0, 0)) := World.alloc_heap_new w5 _
    have hb' := hb5.trans (hx.mono hb5.size)
    replace HB := hide (HB.out.trans (hb'.mono HB.out.size))
    replace HP := hide ((hb'.block _ (blk_lt HP.out)).trans HP.out)
    replace HT := hide ((hb'.block _ (blk_lt HT.out)).trans HT.out)
    replace HL1 := hide ((hb'.block _ (blk_lt HL1.out)).trans HL1.out)
    replace HX1 := hide (HX1.out.below hb')
    replace HX2 := hide (HX2.out.below hb')
    have HX3 := hide (hx3.below hx)
    have HX4 := hide (hx4.below hx)
    have HDO2 := hide (hO2)
    clear hb5 hb' hx hx3 hx4 hO2 p0 p1 pl t0 t1 t2 tl
    go_upto_region 8 with fail
    generalize (w5.alloc (.cells #[.slice a3 (List.length pu2) d3, .slice a4 (List.length tk2) d4] 29)) = W5 at HB HP HT HL1 HX1 HX2 HX3 HX4 hq ⊢
    generalize w5.heap.size = L2 at hq ⊢
    have HL2 := hide hq
    clear hq
    have p0 := blk_cell HP.out 0
    have p1 := blk_cell HP.out 1
    simp at p0 p1
    have pl := blk_lt HP.out
    have t0 := blk_cell HT.out 0
    have t1 := blk_cell HT.out 1
    have t2 := blk_cell HT.out 2
    simp at t0 t1 t2
    have tl := blk_lt HT.out
    have l0 := blk_cell HL1.out 0
    have l1 := blk_cell HL1.out 1
    simp at l0 l1
    have ll := blk_lt HL1.out
    go_wp2_with fail
    refine (applyD_any r a cap ns t a1 a2 d1 d2 pu1 tk1 _ (HN.out.below HB.out) HX1.out HX2.out HDO1.out).mono ?_
    rintro e w6 ⟨g3, q3, m3, c3, e4, rfl, hS3, hD3, hb6⟩
    have hx : Below w6.heap.size w6 (w6.alloc (.cells #[.int .i64 q3, .slice g3 (List.length m3) c3] 24)) := (Below.refl _ w6).alloc (Nat.le_refl _) _
    have hq : (w6.alloc (.cells #[.int .i64 q3, .slice g3 (List.length m3) c3] 24)).heap[w6.heap.size]? = some (.cells #[.int .i64 q3, .slice g3 (List.length m3) c3] 24 (0, 0)) := World.alloc_heap_new w6 _
    have hb' := hb6.trans (hx.mono hb6.size)
    replace HB := hide (HB.out.trans (hb'.mono HB.out.size))
    replace HP := hide ((hb'.block _ (blk_lt HP.out)).trans HP.out)
    replace HT := hide ((hb'.block _ (blk_lt HT.out)).trans HT.out)
    replace HL2 := hide ((hb'.block _ (blk_lt HL2.out)).trans HL2.out)
    replace HX3 := hide (HX3.out.below hb')
    replace HX4 := hide (HX4.out.below hb')
    have HM0 := hide (hS3.below hx)
    have HD3 := hide (hD3)
    clear hb6 hb' hx hS3 hD3 HX1 HX2 HL1 p0 p1 pl t0 t1 t2 tl l0 l1 ll
    go_upto_region 9 with fail
    generalize (w6.alloc (.cells #[.int .i64 q3, .slice g3 (List.length m3) c3] 24)) = W6 at HB HP HT HL2 HX3 HX4 HM0 hq ⊢
    generalize w6.heap.size = QA at hq ⊢
    have HA := hide hq
    clear hq
    have p0 := blk_cell HP.out 0
    have p1 := blk_cell HP.out 1
    simp at p0 p1
    have pl := blk_lt HP.out
    have t0 := blk_cell HT.out 0
    have t1 := blk_cell HT.out 1
    have t2 := blk_cell HT.out 2
    simp at t0 t1 t2
    have tl := blk_lt HT.out
    have l0 := blk_cell HL2.out 0
    have l1 := blk_cell HL2.out 1
    simp at l0 l1
    have ll := blk_lt HL2.out
    go_wp2_with fail
    refine (applyD_any r a cap ns t a3 a4 d3 d4 pu2 tk2 _ (HN.out.below HB.out) HX3.out HX4.out HDO2.out).mono ?_
    rintro e w7 ⟨g4, q4, m4, c4, e6, rfl, hS4, hD4, hb7⟩
    have hx : Below w7.heap.size w7 (w7.alloc (.cells #[.int .i64 q4, .slice g4 (List.length m4) c4] 24)) := (Below.refl _ w7).alloc (Nat.le_refl _) _
    have hq : (w7.alloc (.cells #[.int .i64 q4, .slice g4 (List.length m4) c4] 24)).heap[w7.heap.size]? = some (.cells #[.int .i64 q4, .slice g4 (List.length m4) c4] 24 (0, 0)) := World.alloc_heap_new w7 _
    have hb' := hb7.trans (hx.mono hb7.size)
    replace HB := hide (HB.out.trans (hb'.mono HB.out.size))
    replace HP := hide ((hb'.block _ (blk_lt HP.out)).trans HP.out)
    replace HA := hide ((hb'.block _ (blk_lt HA.out)).trans HA.out)
    replace HM0 := hide (HM0.out.below hb')
    have HM1 := hide (hS4.below hx)
    have HD4 := hide (hD4)
    clear hb7 hb' hx hS4 hD4 HX3 HX4 HL2 HT p0 p1 pl t0 t1 t2 tl l0 l1 ll
    go_upto_region 10 with fail
    generalize (w7.alloc (.cells #[.int .i64 q4, .slice g4 (List.length m4) c4] 24)) = W7 at HB HP HA HM0 HM1 hq ⊢
    generalize w7.heap.size = QC at hq ⊢
    have HC := hide hq
    clear hq
    have HNk := hide (HN.out.below HB.out)
    have HJk := hide (HJ.out.below HB.out)
    have HS : Hid (∀ u : World, Below W7.heap.size W7 u → u.cell? ⟨w.heap.size, 0, none⟩ = some (.int .i64 r) ∧ u.cell? ⟨w.heap.size, 1, none⟩ = some (.slice a ns.length cap) ∧ u.cell? ⟨QA, 0, none⟩ = some (.int .i64 q3) ∧ u.cell? ⟨QA, 1, none⟩ = some (.slice g3 (List.length m3) c3) ∧ u.cell? ⟨QC, 0, none⟩ = some (.int .i64 q4) ∧ u.cell? ⟨QC, 1, none⟩ = some (.slice g4 (List.length m4) c4)) := fun u h => by
      have k0 := (h.block _ (blk_lt HP.out)).trans HP.out
      have k1 := (h.block _ (blk_lt HA.out)).trans HA.out
      have k2 := (h.block _ (blk_lt HC.out)).trans HC.out
      refine ⟨?_, ?_, ?_, ?_, ?_, ?_⟩
      · rw [blk_cell k0]; rfl
      · rw [blk_cell k0]; rfl
      · rw [blk_cell k1]; rfl
      · rw [blk_cell k1]; rfl
      · rw [blk_cell k2]; rfl
      · rw [blk_cell k2]; rfl
    have HDa := hide (fun (u : World) (hB : Below W7.heap.size W7 u) (h : OkDo r ns q3 m3) => doesD_any r q3 a g3 cap c3 ns m3 ia ic jn n u h (HNk.out.below hB) (HM0.out.below hB) (HJk.out.below hB) hjc hj256 n0 n1)
    have HDb := hide (fun (u : World) (hB : Below W7.heap.size W7 u) (h : OkDo r ns q4 m4) => doesD_any r q4 a g4 cap c4 ns m4 ia ic jn n u h (HNk.out.below hB) (HM1.out.below hB) (HJk.out.below hB) hjc hj256 n0 n1)
    have pl := blk_lt HP.out
    have al := blk_lt HA.out
    have cl := blk_lt HC.out
    go_cut [119] from 88 to 119 (fun v wx => v = .bool false ∧ Below W7.heap.size W7 wx)
    case first =>
      by_cases h3 : e3 = 0
      · have hc3 : (e3 == 0) = true := by simp [h3]
        clear h3
        by_cases h4 : e4 = 0
        · have hc4 : (e4 == 0) = true := by simp [h4]
          have H4 := hide h4
          clear h4
          by_cases h5 : e5 = 0
          · have hc5 : (e5 == 0) = true := by simp [h5]
            clear h5
            by_cases h6 : e6 = 0
            · have hc6 : (e6 == 0) = true := by simp [h6]
              have H6 := hide h6
              clear h6
              refine wp_region_held_drew (S := (fun u => u.cell? ⟨w.heap.size, 0, none⟩ = some (.int .i64 r) ∧ u.cell? ⟨w.heap.size, 1, none⟩ = some (.slice a ns.length cap) ∧ u.cell? ⟨QA, 0, none⟩ = some (.int .i64 q3) ∧ u.cell? ⟨QA, 1, none⟩ = some (.slice g3 (List.length m3) c3) ∧ u.cell? ⟨QC, 0, none⟩ = some (.int .i64 q4) ∧ u.cell? ⟨QC, 1, none⟩ = some (.slice g4 (List.length m4) c4))) (by as_aux_lemma => kernel_rfl) (by (try dsimp only); (with_reducible refine HS.out _ ?_); first | with_reducible exact hB6 | with_reducible exact hB5 | with_reducible exact (Below.refl _ W7).drew | with_reducible exact (Below.refl _ W7)) (fun hHeld => ?_)
              refine tky 0 ⟨some 88, .move (.tmp 17), 30, "two.go:74", #[], none⟩ (by intro w hSw; (try dsimp only at hSw); go_simp; all_goals with_reducible rfl) ?_
              (try simp only [Act.put, PM1, PM2, PM3])
              refine tky 1 ⟨some 89, .binOp Go.BinOp.eql 30 (.tmp 88) (.const (Go.Value.int Go.IntKind.i64 0)) 30, 4, "two.go:74", #[⟨0, .data⟩], none⟩ (by intro w hSw; (try dsimp only at hSw); go_simp; all_goals with_reducible rfl) ?_
              (try simp only [Act.put, PM1, PM2, PM3])
              (try rw [hc3])
              refine tky 2 ⟨some 90, .move (.tmp 89), 4, "two.go:74", #[⟨1, .data⟩], none⟩ (by intro w hSw; (try dsimp only at hSw); go_simp; all_goals with_reducible rfl) ?_
              (try simp only [Act.put, PM1, PM2, PM3])
              refine tky 3 ⟨some 91, .move (.tmp 21), 30, "two.go:74", #[⟨2, .guard⟩], some (2, true)⟩ (by intro w hSw; (try dsimp only at hSw); go_simp; all_goals with_reducible rfl) ?_
              (try simp only [Act.put, PM1, PM2, PM3])
              refine tky 4 ⟨some 92, .binOp Go.BinOp.eql 30 (.tmp 91) (.const (Go.Value.int Go.IntKind.i64 0)) 30, 4, "two.go:74", #[⟨3, .data⟩, ⟨2, .guard⟩], some (2, true)⟩ (by intro w hSw; (try dsimp only at hSw); go_simp; all_goals with_reducible rfl) ?_
              (try simp only [Act.put, PM1, PM2, PM3])
              (try rw [hc4])
              refine tky 5 ⟨some 93, .pick (.tmp 90) (.tmp 92) (.const (Go.Value.bool false)), 4, "two.go:74", #[⟨2, .data⟩, ⟨4, .data⟩], none⟩ (by intro w hSw; (try dsimp only at hSw); go_simp; all_goals with_reducible rfl) ?_
              (try simp only [Act.put, PM1, PM2, PM3])
              refine tky 6 ⟨some 94, .move (.tmp 93), 4, "two.go:74", #[⟨5, .data⟩, ⟨2, .chain⟩], none⟩ (by intro w hSw; (try dsimp only at hSw); go_simp; all_goals with_reducible rfl) ?_
              (try simp only [Act.put, PM1, PM2, PM3])
              refine tky 7 ⟨some 95, .load 24 (.tmp 5), 24, "two.go:74", #[⟨6, .guard⟩], some (6, true)⟩ (by intro w hSw; (try dsimp only at hSw); go_simp; all_goals with_reducible rfl) ?_
              (try simp only [Act.put, PM1, PM2, PM3])
              refine tky 8 ⟨some 96, .load 24 (.tmp 20), 24, "two.go:74", #[⟨6, .guard⟩], some (6, true)⟩ (by intro w hSw; (try dsimp only at hSw); go_simp; all_goals with_reducible rfl) ?_
              (try simp only [Act.put, PM1, PM2, PM3])
              refine tky 9 ⟨some 97, .move (.tmp 3), 40, "two.go:74", #[⟨6, .guard⟩], some (6, true)⟩ (by intro w hSw; (try dsimp only at hSw); go_simp; all_goals with_reducible rfl) ?_
              (try simp only [Act.put, PM1, PM2, PM3])
              refine tky 11 ⟨some 99, .move (.tmp 11), 3, "two.go:74", #[⟨6, .guard⟩], some (6, true)⟩ (by intro w hSw; (try dsimp only at hSw); go_simp; all_goals with_reducible rfl) ?_
              (try simp only [Act.put, PM1, PM2, PM3])
              refine wpAnyH_ready (rs := [10]) (by as_aux_lemma => kernel_rfl) (by simp) (AllReadyH.cons (o := ⟨some 98, .call { callee := .value (.func 19), args := #[.tmp 97], argTypes := #[40] }, 40, "two.go:74", #[⟨9, .data⟩, ⟨6, .chain⟩, ⟨6, .guard⟩], some (6, true)⟩) rfl (fun K hK => ?_) AllReadyH.nil)
              go_simp
              go_at_call 19; refine (HFEW.out _).mono ?_; rintro e wf ⟨rfl, hwf⟩; subst wf
              refine hK.out _ _ (by (try dsimp only); (with_reducible refine HS.out _ ?_); first | with_reducible exact hB6 | with_reducible exact hB5 | with_reducible exact (Below.refl _ W7).drew | with_reducible exact (Below.refl _ W7)) (fun hHeld => ?_)
              clear hK K
              (try simp only [Act.put, PM1, PM2, PM3])
              refine wpAnyH_ready (rs := [12]) (by as_aux_lemma => kernel_rfl) (by simp) (AllReadyH.cons (o := ⟨some 100, .call { callee := .value (.func 18), args := #[.tmp 95, .tmp 96, .tmp 98, .tmp 99], argTypes := #[24, 24, 40, 3] }, 4, "two.go:74", #[⟨7, .data⟩, ⟨8, .data⟩, ⟨10, .data⟩, ⟨11, .data⟩, ⟨10, .chain⟩, ⟨6, .guard⟩], some (6, true)⟩) rfl (fun K hK => ?_) AllReadyH.nil)
              go_simp
              go_at_call 18; refine (HDa.out _ (by first | exact hB6 | exact hB5 | exact (Below.refl _ W7).drew | exact Below.refl _ W7) (HD3.out H4.out)).mono ?_; rintro e w5 ⟨rfl, hb5⟩; have hB5 : Below W7.heap.size W7 w5 := (by first | exact hB5.trans (hb5.mono hB5.size) | exact (Below.refl _ W7).drew.trans hb5 | exact hb5)
              refine hK.out _ _ (by (try dsimp only); (with_reducible refine HS.out _ ?_); first | with_reducible exact hB6 | with_reducible exact hB5 | with_reducible exact (Below.refl _ W7).drew | with_reducible exact (Below.refl _ W7)) (fun hHeld => ?_)
              clear hK K
              (try simp only [Act.put, PM1, PM2, PM3])
              refine tky 13 ⟨some 101, .unOp Go.UnOp.not 4 (.tmp 100), 4, "two.go:74", #[⟨12, .data⟩, ⟨6, .guard⟩], some (6, true)⟩ (by intro w hSw; (try dsimp only at hSw); go_simp; all_goals with_reducible rfl) ?_
              (try simp only [Act.put, PM1, PM2, PM3])
              refine tky 14 ⟨some 102, .pick (.tmp 94) (.tmp 101) (.const (Go.Value.bool false)), 4, "two.go:74", #[⟨6, .data⟩, ⟨13, .data⟩], none⟩ (by intro w hSw; (try dsimp only at hSw); go_simp; all_goals with_reducible rfl) ?_
              (try simp only [Act.put, PM1, PM2, PM3])
              refine tky 15 ⟨some 103, .move (.tmp 102), 4, "two.go:74", #[⟨14, .data⟩, ⟨12, .chain⟩], none⟩ (by intro w hSw; (try dsimp only at hSw); go_simp; all_goals with_reducible rfl) ?_
              (try simp only [Act.put, PM1, PM2, PM3])
              refine tky 16 ⟨some 104, .move (.tmp 19), 30, "two.go:74", #[⟨15, .guard⟩], some (15, false)⟩ (by intro w hSw; (try dsimp only at hSw); go_simp; all_goals with_reducible rfl) ?_
              (try simp only [Act.put, PM1, PM2, PM3])
              refine tky 17 ⟨some 105, .binOp Go.BinOp.eql 30 (.tmp 104) (.const (Go.Value.int Go.IntKind.i64 0)) 30, 4, "two.go:74", #[⟨16, .data⟩, ⟨15, .guard⟩], some (15, false)⟩ (by intro w hSw; (try dsimp only at hSw); go_simp; all_goals with_reducible rfl) ?_
              (try simp only [Act.put, PM1, PM2, PM3])
              (try rw [hc5])
              refine tky 18 ⟨some 106, .move (.tmp 105), 4, "two.go:74", #[⟨17, .data⟩, ⟨15, .chain⟩, ⟨15, .guard⟩], some (15, false)⟩ (by intro w hSw; (try dsimp only at hSw); go_simp; all_goals with_reducible rfl) ?_
              (try simp only [Act.put, PM1, PM2, PM3])
              refine tky 19 ⟨some 107, .move (.tmp 23), 30, "two.go:74", #[⟨18, .guard⟩], some (18, true)⟩ (by intro w hSw; (try dsimp only at hSw); go_simp; all_goals with_reducible rfl) ?_
              (try simp only [Act.put, PM1, PM2, PM3])
              refine tky 20 ⟨some 108, .binOp Go.BinOp.eql 30 (.tmp 107) (.const (Go.Value.int Go.IntKind.i64 0)) 30, 4, "two.go:74", #[⟨19, .data⟩, ⟨18, .guard⟩], some (18, true)⟩ (by intro w hSw; (try dsimp only at hSw); go_simp; all_goals with_reducible rfl) ?_
              (try simp only [Act.put, PM1, PM2, PM3])
              (try rw [hc6])
              refine tky 21 ⟨some 109, .pick (.tmp 106) (.tmp 108) (.const (Go.Value.bool false)), 4, "two.go:74", #[⟨18, .data⟩, ⟨20, .data⟩, ⟨15, .guard⟩], some (15, false)⟩ (by intro w hSw; (try dsimp only at hSw); go_simp; all_goals with_reducible rfl) ?_
              (try simp only [Act.put, PM1, PM2, PM3])
              refine tky 22 ⟨some 110, .move (.tmp 109), 4, "two.go:74", #[⟨21, .data⟩, ⟨18, .chain⟩, ⟨15, .guard⟩], some (15, false)⟩ (by intro w hSw; (try dsimp only at hSw); go_simp; all_goals with_reducible rfl) ?_
              (try simp only [Act.put, PM1, PM2, PM3])
              refine tky 23 ⟨some 111, .load 24 (.tmp 5), 24, "two.go:74", #[⟨22, .guard⟩], some (22, true)⟩ (by intro w hSw; (try dsimp only at hSw); go_simp; all_goals with_reducible rfl) ?_
              (try simp only [Act.put, PM1, PM2, PM3])
              refine tky 24 ⟨some 112, .load 24 (.tmp 22), 24, "two.go:74", #[⟨22, .guard⟩], some (22, true)⟩ (by intro w hSw; (try dsimp only at hSw); go_simp; all_goals with_reducible rfl) ?_
              (try simp only [Act.put, PM1, PM2, PM3])
              refine tky 25 ⟨some 113, .move (.tmp 3), 40, "two.go:74", #[⟨22, .guard⟩], some (22, true)⟩ (by intro w hSw; (try dsimp only at hSw); go_simp; all_goals with_reducible rfl) ?_
              (try simp only [Act.put, PM1, PM2, PM3])
              refine tky 27 ⟨some 115, .move (.tmp 11), 3, "two.go:74", #[⟨22, .guard⟩], some (22, true)⟩ (by intro w hSw; (try dsimp only at hSw); go_simp; all_goals with_reducible rfl) ?_
              (try simp only [Act.put, PM1, PM2, PM3])
              refine wpAnyH_ready (rs := [26]) (by as_aux_lemma => kernel_rfl) (by simp) (AllReadyH.cons (o := ⟨some 114, .call { callee := .value (.func 19), args := #[.tmp 113], argTypes := #[40] }, 40, "two.go:74", #[⟨25, .data⟩, ⟨22, .chain⟩, ⟨22, .guard⟩], some (22, true)⟩) rfl (fun K hK => ?_) AllReadyH.nil)
              go_simp
              go_at_call 19; refine (HFEW.out _).mono ?_; rintro e wf ⟨rfl, hwf⟩; subst wf
              refine hK.out _ _ (by (try dsimp only); (with_reducible refine HS.out _ ?_); first | with_reducible exact hB6 | with_reducible exact hB5 | with_reducible exact (Below.refl _ W7).drew | with_reducible exact (Below.refl _ W7)) (fun hHeld => ?_)
              clear hK K
              (try simp only [Act.put, PM1, PM2, PM3])
              refine wpAnyH_ready (rs := [28]) (by as_aux_lemma => kernel_rfl) (by simp) (AllReadyH.cons (o := ⟨some 116, .call { callee := .value (.func 18), args := #[.tmp 111, .tmp 112, .tmp 114, .tmp 115], argTypes := #[24, 24, 40, 3] }, 4, "two.go:74", #[⟨23, .data⟩, ⟨24, .data⟩, ⟨26, .data⟩, ⟨27, .data⟩, ⟨26, .chain⟩, ⟨22, .guard⟩], some (22, true)⟩) rfl (fun K hK => ?_) AllReadyH.nil)
              go_simp
              go_at_call 18; refine (HDb.out _ (by first | exact hB6 | exact hB5 | exact (Below.refl _ W7).drew | exact Below.refl _ W7) (HD4.out H6.out)).mono ?_; rintro e w6 ⟨rfl, hb6⟩; have hB6 : Below W7.heap.size W7 w6 := (by first | exact hB5.trans (hb6.mono hB5.size) | exact (Below.refl _ W7).drew.trans hb6 | exact hb6)
              refine hK.out _ _ (by (try dsimp only); (with_reducible refine HS.out _ ?_); first | with_reducible exact hB6 | with_reducible exact hB5 | with_reducible exact (Below.refl _ W7).drew | with_reducible exact (Below.refl _ W7)) (fun hHeld => ?_)
              clear hK K
              (try simp only [Act.put, PM1, PM2, PM3])
              refine tky 29 ⟨some 117, .unOp Go.UnOp.not 4 (.tmp 116), 4, "two.go:74", #[⟨28, .data⟩, ⟨22, .guard⟩], some (22, true)⟩ (by intro w hSw; (try dsimp only at hSw); go_simp; all_goals with_reducible rfl) ?_
              (try simp only [Act.put, PM1, PM2, PM3])
              refine tky 30 ⟨some 118, .pick (.tmp 110) (.tmp 117) (.const (Go.Value.bool false)), 4, "two.go:74", #[⟨22, .data⟩, ⟨29, .data⟩, ⟨15, .guard⟩], some (15, false)⟩ (by intro w hSw; (try dsimp only at hSw); go_simp; all_goals with_reducible rfl) ?_
              (try simp only [Act.put, PM1, PM2, PM3])
              refine tky 31 ⟨some 119, .pick (.tmp 103) (.const (Go.Value.bool true)) (.tmp 118), 4, "two.go:74", #[⟨15, .data⟩, ⟨30, .data⟩], none⟩ (by intro w hSw; (try dsimp only at hSw); go_simp; all_goals with_reducible rfl) ?_
              (try simp only [Act.put, PM1, PM2, PM3])
              refine wpAnyH_done (by as_aux_lemma => kernel_rfl) ?_ _
              go_wp2
              go_meet
              exact ⟨rfl, by first | exact hB6 | exact hB5 | exact (Below.refl _ W7).drew | exact Below.refl _ _⟩
            · have hc6 : (e6 == 0) = false := by simp [h6]
              have H6 := hide h6
              clear h6
              refine wp_region_held_drew (S := (fun u => u.cell? ⟨w.heap.size, 0, none⟩ = some (.int .i64 r) ∧ u.cell? ⟨w.heap.size, 1, none⟩ = some (.slice a ns.length cap) ∧ u.cell? ⟨QA, 0, none⟩ = some (.int .i64 q3) ∧ u.cell? ⟨QA, 1, none⟩ = some (.slice g3 (List.length m3) c3) ∧ u.cell? ⟨QC, 0, none⟩ = some (.int .i64 q4) ∧ u.cell? ⟨QC, 1, none⟩ = some (.slice g4 (List.length m4) c4))) (by as_aux_lemma => kernel_rfl) (by (try dsimp only); (with_reducible refine HS.out _ ?_); first | with_reducible exact hB6 | with_reducible exact hB5 | with_reducible exact (Below.refl _ W7).drew | with_reducible exact (Below.refl _ W7)) (fun hHeld => ?_)
              refine tky 0 ⟨some 88, .move (.tmp 17), 30, "two.go:74", #[], none⟩ (by intro w hSw; (try dsimp only at hSw); go_simp; all_goals with_reducible rfl) ?_
              (try simp only [Act.put, PM1, PM2, PM3])
              refine tky 1 ⟨some 89, .binOp Go.BinOp.eql 30 (.tmp 88) (.const (Go.Value.int Go.IntKind.i64 0)) 30, 4, "two.go:74", #[⟨0, .data⟩], none⟩ (by intro w hSw; (try dsimp only at hSw); go_simp; all_goals with_reducible rfl) ?_
              (try simp only [Act.put, PM1, PM2, PM3])
              (try rw [hc3])
              refine tky 2 ⟨some 90, .move (.tmp 89), 4, "two.go:74", #[⟨1, .data⟩], none⟩ (by intro w hSw; (try dsimp only at hSw); go_simp; all_goals with_reducible rfl) ?_
              (try simp only [Act.put, PM1, PM2, PM3])
              refine tky 3 ⟨some 91, .move (.tmp 21), 30, "two.go:74", #[⟨2, .guard⟩], some (2, true)⟩ (by intro w hSw; (try dsimp only at hSw); go_simp; all_goals with_reducible rfl) ?_
              (try simp only [Act.put, PM1, PM2, PM3])
              refine tky 4 ⟨some 92, .binOp Go.BinOp.eql 30 (.tmp 91) (.const (Go.Value.int Go.IntKind.i64 0)) 30, 4, "two.go:74", #[⟨3, .data⟩, ⟨2, .guard⟩], some (2, true)⟩ (by intro w hSw; (try dsimp only at hSw); go_simp; all_goals with_reducible rfl) ?_
              (try simp only [Act.put, PM1, PM2, PM3])
              (try rw [hc4])
              refine tky 5 ⟨some 93, .pick (.tmp 90) (.tmp 92) (.const (Go.Value.bool false)), 4, "two.go:74", #[⟨2, .data⟩, ⟨4, .data⟩], none⟩ (by intro w hSw; (try dsimp only at hSw); go_simp; all_goals with_reducible rfl) ?_
              (try simp only [Act.put, PM1, PM2, PM3])
              refine tky 6 ⟨some 94, .move (.tmp 93), 4, "two.go:74", #[⟨5, .data⟩, ⟨2, .chain⟩], none⟩ (by intro w hSw; (try dsimp only at hSw); go_simp; all_goals with_reducible rfl) ?_
              (try simp only [Act.put, PM1, PM2, PM3])
              refine tky 7 ⟨some 95, .load 24 (.tmp 5), 24, "two.go:74", #[⟨6, .guard⟩], some (6, true)⟩ (by intro w hSw; (try dsimp only at hSw); go_simp; all_goals with_reducible rfl) ?_
              (try simp only [Act.put, PM1, PM2, PM3])
              refine tky 8 ⟨some 96, .load 24 (.tmp 20), 24, "two.go:74", #[⟨6, .guard⟩], some (6, true)⟩ (by intro w hSw; (try dsimp only at hSw); go_simp; all_goals with_reducible rfl) ?_
              (try simp only [Act.put, PM1, PM2, PM3])
              refine tky 9 ⟨some 97, .move (.tmp 3), 40, "two.go:74", #[⟨6, .guard⟩], some (6, true)⟩ (by intro w hSw; (try dsimp only at hSw); go_simp; all_goals with_reducible rfl) ?_
              (try simp only [Act.put, PM1, PM2, PM3])
              refine tky 11 ⟨some 99, .move (.tmp 11), 3, "two.go:74", #[⟨6, .guard⟩], some (6, true)⟩ (by intro w hSw; (try dsimp only at hSw); go_simp; all_goals with_reducible rfl) ?_
              (try simp only [Act.put, PM1, PM2, PM3])
              refine wpAnyH_ready (rs := [10]) (by as_aux_lemma => kernel_rfl) (by simp) (AllReadyH.cons (o := ⟨some 98, .call { callee := .value (.func 19), args := #[.tmp 97], argTypes := #[40] }, 40, "two.go:74", #[⟨9, .data⟩, ⟨6, .chain⟩, ⟨6, .guard⟩], some (6, true)⟩) rfl (fun K hK => ?_) AllReadyH.nil)
              go_simp
              go_at_call 19; refine (HFEW.out _).mono ?_; rintro e wf ⟨rfl, hwf⟩; subst wf
              refine hK.out _ _ (by (try dsimp only); (with_reducible refine HS.out _ ?_); first | with_reducible exact hB6 | with_reducible exact hB5 | with_reducible exact (Below.refl _ W7).drew | with_reducible exact (Below.refl _ W7)) (fun hHeld => ?_)
              clear hK K
              (try simp only [Act.put, PM1, PM2, PM3])
              refine wpAnyH_ready (rs := [12]) (by as_aux_lemma => kernel_rfl) (by simp) (AllReadyH.cons (o := ⟨some 100, .call { callee := .value (.func 18), args := #[.tmp 95, .tmp 96, .tmp 98, .tmp 99], argTypes := #[24, 24, 40, 3] }, 4, "two.go:74", #[⟨7, .data⟩, ⟨8, .data⟩, ⟨10, .data⟩, ⟨11, .data⟩, ⟨10, .chain⟩, ⟨6, .guard⟩], some (6, true)⟩) rfl (fun K hK => ?_) AllReadyH.nil)
              go_simp
              go_at_call 18; refine (HDa.out _ (by first | exact hB6 | exact hB5 | exact (Below.refl _ W7).drew | exact Below.refl _ W7) (HD3.out H4.out)).mono ?_; rintro e w5 ⟨rfl, hb5⟩; have hB5 : Below W7.heap.size W7 w5 := (by first | exact hB5.trans (hb5.mono hB5.size) | exact (Below.refl _ W7).drew.trans hb5 | exact hb5)
              refine hK.out _ _ (by (try dsimp only); (with_reducible refine HS.out _ ?_); first | with_reducible exact hB6 | with_reducible exact hB5 | with_reducible exact (Below.refl _ W7).drew | with_reducible exact (Below.refl _ W7)) (fun hHeld => ?_)
              clear hK K
              (try simp only [Act.put, PM1, PM2, PM3])
              refine tky 13 ⟨some 101, .unOp Go.UnOp.not 4 (.tmp 100), 4, "two.go:74", #[⟨12, .data⟩, ⟨6, .guard⟩], some (6, true)⟩ (by intro w hSw; (try dsimp only at hSw); go_simp; all_goals with_reducible rfl) ?_
              (try simp only [Act.put, PM1, PM2, PM3])
              refine tky 14 ⟨some 102, .pick (.tmp 94) (.tmp 101) (.const (Go.Value.bool false)), 4, "two.go:74", #[⟨6, .data⟩, ⟨13, .data⟩], none⟩ (by intro w hSw; (try dsimp only at hSw); go_simp; all_goals with_reducible rfl) ?_
              (try simp only [Act.put, PM1, PM2, PM3])
              refine tky 15 ⟨some 103, .move (.tmp 102), 4, "two.go:74", #[⟨14, .data⟩, ⟨12, .chain⟩], none⟩ (by intro w hSw; (try dsimp only at hSw); go_simp; all_goals with_reducible rfl) ?_
              (try simp only [Act.put, PM1, PM2, PM3])
              refine tky 16 ⟨some 104, .move (.tmp 19), 30, "two.go:74", #[⟨15, .guard⟩], some (15, false)⟩ (by intro w hSw; (try dsimp only at hSw); go_simp; all_goals with_reducible rfl) ?_
              (try simp only [Act.put, PM1, PM2, PM3])
              refine tky 17 ⟨some 105, .binOp Go.BinOp.eql 30 (.tmp 104) (.const (Go.Value.int Go.IntKind.i64 0)) 30, 4, "two.go:74", #[⟨16, .data⟩, ⟨15, .guard⟩], some (15, false)⟩ (by intro w hSw; (try dsimp only at hSw); go_simp; all_goals with_reducible rfl) ?_
              (try simp only [Act.put, PM1, PM2, PM3])
              (try rw [hc5])
              refine tky 18 ⟨some 106, .move (.tmp 105), 4, "two.go:74", #[⟨17, .data⟩, ⟨15, .chain⟩, ⟨15, .guard⟩], some (15, false)⟩ (by intro w hSw; (try dsimp only at hSw); go_simp; all_goals with_reducible rfl) ?_
              (try simp only [Act.put, PM1, PM2, PM3])
              refine tky 19 ⟨some 107, .move (.tmp 23), 30, "two.go:74", #[⟨18, .guard⟩], some (18, true)⟩ (by intro w hSw; (try dsimp only at hSw); go_simp; all_goals with_reducible rfl) ?_
              (try simp only [Act.put, PM1, PM2, PM3])
              refine tky 20 ⟨some 108, .binOp Go.BinOp.eql 30 (.tmp 107) (.const (Go.Value.int Go.IntKind.i64 0)) 30, 4, "two.go:74", #[⟨19, .data⟩, ⟨18, .guard⟩], some (18, true)⟩ (by intro w hSw; (try dsimp only at hSw); go_simp; all_goals with_reducible rfl) ?_
              (try simp only [Act.put, PM1, PM2, PM3])
              (try rw [hc6])
              refine tky 21 ⟨some 109, .pick (.tmp 106) (.tmp 108) (.const (Go.Value.bool false)), 4, "two.go:74", #[⟨18, .data⟩, ⟨20, .data⟩, ⟨15, .guard⟩], some (15, false)⟩ (by intro w hSw; (try dsimp only at hSw); go_simp; all_goals with_reducible rfl) ?_
              (try simp only [Act.put, PM1, PM2, PM3])
              refine tky 22 ⟨some 110, .move (.tmp 109), 4, "two.go:74", #[⟨21, .data⟩, ⟨18, .chain⟩, ⟨15, .guard⟩], some (15, false)⟩ (by intro w hSw; (try dsimp only at hSw); go_simp; all_goals with_reducible rfl) ?_
              (try simp only [Act.put, PM1, PM2, PM3])
              refine tkn 23 ⟨some 111, .load 24 (.tmp 5), 24, "two.go:74", #[⟨22, .guard⟩], some (22, true)⟩ ?_
              (try simp only [Act.put, PM1, PM2, PM3])
              refine tkn 24 ⟨some 112, .load 24 (.tmp 22), 24, "two.go:74", #[⟨22, .guard⟩], some (22, true)⟩ ?_
              (try simp only [Act.put, PM1, PM2, PM3])
              refine tkn 25 ⟨some 113, .move (.tmp 3), 40, "two.go:74", #[⟨22, .guard⟩], some (22, true)⟩ ?_
              (try simp only [Act.put, PM1, PM2, PM3])
              refine tkn 26 ⟨some 114, .call { callee := .value (.func 19), args := #[.tmp 113], argTypes := #[40] }, 40, "two.go:74", #[⟨25, .data⟩, ⟨22, .chain⟩, ⟨22, .guard⟩], some (22, true)⟩ ?_
              (try simp only [Act.put, PM1, PM2, PM3])
              refine tkn 27 ⟨some 115, .move (.tmp 11), 3, "two.go:74", #[⟨22, .guard⟩], some (22, true)⟩ ?_
              (try simp only [Act.put, PM1, PM2, PM3])
              refine tkn 28 ⟨some 116, .call { callee := .value (.func 18), args := #[.tmp 111, .tmp 112, .tmp 114, .tmp 115], argTypes := #[24, 24, 40, 3] }, 4, "two.go:74", #[⟨23, .data⟩, ⟨24, .data⟩, ⟨26, .data⟩, ⟨27, .data⟩, ⟨26, .chain⟩, ⟨22, .guard⟩], some (22, true)⟩ ?_
              (try simp only [Act.put, PM1, PM2, PM3])
              refine tkn 29 ⟨some 117, .unOp Go.UnOp.not 4 (.tmp 116), 4, "two.go:74", #[⟨28, .data⟩, ⟨22, .guard⟩], some (22, true)⟩ ?_
              (try simp only [Act.put, PM1, PM2, PM3])
              refine tky 30 ⟨some 118, .pick (.tmp 110) (.tmp 117) (.const (Go.Value.bool false)), 4, "two.go:74", #[⟨22, .data⟩, ⟨29, .data⟩, ⟨15, .guard⟩], some (15, false)⟩ (by intro w hSw; (try dsimp only at hSw); go_simp; all_goals with_reducible rfl) ?_
              (try simp only [Act.put, PM1, PM2, PM3])
              refine tky 31 ⟨some 119, .pick (.tmp 103) (.const (Go.Value.bool true)) (.tmp 118), 4, "two.go:74", #[⟨15, .data⟩, ⟨30, .data⟩], none⟩ (by intro w hSw; (try dsimp only at hSw); go_simp; all_goals with_reducible rfl) ?_
              (try simp only [Act.put, PM1, PM2, PM3])
              refine wpAnyH_done (by as_aux_lemma => kernel_rfl) ?_ _
              go_wp2
              go_meet
              exact ⟨rfl, by first | exact hB6 | exact hB5 | exact (Below.refl _ W7).drew | exact Below.refl _ _⟩
          · have hc5 : (e5 == 0) = false := by simp [h5]
            clear h5
            refine wp_region_held_drew (S := (fun u => u.cell? ⟨w.heap.size, 0, none⟩ = some (.int .i64 r) ∧ u.cell? ⟨w.heap.size, 1, none⟩ = some (.slice a ns.length cap) ∧ u.cell? ⟨QA, 0, none⟩ = some (.int .i64 q3) ∧ u.cell? ⟨QA, 1, none⟩ = some (.slice g3 (List.length m3) c3) ∧ u.cell? ⟨QC, 0, none⟩ = some (.int .i64 q4) ∧ u.cell? ⟨QC, 1, none⟩ = some (.slice g4 (List.length m4) c4))) (by as_aux_lemma => kernel_rfl) (by (try dsimp only); (with_reducible refine HS.out _ ?_); first | with_reducible exact hB6 | with_reducible exact hB5 | with_reducible exact (Below.refl _ W7).drew | with_reducible exact (Below.refl _ W7)) (fun hHeld => ?_)
            refine tky 0 ⟨some 88, .move (.tmp 17), 30, "two.go:74", #[], none⟩ (by intro w hSw; (try dsimp only at hSw); go_simp; all_goals with_reducible rfl) ?_
            (try simp only [Act.put, PM1, PM2, PM3])
            refine tky 1 ⟨some 89, .binOp Go.BinOp.eql 30 (.tmp 88) (.const (Go.Value.int Go.IntKind.i64 0)) 30, 4, "two.go:74", #[⟨0, .data⟩], none⟩ (by intro w hSw; (try dsimp only at hSw); go_simp; all_goals with_reducible rfl) ?_
            (try simp only [Act.put, PM1, PM2, PM3])
            (try rw [hc3])
            refine tky 2 ⟨some 90, .move (.tmp 89), 4, "two.go:74", #[⟨1, .data⟩], none⟩ (by intro w hSw; (try dsimp only at hSw); go_simp; all_goals with_reducible rfl) ?_
            (try simp only [Act.put, PM1, PM2, PM3])
            refine tky 3 ⟨some 91, .move (.tmp 21), 30, "two.go:74", #[⟨2, .guard⟩], some (2, true)⟩ (by intro w hSw; (try dsimp only at hSw); go_simp; all_goals with_reducible rfl) ?_
            (try simp only [Act.put, PM1, PM2, PM3])
            refine tky 4 ⟨some 92, .binOp Go.BinOp.eql 30 (.tmp 91) (.const (Go.Value.int Go.IntKind.i64 0)) 30, 4, "two.go:74", #[⟨3, .data⟩, ⟨2, .guard⟩], some (2, true)⟩ (by intro w hSw; (try dsimp only at hSw); go_simp; all_goals with_reducible rfl) ?_
            (try simp only [Act.put, PM1, PM2, PM3])
            (try rw [hc4])
            refine tky 5 ⟨some 93, .pick (.tmp 90) (.tmp 92) (.const (Go.Value.bool false)), 4, "two.go:74", #[⟨2, .data⟩, ⟨4, .data⟩], none⟩ (by intro w hSw; (try dsimp only at hSw); go_simp; all_goals with_reducible rfl) ?_
            (try simp only [Act.put, PM1, PM2, PM3])
            refine tky 6 ⟨some 94, .move (.tmp 93), 4, "two.go:74", #[⟨5, .data⟩, ⟨2, .chain⟩], none⟩ (by intro w hSw; (try dsimp only at hSw); go_simp; all_goals with_reducible rfl) ?_
            (try simp only [Act.put, PM1, PM2, PM3])
            refine tky 7 ⟨some 95, .load 24 (.tmp 5), 24, "two.go:74", #[⟨6, .guard⟩], some (6, true)⟩ (by intro w hSw; (try dsimp only at hSw); go_simp; all_goals with_reducible rfl) ?_
            (try simp only [Act.put, PM1, PM2, PM3])
            refine tky 8 ⟨some 96, .load 24 (.tmp 20), 24, "two.go:74", #[⟨6, .guard⟩], some (6, true)⟩ (by intro w hSw; (try dsimp only at hSw); go_simp; all_goals with_reducible rfl) ?_
            (try simp only [Act.put, PM1, PM2, PM3])
            refine tky 9 ⟨some 97, .move (.tmp 3), 40, "two.go:74", #[⟨6, .guard⟩], some (6, true)⟩ (by intro w hSw; (try dsimp only at hSw); go_simp; all_goals with_reducible rfl) ?_
            (try simp only [Act.put, PM1, PM2, PM3])
            refine tky 11 ⟨some 99, .move (.tmp 11), 3, "two.go:74", #[⟨6, .guard⟩], some (6, true)⟩ (by intro w hSw; (try dsimp only at hSw); go_simp; all_goals with_reducible rfl) ?_
            (try simp only [Act.put, PM1, PM2, PM3])
            refine wpAnyH_ready (rs := [10]) (by as_aux_lemma => kernel_rfl) (by simp) (AllReadyH.cons (o := ⟨some 98, .call { callee := .value (.func 19), args := #[.tmp 97], argTypes := #[40] }, 40, "two.go:74", #[⟨9, .data⟩, ⟨6, .chain⟩, ⟨6, .guard⟩], some (6, true)⟩) rfl (fun K hK => ?_) AllReadyH.nil)
            go_simp
            go_at_call 19; refine (HFEW.out _).mono ?_; rintro e wf ⟨rfl, hwf⟩; subst wf
            refine hK.out _ _ (by (try dsimp only); (with_reducible refine HS.out _ ?_); first | with_reducible exact hB6 | with_reducible exact hB5 | with_reducible exact (Below.refl _ W7).drew | with_reducible exact (Below.refl _ W7)) (fun hHeld => ?_)
            clear hK K
            (try simp only [Act.put, PM1, PM2, PM3])
            refine wpAnyH_ready (rs := [12]) (by as_aux_lemma => kernel_rfl) (by simp) (AllReadyH.cons (o := ⟨some 100, .call { callee := .value (.func 18), args := #[.tmp 95, .tmp 96, .tmp 98, .tmp 99], argTypes := #[24, 24, 40, 3] }, 4, "two.go:74", #[⟨7, .data⟩, ⟨8, .data⟩, ⟨10, .data⟩, ⟨11, .data⟩, ⟨10, .chain⟩, ⟨6, .guard⟩], some (6, true)⟩) rfl (fun K hK => ?_) AllReadyH.nil)
            go_simp
            go_at_call 18; refine (HDa.out _ (by first | exact hB6 | exact hB5 | exact (Below.refl _ W7).drew | exact Below.refl _ W7) (HD3.out H4.out)).mono ?_; rintro e w5 ⟨rfl, hb5⟩; have hB5 : Below W7.heap.size W7 w5 := (by first | exact hB5.trans (hb5.mono hB5.size) | exact (Below.refl _ W7).drew.trans hb5 | exact hb5)
            refine hK.out _ _ (by (try dsimp only); (with_reducible refine HS.out _ ?_); first | with_reducible exact hB6 | with_reducible exact hB5 | with_reducible exact (Below.refl _ W7).drew | with_reducible exact (Below.refl _ W7)) (fun hHeld => ?_)
            clear hK K
            (try simp only [Act.put, PM1, PM2, PM3])
            refine tky 13 ⟨some 101, .unOp Go.UnOp.not 4 (.tmp 100), 4, "two.go:74", #[⟨12, .data⟩, ⟨6, .guard⟩], some (6, true)⟩ (by intro w hSw; (try dsimp only at hSw); go_simp; all_goals with_reducible rfl) ?_
            (try simp only [Act.put, PM1, PM2, PM3])
            refine tky 14 ⟨some 102, .pick (.tmp 94) (.tmp 101) (.const (Go.Value.bool false)), 4, "two.go:74", #[⟨6, .data⟩, ⟨13, .data⟩], none⟩ (by intro w hSw; (try dsimp only at hSw); go_simp; all_goals with_reducible rfl) ?_
            (try simp only [Act.put, PM1, PM2, PM3])
            refine tky 15 ⟨some 103, .move (.tmp 102), 4, "two.go:74", #[⟨14, .data⟩, ⟨12, .chain⟩], none⟩ (by intro w hSw; (try dsimp only at hSw); go_simp; all_goals with_reducible rfl) ?_
            (try simp only [Act.put, PM1, PM2, PM3])
            refine tky 16 ⟨some 104, .move (.tmp 19), 30, "two.go:74", #[⟨15, .guard⟩], some (15, false)⟩ (by intro w hSw; (try dsimp only at hSw); go_simp; all_goals with_reducible rfl) ?_
            (try simp only [Act.put, PM1, PM2, PM3])
            refine tky 17 ⟨some 105, .binOp Go.BinOp.eql 30 (.tmp 104) (.const (Go.Value.int Go.IntKind.i64 0)) 30, 4, "two.go:74", #[⟨16, .data⟩, ⟨15, .guard⟩], some (15, false)⟩ (by intro w hSw; (try dsimp only at hSw); go_simp; all_goals with_reducible rfl) ?_
            (try simp only [Act.put, PM1, PM2, PM3])
            (try rw [hc5])
            refine tky 18 ⟨some 106, .move (.tmp 105), 4, "two.go:74", #[⟨17, .data⟩, ⟨15, .chain⟩, ⟨15, .guard⟩], some (15, false)⟩ (by intro w hSw; (try dsimp only at hSw); go_simp; all_goals with_reducible rfl) ?_
            (try simp only [Act.put, PM1, PM2, PM3])
            refine tkn 19 ⟨some 107, .move (.tmp 23), 30, "two.go:74", #[⟨18, .guard⟩], some (18, true)⟩ ?_
            (try simp only [Act.put, PM1, PM2, PM3])
            refine tkn 20 ⟨some 108, .binOp Go.BinOp.eql 30 (.tmp 107) (.const (Go.Value.int Go.IntKind.i64 0)) 30, 4, "two.go:74", #[⟨19, .data⟩, ⟨18, .guard⟩], some (18, true)⟩ ?_
            (try simp only [Act.put, PM1, PM2, PM3])
            refine tky 21 ⟨some 109, .pick (.tmp 106) (.tmp 108) (.const (Go.Value.bool false)), 4, "two.go:74", #[⟨18, .data⟩, ⟨20, .data⟩, ⟨15, .guard⟩], some (15, false)⟩ (by intro w hSw; (try dsimp only at hSw); go_simp; all_goals with_reducible rfl) ?_
            (try simp only [Act.put, PM1, PM2, PM3])
            refine tky 22 ⟨some 110, .move (.tmp 109), 4, "two.go:74", #[⟨21, .data⟩, ⟨18, .chain⟩, ⟨15, .guard⟩], some (15, false)⟩ (by intro w hSw; (try dsimp only at hSw); go_simp; all_goals with_reducible rfl) ?_
            (try simp only [Act.put, PM1, PM2, PM3])
            refine tkn 23 ⟨some 111, .load 24 (.tmp 5), 24, "two.go:74", #[⟨22, .guard⟩], some (22, true)⟩ ?_
            (try simp only [Act.put, PM1, PM2, PM3])
            refine tkn 24 ⟨some 112, .load 24 (.tmp 22), 24, "two.go:74", #[⟨22, .guard⟩], some (22, true)⟩ ?_
            (try simp only [Act.put, PM1, PM2, PM3])
            refine tkn 25 ⟨some 113, .move (.tmp 3), 40, "two.go:74", #[⟨22, .guard⟩], some (22, true)⟩ ?_
            (try simp only [Act.put, PM1, PM2, PM3])
            refine tkn 26 ⟨some 114, .call { callee := .value (.func 19), args := #[.tmp 113], argTypes := #[40] }, 40, "two.go:74", #[⟨25, .data⟩, ⟨22, .chain⟩, ⟨22, .guard⟩], some (22, true)⟩ ?_
            (try simp only [Act.put, PM1, PM2, PM3])
            refine tkn 27 ⟨some 115, .move (.tmp 11), 3, "two.go:74", #[⟨22, .guard⟩], some (22, true)⟩ ?_
            (try simp only [Act.put, PM1, PM2, PM3])
            refine tkn 28 ⟨some 116, .call { callee := .value (.func 18), args := #[.tmp 111, .tmp 112, .tmp 114, .tmp 115], argTypes := #[24, 24, 40, 3] }, 4, "two.go:74", #[⟨23, .data⟩, ⟨24, .data⟩, ⟨26, .data⟩, ⟨27, .data⟩, ⟨26, .chain⟩, ⟨22, .guard⟩], some (22, true)⟩ ?_
            (try simp only [Act.put, PM1, PM2, PM3])
            refine tkn 29 ⟨some 117, .unOp Go.UnOp.not 4 (.tmp 116), 4, "two.go:74", #[⟨28, .data⟩, ⟨22, .guard⟩], some (22, true)⟩ ?_
            (try simp only [Act.put, PM1, PM2, PM3])
            refine tky 30 ⟨some 118, .pick (.tmp 110) (.tmp 117) (.const (Go.Value.bool false)), 4, "two.go:74", #[⟨22, .data⟩, ⟨29, .data⟩, ⟨15, .guard⟩], some (15, false)⟩ (by intro w hSw; (try dsimp only at hSw); go_simp; all_goals with_reducible rfl) ?_
            (try simp only [Act.put, PM1, PM2, PM3])
            refine tky 31 ⟨some 119, .pick (.tmp 103) (.const (Go.Value.bool true)) (.tmp 118), 4, "two.go:74", #[⟨15, .data⟩, ⟨30, .data⟩], none⟩ (by intro w hSw; (try dsimp only at hSw); go_simp; all_goals with_reducible rfl) ?_
            (try simp only [Act.put, PM1, PM2, PM3])
            refine wpAnyH_done (by as_aux_lemma => kernel_rfl) ?_ _
            go_wp2
            go_meet
            exact ⟨rfl, by first | exact hB6 | exact hB5 | exact (Below.refl _ W7).drew | exact Below.refl _ _⟩
        · have hc4 : (e4 == 0) = false := by simp [h4]
          have H4 := hide h4
          clear h4
          by_cases h5 : e5 = 0
          · have hc5 : (e5 == 0) = true := by simp [h5]
            clear h5
            by_cases h6 : e6 = 0
            · have hc6 : (e6 == 0) = true := by simp [h6]
              have H6 := hide h6
              clear h6
              refine wp_region_held_drew (S := (fun u => u.cell? ⟨w.heap.size, 0, none⟩ = some (.int .i64 r) ∧ u.cell? ⟨w.heap.size, 1, none⟩ = some (.slice a ns.length cap) ∧ u.cell? ⟨QA, 0, none⟩ = some (.int .i64 q3) ∧ u.cell? ⟨QA, 1, none⟩ = some (.slice g3 (List.length m3) c3) ∧ u.cell? ⟨QC, 0, none⟩ = some (.int .i64 q4) ∧ u.cell? ⟨QC, 1, none⟩ = some (.slice g4 (List.length m4) c4))) (by as_aux_lemma => kernel_rfl) (by (try dsimp only); (with_reducible refine HS.out _ ?_); first | with_reducible exact hB6 | with_reducible exact hB5 | with_reducible exact (Below.refl _ W7).drew | with_reducible exact (Below.refl _ W7)) (fun hHeld => ?_)
              refine tky 0 ⟨some 88, .move (.tmp 17), 30, "two.go:74", #[], none⟩ (by intro w hSw; (try dsimp only at hSw); go_simp; all_goals with_reducible rfl) ?_
              (try simp only [Act.put, PM1, PM2, PM3])
              refine tky 1 ⟨some 89, .binOp Go.BinOp.eql 30 (.tmp 88) (.const (Go.Value.int Go.IntKind.i64 0)) 30, 4, "two.go:74", #[⟨0, .data⟩], none⟩ (by intro w hSw; (try dsimp only at hSw); go_simp; all_goals with_reducible rfl) ?_
              (try simp only [Act.put, PM1, PM2, PM3])
              (try rw [hc3])
              refine tky 2 ⟨some 90, .move (.tmp 89), 4, "two.go:74", #[⟨1, .data⟩], none⟩ (by intro w hSw; (try dsimp only at hSw); go_simp; all_goals with_reducible rfl) ?_
              (try simp only [Act.put, PM1, PM2, PM3])
              refine tky 3 ⟨some 91, .move (.tmp 21), 30, "two.go:74", #[⟨2, .guard⟩], some (2, true)⟩ (by intro w hSw; (try dsimp only at hSw); go_simp; all_goals with_reducible rfl) ?_
              (try simp only [Act.put, PM1, PM2, PM3])
              refine tky 4 ⟨some 92, .binOp Go.BinOp.eql 30 (.tmp 91) (.const (Go.Value.int Go.IntKind.i64 0)) 30, 4, "two.go:74", #[⟨3, .data⟩, ⟨2, .guard⟩], some (2, true)⟩ (by intro w hSw; (try dsimp only at hSw); go_simp; all_goals with_reducible rfl) ?_
              (try simp only [Act.put, PM1, PM2, PM3])
              (try rw [hc4])
              refine tky 5 ⟨some 93, .pick (.tmp 90) (.tmp 92) (.const (Go.Value.bool false)), 4, "two.go:74", #[⟨2, .data⟩, ⟨4, .data⟩], none⟩ (by intro w hSw; (try dsimp only at hSw); go_simp; all_goals with_reducible rfl) ?_
              (try simp only [Act.put, PM1, PM2, PM3])
              refine tky 6 ⟨some 94, .move (.tmp 93), 4, "two.go:74", #[⟨5, .data⟩, ⟨2, .chain⟩], none⟩ (by intro w hSw; (try dsimp only at hSw); go_simp; all_goals with_reducible rfl) ?_
              (try simp only [Act.put, PM1, PM2, PM3])
              refine tkn 7 ⟨some 95, .load 24 (.tmp 5), 24, "two.go:74", #[⟨6, .guard⟩], some (6, true)⟩ ?_
              (try simp only [Act.put, PM1, PM2, PM3])
              refine tkn 8 ⟨some 96, .load 24 (.tmp 20), 24, "two.go:74", #[⟨6, .guard⟩], some (6, true)⟩ ?_
              (try simp only [Act.put, PM1, PM2, PM3])
              refine tkn 9 ⟨some 97, .move (.tmp 3), 40, "two.go:74", #[⟨6, .guard⟩], some (6, true)⟩ ?_
              (try simp only [Act.put, PM1, PM2, PM3])
              refine tkn 10 ⟨some 98, .call { callee := .value (.func 19), args := #[.tmp 97], argTypes := #[40] }, 40, "two.go:74", #[⟨9, .data⟩, ⟨6, .chain⟩, ⟨6, .guard⟩], some (6, true)⟩ ?_
              (try simp only [Act.put, PM1, PM2, PM3])
              refine tkn 11 ⟨some 99, .move (.tmp 11), 3, "two.go:74", #[⟨6, .guard⟩], some (6, true)⟩ ?_
              (try simp only [Act.put, PM1, PM2, PM3])
              refine tkn 12 ⟨some 100, .call { callee := .value (.func 18), args := #[.tmp 95, .tmp 96, .tmp 98, .tmp 99], argTypes := #[24, 24, 40, 3] }, 4, "two.go:74", #[⟨7, .data⟩, ⟨8, .data⟩, ⟨10, .data⟩, ⟨11, .data⟩, ⟨10, .chain⟩, ⟨6, .guard⟩], some (6, true)⟩ ?_
              (try simp only [Act.put, PM1, PM2, PM3])
              refine tkn 13 ⟨some 101, .unOp Go.UnOp.not 4 (.tmp 100), 4, "two.go:74", #[⟨12, .data⟩, ⟨6, .guard⟩], some (6, true)⟩ ?_
              (try simp only [Act.put, PM1, PM2, PM3])
              refine tky 14 ⟨some 102, .pick (.tmp 94) (.tmp 101) (.const (Go.Value.bool false)), 4, "two.go:74", #[⟨6, .data⟩, ⟨13, .data⟩], none⟩ (by intro w hSw; (try dsimp only at hSw); go_simp; all_goals with_reducible rfl) ?_
              (try simp only [Act.put, PM1, PM2, PM3])
              refine tky 15 ⟨some 103, .move (.tmp 102), 4, "two.go:74", #[⟨14, .data⟩, ⟨12, .chain⟩], none⟩ (by intro w hSw; (try dsimp only at hSw); go_simp; all_goals with_reducible rfl) ?_
              (try simp only [Act.put, PM1, PM2, PM3])
              refine tky 16 ⟨some 104, .move (.tmp 19), 30, "two.go:74", #[⟨15, .guard⟩], some (15, false)⟩ (by intro w hSw; (try dsimp only at hSw); go_simp; all_goals with_reducible rfl) ?_
              (try simp only [Act.put, PM1, PM2, PM3])
              refine tky 17 ⟨some 105, .binOp Go.BinOp.eql 30 (.tmp 104) (.const (Go.Value.int Go.IntKind.i64 0)) 30, 4, "two.go:74", #[⟨16, .data⟩, ⟨15, .guard⟩], some (15, false)⟩ (by intro w hSw; (try dsimp only at hSw); go_simp; all_goals with_reducible rfl) ?_
              (try simp only [Act.put, PM1, PM2, PM3])
              (try rw [hc5])
              refine tky 18 ⟨some 106, .move (.tmp 105), 4, "two.go:74", #[⟨17, .data⟩, ⟨15, .chain⟩, ⟨15, .guard⟩], some (15, false)⟩ (by intro w hSw; (try dsimp only at hSw); go_simp; all_goals with_reducible rfl) ?_
              (try simp only [Act.put, PM1, PM2, PM3])
              refine tky 19 ⟨some 107, .move (.tmp 23), 30, "two.go:74", #[⟨18, .guard⟩], some (18, true)⟩ (by intro w hSw; (try dsimp only at hSw); go_simp; all_goals with_reducible rfl) ?_
              (try simp only [Act.put, PM1, PM2, PM3])
              refine tky 20 ⟨some 108, .binOp Go.BinOp.eql 30 (.tmp 107) (.const (Go.Value.int Go.IntKind.i64 0)) 30, 4, "two.go:74", #[⟨19, .data⟩, ⟨18, .guard⟩], some (18, true)⟩ (by intro w hSw; (try dsimp only at hSw); go_simp; all_goals with_reducible rfl) ?_
              (try simp only [Act.put, PM1, PM2, PM3])
              (try rw [hc6])
              refine tky 21 ⟨some 109, .pick (.tmp 106) (.tmp 108) (.const (Go.Value.bool false)), 4, "two.go:74", #[⟨18, .data⟩, ⟨20, .data⟩, ⟨15, .guard⟩], some (15, false)⟩ (by intro w hSw; (try dsimp only at hSw); go_simp; all_goals with_reducible rfl) ?_
              (try simp only [Act.put, PM1, PM2, PM3])
              refine tky 22 ⟨some 110, .move (.tmp 109), 4, "two.go:74", #[⟨21, .data⟩, ⟨18, .chain⟩, ⟨15, .guard⟩], some (15, false)⟩ (by intro w hSw; (try dsimp only at hSw); go_simp; all_goals with_reducible rfl) ?_
              (try simp only [Act.put, PM1, PM2, PM3])
              refine tky 23 ⟨some 111, .load 24 (.tmp 5), 24, "two.go:74", #[⟨22, .guard⟩], some (22, true)⟩ (by intro w hSw; (try dsimp only at hSw); go_simp; all_goals with_reducible rfl) ?_
              (try simp only [Act.put, PM1, PM2, PM3])
              refine tky 24 ⟨some 112, .load 24 (.tmp 22), 24, "two.go:74", #[⟨22, .guard⟩], some (22, true)⟩ (by intro w hSw; (try dsimp only at hSw); go_simp; all_goals with_reducible rfl) ?_
              (try simp only [Act.put, PM1, PM2, PM3])
              refine tky 25 ⟨some 113, .move (.tmp 3), 40, "two.go:74", #[⟨22, .guard⟩], some (22, true)⟩ (by intro w hSw; (try dsimp only at hSw); go_simp; all_goals with_reducible rfl) ?_
              (try simp only [Act.put, PM1, PM2, PM3])
              refine tky 27 ⟨some 115, .move (.tmp 11), 3, "two.go:74", #[⟨22, .guard⟩], some (22, true)⟩ (by intro w hSw; (try dsimp only at hSw); go_simp; all_goals with_reducible rfl) ?_
              (try simp only [Act.put, PM1, PM2, PM3])
              refine wpAnyH_ready (rs := [26]) (by as_aux_lemma => kernel_rfl) (by simp) (AllReadyH.cons (o := ⟨some 114, .call { callee := .value (.func 19), args := #[.tmp 113], argTypes := #[40] }, 40, "two.go:74", #[⟨25, .data⟩, ⟨22, .chain⟩, ⟨22, .guard⟩], some (22, true)⟩) rfl (fun K hK => ?_) AllReadyH.nil)
              go_simp
              go_at_call 19; refine (HFEW.out _).mono ?_; rintro e wf ⟨rfl, hwf⟩; subst wf
              refine hK.out _ _ (by (try dsimp only); (with_reducible refine HS.out _ ?_); first | with_reducible exact hB6 | with_reducible exact hB5 | with_reducible exact (Below.refl _ W7).drew | with_reducible exact (Below.refl _ W7)) (fun hHeld => ?_)
              clear hK K
              (try simp only [Act.put, PM1, PM2, PM3])
              refine wpAnyH_ready (rs := [28]) (by as_aux_lemma => kernel_rfl) (by simp) (AllReadyH.cons (o := ⟨some 116, .call { callee := .value (.func 18), args := #[.tmp 111, .tmp 112, .tmp 114, .tmp 115], argTypes := #[24, 24, 40, 3] }, 4, "two.go:74", #[⟨23, .data⟩, ⟨24, .data⟩, ⟨26, .data⟩, ⟨27, .data⟩, ⟨26, .chain⟩, ⟨22, .guard⟩], some (22, true)⟩) rfl (fun K hK => ?_) AllReadyH.nil)
              go_simp
              go_at_call 18; refine (HDb.out _ (by first | exact hB6 | exact hB5 | exact (Below.refl _ W7).drew | exact Below.refl _ W7) (HD4.out H6.out)).mono ?_; rintro e w6 ⟨rfl, hb6⟩; have hB6 : Below W7.heap.size W7 w6 := (by first | exact hB5.trans (hb6.mono hB5.size) | exact (Below.refl _ W7).drew.trans hb6 | exact hb6)
              refine hK.out _ _ (by (try dsimp only); (with_reducible refine HS.out _ ?_); first | with_reducible exact hB6 | with_reducible exact hB5 | with_reducible exact (Below.refl _ W7).drew | with_reducible exact (Below.refl _ W7)) (fun hHeld => ?_)
              clear hK K
              (try simp only [Act.put, PM1, PM2, PM3])
              refine tky 29 ⟨some 117, .unOp Go.UnOp.not 4 (.tmp 116), 4, "two.go:74", #[⟨28, .data⟩, ⟨22, .guard⟩], some (22, true)⟩ (by intro w hSw; (try dsimp only at hSw); go_simp; all_goals with_reducible rfl) ?_
              (try simp only [Act.put, PM1, PM2, PM3])
              refine tky 30 ⟨some 118, .pick (.tmp 110) (.tmp 117) (.const (Go.Value.bool false)), 4, "two.go:74", #[⟨22, .data⟩, ⟨29, .data⟩, ⟨15, .guard⟩], some (15, false)⟩ (by intro w hSw; (try dsimp only at hSw); go_simp; all_goals with_reducible rfl) ?_
              (try simp only [Act.put, PM1, PM2, PM3])
              refine tky 31 ⟨some 119, .pick (.tmp 103) (.const (Go.Value.bool true)) (.tmp 118), 4, "two.go:74", #[⟨15, .data⟩, ⟨30, .data⟩], none⟩ (by intro w hSw; (try dsimp only at hSw); go_simp; all_goals with_reducible rfl) ?_
              (try simp only [Act.put, PM1, PM2, PM3])
              refine wpAnyH_done (by as_aux_lemma => kernel_rfl) ?_ _
              go_wp2
              go_meet
              exact ⟨rfl, by first | exact hB6 | exact hB5 | exact (Below.refl _ W7).drew | exact Below.refl _ _⟩
            · have hc6 : (e6 == 0) = false := by simp [h6]
              have H6 := hide h6
              clear h6
              refine wp_region_held_drew (S := (fun u => u.cell? ⟨w.heap.size, 0, none⟩ = some (.int .i64 r) ∧ u.cell? ⟨w.heap.size, 1, none⟩ = some (.slice a ns.length cap) ∧ u.cell? ⟨QA, 0, none⟩ = some (.int .i64 q3) ∧ u.cell? ⟨QA, 1, none⟩ = some (.slice g3 (List.length m3) c3) ∧ u.cell? ⟨QC, 0, none⟩ = some (.int .i64 q4) ∧ u.cell? ⟨QC, 1, none⟩ = some (.slice g4 (List.length m4) c4))) (by as_aux_lemma => kernel_rfl) (by (try dsimp only); (with_reducible refine HS.out _ ?_); first | with_reducible exact hB6 | with_reducible exact hB5 | with_reducible exact (Below.refl _ W7).drew | with_reducible exact (Below.refl _ W7)) (fun hHeld => ?_)
              refine tky 0 ⟨some 88, .move (.tmp 17), 30, "two.go:74", #[], none⟩ (by intro w hSw; (try dsimp only at hSw); go_simp; all_goals with_reducible rfl) ?_
              (try simp only [Act.put, PM1, PM2, PM3])
              refine tky 1 ⟨some 89, .binOp Go.BinOp.eql 30 (.tmp 88) (.const (Go.Value.int Go.IntKind.i64 0)) 30, 4, "two.go:74", #[⟨0, .data⟩], none⟩ (by intro w hSw; (try dsimp only at hSw); go_simp; all_goals with_reducible rfl) ?_
              (try simp only [Act.put, PM1, PM2, PM3])
              (try rw [hc3])
              refine tky 2 ⟨some 90, .move (.tmp 89), 4, "two.go:74", #[⟨1, .data⟩], none⟩ (by intro w hSw; (try dsimp only at hSw); go_simp; all_goals with_reducible rfl) ?_
              (try simp only [Act.put, PM1, PM2, PM3])
              refine tky 3 ⟨some 91, .move (.tmp 21), 30, "two.go:74", #[⟨2, .guard⟩], some (2, true)⟩ (by intro w hSw; (try dsimp only at hSw); go_simp; all_goals with_reducible rfl) ?_
              (try simp only [Act.put, PM1, PM2, PM3])
              refine tky 4 ⟨some 92, .binOp Go.BinOp.eql 30 (.tmp 91) (.const (Go.Value.int Go.IntKind.i64 0)) 30, 4, "two.go:74", #[⟨3, .data⟩, ⟨2, .guard⟩], some (2, true)⟩ (by intro w hSw; (try dsimp only at hSw); go_simp; all_goals with_reducible rfl) ?_
              (try simp only [Act.put, PM1, PM2, PM3])
              (try rw [hc4])
              refine tky 5 ⟨some 93, .pick (.tmp 90) (.tmp 92) (.const (Go.Value.bool false)), 4, "two.go:74", #[⟨2, .data⟩, ⟨4, .data⟩], none⟩ (by intro w hSw; (try dsimp only at hSw); go_simp; all_goals with_reducible rfl) ?_
              (try simp only [Act.put, PM1, PM2, PM3])
              refine tky 6 ⟨some 94, .move (.tmp 93), 4, "two.go:74", #[⟨5, .data⟩, ⟨2, .chain⟩], none⟩ (by intro w hSw; (try dsimp only at hSw); go_simp; all_goals with_reducible rfl) ?_
              (try simp only [Act.put, PM1, PM2, PM3])
              refine tkn 7 ⟨some 95, .load 24 (.tmp 5), 24, "two.go:74", #[⟨6, .guard⟩], some (6, true)⟩ ?_
              (try simp only [Act.put, PM1, PM2, PM3])
              refine tkn 8 ⟨some 96, .load 24 (.tmp 20), 24, "two.go:74", #[⟨6, .guard⟩], some (6, true)⟩ ?_
              (try simp only [Act.put, PM1, PM2, PM3])
              refine tkn 9 ⟨some 97, .move (.tmp 3), 40, "two.go:74", #[⟨6, .guard⟩], some (6, true)⟩ ?_
              (try simp only [Act.put, PM1, PM2, PM3])
              refine tkn 10 ⟨some 98, .call { callee := .value (.func 19), args := #[.tmp 97], argTypes := #[40] }, 40, "two.go:74", #[⟨9, .data⟩, ⟨6, .chain⟩, ⟨6, .guard⟩], some (6, true)⟩ ?_
              (try simp only [Act.put, PM1, PM2, PM3])
              refine tkn 11 ⟨some 99, .move (.tmp 11), 3, "two.go:74", #[⟨6, .guard⟩], some (6, true)⟩ ?_
              (try simp only [Act.put, PM1, PM2, PM3])
              refine tkn 12 ⟨some 100, .call { callee := .value (.func 18), args := #[.tmp 95, .tmp 96, .tmp 98, .tmp 99], argTypes := #[24, 24, 40, 3] }, 4, "two.go:74", #[⟨7, .data⟩, ⟨8, .data⟩, ⟨10, .data⟩, ⟨11, .data⟩, ⟨10, .chain⟩, ⟨6, .guard⟩], some (6, true)⟩ ?_
              (try simp only [Act.put, PM1, PM2, PM3])
              refine tkn 13 ⟨some 101, .unOp Go.UnOp.not 4 (.tmp 100), 4, "two.go:74", #[⟨12, .data⟩, ⟨6, .guard⟩], some (6, true)⟩ ?_
              (try simp only [Act.put, PM1, PM2, PM3])
              refine tky 14 ⟨some 102, .pick (.tmp 94) (.tmp 101) (.const (Go.Value.bool false)), 4, "two.go:74", #[⟨6, .data⟩, ⟨13, .data⟩], none⟩ (by intro w hSw; (try dsimp only at hSw); go_simp; all_goals with_reducible rfl) ?_
              (try simp only [Act.put, PM1, PM2, PM3])
              refine tky 15 ⟨some 103, .move (.tmp 102), 4, "two.go:74", #[⟨14, .data⟩, ⟨12, .chain⟩], none⟩ (by intro w hSw; (try dsimp only at hSw); go_simp; all_goals with_reducible rfl) ?_
              (try simp only [Act.put, PM1, PM2, PM3])
              refine tky 16 ⟨some 104, .move (.tmp 19), 30, "two.go:74", #[⟨15, .guard⟩], some (15, false)⟩ (by intro w hSw; (try dsimp only at hSw); go_simp; all_goals with_reducible rfl) ?_
              (try simp only [Act.put, PM1, PM2, PM3])
              refine tky 17 ⟨some 105, .binOp Go.BinOp.eql 30 (.tmp 104) (.const (Go.Value.int Go.IntKind.i64 0)) 30, 4, "two.go:74", #[⟨16, .data⟩, ⟨15, .guard⟩], some (15, false)⟩ (by intro w hSw; (try dsimp only at hSw); go_simp; all_goals with_reducible rfl) ?_
              (try simp only [Act.put, PM1, PM2, PM3])
              (try rw [hc5])
              refine tky 18 ⟨some 106, .move (.tmp 105), 4, "two.go:74", #[⟨17, .data⟩, ⟨15, .chain⟩, ⟨15, .guard⟩], some (15, false)⟩ (by intro w hSw; (try dsimp only at hSw); go_simp; all_goals with_reducible rfl) ?_
              (try simp only [Act.put, PM1, PM2, PM3])
              refine tky 19 ⟨some 107, .move (.tmp 23), 30, "two.go:74", #[⟨18, .guard⟩], some (18, true)⟩ (by intro w hSw; (try dsimp only at hSw); go_simp; all_goals with_reducible rfl) ?_
              (try simp only [Act.put, PM1, PM2, PM3])
              refine tky 20 ⟨some 108, .binOp Go.BinOp.eql 30 (.tmp 107) (.const (Go.Value.int Go.IntKind.i64 0)) 30, 4, "two.go:74", #[⟨19, .data⟩, ⟨18, .guard⟩], some (18, true)⟩ (by intro w hSw; (try dsimp only at hSw); go_simp; all_goals with_reducible rfl) ?_
              (try simp only [Act.put, PM1, PM2, PM3])
              (try rw [hc6])
              refine tky 21 ⟨some 109, .pick (.tmp 106) (.tmp 108) (.const (Go.Value.bool false)), 4, "two.go:74", #[⟨18, .data⟩, ⟨20, .data⟩, ⟨15, .guard⟩], some (15, false)⟩ (by intro w hSw; (try dsimp only at hSw); go_simp; all_goals with_reducible rfl) ?_
              (try simp only [Act.put, PM1, PM2, PM3])
              refine tky 22 ⟨some 110, .move (.tmp 109), 4, "two.go:74", #[⟨21, .data⟩, ⟨18, .chain⟩, ⟨15, .guard⟩], some (15, false)⟩ (by intro w hSw; (try dsimp only at hSw); go_simp; all_goals with_reducible rfl) ?_
              (try simp only [Act.put, PM1, PM2, PM3])
              refine tkn 23 ⟨some 111, .load 24 (.tmp 5), 24, "two.go:74", #[⟨22, .guard⟩], some (22, true)⟩ ?_
              (try simp only [Act.put, PM1, PM2, PM3])
              refine tkn 24 ⟨some 112, .load 24 (.tmp 22), 24, "two.go:74", #[⟨22, .guard⟩], some (22, true)⟩ ?_
              (try simp only [Act.put, PM1, PM2, PM3])
              refine tkn 25 ⟨some 113, .move (.tmp 3), 40, "two.go:74", #[⟨22, .guard⟩], some (22, true)⟩ ?_
              (try simp only [Act.put, PM1, PM2, PM3])
              refine tkn 26 ⟨some 114, .call { callee := .value (.func 19), args := #[.tmp 113], argTypes := #[40] }, 40, "two.go:74", #[⟨25, .data⟩, ⟨22, .chain⟩, ⟨22, .guard⟩], some (22, true)⟩ ?_
              (try simp only [Act.put, PM1, PM2, PM3])
              refine tkn 27 ⟨some 115, .move (.tmp 11), 3, "two.go:74", #[⟨22, .guard⟩], some (22, true)⟩ ?_
              (try simp only [Act.put, PM1, PM2, PM3])
              refine tkn 28 ⟨some 116, .call { callee := .value (.func 18), args := #[.tmp 111, .tmp 112, .tmp 114, .tmp 115], argTypes := #[24, 24, 40, 3] }, 4, "two.go:74", #[⟨23, .data⟩, ⟨24, .data⟩, ⟨26, .data⟩, ⟨27, .data⟩, ⟨26, .chain⟩, ⟨22, .guard⟩], some (22, true)⟩ ?_
              (try simp only [Act.put, PM1, PM2, PM3])
              refine tkn 29 ⟨some 117, .unOp Go.UnOp.not 4 (.tmp 116), 4, "two.go:74", #[⟨28, .data⟩, ⟨22, .guard⟩], some (22, true)⟩ ?_
              (try simp only [Act.put, PM1, PM2, PM3])
              refine tky 30 ⟨some 118, .pick (.tmp 110) (.tmp 117) (.const (Go.Value.bool false)), 4, "two.go:74", #[⟨22, .data⟩, ⟨29, .data⟩, ⟨15, .guard⟩], some (15, false)⟩ (by intro w hSw; (try dsimp only at hSw); go_simp; all_goals with_reducible rfl) ?_
              (try simp only [Act.put, PM1, PM2, PM3])
              refine tky 31 ⟨some 119, .pick (.tmp 103) (.const (Go.Value.bool true)) (.tmp 118), 4, "two.go:74", #[⟨15, .data⟩, ⟨30, .data⟩], none⟩ (by intro w hSw; (try dsimp only at hSw); go_simp; all_goals with_reducible rfl) ?_
              (try simp only [Act.put, PM1, PM2, PM3])
              refine wpAnyH_done (by as_aux_lemma => kernel_rfl) ?_ _
              go_wp2
              go_meet
              exact ⟨rfl, by first | exact hB6 | exact hB5 | exact (Below.refl _ W7).drew | exact Below.refl _ _⟩
          · have hc5 : (e5 == 0) = false := by simp [h5]
            clear h5
            refine wp_region_held_drew (S := (fun u => u.cell? ⟨w.heap.size, 0, none⟩ = some (.int .i64 r) ∧ u.cell? ⟨w.heap.size, 1, none⟩ = some (.slice a ns.length cap) ∧ u.cell? ⟨QA, 0, none⟩ = some (.int .i64 q3) ∧ u.cell? ⟨QA, 1, none⟩ = some (.slice g3 (List.length m3) c3) ∧ u.cell? ⟨QC, 0, none⟩ = some (.int .i64 q4) ∧ u.cell? ⟨QC, 1, none⟩ = some (.slice g4 (List.length m4) c4))) (by as_aux_lemma => kernel_rfl) (by (try dsimp only); (with_reducible refine HS.out _ ?_); first | with_reducible exact hB6 | with_reducible exact hB5 | with_reducible exact (Below.refl _ W7).drew | with_reducible exact (Below.refl _ W7)) (fun hHeld => ?_)
            refine tky 0 ⟨some 88, .move (.tmp 17), 30, "two.go:74", #[], none⟩ (by intro w hSw; (try dsimp only at hSw); go_simp; all_goals with_reducible rfl) ?_
            (try simp only [Act.put, PM1, PM2, PM3])
            refine tky 1 ⟨some 89, .binOp Go.BinOp.eql 30 (.tmp 88) (.const (Go.Value.int Go.IntKind.i64 0)) 30, 4, "two.go:74", #[⟨0, .data⟩], none⟩ (by intro w hSw; (try dsimp only at hSw); go_simp; all_goals with_reducible rfl) ?_
            (try simp only [Act.put, PM1, PM2, PM3])
            (try rw [hc3])
            refine tky 2 ⟨some 90, .move (.tmp 89), 4, "two.go:74", #[⟨1, .data⟩], none⟩ (by intro w hSw; (try dsimp only at hSw); go_simp; all_goals with_reducible rfl) ?_
            (try simp only [Act.put, PM1, PM2, PM3])
            refine tky 3 ⟨some 91, .move (.tmp 21), 30, "two.go:74", #[⟨2, .guard⟩], some (2, true)⟩ (by intro w hSw; (try dsimp only at hSw); go_simp; all_goals with_reducible rfl) ?_
            (try simp only [Act.put, PM1, PM2, PM3])
            refine tky 4 ⟨some 92, .binOp Go.BinOp.eql 30 (.tmp 91) (.const (Go.Value.int Go.IntKind.i64 0)) 30, 4, "two.go:74", #[⟨3, .data⟩, ⟨2, .guard⟩], some (2, true)⟩ (by intro w hSw; (try dsimp only at hSw); go_simp; all_goals with_reducible rfl) ?_
            (try simp only [Act.put, PM1, PM2, PM3])
            (try rw [hc4])
            refine tky 5 ⟨some 93, .pick (.tmp 90) (.tmp 92) (.const (Go.Value.bool false)), 4, "two.go:74", #[⟨2, .data⟩, ⟨4, .data⟩], none⟩ (by intro w hSw; (try dsimp only at hSw); go_simp; all_goals with_reducible rfl) ?_
            (try simp only [Act.put, PM1, PM2, PM3])
            refine tky 6 ⟨some 94, .move (.tmp 93), 4, "two.go:74", #[⟨5, .data⟩, ⟨2, .chain⟩], none⟩ (by intro w hSw; (try dsimp only at hSw); go_simp; all_goals with_reducible rfl) ?_
            (try simp only [Act.put, PM1, PM2, PM3])
            refine tkn 7 ⟨some 95, .load 24 (.tmp 5), 24, "two.go:74", #[⟨6, .guard⟩], some (6, true)⟩ ?_
            (try simp only [Act.put, PM1, PM2, PM3])
            refine tkn 8 ⟨some 96, .load 24 (.tmp 20), 24, "two.go:74", #[⟨6, .guard⟩], some (6, true)⟩ ?_
            (try simp only [Act.put, PM1, PM2, PM3])
            refine tkn 9 ⟨some 97, .move (.tmp 3), 40, "two.go:74", #[⟨6, .guard⟩], some (6, true)⟩ ?_
            (try simp only [Act.put, PM1, PM2, PM3])
            refine tkn 10 ⟨some 98, .call { callee := .value (.func 19), args := #[.tmp 97], argTypes := #[40] }, 40, "two.go:74", #[⟨9, .data⟩, ⟨6, .chain⟩, ⟨6, .guard⟩], some (6, true)⟩ ?_
            (try simp only [Act.put, PM1, PM2, PM3])
            refine tkn 11 ⟨some 99, .move (.tmp 11), 3, "two.go:74", #[⟨6, .guard⟩], some (6, true)⟩ ?_
            (try simp only [Act.put, PM1, PM2, PM3])
            refine tkn 12 ⟨some 100, .call { callee := .value (.func 18), args := #[.tmp 95, .tmp 96, .tmp 98, .tmp 99], argTypes := #[24, 24, 40, 3] }, 4, "two.go:74", #[⟨7, .data⟩, ⟨8, .data⟩, ⟨10, .data⟩, ⟨11, .data⟩, ⟨10, .chain⟩, ⟨6, .guard⟩], some (6, true)⟩ ?_
            (try simp only [Act.put, PM1, PM2, PM3])
            refine tkn 13 ⟨some 101, .unOp Go.UnOp.not 4 (.tmp 100), 4, "two.go:74", #[⟨12, .data⟩, ⟨6, .guard⟩], some (6, true)⟩ ?_
            (try simp only [Act.put, PM1, PM2, PM3])
            refine tky 14 ⟨some 102, .pick (.tmp 94) (.tmp 101) (.const (Go.Value.bool false)), 4, "two.go:74", #[⟨6, .data⟩, ⟨13, .data⟩], none⟩ (by intro w hSw; (try dsimp only at hSw); go_simp; all_goals with_reducible rfl) ?_
            (try simp only [Act.put, PM1, PM2, PM3])
            refine tky 15 ⟨some 103, .move (.tmp 102), 4, "two.go:74", #[⟨14, .data⟩, ⟨12, .chain⟩], none⟩ (by intro w hSw; (try dsimp only at hSw); go_simp; all_goals with_reducible rfl) ?_
            (try simp only [Act.put, PM1, PM2, PM3])
            refine tky 16 ⟨some 104, .move (.tmp 19), 30, "two.go:74", #[⟨15, .guard⟩], some (15, false)⟩ (by intro w hSw; (try dsimp only at hSw); go_simp; all_goals with_reducible rfl) ?_
            (try simp only [Act.put, PM1, PM2, PM3])
            refine tky 17 ⟨some 105, .binOp Go.BinOp.eql 30 (.tmp 104) (.const (Go.Value.int Go.IntKind.i64 0)) 30, 4, "two.go:74", #[⟨16, .data⟩, ⟨15, .guard⟩], some (15, false)⟩ (by intro w hSw; (try dsimp only at hSw); go_simp; all_goals with_reducible rfl) ?_
            (try simp only [Act.put, PM1, PM2, PM3])
            (try rw [hc5])
            refine tky 18 ⟨some 106, .move (.tmp 105), 4, "two.go:74", #[⟨17, .data⟩, ⟨15, .chain⟩, ⟨15, .guard⟩], some (15, false)⟩ (by intro w hSw; (try dsimp only at hSw); go_simp; all_goals with_reducible rfl) ?_
            (try simp only [Act.put, PM1, PM2, PM3])
            refine tkn 19 ⟨some 107, .move (.tmp 23), 30, "two.go:74", #[⟨18, .guard⟩], some (18, true)⟩ ?_
            (try simp only [Act.put, PM1, PM2, PM3])
            refine tkn 20 ⟨some 108, .binOp Go.BinOp.eql 30 (.tmp 107) (.const (Go.Value.int Go.IntKind.i64 0)) 30, 4, "two.go:74", #[⟨19, .data⟩, ⟨18, .guard⟩], some (18, true)⟩ ?_
            (try simp only [Act.put, PM1, PM2, PM3])
            refine tky 21 ⟨some 109, .pick (.tmp 106) (.tmp 108) (.const (Go.Value.bool false)), 4, "two.go:74", #[⟨18, .data⟩, ⟨20, .data⟩, ⟨15, .guard⟩], some (15, false)⟩ (by intro w hSw; (try dsimp only at hSw); go_simp; all_goals with_reducible rfl) ?_
            (try simp only [Act.put, PM1, PM2, PM3])
            refine tky 22 ⟨some 110, .move (.tmp 109), 4, "two.go:74", #[⟨21, .data⟩, ⟨18, .chain⟩, ⟨15, .guard⟩], some (15, false)⟩ (by intro w hSw; (try dsimp only at hSw); go_simp; all_goals with_reducible rfl) ?_
            (try simp only [Act.put, PM1, PM2, PM3])
            refine tkn 23 ⟨some 111, .load 24 (.tmp 5), 24, "two.go:74", #[⟨22, .guard⟩], some (22, true)⟩ ?_
            (try simp only [Act.put, PM1, PM2, PM3])
            refine tkn 24 ⟨some 112, .load 24 (.tmp 22), 24, "two.go:74", #[⟨22, .guard⟩], some (22, true)⟩ ?_
            (try simp only [Act.put, PM1, PM2, PM3])
            refine tkn 25 ⟨some 113, .move (.tmp 3), 40, "two.go:74", #[⟨22, .guard⟩], some (22, true)⟩ ?_
            (try simp only [Act.put, PM1, PM2, PM3])
            refine tkn 26 ⟨some 114, .call { callee := .value (.func 19), args := #[.tmp 113], argTypes := #[40] }, 40, "two.go:74", #[⟨25, .data⟩, ⟨22, .chain⟩, ⟨22, .guard⟩], some (22, true)⟩ ?_
            (try simp only [Act.put, PM1, PM2, PM3])
            refine tkn 27 ⟨some 115, .move (.tmp 11), 3, "two.go:74", #[⟨22, .guard⟩], some (22, true)⟩ ?_
            (try simp only [Act.put, PM1, PM2, PM3])
            refine tkn 28 ⟨some 116, .call { callee := .value (.func 18), args := #[.tmp 111, .tmp 112, .tmp 114, .tmp 115], argTypes := #[24, 24, 40, 3] }, 4, "two.go:74", #[⟨23, .data⟩, ⟨24, .data⟩, ⟨26, .data⟩, ⟨27, .data⟩, ⟨26, .chain⟩, ⟨22, .guard⟩], some (22, true)⟩ ?_
            (try simp only [Act.put, PM1, PM2, PM3])
            refine tkn 29 ⟨some 117, .unOp Go.UnOp.not 4 (.tmp 116), 4, "two.go:74", #[⟨28, .data⟩, ⟨22, .guard⟩], some (22, true)⟩ ?_
            (try simp only [Act.put, PM1, PM2, PM3])
            refine tky 30 ⟨some 118, .pick (.tmp 110) (.tmp 117) (.const (Go.Value.bool false)), 4, "two.go:74", #[⟨22, .data⟩, ⟨29, .data⟩, ⟨15, .guard⟩], some (15, false)⟩ (by intro w hSw; (try dsimp only at hSw); go_simp; all_goals with_reducible rfl) ?_
            (try simp only [Act.put, PM1, PM2, PM3])
            refine tky 31 ⟨some 119, .pick (.tmp 103) (.const (Go.Value.bool true)) (.tmp 118), 4, "two.go:74", #[⟨15, .data⟩, ⟨30, .data⟩], none⟩ (by intro w hSw; (try dsimp only at hSw); go_simp; all_goals with_reducible rfl) ?_
            (try simp only [Act.put, PM1, PM2, PM3])
            refine wpAnyH_done (by as_aux_lemma => kernel_rfl) ?_ _
            go_wp2
            go_meet
            exact ⟨rfl, by first | exact hB6 | exact hB5 | exact (Below.refl _ W7).drew | exact Below.refl _ _⟩
      · have hc3 : (e3 == 0) = false := by simp [h3]
        clear h3
        by_cases h5 : e5 = 0
        · have hc5 : (e5 == 0) = true := by simp [h5]
          clear h5
          by_cases h6 : e6 = 0
          · have hc6 : (e6 == 0) = true := by simp [h6]
            have H6 := hide h6
            clear h6
            refine wp_region_held_drew (S := (fun u => u.cell? ⟨w.heap.size, 0, none⟩ = some (.int .i64 r) ∧ u.cell? ⟨w.heap.size, 1, none⟩ = some (.slice a ns.length cap) ∧ u.cell? ⟨QA, 0, none⟩ = some (.int .i64 q3) ∧ u.cell? ⟨QA, 1, none⟩ = some (.slice g3 (List.length m3) c3) ∧ u.cell? ⟨QC, 0, none⟩ = some (.int .i64 q4) ∧ u.cell? ⟨QC, 1, none⟩ = some (.slice g4 (List.length m4) c4))) (by as_aux_lemma => kernel_rfl) (by (try dsimp only); (with_reducible refine HS.out _ ?_); first | with_reducible exact hB6 | with_reducible exact hB5 | with_reducible exact (Below.refl _ W7).drew | with_reducible exact (Below.refl _ W7)) (fun hHeld => ?_)
            refine tky 0 ⟨some 88, .move (.tmp 17), 30, "two.go:74", #[], none⟩ (by intro w hSw; (try dsimp only at hSw); go_simp; all_goals with_reducible rfl) ?_
            (try simp only [Act.put, PM1, PM2, PM3])
            refine tky 1 ⟨some 89, .binOp Go.BinOp.eql 30 (.tmp 88) (.const (Go.Value.int Go.IntKind.i64 0)) 30, 4, "two.go:74", #[⟨0, .data⟩], none⟩ (by intro w hSw; (try dsimp only at hSw); go_simp; all_goals with_reducible rfl) ?_
            (try simp only [Act.put, PM1, PM2, PM3])
            (try rw [hc3])
            refine tky 2 ⟨some 90, .move (.tmp 89), 4, "two.go:74", #[⟨1, .data⟩], none⟩ (by intro w hSw; (try dsimp only at hSw); go_simp; all_goals with_reducible rfl) ?_
            (try simp only [Act.put, PM1, PM2, PM3])
            refine tkn 3 ⟨some 91, .move (.tmp 21), 30, "two.go:74", #[⟨2, .guard⟩], some (2, true)⟩ ?_
            (try simp only [Act.put, PM1, PM2, PM3])
            refine tkn 4 ⟨some 92, .binOp Go.BinOp.eql 30 (.tmp 91) (.const (Go.Value.int Go.IntKind.i64 0)) 30, 4, "two.go:74", #[⟨3, .data⟩, ⟨2, .guard⟩], some (2, true)⟩ ?_
            (try simp only [Act.put, PM1, PM2, PM3])
            refine tky 5 ⟨some 93, .pick (.tmp 90) (.tmp 92) (.const (Go.Value.bool false)), 4, "two.go:74", #[⟨2, .data⟩, ⟨4, .data⟩], none⟩ (by intro w hSw; (try dsimp only at hSw); go_simp; all_goals with_reducible rfl) ?_
            (try simp only [Act.put, PM1, PM2, PM3])
            refine tky 6 ⟨some 94, .move (.tmp 93), 4, "two.go:74", #[⟨5, .data⟩, ⟨2, .chain⟩], none⟩ (by intro w hSw; (try dsimp only at hSw); go_simp; all_goals with_reducible rfl) ?_
            (try simp only [Act.put, PM1, PM2, PM3])
            refine tkn 7 ⟨some 95, .load 24 (.tmp 5), 24, "two.go:74", #[⟨6, .guard⟩], some (6, true)⟩ ?_
            (try simp only [Act.put, PM1, PM2, PM3])
            refine tkn 8 ⟨some 96, .load 24 (.tmp 20), 24, "two.go:74", #[⟨6, .guard⟩], some (6, true)⟩ ?_
            (try simp only [Act.put, PM1, PM2, PM3])
            refine tkn 9 ⟨some 97, .move (.tmp 3), 40, "two.go:74", #[⟨6, .guard⟩], some (6, true)⟩ ?_
            (try simp only [Act.put, PM1, PM2, PM3])
            refine tkn 10 ⟨some 98, .call { callee := .value (.func 19), args := #[.tmp 97], argTypes := #[40] }, 40, "two.go:74", #[⟨9, .data⟩, ⟨6, .chain⟩, ⟨6, .guard⟩], some (6, true)⟩ ?_
            (try simp only [Act.put, PM1, PM2, PM3])
            refine tkn 11 ⟨some 99, .move (.tmp 11), 3, "two.go:74", #[⟨6, .guard⟩], some (6, true)⟩ ?_
            (try simp only [Act.put, PM1, PM2, PM3])
            refine tkn 12 ⟨some 100, .call { callee := .value (.func 18), args := #[.tmp 95, .tmp 96, .tmp 98, .tmp 99], argTypes := #[24, 24, 40, 3] }, 4, "two.go:74", #[⟨7, .data⟩, ⟨8, .data⟩, ⟨10, .data⟩, ⟨11, .data⟩, ⟨10, .chain⟩, ⟨6, .guard⟩], some (6, true)⟩ ?_
            (try simp only [Act.put, PM1, PM2, PM3])
            refine tkn 13 ⟨some 101, .unOp Go.UnOp.not 4 (.tmp 100), 4, "two.go:74", #[⟨12, .data⟩, ⟨6, .guard⟩], some (6, true)⟩ ?_
            (try simp only [Act.put, PM1, PM2, PM3])
            refine tky 14 ⟨some 102, .pick (.tmp 94) (.tmp 101) (.const (Go.Value.bool false)), 4, "two.go:74", #[⟨6, .data⟩, ⟨13, .data⟩], none⟩ (by intro w hSw; (try dsimp only at hSw); go_simp; all_goals with_reducible rfl) ?_
            (try simp only [Act.put, PM1, PM2, PM3])
            refine tky 15 ⟨some 103, .move (.tmp 102), 4, "two.go:74", #[⟨14, .data⟩, ⟨12, .chain⟩], none⟩ (by intro w hSw; (try dsimp only at hSw); go_simp; all_goals with_reducible rfl) ?_
            (try simp only [Act.put, PM1, PM2, PM3])
            refine tky 16 ⟨some 104, .move (.tmp 19), 30, "two.go:74", #[⟨15, .guard⟩], some (15, false)⟩ (by intro w hSw; (try dsimp only at hSw); go_simp; all_goals with_reducible rfl) ?_
            (try simp only [Act.put, PM1, PM2, PM3])
            refine tky 17 ⟨some 105, .binOp Go.BinOp.eql 30 (.tmp 104) (.const (Go.Value.int Go.IntKind.i64 0)) 30, 4, "two.go:74", #[⟨16, .data⟩, ⟨15, .guard⟩], some (15, false)⟩ (by intro w hSw; (try dsimp only at hSw); go_simp; all_goals with_reducible rfl) ?_
            (try simp only [Act.put, PM1, PM2, PM3])
            (try rw [hc5])
            refine tky 18 ⟨some 106, .move (.tmp 105), 4, "two.go:74", #[⟨17, .data⟩, ⟨15, .chain⟩, ⟨15, .guard⟩], some (15, false)⟩ (by intro w hSw; (try dsimp only at hSw); go_simp; all_goals with_reducible rfl) ?_
            (try simp only [Act.put, PM1, PM2, PM3])
            refine tky 19 ⟨some 107, .move (.tmp 23), 30, "two.go:74", #[⟨18, .guard⟩], some (18, true)⟩ (by intro w hSw; (try dsimp only at hSw); go_simp; all_goals with_reducible rfl) ?_
            (try simp only [Act.put, PM1, PM2, PM3])
            refine tky 20 ⟨some 108, .binOp Go.BinOp.eql 30 (.tmp 107) (.const (Go.Value.int Go.IntKind.i64 0)) 30, 4, "two.go:74", #[⟨19, .data⟩, ⟨18, .guard⟩], some (18, true)⟩ (by intro w hSw; (try dsimp only at hSw); go_simp; all_goals with_reducible rfl) ?_
            (try simp only [Act.put, PM1, PM2, PM3])
            (try rw [hc6])
            refine tky 21 ⟨some 109, .pick (.tmp 106) (.tmp 108) (.const (Go.Value.bool false)), 4, "two.go:74", #[⟨18, .data⟩, ⟨20, .data⟩, ⟨15, .guard⟩], some (15, false)⟩ (by intro w hSw; (try dsimp only at hSw); go_simp; all_goals with_reducible rfl) ?_
            (try simp only [Act.put, PM1, PM2, PM3])
            refine tky 22 ⟨some 110, .move (.tmp 109), 4, "two.go:74", #[⟨21, .data⟩, ⟨18, .chain⟩, ⟨15, .guard⟩], some (15, false)⟩ (by intro w hSw; (try dsimp only at hSw); go_simp; all_goals with_reducible rfl) ?_
            (try simp only [Act.put, PM1, PM2, PM3])
            refine tky 23 ⟨some 111, .load 24 (.tmp 5), 24, "two.go:74", #[⟨22, .guard⟩], some (22, true)⟩ (by intro w hSw; (try dsimp only at hSw); go_simp; all_goals with_reducible rfl) ?_
            (try simp only [Act.put, PM1, PM2, PM3])
            refine tky 24 ⟨some 112, .load 24 (.tmp 22), 24, "two.go:74", #[⟨22, .guard⟩], some (22, true)⟩ (by intro w hSw; (try dsimp only at hSw); go_simp; all_goals with_reducible rfl) ?_
            (try simp only [Act.put, PM1, PM2, PM3])
            refine tky 25 ⟨some 113, .move (.tmp 3), 40, "two.go:74", #[⟨22, .guard⟩], some (22, true)⟩ (by intro w hSw; (try dsimp only at hSw); go_simp; all_goals with_reducible rfl) ?_
            (try simp only [Act.put, PM1, PM2, PM3])
            refine tky 27 ⟨some 115, .move (.tmp 11), 3, "two.go:74", #[⟨22, .guard⟩], some (22, true)⟩ (by intro w hSw; (try dsimp only at hSw); go_simp; all_goals with_reducible rfl) ?_
            (try simp only [Act.put, PM1, PM2, PM3])
            refine wpAnyH_ready (rs := [26]) (by as_aux_lemma => kernel_rfl) (by simp) (AllReadyH.cons (o := ⟨some 114, .call { callee := .value (.func 19), args := #[.tmp 113], argTypes := #[40] }, 40, "two.go:74", #[⟨25, .data⟩, ⟨22, .chain⟩, ⟨22, .guard⟩], some (22, true)⟩) rfl (fun K hK => ?_) AllReadyH.nil)
            go_simp
            go_at_call 19; refine (HFEW.out _).mono ?_; rintro e wf ⟨rfl, hwf⟩; subst wf
            refine hK.out _ _ (by (try dsimp only); (with_reducible refine HS.out _ ?_); first | with_reducible exact hB6 | with_reducible exact hB5 | with_reducible exact (Below.refl _ W7).drew | with_reducible exact (Below.refl _ W7)) (fun hHeld => ?_)
            clear hK K
            (try simp only [Act.put, PM1, PM2, PM3])
            refine wpAnyH_ready (rs := [28]) (by as_aux_lemma => kernel_rfl) (by simp) (AllReadyH.cons (o := ⟨some 116, .call { callee := .value (.func 18), args := #[.tmp 111, .tmp 112, .tmp 114, .tmp 115], argTypes := #[24, 24, 40, 3] }, 4, "two.go:74", #[⟨23, .data⟩, ⟨24, .data⟩, ⟨26, .data⟩, ⟨27, .data⟩, ⟨26, .chain⟩, ⟨22, .guard⟩], some (22, true)⟩) rfl (fun K hK => ?_) AllReadyH.nil)
            go_simp
            go_at_call 18; refine (HDb.out _ (by first | exact hB6 | exact hB5 | exact (Below.refl _ W7).drew | exact Below.refl _ W7) (HD4.out H6.out)).mono ?_; rintro e w6 ⟨rfl, hb6⟩; have hB6 : Below W7.heap.size W7 w6 := (by first | exact hB5.trans (hb6.mono hB5.size) | exact (Below.refl _ W7).drew.trans hb6 | exact hb6)
            refine hK.out _ _ (by (try dsimp only); (with_reducible refine HS.out _ ?_); first | with_reducible exact hB6 | with_reducible exact hB5 | with_reducible exact (Below.refl _ W7).drew | with_reducible exact (Below.refl _ W7)) (fun hHeld => ?_)
            clear hK K
            (try simp only [Act.put, PM1, PM2, PM3])
            refine tky 29 ⟨some 117, .unOp Go.UnOp.not 4 (.tmp 116), 4, "two.go:74", #[⟨28, .data⟩, ⟨22, .guard⟩], some (22, true)⟩ (by intro w hSw; (try dsimp only at hSw); go_simp; all_goals with_reducible rfl) ?_
            (try simp only [Act.put, PM1, PM2, PM3])
            refine tky 30 ⟨some 118, .pick (.tmp 110) (.tmp 117) (.const (Go.Value.bool false)), 4, "two.go:74", #[⟨22, .data⟩, ⟨29, .data⟩, ⟨15, .guard⟩], some (15, false)⟩ (by intro w hSw; (try dsimp only at hSw); go_simp; all_goals with_reducible rfl) ?_
            (try simp only [Act.put, PM1, PM2, PM3])
            refine tky 31 ⟨some 119, .pick (.tmp 103) (.const (Go.Value.bool true)) (.tmp 118), 4, "two.go:74", #[⟨15, .data⟩, ⟨30, .data⟩], none⟩ (by intro w hSw; (try dsimp only at hSw); go_simp; all_goals with_reducible rfl) ?_
            (try simp only [Act.put, PM1, PM2, PM3])
            refine wpAnyH_done (by as_aux_lemma => kernel_rfl) ?_ _
            go_wp2
            go_meet
            exact ⟨rfl, by first | exact hB6 | exact hB5 | exact (Below.refl _ W7).drew | exact Below.refl _ _⟩
          · have hc6 : (e6 == 0) = false := by simp [h6]
            have H6 := hide h6
            clear h6
            refine wp_region_held_drew (S := (fun u => u.cell? ⟨w.heap.size, 0, none⟩ = some (.int .i64 r) ∧ u.cell? ⟨w.heap.size, 1, none⟩ = some (.slice a ns.length cap) ∧ u.cell? ⟨QA, 0, none⟩ = some (.int .i64 q3) ∧ u.cell? ⟨QA, 1, none⟩ = some (.slice g3 (List.length m3) c3) ∧ u.cell? ⟨QC, 0, none⟩ = some (.int .i64 q4) ∧ u.cell? ⟨QC, 1, none⟩ = some (.slice g4 (List.length m4) c4))) (by as_aux_lemma => kernel_rfl) (by (try dsimp only); (with_reducible refine HS.out _ ?_); first | with_reducible exact hB6 | with_reducible exact hB5 | with_reducible exact (Below.refl _ W7).drew | with_reducible exact (Below.refl _ W7)) (fun hHeld => ?_)
            refine tky 0 ⟨some 88, .move (.tmp 17), 30, "two.go:74", #[], none⟩ (by intro w hSw; (try dsimp only at hSw); go_simp; all_goals with_reducible rfl) ?_
            (try simp only [Act.put, PM1, PM2, PM3])
            refine tky 1 ⟨some 89, .binOp Go.BinOp.eql 30 (.tmp 88) (.const (Go.Value.int Go.IntKind.i64 0)) 30, 4, "two.go:74", #[⟨0, .data⟩], none⟩ (by intro w hSw; (try dsimp only at hSw); go_simp; all_goals with_reducible rfl) ?_
            (try simp only [Act.put, PM1, PM2, PM3])
            (try rw [hc3])
            refine tky 2 ⟨some 90, .move (.tmp 89), 4, "two.go:74", #[⟨1, .data⟩], none⟩ (by intro w hSw; (try dsimp only at hSw); go_simp; all_goals with_reducible rfl) ?_
            (try simp only [Act.put, PM1, PM2, PM3])
            refine tkn 3 ⟨some 91, .move (.tmp 21), 30, "two.go:74", #[⟨2, .guard⟩], some (2, true)⟩ ?_
            (try simp only [Act.put, PM1, PM2, PM3])
            refine tkn 4 ⟨some 92, .binOp Go.BinOp.eql 30 (.tmp 91) (.const (Go.Value.int Go.IntKind.i64 0)) 30, 4, "two.go:74", #[⟨3, .data⟩, ⟨2, .guard⟩], some (2, true)⟩ ?_
            (try simp only [Act.put, PM1, PM2, PM3])
            refine tky 5 ⟨some 93, .pick (.tmp 90) (.tmp 92) (.const (Go.Value.bool false)), 4, "two.go:74", #[⟨2, .data⟩, ⟨4, .data⟩], none⟩ (by intro w hSw; (try dsimp only at hSw); go_simp; all_goals with_reducible rfl) ?_
            (try simp only [Act.put, PM1, PM2, PM3])
            refine tky 6 ⟨some 94, .move (.tmp 93), 4, "two.go:74", #[⟨5, .data⟩, ⟨2, .chain⟩], none⟩ (by intro w hSw; (try dsimp only at hSw); go_simp; all_goals with_reducible rfl) ?_
            (try simp only [Act.put, PM1, PM2, PM3])
            refine tkn 7 ⟨some 95, .load 24 (.tmp 5), 24, "two.go:74", #[⟨6, .guard⟩], some (6, true)⟩ ?_
            (try simp only [Act.put, PM1, PM2, PM3])
            refine tkn 8 ⟨some 96, .load 24 (.tmp 20), 24, "two.go:74", #[⟨6, .guard⟩], some (6, true)⟩ ?_
            (try simp only [Act.put, PM1, PM2, PM3])
            refine tkn 9 ⟨some 97, .move (.tmp 3), 40, "two.go:74", #[⟨6, .guard⟩], some (6, true)⟩ ?_
            (try simp only [Act.put, PM1, PM2, PM3])
            refine tkn 10 ⟨some 98, .call { callee := .value (.func 19), args := #[.tmp 97], argTypes := #[40] }, 40, "two.go:74", #[⟨9, .data⟩, ⟨6, .chain⟩, ⟨6, .guard⟩], some (6, true)⟩ ?_
            (try simp only [Act.put, PM1, PM2, PM3])
            refine tkn 11 ⟨some 99, .move (.tmp 11), 3, "two.go:74", #[⟨6, .guard⟩], some (6, true)⟩ ?_
            (try simp only [Act.put, PM1, PM2, PM3])
            refine tkn 12 ⟨some 100, .call { callee := .value (.func 18), args := #[.tmp 95, .tmp 96, .tmp 98, .tmp 99], argTypes := #[24, 24, 40, 3] }, 4, "two.go:74", #[⟨7, .data⟩, ⟨8, .data⟩, ⟨10, .data⟩, ⟨11, .data⟩, ⟨10, .chain⟩, ⟨6, .guard⟩], some (6, true)⟩ ?_
            (try simp only [Act.put, PM1, PM2, PM3])
            refine tkn 13 ⟨some 101, .unOp Go.UnOp.not 4 (.tmp 100), 4, "two.go:74", #[⟨12, .data⟩, ⟨6, .guard⟩], some (6, true)⟩ ?_
            (try simp only [Act.put, PM1, PM2, PM3])
            refine tky 14 ⟨some 102, .pick (.tmp 94) (.tmp 101) (.const (Go.Value.bool false)), 4, "two.go:74", #[⟨6, .data⟩, ⟨13, .data⟩], none⟩ (by intro w hSw; (try dsimp only at hSw); go_simp; all_goals with_reducible rfl) ?_
            (try simp only [Act.put, PM1, PM2, PM3])
            refine tky 15 ⟨some 103, .move (.tmp 102), 4, "two.go:74", #[⟨14, .data⟩, ⟨12, .chain⟩], none⟩ (by intro w hSw; (try dsimp only at hSw); go_simp; all_goals with_reducible rfl) ?_
            (try simp only [Act.put, PM1, PM2, PM3])
            refine tky 16 ⟨some 104, .move (.tmp 19), 30, "two.go:74", #[⟨15, .guard⟩], some (15, false)⟩ (by intro w hSw; (try dsimp only at hSw); go_simp; all_goals with_reducible rfl) ?_
            (try simp only [Act.put, PM1, PM2, PM3])
            refine tky 17 ⟨some 105, .binOp Go.BinOp.eql 30 (.tmp 104) (.const (Go.Value.int Go.IntKind.i64 0)) 30, 4, "two.go:74", #[⟨16, .data⟩, ⟨15, .guard⟩], some (15, false)⟩ (by intro w hSw; (try dsimp only at hSw); go_simp; all_goals with_reducible rfl) ?_
            (try simp only [Act.put, PM1, PM2, PM3])
            (try rw [hc5])
            refine tky 18 ⟨some 106, .move (.tmp 105), 4, "two.go:74", #[⟨17, .data⟩, ⟨15, .chain⟩, ⟨15, .guard⟩], some (15, false)⟩ (by intro w hSw; (try dsimp only at hSw); go_simp; all_goals with_reducible rfl) ?_
            (try simp only [Act.put, PM1, PM2, PM3])
            refine tky 19 ⟨some 107, .move (.tmp 23), 30, "two.go:74", #[⟨18, .guard⟩], some (18, true)⟩ (by intro w hSw; (try dsimp only at hSw); go_simp; all_goals with_reducible rfl) ?_
            (try simp only [Act.put, PM1, PM2, PM3])
            refine tky 20 ⟨some 108, .binOp Go.BinOp.eql 30 (.tmp 107) (.const (Go.Value.int Go.IntKind.i64 0)) 30, 4, "two.go:74", #[⟨19, .data⟩, ⟨18, .guard⟩], some (18, true)⟩ (by intro w hSw; (try dsimp only at hSw); go_simp; all_goals with_reducible rfl) ?_
            (try simp only [Act.put, PM1, PM2, PM3])
            (try rw [hc6])
            refine tky 21 ⟨some 109, .pick (.tmp 106) (.tmp 108) (.const (Go.Value.bool false)), 4, "two.go:74", #[⟨18, .data⟩, ⟨20, .data⟩, ⟨15, .guard⟩], some (15, false)⟩ (by intro w hSw; (try dsimp only at hSw); go_simp; all_goals with_reducible rfl) ?_
            (try simp only [Act.put, PM1, PM2, PM3])
            refine tky 22 ⟨some 110, .move (.tmp 109), 4, "two.go:74", #[⟨21, .data⟩, ⟨18, .chain⟩, ⟨15, .guard⟩], some (15, false)⟩ (by intro w hSw; (try dsimp only at hSw); go_simp; all_goals with_reducible rfl) ?_
            (try simp only [Act.put, PM1, PM2, PM3])
            refine tkn 23 ⟨some 111, .load 24 (.tmp 5), 24, "two.go:74", #[⟨22, .guard⟩], some (22, true)⟩ ?_
            (try simp only [Act.put, PM1, PM2, PM3])
            refine tkn 24 ⟨some 112, .load 24 (.tmp 22), 24, "two.go:74", #[⟨22, .guard⟩], some (22, true)⟩ ?_
            (try simp only [Act.put, PM1, PM2, PM3])
            refine tkn 25 ⟨some 113, .move (.tmp 3), 40, "two.go:74", #[⟨22, .guard⟩], some (22, true)⟩ ?_
            (try simp only [Act.put, PM1, PM2, PM3])
            refine tkn 26 ⟨some 114, .call { callee := .value (.func 19), args := #[.tmp 113], argTypes := #[40] }, 40, "two.go:74", #[⟨25, .data⟩, ⟨22, .chain⟩, ⟨22, .guard⟩], some (22, true)⟩ ?_
            (try simp only [Act.put, PM1, PM2, PM3])
            refine tkn 27 ⟨some 115, .move (.tmp 11), 3, "two.go:74", #[⟨22, .guard⟩], some (22, true)⟩ ?_
            (try simp only [Act.put, PM1, PM2, PM3])
            refine tkn 28 ⟨some 116, .call { callee := .value (.func 18), args := #[.tmp 111, .tmp 112, .tmp 114, .tmp 115], argTypes := #[24, 24, 40, 3] }, 4, "two.go:74", #[⟨23, .data⟩, ⟨24, .data⟩, ⟨26, .data⟩, ⟨27, .data⟩, ⟨26, .chain⟩, ⟨22, .guard⟩], some (22, true)⟩ ?_
            (try simp only [Act.put, PM1, PM2, PM3])
            refine tkn 29 ⟨some 117, .unOp Go.UnOp.not 4 (.tmp 116), 4, "two.go:74", #[⟨28, .data⟩, ⟨22, .guard⟩], some (22, true)⟩ ?_
            (try simp only [Act.put, PM1, PM2, PM3])
            refine tky 30 ⟨some 118, .pick (.tmp 110) (.tmp 117) (.const (Go.Value.bool false)), 4, "two.go:74", #[⟨22, .data⟩, ⟨29, .data⟩, ⟨15, .guard⟩], some (15, false)⟩ (by intro w hSw; (try dsimp only at hSw); go_simp; all_goals with_reducible rfl) ?_
            (try simp only [Act.put, PM1, PM2, PM3])
            refine tky 31 ⟨some 119, .pick (.tmp 103) (.const (Go.Value.bool true)) (.tmp 118), 4, "two.go:74", #[⟨15, .data⟩, ⟨30, .data⟩], none⟩ (by intro w hSw; (try dsimp only at hSw); go_simp; all_goals with_reducible rfl) ?_
            (try simp only [Act.put, PM1, PM2, PM3])
            refine wpAnyH_done (by as_aux_lemma => kernel_rfl) ?_ _
            go_wp2
            go_meet
            exact ⟨rfl, by first | exact hB6 | exact hB5 | exact (Below.refl _ W7).drew | exact Below.refl _ _⟩
        · have hc5 : (e5 == 0) = false := by simp [h5]
          clear h5
          refine wp_region_held_drew (S := (fun u => u.cell? ⟨w.heap.size, 0, none⟩ = some (.int .i64 r) ∧ u.cell? ⟨w.heap.size, 1, none⟩ = some (.slice a ns.length cap) ∧ u.cell? ⟨QA, 0, none⟩ = some (.int .i64 q3) ∧ u.cell? ⟨QA, 1, none⟩ = some (.slice g3 (List.length m3) c3) ∧ u.cell? ⟨QC, 0, none⟩ = some (.int .i64 q4) ∧ u.cell? ⟨QC, 1, none⟩ = some (.slice g4 (List.length m4) c4))) (by as_aux_lemma => kernel_rfl) (by (try dsimp only); (with_reducible refine HS.out _ ?_); first | with_reducible exact hB6 | with_reducible exact hB5 | with_reducible exact (Below.refl _ W7).drew | with_reducible exact (Below.refl _ W7)) (fun hHeld => ?_)
          refine tky 0 ⟨some 88, .move (.tmp 17), 30, "two.go:74", #[], none⟩ (by intro w hSw; (try dsimp only at hSw); go_simp; all_goals with_reducible rfl) ?_
          (try simp only [Act.put, PM1, PM2, PM3])
          refine tky 1 ⟨some 89, .binOp Go.BinOp.eql 30 (.tmp 88) (.const (Go.Value.int Go.IntKind.i64 0)) 30, 4, "two.go:74", #[⟨0, .data⟩], none⟩ (by intro w hSw; (try dsimp only at hSw); go_simp; all_goals with_reducible rfl) ?_
          (try simp only [Act.put, PM1, PM2, PM3])
          (try rw [hc3])
          refine tky 2 ⟨some 90, .move (.tmp 89), 4, "two.go:74", #[⟨1, .data⟩], none⟩ (by intro w hSw; (try dsimp only at hSw); go_simp; all_goals with_reducible rfl) ?_
          (try simp only [Act.put, PM1, PM2, PM3])
          refine tkn 3 ⟨some 91, .move (.tmp 21), 30, "two.go:74", #[⟨2, .guard⟩], some (2, true)⟩ ?_
          (try simp only [Act.put, PM1, PM2, PM3])
          refine tkn 4 ⟨some 92, .binOp Go.BinOp.eql 30 (.tmp 91) (.const (Go.Value.int Go.IntKind.i64 0)) 30, 4, "two.go:74", #[⟨3, .data⟩, ⟨2, .guard⟩], some (2, true)⟩ ?_
          (try simp only [Act.put, PM1, PM2, PM3])
          refine tky 5 ⟨some 93, .pick (.tmp 90) (.tmp 92) (.const (Go.Value.bool false)), 4, "two.go:74", #[⟨2, .data⟩, ⟨4, .data⟩], none⟩ (by intro w hSw; (try dsimp only at hSw); go_simp; all_goals with_reducible rfl) ?_
          (try simp only [Act.put, PM1, PM2, PM3])
          refine tky 6 ⟨some 94, .move (.tmp 93), 4, "two.go:74", #[⟨5, .data⟩, ⟨2, .chain⟩], none⟩ (by intro w hSw; (try dsimp only at hSw); go_simp; all_goals with_reducible rfl) ?_
          (try simp only [Act.put, PM1, PM2, PM3])
          refine tkn 7 ⟨some 95, .load 24 (.tmp 5), 24, "two.go:74", #[⟨6, .guard⟩], some (6, true)⟩ ?_
          (try simp only [Act.put, PM1, PM2, PM3])
          refine tkn 8 ⟨some 96, .load 24 (.tmp 20), 24, "two.go:74", #[⟨6, .guard⟩], some (6, true)⟩ ?_
          (try simp only [Act.put, PM1, PM2, PM3])
          refine tkn 9 ⟨some 97, .move (.tmp 3), 40, "two.go:74", #[⟨6, .guard⟩], some (6, true)⟩ ?_
          (try simp only [Act.put, PM1, PM2, PM3])
          refine tkn 10 ⟨some 98, .call { callee := .value (.func 19), args := #[.tmp 97], argTypes := #[40] }, 40, "two.go:74", #[⟨9, .data⟩, ⟨6, .chain⟩, ⟨6, .guard⟩], some (6, true)⟩ ?_
          (try simp only [Act.put, PM1, PM2, PM3])
          refine tkn 11 ⟨some 99, .move (.tmp 11), 3, "two.go:74", #[⟨6, .guard⟩], some (6, true)⟩ ?_
          (try simp only [Act.put, PM1, PM2, PM3])
          refine tkn 12 ⟨some 100, .call { callee := .value (.func 18), args := #[.tmp 95, .tmp 96, .tmp 98, .tmp 99], argTypes := #[24, 24, 40, 3] }, 4, "two.go:74", #[⟨7, .data⟩, ⟨8, .data⟩, ⟨10, .data⟩, ⟨11, .data⟩, ⟨10, .chain⟩, ⟨6, .guard⟩], some (6, true)⟩ ?_
          (try simp only [Act.put, PM1, PM2, PM3])
          refine tkn 13 ⟨some 101, .unOp Go.UnOp.not 4 (.tmp 100), 4, "two.go:74", #[⟨12, .data⟩, ⟨6, .guard⟩], some (6, true)⟩ ?_
          (try simp only [Act.put, PM1, PM2, PM3])
          refine tky 14 ⟨some 102, .pick (.tmp 94) (.tmp 101) (.const (Go.Value.bool false)), 4, "two.go:74", #[⟨6, .data⟩, ⟨13, .data⟩], none⟩ (by intro w hSw; (try dsimp only at hSw); go_simp; all_goals with_reducible rfl) ?_
          (try simp only [Act.put, PM1, PM2, PM3])
          refine tky 15 ⟨some 103, .move (.tmp 102), 4, "two.go:74", #[⟨14, .data⟩, ⟨12, .chain⟩], none⟩ (by intro w hSw; (try dsimp only at hSw); go_simp; all_goals with_reducible rfl) ?_
          (try simp only [Act.put, PM1, PM2, PM3])
          refine tky 16 ⟨some 104, .move (.tmp 19), 30, "two.go:74", #[⟨15, .guard⟩], some (15, false)⟩ (by intro w hSw; (try dsimp only at hSw); go_simp; all_goals with_reducible rfl) ?_
          (try simp only [Act.put, PM1, PM2, PM3])
          refine tky 17 ⟨some 105, .binOp Go.BinOp.eql 30 (.tmp 104) (.const (Go.Value.int Go.IntKind.i64 0)) 30, 4, "two.go:74", #[⟨16, .data⟩, ⟨15, .guard⟩], some (15, false)⟩ (by intro w hSw; (try dsimp only at hSw); go_simp; all_goals with_reducible rfl) ?_
          (try simp only [Act.put, PM1, PM2, PM3])
          (try rw [hc5])
          refine tky 18 ⟨some 106, .move (.tmp 105), 4, "two.go:74", #[⟨17, .data⟩, ⟨15, .chain⟩, ⟨15, .guard⟩], some (15, false)⟩ (by intro w hSw; (try dsimp only at hSw); go_simp; all_goals with_reducible rfl) ?_
          (try simp only [Act.put, PM1, PM2, PM3])
          refine tkn 19 ⟨some 107, .move (.tmp 23), 30, "two.go:74", #[⟨18, .guard⟩], some (18, true)⟩ ?_
          (try simp only [Act.put, PM1, PM2, PM3])
          refine tkn 20 ⟨some 108, .binOp Go.BinOp.eql 30 (.tmp 107) (.const (Go.Value.int Go.IntKind.i64 0)) 30, 4, "two.go:74", #[⟨19, .data⟩, ⟨18, .guard⟩], some (18, true)⟩ ?_
          (try simp only [Act.put, PM1, PM2, PM3])
          refine tky 21 ⟨some 109, .pick (.tmp 106) (.tmp 108) (.const (Go.Value.bool false)), 4, "two.go:74", #[⟨18, .data⟩, ⟨20, .data⟩, ⟨15, .guard⟩], some (15, false)⟩ (by intro w hSw; (try dsimp only at hSw); go_simp; all_goals with_reducible rfl) ?_
          (try simp only [Act.put, PM1, PM2, PM3])
          refine tky 22 ⟨some 110, .move (.tmp 109), 4, "two.go:74", #[⟨21, .data⟩, ⟨18, .chain⟩, ⟨15, .guard⟩], some (15, false)⟩ (by intro w hSw; (try dsimp only at hSw); go_simp; all_goals with_reducible rfl) ?_
          (try simp only [Act.put, PM1, PM2, PM3])
          refine tkn 23 ⟨some 111, .load 24 (.tmp 5), 24, "two.go:74", #[⟨22, .guard⟩], some (22, true)⟩ ?_
          (try simp only [Act.put, PM1, PM2, PM3])
          refine tkn 24 ⟨some 112, .load 24 (.tmp 22), 24, "two.go:74", #[⟨22, .guard⟩], some (22, true)⟩ ?_
          (try simp only [Act.put, PM1, PM2, PM3])
          refine tkn 25 ⟨some 113, .move (.tmp 3), 40, "two.go:74", #[⟨22, .guard⟩], some (22, true)⟩ ?_
          (try simp only [Act.put, PM1, PM2, PM3])
          refine tkn 26 ⟨some 114, .call { callee := .value (.func 19), args := #[.tmp 113], argTypes := #[40] }, 40, "two.go:74", #[⟨25, .data⟩, ⟨22, .chain⟩, ⟨22, .guard⟩], some (22, true)⟩ ?_
          (try simp only [Act.put, PM1, PM2, PM3])
          refine tkn 27 ⟨some 115, .move (.tmp 11), 3, "two.go:74", #[⟨22, .guard⟩], some (22, true)⟩ ?_
          (try simp only [Act.put, PM1, PM2, PM3])
          refine tkn 28 ⟨some 116, .call { callee := .value (.func 18), args := #[.tmp 111, .tmp 112, .tmp 114, .tmp 115], argTypes := #[24, 24, 40, 3] }, 4, "two.go:74", #[⟨23, .data⟩, ⟨24, .data⟩, ⟨26, .data⟩, ⟨27, .data⟩, ⟨26, .chain⟩, ⟨22, .guard⟩], some (22, true)⟩ ?_
          (try simp only [Act.put, PM1, PM2, PM3])
          refine tkn 29 ⟨some 117, .unOp Go.UnOp.not 4 (.tmp 116), 4, "two.go:74", #[⟨28, .data⟩, ⟨22, .guard⟩], some (22, true)⟩ ?_
          (try simp only [Act.put, PM1, PM2, PM3])
          refine tky 30 ⟨some 118, .pick (.tmp 110) (.tmp 117) (.const (Go.Value.bool false)), 4, "two.go:74", #[⟨22, .data⟩, ⟨29, .data⟩, ⟨15, .guard⟩], some (15, false)⟩ (by intro w hSw; (try dsimp only at hSw); go_simp; all_goals with_reducible rfl) ?_
          (try simp only [Act.put, PM1, PM2, PM3])
          refine tky 31 ⟨some 119, .pick (.tmp 103) (.const (Go.Value.bool true)) (.tmp 118), 4, "two.go:74", #[⟨15, .data⟩, ⟨30, .data⟩], none⟩ (by intro w hSw; (try dsimp only at hSw); go_simp; all_goals with_reducible rfl) ?_
          (try simp only [Act.put, PM1, PM2, PM3])
          refine wpAnyH_done (by as_aux_lemma => kernel_rfl) ?_ _
          go_wp2
          go_meet
          exact ⟨rfl, by first | exact hB6 | exact hB5 | exact (Below.refl _ W7).drew | exact Below.refl _ _⟩
    case rest =>
      obtain ⟨rfl, hBc⟩ := hcut
      replace HB := hide (HB.out.trans (hBc.mono HB.out.size))
      clear hBc pl al cl HS HDa HDb HNk HJk HA HC HM0 HM1 HD3 HD4 HP
      go_wp2_with fail
      refine (moveBegun_any _).mono ?_
      rintro e w8 ⟨rfl, hb8⟩
      go_wp2
      go_ret
      exact ⟨by first | rfl | simp, HB.out.trans (hb8.mono HB.out.size)⟩

end Go.Proofs.YtoikglgnmjjpcabGreat

namespace Go.Proofs.YtoikglgnmjjpcabGreat
open Go.ChangeShapes Go.WideShapes Go.ChangeAt Go.RowKit
set_option linter.unusedVariables false

theorem moveSame_any (r : Int) (a : Option Addr) (cap : Nat) (ns : List Nd) (t : Tm) (ba : Option Addr) (bc : Nat) (us : List Bool) (ia : Option Addr) (ic : Nat) (inp : List Int) (fuel : Int) (w : World) (hN : SlN w a ns) (hP : BoolsAt w ba us) (hpc : us.length ≤ bc) (hpl : us.length ≤ 9223372036854775807) (hI : IntsAt w ia inp) (hic : inp.length ≤ ic) (hil : inp.length ≤ 9223372036854775807) (hf : -9223372036854775808 ≤ fuel ∧ fuel ≤ 9223372036854775807) :
    Calls Tryz.prog 4 #[.agg #[.int .i64 r, .slice a ns.length cap], .agg #[.int .i64 t.op, .int .i64 t.a, .int .i64 t.b], .slice ba us.length bc, .slice ia inp.length ic, .int .i64 fuel] w fun e w' => e = .returned (.bool true) ∧ Below w.heap.size w w' :=
  moveSame_walk r a cap ns t ba bc us ia ic inp fuel w hN hP hI hic hil hf

set_option maxRecDepth 100000 in
theorem moveSame_lifted (os : Os) (started : os.Started) (H : Type) (enc : TypeId × Value → H) :
    ReturnsInHanded {} Tryz.checked os 4 .any (Rows.moveSameSpec.pre6 enc Tryz.prog Tryz.f4 Rows.moveSameRow.domain false) (Rows.moveSameSpec.post enc Tryz.prog Tryz.f4 false true false false) := by
  refine returnsInHanded_of_change (C := Tryz.checked) own started (by kernel_rfl) Tryz.func4
    (ChangeSpec.witness6 (enc := enc) (C := Tryz.checked) false ⟨#[], #[.agg #[.int .i64 0, .slice none 0 0], .agg #[.int .i64 0, .int .i64 0, .int .i64 0], .slice none 0 0, .slice none 0 0, .int .i64 0], []⟩ 8 (by kernel_rfl) (by kernel_rfl) (by kernel_rfl) (by kernel_rfl)) ?_
  intro W base args ds gs before hval0 hW hcnd _
  have hval : ∀ (j : Nat) t v, Tryz.f4.params[j]? = some t → args[j]? = some v → Value.okWide Tryz.prog W .any base t v := hval0
  have hW' := hW
  obtain ⟨p, q, hA0, hV, rfl, hfz, hnd⟩ := hW
  have hA : DataW.TrodAll enc Tryz.prog W 0 (fun _ => true) true Tryz.f4.params.toList args.toList ds p := hA0
  rw [Tryz.params4] at hA hval
  obtain ⟨v0, vs0, d0, ds0, p0, q0, hargs, rfl, rfl, h0, r0⟩ := trodAll_cons hA
  obtain ⟨v1, vs1, d1, ds1, p1, q1, rfl, rfl, rfl, h1, r1⟩ := trodAll_cons r0
  obtain ⟨v2, vs2, d2, ds2, p2, q2, rfl, rfl, rfl, h2, r2⟩ := trodAll_cons r1
  obtain ⟨v3, vs3, d3, ds3, p3, q3, rfl, rfl, rfl, h3, r3⟩ := trodAll_cons r2
  obtain ⟨v4, vs4, d4, ds4, p4, q4, rfl, rfl, rfl, h4, r4⟩ := trodAll_cons r3
  obtain ⟨rfl, rfl, rfl⟩ := trodAll_nil r4
  obtain rfl : args = #[v0, v1, v2, v3, v4] := by cases args; simp_all
  obtain ⟨rfl, rfl⟩ := trodVars_none hV
  have k0 := h0
  have lt0 : ∀ x ∈ p0, x.block < W.heap.size := by obtain ⟨m, hm⟩ := k0; exact DataW.trod_lt m _ _ _ hm
  have k1 := h1
  have lt1 : ∀ x ∈ p1, x.block < W.heap.size := by obtain ⟨m, hm⟩ := k1; exact DataW.trod_lt m _ _ _ hm
  have k2 := h2
  have lt2 : ∀ x ∈ p2, x.block < W.heap.size := by obtain ⟨m, hm⟩ := k2; exact DataW.trod_lt m _ _ _ hm
  have k3 := h3
  have lt3 : ∀ x ∈ p3, x.block < W.heap.size := by obtain ⟨m, hm⟩ := k3; exact DataW.trod_lt m _ _ _ hm
  obtain ⟨r, a, cap, ns, rfl, hN, hl⟩ := open_prog (hval 0 24 v0 rfl rfl) h0
  obtain ⟨tm, rfl⟩ := open_term (hval 1 26 v1 rfl rfl) h1
  obtain ⟨ba, bc, put, rfl, hP, hpl, hpc⟩ := open_boolsM (hval 2 27 v2 rfl rfl) h2
  obtain ⟨ia, ic, inp, rfl, hI, hil, hic⟩ := open_ints_arg (hval 3 40 v3 rfl rfl) h3
  obtain ⟨n, rfl, rfl, rfl, w2⟩ := open_int Tryz.underlying3 (hval 4 3 v4 rfl rfl) h4
  clear hA0 hval0
  refine (moveSame_any r a cap ns tm ba bc put ia ic inp n W hN hP hpc hpl hI hic hil (wf_range w2)).mono fun e W' ⟨he, bel⟩ => ?_
  subst he
  exact ⟨_, rfl, _, _, _, [], _, [], hW', trodAll_mk1 (shut_bool Tryz.underlying4 _), (trodAll_cons_mk (Below.trod laidOut (by kernel_rfl) (of_decide_eq_true (by kernel_rfl)) k0 bel lt0) (trodAll_cons_mk (Below.trod laidOut (by kernel_rfl) (of_decide_eq_true (by kernel_rfl)) k1 bel lt1) (trodAll_cons_mk (Below.trod laidOut (by kernel_rfl) (of_decide_eq_true (by kernel_rfl)) k2 bel lt2) (trodAll_cons_mk (Below.trod laidOut (by kernel_rfl) (of_decide_eq_true (by kernel_rfl)) k3 bel lt3) (trodAll_cons_mk (shut_int Tryz.underlying3 w2) trodAll_mk0))))), rfl, bel.frame _, fun h => by cases h⟩

theorem moveSame_over : Rows.moveSameRow.holds Tryz.pinned (OpenSpec.ofChange Rows.moveSameSpec) :=
  OpenClaim.holds_of_wide 4 Tryz.f4 rfl rfl rfl rfl rfl rfl rfl ⟨rfl, rfl, rfl, rfl, rfl⟩ rfl rfl rfl rfl rfl (by kernel_rfl) Tryz.func4 (by kernel_rfl)
    (of_decide_eq_true (by kernel_rfl)) (by unfold Func.isWrapper; first | (rw [if_pos (by decide +kernel)]; kernel_rfl) | (rw [if_neg (by decide +kernel)]; exact ⟨rfl, rfl⟩))
    (fun os started H enc _ => moveSame_lifted os started H enc)

theorem moveSame_holds : Rows.MoveSameSaid := moveSame_over
#print axioms moveSame_holds
end Go.Proofs.YtoikglgnmjjpcabGreat
