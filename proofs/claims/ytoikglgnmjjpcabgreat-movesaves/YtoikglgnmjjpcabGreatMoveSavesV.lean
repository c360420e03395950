/-
  Whatever program, term, numbers and fuel hoistwaylaw.MoveSaves is handed, it returns true and leaves its arguments as they were: a run that ends reckons the term no more often than before, all other terms just as often. No condition.
  hoistwaylaw.MoveSaves, walked.
-/
import Derived.Test.YtoikglgnmjjpcabGreatS13
namespace Go.Proofs.YtoikglgnmjjpcabGreat
open Go.RowKit Go.Shelf
set_option linter.unusedVariables false
set_option linter.unusedSimpArgs false

theorem srt_runM {r : Int} {ns : List Nd} (hc : chk r ns = 0) (n k : Nat) (inp : List Int) : Srt (runN ns n (st0 k inp)).cts := (DR.run hc n (DR.start hc k inp)).ss

/-- What MoveSaves asks of two runs. -/
structure Saves (t : Tm) (σ τ : St) : Prop where
  ended : σ.ended = true → τ.ended = true
  less : σ.ended = true → cnt τ.cts t ≤ cnt σ.cts t
  oth : σ.ended = true → ∀ t', t' ≠ t → cnt τ.cts t' = cnt σ.cts t'
  ss : Srt σ.cts
  st : Srt τ.cts

theorem saves_of {r : Int} {ns : List Nd} {t : Tm} (h : OneOk r ns t) (jn : List Int) (n : Nat) : Saves t (runN ns n (st0 r.toNat jn)) (runN (oneN ns t r) (n * ((oneN ns t r).length + 1)) (st0 (oneR ns t r).toNat jn)) := by
  have hr := (chk_full h.ck).2.1
  have er : ((r.toNat : Nat) : Int) = r := by omega
  have key : ∀ he : (runN ns n (st0 r.toNat jn)).ended = true, _ := fun he => one_saves (r := r.toNat) (by rw [er]; exact h.ck) (t := t) (by rw [er]; exact h.tm) h.len jn he (M := n * ((oneN ns t r).length + 1)) (by rw [er]; exact Nat.mul_le_mul_left _ (by omega))
  rw [er] at key
  exact ⟨fun he => (key he).1, fun he => (key he).2.1, fun he => (key he).2.2, srt_runM h.ck _ _ _, srt_runM h.next _ _ _⟩

set_option maxHeartbeats 8000000 in
set_option maxRecDepth 100000 in
theorem moveSaves_wrong (r : Int) (a : Option Addr) (cap : Nat) (ns : List Nd) (t : Tm) (ia : Option Addr) (ic : Nat) (inp : List Int) (fuel : Int) (w : World) (hN : SlN w a ns) (hI : IntsAt w ia inp) (hic : inp.length ≤ ic) (hil : inp.length ≤ 9223372036854775807) (hf : -9223372036854775808 ≤ fuel ∧ fuel ≤ 9223372036854775807) (he : oneE r ns t ≠ 0) :
    Calls Tryz.prog 5 #[.agg #[.int .i64 r, .slice a ns.length cap], .agg #[.int .i64 t.op, .int .i64 t.a, .int .i64 t.b], .slice ia inp.length ic, .int .i64 fuel] w fun e w' => e = .returned (.bool true) ∧ Below w.heap.size w w' := by
  have HON : Hid (∀ W, Below w.heap.size w W → Calls Tryz.prog 9 #[.agg #[.int .i64 r, .slice a ns.length cap], .agg #[.int .i64 t.op, .int .i64 t.a, .int .i64 t.b]] W fun e w' => e = .returned (.tuple #[.agg #[.int .i64 0, .slice none 0 0], .int .i64 (oneE r ns t)]) ∧ Below W.heap.size W w') := fun W h => by
    refine (one_any r a cap ns t W (hN.below h)).mono ?_
    rintro e w' ⟨h, hB⟩
    rcases h with ⟨_, rfl⟩ | ⟨q, _⟩
    · exact ⟨rfl, hB⟩
    · exact absurd q he
  have hcb : (oneE r ns t == 0) = false := by simp [he]
  have hcn : (oneE r ns t != 0) = true := by simp [he]
  clear he hN
  generalize oneE r ns t = C at *
  have hb0 : Below w.heap.size w ((w.alloc (.cells #[.int .i64 r, .slice a ns.length cap] 24)).alloc (.cells #[.int .i64 t.op, .int .i64 t.a, .int .i64 t.b] 26)) := ((Below.refl _ w).alloc (Nat.le_refl _) _).alloc (by simp) _
  have hp0 : ((w.alloc (.cells #[.int .i64 r, .slice a ns.length cap] 24)).alloc (.cells #[.int .i64 t.op, .int .i64 t.a, .int .i64 t.b] 26)).heap[w.heap.size]? = some (.cells #[.int .i64 r, .slice a ns.length cap] 24 (0, 0)) := by
    have := World.alloc_heap_new w (.cells #[.int .i64 r, .slice a ns.length cap] 24)
    exact (Below.heap_alloc _ _ _ (by simp; try omega)).trans this
  have ht0 : ((w.alloc (.cells #[.int .i64 r, .slice a ns.length cap] 24)).alloc (.cells #[.int .i64 t.op, .int .i64 t.a, .int .i64 t.b] 26)).heap[w.heap.size + 1]? = some (.cells #[.int .i64 t.op, .int .i64 t.a, .int .i64 t.b] 26 (0, 0)) := by
    have := World.alloc_heap_new (w.alloc (.cells #[.int .i64 r, .slice a ns.length cap] 24)) (.cells #[.int .i64 t.op, .int .i64 t.a, .int .i64 t.b] 26)
    simp only [World.size_alloc] at this
    exact this
  go_enter Tryz.func5, Tryz.ntmps5
  go_upto_region 1 with fail
  generalize ((w.alloc (.cells #[.int .i64 r, .slice a ns.length cap] 24)).alloc (.cells #[.int .i64 t.op, .int .i64 t.a, .int .i64 t.b] 26)) = W0 at hb0 hp0 ht0 ⊢
  have HB := hide hb0
  have HP := hide hp0
  have HT := hide ht0
  clear hb0 hp0 ht0
  have p0 := blk_cell HP.out 0
  have p1 := blk_cell HP.out 1
  simp at p0 p1
  have pl := blk_lt HP.out
  have t0 := blk_cell HT.out 0
  have t1 := blk_cell HT.out 1
  have t2 := blk_cell HT.out 2
  simp at t0 t1 t2
  have tl := blk_lt HT.out
  go_wp2_with fail
  refine (HON.out _ HB.out).mono ?_
  rintro e w1 ⟨rfl, hb1⟩
  have hb1' := hb1.alloc hb1.size (.cells #[.int .i64 0, .slice none 0 0] 24)
  have HB1 := hide (HB.out.trans (hb1'.mono HB.out.size))
  clear hb1 hb1' HB p0 p1 pl t0 t1 t2 tl HON
  go_upto_region 2 with fail
  generalize (w1.alloc (.cells #[.int .i64 0, .slice none 0 0] 24)) = W1 at HB1 ⊢
  generalize w1.heap.size = QB
  go_wp2_with fail
  refine (moveBegun_any _).mono ?_
  rintro e w4 ⟨rfl, hb4⟩
  go_wp2
  go_ret
  exact ⟨by first | rfl | simp, HB1.out.trans (hb4.mono HB1.out.size)⟩

set_option maxHeartbeats 40000000 in
set_option maxRecDepth 100000 in
theorem moveSaves_right (r : Int) (a : Option Addr) (cap : Nat) (ns : List Nd) (t : Tm) (ia : Option Addr) (ic : Nat) (inp : List Int) (fuel : Int) (w : World) (hN : SlN w a ns) (hI : IntsAt w ia inp) (hic : inp.length ≤ ic) (hil : inp.length ≤ 9223372036854775807) (hf : -9223372036854775808 ≤ fuel ∧ fuel ≤ 9223372036854775807) (he : oneE r ns t = 0) :
    Calls Tryz.prog 5 #[.agg #[.int .i64 r, .slice a ns.length cap], .agg #[.int .i64 t.op, .int .i64 t.a, .int .i64 t.b], .slice ia inp.length ic, .int .i64 fuel] w fun e w' => e = .returned (.bool true) ∧ Below w.heap.size w w' := by
  have HFEW := hide (fun u => few_any ia ic inp u hic hil)
  have hJ := hI.take 256
  have hj256 : (inp.take 256).length ≤ 256 := by simp; omega
  have hjc : (inp.take 256).length ≤ ic := by simp; omega
  have hjl : (inp.take 256).length ≤ 9223372036854775807 := by omega
  generalize inp.take 256 = jn at HFEW hJ hj256 hjc hjl
  have hpf := pickF_range fuel
  have ho := oneE_ok he
  have hcm := ho.next
  have HC := hide ho.ck
  have HCM := hide hcm
  have hml := (chk_full hcm).1
  have HN := hide hN
  have HJ := hide hJ
  have HSV := hide (fun n => saves_of ho jn n)
  have HON : Hid (∀ W, Below w.heap.size w W → Calls Tryz.prog 9 #[.agg #[.int .i64 r, .slice a ns.length cap], .agg #[.int .i64 t.op, .int .i64 t.a, .int .i64 t.b]] W fun e w' => ∃ gb gc, e = .returned (.tuple #[.agg #[.int .i64 (oneR ns t r), .slice (some ⟨gb, 0, none⟩) (List.length (oneN ns t r)) gc], .int .i64 0]) ∧ SlN w' (some ⟨gb, 0, none⟩) (oneN ns t r) ∧ Below W.heap.size W w') := fun W h => by
    refine (one_any r a cap ns t W (hN.below h)).mono ?_
    rintro e w' ⟨h, hB⟩
    rcases h with ⟨q, _⟩ | ⟨_, gb, gc, rfl, hV⟩
    · exact absurd he q
    · exact ⟨gb, gc, rfl, Or.inr ⟨gb, 0, rfl, len_row hV hml.1⟩, hB⟩
  clear he ho hcm hN hI hJ hil
  generalize oneN ns t r = ms at *
  generalize oneR ns t r = q at *
  have hb0 : Below w.heap.size w ((w.alloc (.cells #[.int .i64 r, .slice a ns.length cap] 24)).alloc (.cells #[.int .i64 t.op, .int .i64 t.a, .int .i64 t.b] 26)) := ((Below.refl _ w).alloc (Nat.le_refl _) _).alloc (by simp) _
  have hp0 : ((w.alloc (.cells #[.int .i64 r, .slice a ns.length cap] 24)).alloc (.cells #[.int .i64 t.op, .int .i64 t.a, .int .i64 t.b] 26)).heap[w.heap.size]? = some (.cells #[.int .i64 r, .slice a ns.length cap] 24 (0, 0)) := by
    have := World.alloc_heap_new w (.cells #[.int .i64 r, .slice a ns.length cap] 24)
    exact (Below.heap_alloc _ _ _ (by simp; try omega)).trans this
  have ht0 : ((w.alloc (.cells #[.int .i64 r, .slice a ns.length cap] 24)).alloc (.cells #[.int .i64 t.op, .int .i64 t.a, .int .i64 t.b] 26)).heap[w.heap.size + 1]? = some (.cells #[.int .i64 t.op, .int .i64 t.a, .int .i64 t.b] 26 (0, 0)) := by
    have := World.alloc_heap_new (w.alloc (.cells #[.int .i64 r, .slice a ns.length cap] 24)) (.cells #[.int .i64 t.op, .int .i64 t.a, .int .i64 t.b] 26)
    simp only [World.size_alloc] at this
    exact this
  go_enter Tryz.func5, Tryz.ntmps5
  go_upto_region 1 with fail
  generalize ((w.alloc (.cells #[.int .i64 r, .slice a ns.length cap] 24)).alloc (.cells #[.int .i64 t.op, .int .i64 t.a, .int .i64 t.b] 26)) = W0 at hb0 hp0 ht0 ⊢
  have HB := hide hb0
  have HP := hide hp0
  have HT := hide ht0
  clear hb0 hp0 ht0
  have p0 := blk_cell HP.out 0
  have p1 := blk_cell HP.out 1
  simp at p0 p1
  have pl := blk_lt HP.out
  have t0 := blk_cell HT.out 0
  have t1 := blk_cell HT.out 1
  have t2 := blk_cell HT.out 2
  simp at t0 t1 t2
  have tl := blk_lt HT.out
  go_wp2_with fail
  refine (HON.out _ HB.out).mono ?_
  rintro e w1 ⟨gb, gc, rfl, hS1, hb1⟩
  have hx : Below w1.heap.size w1 (w1.alloc (.cells #[.int .i64 q, .slice (some ⟨gb, 0, none⟩) (List.length ms) gc] 24)) := (Below.refl _ w1).alloc (Nat.le_refl _) _
  have hq : (w1.alloc (.cells #[.int .i64 q, .slice (some ⟨gb, 0, none⟩) (List.length ms) gc] 24)).heap[w1.heap.size]? = some (.cells #[.int .i64 q, .slice (some ⟨gb, 0, none⟩) (List.length ms) gc] 24 (0, 0)) := World.alloc_heap_new w1 _
  have hb' := hb1.trans (hx.mono hb1.size)
  replace HB := hide (HB.out.trans (hb'.mono HB.out.size))
  replace HP := hide ((hb'.block _ (blk_lt HP.out)).trans HP.out)
  replace HT := hide ((hb'.block _ (blk_lt HT.out)).trans HT.out)
  have HM := hide (hS1.below hx)
  clear hb1 hb' hx hS1 HON p0 p1 pl t0 t1 t2 tl
  go_upto_region 4 with fail
  generalize (w1.alloc (.cells #[.int .i64 q, .slice (some ⟨gb, 0, none⟩) (List.length ms) gc] 24)) = W1 at HB HP HT HM hq ⊢
  generalize w1.heap.size = QB at hq ⊢
  have HQ := hide hq
  clear hq
  go_upto_region 5 with (go_at_call 17; refine (choose400_any fuel _ hf).mono ?_; rintro e w3 ⟨rfl, hw3⟩; subst w3)
  generalize pickF fuel = n at hpf ⊢
  have n0 := hpf.1
  have n1 := hpf.2
  clear hpf hf
  have hK0 : 0 ≤ n * ((ms.length : Int) + 1) := Int.mul_nonneg n0 (by omega)
  have hK1 : n * ((ms.length : Int) + 1) ≤ 400 * 257 := Int.le_trans (Int.mul_le_mul_of_nonneg_right (by omega) (by omega)) (Int.mul_le_mul_of_nonneg_left (by omega) (by omega))
  have HWW := hide (show IntKind.i64.wrap (n * IntKind.i64.wrap ((ms.length : Int) + 1)) = n * ((ms.length : Int) + 1) by rw [IntWalk.i64_left, IntWalk.i64_left, IntWalk.wrap64_in ((ms.length : Int) + 1) (by omega), IntWalk.wrap64_in _ (by omega)])
  have HE1 := hide (rerr_ok (r := r) (ns := ns) (il := jn.length) (n := n) HC.out hj256 n0 (by omega))
  have HE2 := hide (rerr_ok (r := q) (ns := ms) (il := jn.length) (n := n * ((ms.length : Int) + 1)) HCM.out hj256 hK0 (by omega))
  have hsv := HSV.out n.toNat
  have hft : (n * ((ms.length : Int) + 1)).toNat = n.toNat * (ms.length + 1) := by
    obtain ⟨k, rfl⟩ := Int.eq_ofNat_of_zero_le n0
    exact Int.toNat_natCast _
  rw [← hft, ← res_fin HE1.out, ← res_fin HE2.out] at hsv
  have HSW := hide hsv
  have HLN := hide (res_len r ns jn n)
  have HLT := hide (res_len q ms jn (n * ((ms.length : Int) + 1)))
  clear hsv hft hK0 hK1 HSV
  generalize hF : n * ((ms.length : Int) + 1) = F at HWW HE2 HSW HLT
  have HNk := hide (HN.out.below HB.out)
  have HJk := hide (HJ.out.below HB.out)
  have HPK := hide (fun (u : World) (hB : Below W1.heap.size W1 u) => (show u.cell? ⟨w.heap.size, 0, none⟩ = some (.int .i64 r) ∧ u.cell? ⟨w.heap.size, 1, none⟩ = some (.slice a (List.length ns) cap) from ⟨(hB.cell (p := ⟨w.heap.size, 0, none⟩) (blk_lt HP.out)).trans (blk_cell HP.out 0), (hB.cell (p := ⟨w.heap.size, 1, none⟩) (blk_lt HP.out)).trans (blk_cell HP.out 1)⟩))
  go_cut [12, 13] from 28 to 34 (fun v1 v2 wx => Got (res r ns jn n) (rerr r ns jn.length n) W1 wx v1 v2)
  case first =>
    go_region_held3 (fun u => u.cell? ⟨w.heap.size, 0, none⟩ = some (.int .i64 r) ∧ u.cell? ⟨w.heap.size, 1, none⟩ = some (.slice a (List.length ns) cap)) (first | (with_reducible exact HPK.out _ hB3) | (refine HPK.out _ ?_ <;> ((repeat with_reducible first | exact hB3 | exact Below.refl _ _ | refine Below.drew ?_ | refine Below.alloc ?_ ?_ _) <;> (first | exact hB3.size | exact Nat.le_refl _ | simp))) | exact HPK.out _ (hB3.trans (fill5_below (Nat.le_refl _) hB3.size _ _ _ _ _))) (first
      | (go_at_call 19; refine (HFEW.out _).mono ?_; rintro e w' ⟨rfl, hw'⟩; subst w')
      | (go_at_call 22; refine (run_at2 r a cap ns ia ic jn n W1 HNk.out HJk.out hjc hjl).mono ?_; rintro e w3 ⟨ao3, co3, ac3, cc3, rfl, hI3, hC3, hco3, hB3, hk3, hQ3⟩; have z0 : w3.cell? ⟨W1.heap.size, 0, none⟩ = some (.slice none 0 0) := blk_cell hk3 0; have f0 := blk_frozen hk3 0; have z1 : w3.cell? ⟨W1.heap.size, 1, none⟩ = some (.int .i64 0) := blk_cell hk3 1; have f1 := blk_frozen hk3 1; have z2 : w3.cell? ⟨W1.heap.size, 2, none⟩ = some (.bool false) := blk_cell hk3 2; have f2 := blk_frozen hk3 2; have z3 : w3.cell? ⟨W1.heap.size, 3, none⟩ = some (.int .i64 0) := blk_cell hk3 3; have f3 := blk_frozen hk3 3; have z4 : w3.cell? ⟨W1.heap.size, 4, none⟩ = some (.slice none 0 0) := blk_cell hk3 4; have f4 := blk_frozen hk3 4; have HX3 := hide (And.intro hI3 (And.intro hC3 (And.intro hco3 (And.intro hk3 hQ3)))); have hlt3 := blk_lt hk3; clear hI3 hC3 hco3 hk3 hQ3)
      | (go_at_call 22; refine (run_at1 r a cap ns ia ic jn n W1 HNk.out HJk.out hjc hjl).mono ?_; rintro e w3 ⟨ao3, co3, ac3, cc3, rfl, hI3, hC3, hco3, hB3⟩; have HX3 := hide (And.intro hI3 (And.intro hC3 hco3)); clear hI3 hC3 hco3))
    all_goals (go_wp2; go_meet)
    all_goals first
      | exact ⟨⟨_, ao3, co3, ac3, cc3, rfl, fill5_blk HX3.out.2.2.2.1 _ _ _ _ _, (HX3.out.2.2.2.2 _ _ _ _ _).1, (HX3.out.2.2.2.2 _ _ _ _ _).2, HX3.out.2.2.1⟩, rfl, hB3.trans (fill5_below (Nat.le_refl _) hB3.size _ _ _ _ _)⟩
      | exact ⟨⟨_, ao3, co3, ac3, cc3, rfl, blk_new rfl, HX3.out.1.below ((Below.refl _ w3).alloc (Nat.le_refl _) _), HX3.out.2.1.below ((Below.refl _ w3).alloc (Nat.le_refl _) _), HX3.out.2.2⟩, rfl, hB3.alloc hB3.size _⟩
  case rest =>
    obtain ⟨⟨ra, aoa, coa, aca, cca, rfl, hka, hIa, hCa, hcoa⟩, rfl, hBc⟩ := hcut
    rw [HE1.out]
    generalize res r ns jn n = σ at *
    replace HB := hide (HB.out.trans (hBc.mono HB.out.size))
    replace HT := hide ((hBc.block _ (blk_lt HT.out)).trans HT.out)
    replace HQ := hide ((hBc.block _ (blk_lt HQ.out)).trans HQ.out)
    replace HM := hide (HM.out.below hBc)
    have HRa := hide hka
    have HCa := hide hCa
    clear hka hIa hCa hcoa hBc HNk HJk HPK HP
    generalize hW : wc = W2 at *
    clear hW
    have HNk := hide HM.out
    have HJk := hide (HJ.out.below HB.out)
    go_upto_region 6 with fail
    have HPK := hide (fun (u : World) (hB : Below W2.heap.size W2 u) => (show u.cell? ⟨QB, 0, none⟩ = some (.int .i64 q) ∧ u.cell? ⟨QB, 1, none⟩ = some (.slice (some ⟨gb, 0, none⟩) (List.length ms) gc) from ⟨(hB.cell (p := ⟨QB, 0, none⟩) (blk_lt HQ.out)).trans (blk_cell HQ.out 0), (hB.cell (p := ⟨QB, 1, none⟩) (blk_lt HQ.out)).trans (blk_cell HQ.out 1)⟩))
    have hF2 : Hid (n * ((ms.length : Int) + 1) = F) := hF
    clear hF
    go_cut [14, 15] from 36 to 47 (fun v1 v2 wx => Got (res q ms jn F) (rerr q ms jn.length F) W2 wx v1 v2)
    case first =>
      go_region_held3 (fun u => u.cell? ⟨QB, 0, none⟩ = some (.int .i64 q) ∧ u.cell? ⟨QB, 1, none⟩ = some (.slice (some ⟨gb, 0, none⟩) (List.length ms) gc)) (first | (with_reducible exact HPK.out _ hB3) | (refine HPK.out _ ?_ <;> ((repeat with_reducible first | exact hB3 | exact Below.refl _ _ | refine Below.drew ?_ | refine Below.alloc ?_ ?_ _) <;> (first | exact hB3.size | exact Nat.le_refl _ | simp))) | exact HPK.out _ (hB3.trans (fill5_below (Nat.le_refl _) hB3.size _ _ _ _ _))) (first
        | (go_at_call 19; refine (HFEW.out _).mono ?_; rintro e w' ⟨rfl, hw'⟩; subst w')
        | (go_at_call 22; rw [HWW.out]; refine (run_at2 q (some ⟨gb, 0, none⟩) gc ms ia ic jn F W2 HNk.out HJk.out hjc hjl).mono ?_; rintro e w3 ⟨ao3, co3, ac3, cc3, rfl, hI3, hC3, hco3, hB3, hk3, hQ3⟩; have z0 : w3.cell? ⟨W2.heap.size, 0, none⟩ = some (.slice none 0 0) := blk_cell hk3 0; have f0 := blk_frozen hk3 0; have z1 : w3.cell? ⟨W2.heap.size, 1, none⟩ = some (.int .i64 0) := blk_cell hk3 1; have f1 := blk_frozen hk3 1; have z2 : w3.cell? ⟨W2.heap.size, 2, none⟩ = some (.bool false) := blk_cell hk3 2; have f2 := blk_frozen hk3 2; have z3 : w3.cell? ⟨W2.heap.size, 3, none⟩ = some (.int .i64 0) := blk_cell hk3 3; have f3 := blk_frozen hk3 3; have z4 : w3.cell? ⟨W2.heap.size, 4, none⟩ = some (.slice none 0 0) := blk_cell hk3 4; have f4 := blk_frozen hk3 4; have HX3 := hide (And.intro hI3 (And.intro hC3 (And.intro hco3 (And.intro hk3 hQ3)))); have hlt3 := blk_lt hk3; clear hI3 hC3 hco3 hk3 hQ3)
        | (go_at_call 22; rw [HWW.out]; refine (run_at1 q (some ⟨gb, 0, none⟩) gc ms ia ic jn F W2 HNk.out HJk.out hjc hjl).mono ?_; rintro e w3 ⟨ao3, co3, ac3, cc3, rfl, hI3, hC3, hco3, hB3⟩; have HX3 := hide (And.intro hI3 (And.intro hC3 hco3)); clear hI3 hC3 hco3))
      all_goals (go_wp2; go_meet)
      all_goals first
        | exact ⟨⟨_, ao3, co3, ac3, cc3, rfl, fill5_blk HX3.out.2.2.2.1 _ _ _ _ _, (HX3.out.2.2.2.2 _ _ _ _ _).1, (HX3.out.2.2.2.2 _ _ _ _ _).2, HX3.out.2.2.1⟩, rfl, hB3.trans (fill5_below (Nat.le_refl _) hB3.size _ _ _ _ _)⟩
        | exact ⟨⟨_, ao3, co3, ac3, cc3, rfl, blk_new rfl, HX3.out.1.below ((Below.refl _ w3).alloc (Nat.le_refl _) _), HX3.out.2.1.below ((Below.refl _ w3).alloc (Nat.le_refl _) _), HX3.out.2.2⟩, rfl, hB3.alloc hB3.size _⟩
    case rest =>
      obtain ⟨⟨rb, aob, cob, acb, ccb, rfl, hkb, hIb, hCb, hcob⟩, rfl, hBc⟩ := hcut
      rw [HE2.out]
      generalize res q ms jn F = τ at *
      replace HB := hide (HB.out.trans (hBc.mono HB.out.size))
      replace HT := hide ((hBc.block _ (blk_lt HT.out)).trans HT.out)
      replace HRa := hide ((hBc.block _ (blk_lt HRa.out)).trans HRa.out)
      replace HCa := hide (HCa.out.below hBc)
      have HRb := hide hkb
      have HCb := hide hCb
      clear hkb hIb hCb hcob hBc HNk HJk HPK HQ HM
      generalize hW : wc = W3 at *
      clear hW
      have x0 := blk_cell HRa.out 0
      have x1 := blk_cell HRa.out 1
      have x2 := blk_cell HRa.out 2
      have x3 := blk_cell HRa.out 3
      have x4 := blk_cell HRa.out 4
      simp at x0 x1 x2 x3 x4
      have xl := blk_lt HRa.out
      cases hend : σ.ended
      · rw [hend] at x2
        go_wp2_with fail
        refine (moveBegun_any _).mono ?_
        rintro e w4 ⟨rfl, hb4⟩
        go_wp2
        go_ret
        exact ⟨by first | rfl | simp, HB.out.trans (hb4.mono HB.out.size)⟩
      · rw [hend] at x2
        have hten := HSW.out.ended hend
        have HLE := hide (HSW.out.less hend)
        have HOT := hide (HSW.out.oth hend)
        have HSS := hide HSW.out.ss
        have HST := hide HSW.out.st
        have hRb := HRb.out
        have hRa := HRa.out
        rw [hten] at hRb
        rw [hend] at hRa
        have HRb2 := hide hRb
        have HRa2 := hide hRa
        have hl1 := HLN.out.2
        have hl2 := HLT.out.2
        clear hRb hRa
        go_upto_region 11 with fail
        clear x0 x1 x2 x3 x4 xl
        have HS : Hid (∀ u : World, Below W3.heap.size W3 u → u.cell? ⟨rb, 0, none⟩ = some (.slice aob τ.out.length cob) ∧ u.cell? ⟨rb, 1, none⟩ = some (.int .i64 τ.ret) ∧ u.cell? ⟨rb, 2, none⟩ = some (.bool true) ∧ u.cell? ⟨rb, 3, none⟩ = some (.int .i64 τ.steps) ∧ u.cell? ⟨rb, 4, none⟩ = some (.slice acb τ.cts.length ccb) ∧ u.cell? ⟨ra, 0, none⟩ = some (.slice aoa σ.out.length coa) ∧ u.cell? ⟨ra, 1, none⟩ = some (.int .i64 σ.ret) ∧ u.cell? ⟨ra, 2, none⟩ = some (.bool true) ∧ u.cell? ⟨ra, 3, none⟩ = some (.int .i64 σ.steps) ∧ u.cell? ⟨ra, 4, none⟩ = some (.slice aca σ.cts.length cca) ∧ u.cell? ⟨w.heap.size + 1, 0, none⟩ = some (.int .i64 t.op) ∧ u.cell? ⟨w.heap.size + 1, 1, none⟩ = some (.int .i64 t.a) ∧ u.cell? ⟨w.heap.size + 1, 2, none⟩ = some (.int .i64 t.b)) := fun u h => by
          have k0 := (h.block _ (blk_lt HRb2.out)).trans HRb2.out
          have k1 := (h.block _ (blk_lt HRa2.out)).trans HRa2.out
          have k2 := (h.block _ (blk_lt HT.out)).trans HT.out
          refine ⟨?_, ?_, ?_, ?_, ?_, ?_, ?_, ?_, ?_, ?_, ?_, ?_, ?_⟩
          all_goals first | (rw [blk_cell k0]; rfl) | (rw [blk_cell k1]; rfl) | (rw [blk_cell k2]; rfl)
        have ll1 := blk_lt HRb2.out
        have ll2 := blk_lt HRa2.out
        have ll3 := blk_lt HT.out
        have HTb := hide (fun (u : World) (hB : Below W3.heap.size W3 u) => times_any (.slice aob τ.out.length cob) (.int .i64 τ.ret) (.bool true) (.int .i64 τ.steps) acb ccb τ.cts t u (HCb.out.below hB) (by omega))
        have HTa := hide (fun (u : World) (hB : Below W3.heap.size W3 u) => times_any (.slice aoa σ.out.length coa) (.int .i64 σ.ret) (.bool true) (.int .i64 σ.steps) aca cca σ.cts t u (HCa.out.below hB) (by omega))
        have HOO := hide (fun (u : World) (hB : Below W3.heap.size W3 u) => others_any (.slice aoa σ.out.length coa) (.int .i64 σ.ret) (.bool true) (.int .i64 σ.steps) (.slice aob τ.out.length cob) (.int .i64 τ.ret) (.bool true) (.int .i64 τ.steps) aca acb cca ccb σ.cts τ.cts t u (HCa.out.below hB) (HCb.out.below hB) (by omega) (by omega) HSS.out HST.out HOT.out)
        have hle : tmo τ.cts t ≤ tmo σ.cts t := HLE.out
        generalize tmo τ.cts t = TB at HTb hle
        generalize tmo σ.cts t = TA at HTa hle
        have hled : decide (TB ≤ TA) = true := by simp [hle]
        clear hend hten HLE HOT HSS HST HRb HRa HSW
        go_region_held3 (fun u => u.cell? ⟨rb, 0, none⟩ = some (.slice aob τ.out.length cob) ∧ u.cell? ⟨rb, 1, none⟩ = some (.int .i64 τ.ret) ∧ u.cell? ⟨rb, 2, none⟩ = some (.bool true) ∧ u.cell? ⟨rb, 3, none⟩ = some (.int .i64 τ.steps) ∧ u.cell? ⟨rb, 4, none⟩ = some (.slice acb τ.cts.length ccb) ∧ u.cell? ⟨ra, 0, none⟩ = some (.slice aoa σ.out.length coa) ∧ u.cell? ⟨ra, 1, none⟩ = some (.int .i64 σ.ret) ∧ u.cell? ⟨ra, 2, none⟩ = some (.bool true) ∧ u.cell? ⟨ra, 3, none⟩ = some (.int .i64 σ.steps) ∧ u.cell? ⟨ra, 4, none⟩ = some (.slice aca σ.cts.length cca) ∧ u.cell? ⟨w.heap.size + 1, 0, none⟩ = some (.int .i64 t.op) ∧ u.cell? ⟨w.heap.size + 1, 1, none⟩ = some (.int .i64 t.a) ∧ u.cell? ⟨w.heap.size + 1, 2, none⟩ = some (.int .i64 t.b)) (first
          | (with_reducible refine HS.out _ ?_; first | with_reducible exact hB9 | with_reducible exact hB8 | with_reducible exact hB7 | with_reducible exact hB6 | with_reducible exact (Below.refl _ W3).drew | with_reducible exact (Below.refl _ W3))) (first
          | (go_at_call 15; refine (moveBegun_any _).mono ?_; rintro e w6 ⟨rfl, hb6⟩; have hB6 : Below W3.heap.size W3 w6 := (by first | exact (Below.refl _ W3).drew.trans hb6 | exact hb6))
          | (go_at_call_of 23 (Value.agg #[.slice aob τ.out.length cob, .int .i64 τ.ret, .bool true, .int .i64 τ.steps, .slice acb τ.cts.length ccb]); refine (HTb.out _ hB6).mono ?_; rintro e w7 ⟨rfl, hb7⟩; have hB7 : Below W3.heap.size W3 w7 := hB6.trans (hb7.mono hB6.size))
          | (go_at_call_of 23 (Value.agg #[.slice aoa σ.out.length coa, .int .i64 σ.ret, .bool true, .int .i64 σ.steps, .slice aca σ.cts.length cca]); refine (HTa.out _ hB7).mono ?_; rintro e w8 ⟨rfl, hb8⟩; have hB8 : Below W3.heap.size W3 w8 := hB7.trans (hb8.mono hB7.size))
          | (go_at_call 24; refine (HOO.out _ hB8).mono ?_; rintro e w9 ⟨rfl, hb9⟩; have hB9 : Below W3.heap.size W3 w9 := hB8.trans (hb9.mono hB8.size)))
        all_goals go_wp2
        all_goals go_ret
        all_goals exact ⟨by first | rfl | simp, HB.out.trans (hB9.mono HB.out.size)⟩
end Go.Proofs.YtoikglgnmjjpcabGreat

namespace Go.Proofs.YtoikglgnmjjpcabGreat
open Go.ChangeShapes Go.WideShapes Go.ChangeAt Go.RowKit
set_option linter.unusedVariables false

theorem moveSaves_any (r : Int) (a : Option Addr) (cap : Nat) (ns : List Nd) (t : Tm) (ia : Option Addr) (ic : Nat) (inp : List Int) (fuel : Int) (w : World) (hN : SlN w a ns) (hI : IntsAt w ia inp) (hic : inp.length ≤ ic) (hil : inp.length ≤ 9223372036854775807) (hf : -9223372036854775808 ≤ fuel ∧ fuel ≤ 9223372036854775807) :
    Calls Tryz.prog 5 #[.agg #[.int .i64 r, .slice a ns.length cap], .agg #[.int .i64 t.op, .int .i64 t.a, .int .i64 t.b], .slice ia inp.length ic, .int .i64 fuel] w fun e w' => e = .returned (.bool true) ∧ Below w.heap.size w w' := by
  by_cases he : oneE r ns t = 0
  · exact moveSaves_right r a cap ns t ia ic inp fuel w hN hI hic hil hf he
  · exact moveSaves_wrong r a cap ns t ia ic inp fuel w hN hI hic hil hf he

set_option maxRecDepth 100000 in
theorem moveSaves_lifted (os : Os) (started : os.Started) (H : Type) (enc : TypeId × Value → H) :
    ReturnsInHanded {} Tryz.checked os 5 .any (Rows.moveSavesSpec.pre6 enc Tryz.prog Tryz.f5 Rows.moveSavesRow.domain false) (Rows.moveSavesSpec.post enc Tryz.prog Tryz.f5 false true false false) := by
  refine returnsInHanded_of_change (C := Tryz.checked) own started (by kernel_rfl) Tryz.func5
    (ChangeSpec.witness6 (enc := enc) (C := Tryz.checked) false ⟨#[], #[.agg #[.int .i64 0, .slice none 0 0], .agg #[.int .i64 0, .int .i64 0, .int .i64 0], .slice none 0 0, .int .i64 0], []⟩ 8 (by kernel_rfl) (by kernel_rfl) (by kernel_rfl) (by kernel_rfl)) ?_
  intro W base args ds gs before hval0 hW hcnd _
  have hval : ∀ (j : Nat) t v, Tryz.f5.params[j]? = some t → args[j]? = some v → Value.okWide Tryz.prog W .any base t v := hval0
  have hW' := hW
  obtain ⟨p, q, hA0, hV, rfl, hfz, hnd⟩ := hW
  have hA : DataW.TrodAll enc Tryz.prog W 0 (fun _ => true) true Tryz.f5.params.toList args.toList ds p := hA0
  rw [Tryz.params5] at hA hval
  obtain ⟨v0, vs0, d0, ds0, p0, q0, hargs, rfl, rfl, h0, r0⟩ := trodAll_cons hA
  obtain ⟨v1, vs1, d1, ds1, p1, q1, rfl, rfl, rfl, h1, r1⟩ := trodAll_cons r0
  obtain ⟨v2, vs2, d2, ds2, p2, q2, rfl, rfl, rfl, h2, r2⟩ := trodAll_cons r1
  obtain ⟨v3, vs3, d3, ds3, p3, q3, rfl, rfl, rfl, h3, r3⟩ := trodAll_cons r2
  obtain ⟨rfl, rfl, rfl⟩ := trodAll_nil r3
  obtain rfl : args = #[v0, v1, v2, v3] := by cases args; simp_all
  obtain ⟨rfl, rfl⟩ := trodVars_none hV
  have k0 := h0
  have lt0 : ∀ x ∈ p0, x.block < W.heap.size := by obtain ⟨m, hm⟩ := k0; exact DataW.trod_lt m _ _ _ hm
  have k1 := h1
  have lt1 : ∀ x ∈ p1, x.block < W.heap.size := by obtain ⟨m, hm⟩ := k1; exact DataW.trod_lt m _ _ _ hm
  have k2 := h2
  have lt2 : ∀ x ∈ p2, x.block < W.heap.size := by obtain ⟨m, hm⟩ := k2; exact DataW.trod_lt m _ _ _ hm
  obtain ⟨r, a, cap, ns, rfl, hN, hl⟩ := open_prog (hval 0 24 v0 rfl rfl) h0
  obtain ⟨tm, rfl⟩ := open_term (hval 1 26 v1 rfl rfl) h1
  obtain ⟨ia, ic, inp, rfl, hI, hil, hic⟩ := open_ints_arg (hval 2 40 v2 rfl rfl) h2
  obtain ⟨n, rfl, rfl, rfl, w2⟩ := open_int Tryz.underlying3 (hval 3 3 v3 rfl rfl) h3
  clear hA0 hval0
  refine (moveSaves_any r a cap ns tm ia ic inp n W hN hI hic hil (wf_range w2)).mono fun e W' ⟨he, bel⟩ => ?_
  subst he
  exact ⟨_, rfl, _, _, _, [], _, [], hW', trodAll_mk1 (shut_bool Tryz.underlying4 _), (trodAll_cons_mk (Below.trod laidOut (by kernel_rfl) (of_decide_eq_true (by kernel_rfl)) k0 bel lt0) (trodAll_cons_mk (Below.trod laidOut (by kernel_rfl) (of_decide_eq_true (by kernel_rfl)) k1 bel lt1) (trodAll_cons_mk (Below.trod laidOut (by kernel_rfl) (of_decide_eq_true (by kernel_rfl)) k2 bel lt2) (trodAll_cons_mk (shut_int Tryz.underlying3 w2) trodAll_mk0)))), rfl, bel.frame _, fun h => by cases h⟩

theorem moveSaves_over : Rows.moveSavesRow.holds Tryz.pinned (OpenSpec.ofChange Rows.moveSavesSpec) :=
  OpenClaim.holds_of_wide 5 Tryz.f5 rfl rfl rfl rfl rfl rfl rfl ⟨rfl, rfl, rfl, rfl, rfl⟩ rfl rfl rfl rfl rfl (by kernel_rfl) Tryz.func5 (by kernel_rfl)
    (of_decide_eq_true (by kernel_rfl)) (by unfold Func.isWrapper; first | (rw [if_pos (by decide +kernel)]; kernel_rfl) | (rw [if_neg (by decide +kernel)]; exact ⟨rfl, rfl⟩))
    (fun os started H enc _ => moveSaves_lifted os started H enc)

theorem moveSaves_holds : Rows.MoveSavesSaid := moveSaves_over
#print axioms moveSaves_holds
end Go.Proofs.YtoikglgnmjjpcabGreat
