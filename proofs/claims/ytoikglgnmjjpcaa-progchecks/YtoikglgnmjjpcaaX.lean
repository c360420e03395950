/-
  hoistwaylaw.ProgChecks, walked: it answers true, whatever it is handed.
-/
import Derived.Test.YtoikglgnmjjpcaaW
import Derived.Deep.DeepCutAuto
namespace Go.Proofs.Ytoikglgnmjjpcaa
open Go.RowKit
set_option linter.unusedVariables false

set_option maxHeartbeats 4000000 in
set_option maxRecDepth 100000 in
theorem progChecks_in (r : Int) (a : Option Addr) (cap : Nat) (ns : List Nd) (n : Int) (w : World) (hN : SlN w a ns) (hl : ns.length ≤ 9223372036854775807) (hc : chk r ns = 0) (kk : Nat) (hkk : kk < ns.length) (hnk : n = kk) :
    Calls Try.prog 3 #[.agg #[.int .i64 r, .slice a ns.length cap], .int .i64 n] w fun e w' => e = .returned (.bool true) ∧ Below w.heap.size w w' := by
  subst hnk
  have hwi : wi (kk : Int) 0 ((ns.length : Int) - 1) = true := wi_true (by omega) (by omega)
  obtain ⟨x, hx⟩ := get_lt hkk
  have hN0 : chkN r ns (kk : Int) = 0 := by simp [chkN, hc, hwi]
  have hL0 : nexts r ns (kk : Int) = pick (ldB x) ns.length := by simp [nexts, hN0, hx]
  have hA0 : aheads r ns (kk : Int) = pick (ahB ns kk) ns.length := by simp [aheads, hN0]
  have hT0 : termsL r ns = tms ns ns.length := by simp [termsL, hc]
  have hl2 := (chk_zero hc).1
  obtain ⟨bn, on, rfl, hNb⟩ := hN.some hl2.1
  have lT := tms_len ns ns.length
  have lL : (pick (ldB x) ns.length).length ≤ 256 := Nat.le_trans (pick_len _ _) hl2.2
  have lA : (pick (ahB ns kk) ns.length).length ≤ 256 := Nat.le_trans (pick_len _ _) hl2.2
  have HX := hide hx
  clear hx hwi
  have hN1 : SlN (w.alloc (.cells #[.int .i64 r, .slice (some ⟨bn, on, none⟩) ns.length cap] 24)) (some ⟨bn, on, none⟩) ns := hN.below ((Below.refl w.heap.size w).alloc (Nat.le_refl _) _)
  go_enter Try.func3, Try.ntmps3
  go_wp2_with fail
  refine (next_any r _ cap ns (kk : Int) _ hN1 hl).mono ?_
  rintro e w1 ⟨a1, c1, rfl, hI1, hb1⟩
  have hs1 := hb1.size
  simp only [World.size_alloc] at hs1 hb1
  have hB1 : Below w.heap.size w w1 := ((Below.refl _ _).alloc (Nat.le_refl _) _).trans (hb1.mono (by omega))
  have p0 : w1.cell? ⟨w.heap.size, 0, none⟩ = some (.int .i64 r) := by rw [hb1.cell (p := ⟨w.heap.size, 0, none⟩) (by simp)]; simp
  have p1 : w1.cell? ⟨w.heap.size, 1, none⟩ = some (.slice (some ⟨bn, on, none⟩) ns.length cap) := by rw [hb1.cell (p := ⟨w.heap.size, 1, none⟩) (by simp)]; simp
  have hs1' : w.heap.size < w1.heap.size := by omega
  clear hb1 hN1
  go_wp2_with fail
  refine (ahead_any r _ cap ns (kk : Int) _ (hN.below hB1) hl).mono ?_
  rintro e w2 ⟨a2, c2, rfl, hI2, hb2⟩
  have hs2 := hb2.size
  replace hI1 := hI1.below hb2
  have hB2 : Below w.heap.size w w2 := hB1.trans (hb2.mono (by omega))
  have q0 : w2.cell? ⟨w.heap.size, 0, none⟩ = some (.int .i64 r) := by rw [hb2.cell (p := ⟨w.heap.size, 0, none⟩) hs1']; exact p0
  have q1 : w2.cell? ⟨w.heap.size, 1, none⟩ = some (.slice (some ⟨bn, on, none⟩) ns.length cap) := by rw [hb2.cell (p := ⟨w.heap.size, 1, none⟩) hs1']; exact p1
  have hs2' : w.heap.size < w2.heap.size := by omega
  clear hb2 p0 p1 hB1
  go_wp2_with fail
  refine (terms_any r _ cap ns _ (hN.below hB2)).mono ?_
  rintro e w3 ⟨a3, c3, rfl, hT3, hb3⟩
  have hs3 := hb3.size
  replace hI1 := hI1.below hb3
  replace hI2 := hI2.below hb3
  have hB3 : Below w.heap.size w w3 := hB2.trans (hb3.mono (by omega))
  have r0 : w3.cell? ⟨w.heap.size, 0, none⟩ = some (.int .i64 r) := by rw [hb3.cell (p := ⟨w.heap.size, 0, none⟩) hs2']; exact q0
  have r1 : w3.cell? ⟨w.heap.size, 1, none⟩ = some (.slice (some ⟨bn, on, none⟩) ns.length cap) := by rw [hb3.cell (p := ⟨w.heap.size, 1, none⟩) hs2']; exact q1
  have hs3' : w.heap.size < w3.heap.size := by omega
  clear hb3 q0 q1 hB2
  go_wp2_with fail
  refine (checkProg_any r _ cap ns _ (hN.below hB3)).mono ?_
  rintro e w4 ⟨rfl, hb4⟩
  have hs4 := hb4.size
  replace hI1 := hI1.below hb4
  replace hI2 := hI2.below hb4
  replace hT3 := hT3.below hb4
  have hB4 : Below w.heap.size w w4 := hB3.trans (hb4.mono (by omega))
  have s0 : w4.cell? ⟨w.heap.size, 0, none⟩ = some (.int .i64 r) := by rw [hb4.cell (p := ⟨w.heap.size, 0, none⟩) hs3']; exact r0
  have s1 : w4.cell? ⟨w.heap.size, 1, none⟩ = some (.slice (some ⟨bn, on, none⟩) ns.length cap) := by rw [hb4.cell (p := ⟨w.heap.size, 1, none⟩) hs3']; exact r1
  have hs4' : w.heap.size < w4.heap.size := by omega
  clear hb4 r0 r1 hB3 hs1 hs2 hs3 hs4 hs1' hs2' hs3'
  have hT : TermsAt w4 a3 (tms ns ns.length) := by first | exact hT3 | (rw [← hT0]; exact hT3)
  have hI1' : IntsAt w4 a1 (pick (ldB x) ns.length) := by first | exact hI1 | (rw [← hL0]; exact hI1)
  have hI2' : IntsAt w4 a2 (pick (ahB ns kk) ns.length) := by first | exact hI2 | (rw [← hA0]; exact hI2)
  clear hI1 hI2 hT3
  have hI1 := hI1'
  have hI2 := hI2'
  clear hI1' hI2'
  replace hNb := hNb.below hB4 hNb.lt
  go_wp2
  have hBd : Below w4.heap.size w4 w4.drew := (Below.refl _ w4).drew
  have hBz := hB4
  have z0 := s0
  have z1 := s1
  have hsz := hs4'
  clear hB4 s0 s1 hs4'
  have HZ := hide (And.intro z0 z1)
  replace hI1 := hI1.below hBd
  replace hI2 := hI2.below hBd
  replace hT := hT.below hBd
  replace hNb := hNb.below hBd hNb.lt
  replace z0 := (hBd.cell (p := ⟨w.heap.size, 0, none⟩) hsz).trans z0
  replace z1 := (hBd.cell (p := ⟨w.heap.size, 1, none⟩) hsz).trans z1
  replace hBz := hBz.trans (hBd.mono hBz.size)
  replace hsz := Nat.lt_of_lt_of_le hsz hBd.size
  clear hBd
  go_region_held3 (fun w' => w'.cell? ⟨w.heap.size, 0, none⟩ = some (.int .i64 r) ∧ w'.cell? ⟨w.heap.size, 1, none⟩ = some (.slice (some ⟨bn, on, none⟩) ns.length cap)) (first
    | exact ⟨z0, z1⟩
    | exact HZ.out) (first
    | (go_at_call 16; refine (nextOf_any r bn on cap ns kk x _ hNb hl2.2 HX.out).mono ?_; rintro e wz ⟨vN, rfl, hoN, hbN⟩; obtain ⟨bN, dN, hvN, hKN⟩ := ints_of_owns hoN; subst hvN; clear hoN; replace hI1 := hI1.below hbN; replace hI2 := hI2.below hbN; replace hT := hT.below hbN; replace hNb := hNb.below hbN hNb.lt; replace z0 := (hbN.cell (p := ⟨w.heap.size, 0, none⟩) hsz).trans z0; replace z1 := (hbN.cell (p := ⟨w.heap.size, 1, none⟩) hsz).trans z1; replace hBz := hBz.trans (hbN.mono hBz.size); replace hsz := Nat.lt_of_lt_of_le hsz hbN.size; (try replace hKA := hKA.below hbN); clear hbN)
    | (go_at_call 17; refine (aheadOf_any r bn on cap ns kk _ hNb hl2.2).mono ?_; rintro e wz ⟨vA, rfl, hoA, hbA⟩; obtain ⟨bA, dA, hvA, hKA⟩ := ints_of_owns hoA; subst hvA; clear hoA; replace hI1 := hI1.below hbA; replace hI2 := hI2.below hbA; replace hT := hT.below hbA; replace hNb := hNb.below hbA hNb.lt; replace z0 := (hbA.cell (p := ⟨w.heap.size, 0, none⟩) hsz).trans z0; replace z1 := (hbA.cell (p := ⟨w.heap.size, 1, none⟩) hsz).trans z1; replace hBz := hBz.trans (hbA.mono hBz.size); replace hsz := Nat.lt_of_lt_of_le hsz hbA.size; (try replace hKN := hKN.below hbA); clear hbA))
  all_goals
    have hJ1 := hI1
    have hK1 := hKN
    have hJ2 := hI2
    have hK2 := hKA
    clear hI1 hI2 hKN hKA
    go_wp2_with fail
    refine (termsOf_any r bn on cap ns _ hNb hl2.2).mono ?_
    rintro e wy ⟨a5, c5, rfl, hU, hb5⟩
    have hss := hb5.size
    replace hT := hT.below hb5
    replace hJ1 := hJ1.below hb5
    replace hJ2 := hJ2.below hb5
    replace hK1 := hK1.below hb5
    replace hK2 := hK2.below hb5
    have hBy : Below w.heap.size w wy := hBz.trans (hb5.mono (by omega))
    have y0 : wy.cell? ⟨w.heap.size, 0, none⟩ = some (.int .i64 r) := by rw [hb5.cell (p := ⟨w.heap.size, 0, none⟩) hsz]; exact z0
    have y1 : wy.cell? ⟨w.heap.size, 1, none⟩ = some (.slice (some ⟨bn, on, none⟩) ns.length cap) := by rw [hb5.cell (p := ⟨w.heap.size, 1, none⟩) hsz]; exact z1
    have hsy : w.heap.size < wy.heap.size := by omega
    clear hb5 z0 z1 hBz hsz hNb
    go_wp2
    go_loopw [16] (fun i wv => ∃ k : Nat, k ≤ (tms ns ns.length).length ∧ i = .int .i64 k ∧ ∃ m, wv = wy.drewN m) (fun i _ => (tms ns ns.length).length - (intOf i).toNat)
    case atStart => exact ⟨0, Nat.zero_le _, rfl, 0, rfl⟩
    case round =>
      obtain ⟨k, hk, rfl, m, rfl⟩ := hrel
      by_cases hlt : k < (tms ns ns.length).length
      · obtain ⟨t, ht⟩ := get_lt hlt
        obtain ⟨b6, o6, rfl, hb6, hc6⟩ := hT.at hlt
        obtain ⟨b7, o7, rfl, hb7, hc7⟩ := hU.at hlt
        obtain ⟨v0, v1, v2⟩ := hc6 k t ht
        obtain ⟨u0, u1, u2⟩ := hc7 k t ht
        have hneq := neqTm t
        clear ht hc6 hc7 hT hU
        go_wp2
        go_quiet (fail)
        go_wp2
        go_roundw
        case rel => exact ⟨k + 1, by omega, by go_num, m + nq, by first | rfl | (simp only [World.drewN_drewN])⟩
        case measure => simp [intOf]; omega
      · have hBm : Below wy.heap.size wy (wy.drewN m) := below_drewN (Below.refl _ _) m
        go_wp2_with fail
        refine (progBegun_any _).mono ?_
        rintro e w8 ⟨rfl, hb8⟩
        have hB8 : Below wy.heap.size wy w8 := hBm.trans hb8
        have z80 : w8.cell? ⟨w.heap.size, 0, none⟩ = some (.int .i64 r) := by rw [hB8.cell (p := ⟨w.heap.size, 0, none⟩) hsy]; exact y0
        have z81 : w8.cell? ⟨w.heap.size, 1, none⟩ = some (.slice (some ⟨bn, on, none⟩) ns.length cap) := by rw [hB8.cell (p := ⟨w.heap.size, 1, none⟩) hsy]; exact y1
        clear hb8
        go_wp2_with fail
        refine (check_any r _ cap ns _ (hN.below (hBy.trans (hB8.mono (by omega))))).mono ?_
        rintro e w9 ⟨rfl, hb9⟩
        have hB9 : Below wy.heap.size wy w9 := hB8.trans (hb9.mono hB8.size)
        clear hb9 z80 z81
        go_wp2_with fail
        refine (same_any _ _ _ _ _ _ hJ1 hK1 lL hB9).mono ?_
        rintro e w10 ⟨rfl, hB10⟩
        go_wp2_with fail
        refine (same_any _ _ _ _ _ _ hJ2 hK2 lA hB10).mono ?_
        rintro e w11 ⟨rfl, hB11⟩
        go_wp2
        go_ret
        exact ⟨rfl, hBy.trans (hB11.mono (by omega))⟩


theorem progChecks_any (r : Int) (a : Option Addr) (cap : Nat) (ns : List Nd) (n : Int) (w : World) (hN : SlN w a ns) (hl : ns.length ≤ 9223372036854775807) :
    Calls Try.prog 3 #[.agg #[.int .i64 r, .slice a ns.length cap], .int .i64 n] w fun e w' => e = .returned (.bool true) ∧ Below w.heap.size w w' := by
  by_cases hc : chk r ns = 0
  · cases hn : wi n 0 ((ns.length : Int) - 1)
    · exact progChecks_out r a cap ns n w hN hl hc hn
    · have h := wi_iff.1 hn
      exact progChecks_in r a cap ns n w hN hl hc n.toNat (by omega) (by omega)
  · exact progChecks_wrong r a cap ns n w hN hl hc
end Go.Proofs.Ytoikglgnmjjpcaa
