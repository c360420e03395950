/-
  hoistwaylaw.ProgChecks, walked: it answers true, whatever it is handed.
-/
import Derived.Test.YtoikglgnmjjpcaaU
import Derived.Deep.DeepCutAuto
namespace Go.Proofs.Ytoikglgnmjjpcaa
open Go.RowKit
set_option linter.unusedVariables false

theorem neqTm (t : Tm) (w : World) : Sem.run Try.prog (binOp .neq 36 (.agg #[.int .i64 t.op, .int .i64 t.a, .int .i64 t.b]) (.agg #[.int .i64 t.op, .int .i64 t.a, .int .i64 t.b])) w = .ok (.bool false) w := by
  have u3 := Try.underlying3
  have a3 := Try.isAgg3
  have z3 := Try.sizeOf3
  have hS : Try.prog.underlying 36 = some (.struct (Try.prog.fieldsOf 36)) := by kernel_rfl
  have hp : Try.prog.stoodInHeld 36 = false := by kernel_rfl
  rw [run_neq_struct, show (10000 : Nat) = 9999 + 1 from rfl, run_equalIn_agg w 9999 36 _ _ hS hp]
  simp only [Program.fieldsOf, Try.underlying36]
  go_simp

theorem same_any {w0 : World} (a b : Option Addr) (ca cb : Nat) (xs : List Int) (W : World) (hx : IntsAt w0 a xs) (hy : IntsAt w0 b xs) (hl : xs.length ≤ 256) (hB : Below w0.heap.size w0 W) :
    Calls Try.prog 21 #[.slice a xs.length ca, .slice b xs.length cb] W fun e w' => e = .returned (.bool true) ∧ Below w0.heap.size w0 w' := by
  refine (sameInts_any a b ca cb xs xs W (hx.below hB) (hy.below hB) (by omega) (by omega)).mono ?_
  rintro e w' ⟨rfl, n, rfl⟩
  exact ⟨by simp, below_drewN hB n⟩

theorem nexts_len (r : Int) (ns : List Nd) (n : Int) (hl : ns.length ≤ 256) : (nexts r ns n).length ≤ 256 := by
  unfold nexts
  split
  · split
    · exact Nat.le_trans (pick_len _ _) hl
    · simp
  · simp
theorem aheads_len (r : Int) (ns : List Nd) (n : Int) (hl : ns.length ≤ 256) : (aheads r ns n).length ≤ 256 := by
  unfold aheads
  split
  · exact Nat.le_trans (pick_len _ _) hl
  · simp

theorem same_nil {w0 : World} (a b : Option Addr) (ca cb : Nat) (W : World) (hB : Below w0.heap.size w0 W) :
    Calls Try.prog 21 #[.slice a 0 ca, .slice b 0 cb] W fun e w' => e = .returned (.bool true) ∧ Below w0.heap.size w0 w' := by
  refine (sameInts_any a b ca cb [] [] W (Or.inl rfl) (Or.inl rfl) (by simp) (by simp)).mono ?_
  rintro e w' ⟨rfl, n, rfl⟩
  exact ⟨rfl, below_drewN hB n⟩

set_option maxHeartbeats 4000000 in
set_option maxRecDepth 100000 in
theorem progChecks_wrong (r : Int) (a : Option Addr) (cap : Nat) (ns : List Nd) (n : Int) (w : World) (hN : SlN w a ns) (hl : ns.length ≤ 9223372036854775807) (hc : chk r ns ≠ 0) :
    Calls Try.prog 3 #[.agg #[.int .i64 r, .slice a ns.length cap], .int .i64 n] w fun e w' => e = .returned (.bool true) ∧ Below w.heap.size w w' := by
  have hN0 : chkN r ns n = chk r ns := by simp [chkN, hc]
  have hL0 : nexts r ns n = [] := by simp [nexts, hN0, hc]
  have hA0 : aheads r ns n = [] := by simp [aheads, hN0, hc]
  have hT0 : termsL r ns = [] := by simp [termsL, hc]
  have hcb : (chk r ns == 0) = false := by simp [hc]
  have hN1 : SlN (w.alloc (.cells #[.int .i64 r, .slice a ns.length cap] 24)) a ns := hN.below ((Below.refl w.heap.size w).alloc (Nat.le_refl _) _)
  go_enter Try.func3, Try.ntmps3
  go_wp2_with fail
  refine (next_any r a cap ns n _ hN1 hl).mono ?_
  rintro e w1 ⟨a1, c1, rfl, hI1, hb1⟩
  have hs1 := hb1.size
  simp only [World.size_alloc] at hs1 hb1
  have hB1 : Below w.heap.size w w1 := ((Below.refl _ _).alloc (Nat.le_refl _) _).trans (hb1.mono (by omega))
  have p0 : w1.cell? ⟨w.heap.size, 0, none⟩ = some (.int .i64 r) := by rw [hb1.cell (p := ⟨w.heap.size, 0, none⟩) (by simp)]; simp
  have p1 : w1.cell? ⟨w.heap.size, 1, none⟩ = some (.slice a ns.length cap) := by rw [hb1.cell (p := ⟨w.heap.size, 1, none⟩) (by simp)]; simp
  have hs1' : w.heap.size < w1.heap.size := by omega
  clear hb1 hN1
  go_wp2_with fail
  refine (ahead_any r a cap ns n _ (hN.below hB1) hl).mono ?_
  rintro e w2 ⟨a2, c2, rfl, hI2, hb2⟩
  have hs2 := hb2.size
  replace hI1 := hI1.below hb2
  have hB2 : Below w.heap.size w w2 := hB1.trans (hb2.mono (by omega))
  have q0 : w2.cell? ⟨w.heap.size, 0, none⟩ = some (.int .i64 r) := by rw [hb2.cell (p := ⟨w.heap.size, 0, none⟩) hs1']; exact p0
  have q1 : w2.cell? ⟨w.heap.size, 1, none⟩ = some (.slice a ns.length cap) := by rw [hb2.cell (p := ⟨w.heap.size, 1, none⟩) hs1']; exact p1
  have hs2' : w.heap.size < w2.heap.size := by omega
  clear hb2 p0 p1 hB1
  go_wp2_with fail
  refine (terms_any r a cap ns _ (hN.below hB2)).mono ?_
  rintro e w3 ⟨a3, c3, rfl, hT3, hb3⟩
  have hs3 := hb3.size
  replace hI1 := hI1.below hb3
  replace hI2 := hI2.below hb3
  have hB3 : Below w.heap.size w w3 := hB2.trans (hb3.mono (by omega))
  have r0 : w3.cell? ⟨w.heap.size, 0, none⟩ = some (.int .i64 r) := by rw [hb3.cell (p := ⟨w.heap.size, 0, none⟩) hs2']; exact q0
  have r1 : w3.cell? ⟨w.heap.size, 1, none⟩ = some (.slice a ns.length cap) := by rw [hb3.cell (p := ⟨w.heap.size, 1, none⟩) hs2']; exact q1
  have hs3' : w.heap.size < w3.heap.size := by omega
  clear hb3 q0 q1 hB2
  go_wp2_with fail
  refine (checkProg_any r a cap ns _ (hN.below hB3)).mono ?_
  rintro e w4 ⟨rfl, hb4⟩
  have hs4 := hb4.size
  replace hI1 := hI1.below hb4
  replace hI2 := hI2.below hb4
  replace hT3 := hT3.below hb4
  have hB4 : Below w.heap.size w w4 := hB3.trans (hb4.mono (by omega))
  have s0 : w4.cell? ⟨w.heap.size, 0, none⟩ = some (.int .i64 r) := by rw [hb4.cell (p := ⟨w.heap.size, 0, none⟩) hs3']; exact r0
  have s1 : w4.cell? ⟨w.heap.size, 1, none⟩ = some (.slice a ns.length cap) := by rw [hb4.cell (p := ⟨w.heap.size, 1, none⟩) hs3']; exact r1
  have hs4' : w.heap.size < w4.heap.size := by omega
  clear hb4 r0 r1 hB3 hs1 hs2 hs3 hs4 hs1' hs2' hs3'
  clear hI1 hI2 hT3 hc
  go_wp2
  have hBz : Below w.heap.size w w4 := hB4
  have hT : TermsAt w4 a3 [] := Or.inl rfl
  have hU : TermsAt w4 none [] := Or.inl rfl
  have z0 := s0
  have z1 := s1
  have hsz := hs4'
  clear s0 s1 hs4' hB4
  generalize w4 = wz at hBz hT hU z0 z1 hsz ⊢
  go_loopw [16] (fun i wv => ∃ k : Nat, k ≤ ([] : List Tm).length ∧ i = .int .i64 k ∧ ∃ m, wv = wz.drewN m) (fun i _ => ([] : List Tm).length - (intOf i).toNat)
  case atStart => exact ⟨0, Nat.zero_le _, rfl, 0, rfl⟩
  case round =>
    obtain ⟨k, hk, rfl, m, rfl⟩ := hrel
    by_cases hlt : k < ([] : List Tm).length
    · simp at hlt
    · have hBm : Below wz.heap.size wz (wz.drewN m) := below_drewN (Below.refl _ _) m
      go_wp2_with fail
      refine (progBegun_any _).mono ?_
      rintro e w8 ⟨rfl, hb8⟩
      have hB8 : Below wz.heap.size wz w8 := hBm.trans hb8
      have z80 : w8.cell? ⟨w.heap.size, 0, none⟩ = some (.int .i64 r) := by rw [hB8.cell (p := ⟨w.heap.size, 0, none⟩) hsz]; exact z0
      have z81 : w8.cell? ⟨w.heap.size, 1, none⟩ = some (.slice a ns.length cap) := by rw [hB8.cell (p := ⟨w.heap.size, 1, none⟩) hsz]; exact z1
      clear hb8
      go_wp2_with fail
      refine (check_any r a cap ns _ (hN.below (hBz.trans (hB8.mono (by omega))))).mono ?_
      rintro e w9 ⟨rfl, hb9⟩
      have hB9 : Below wz.heap.size wz w9 := hB8.trans (hb9.mono hB8.size)
      clear hb9 z80 z81
      go_wp2_with fail
      refine (same_nil _ _ _ _ _ hB9).mono ?_
      rintro e w10 ⟨rfl, hB10⟩
      go_wp2_with fail
      refine (same_nil _ _ _ _ _ hB10).mono ?_
      rintro e w11 ⟨rfl, hB11⟩
      go_wp2
      go_ret
      exact ⟨rfl, hBz.trans (hB11.mono (by omega))⟩

end Go.Proofs.Ytoikglgnmjjpcaa
