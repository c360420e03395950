/-
  prog.Ahead, walked.
-/
import Derived.Test.YtoikglgnmjjpcaaLD
import Derived.Test.YtoikglgnmjjpcaaLG
namespace Go.Proofs.Ytoikglgnmjjpcaa
open Go.RowKit Go.Shelf
set_option linter.unusedVariables false

theorem linksAhead_any (r : Int) (b off cap : Nat) (ns : List Nd) (w : World) (hN : NodesAt w b off ns) (hc : chk r ns = 0) :
    Calls Try.prog 57 #[.agg #[.int .i64 r, .slice (some ⟨b, off, none⟩) ns.length cap]] w fun e w' => ∃ rb vs, e = .returned (.slice (some ⟨rb, 0, none⟩) ns.length ns.length) ∧ RowsAt w' w.heap.size rb ns.length vs (fun m => pick (ahB ns m) ns.length) ∧ Below w.heap.size w w' :=
  callsIn_wide.1 (linksAhead_in 4 (by decide) r b off cap ns w hN hc)

set_option maxHeartbeats 1000000 in
theorem ahead_any (r : Int) (a : Option Addr) (cap : Nat) (ns : List Nd) (n : Int) (w : World) (hN : SlN w a ns) (hl : ns.length ≤ 9223372036854775807) :
    Calls Try.prog 13 #[.agg #[.int .i64 r, .slice a ns.length cap], .int .i64 n] w fun e w' => ∃ a' cap', e = .returned (.tuple #[.slice a' (aheads r ns n).length cap', .int .i64 (chkN r ns n)]) ∧ IntsAt w' a' (aheads r ns n) ∧ Below w.heap.size w w' := by
  have hN1 : SlN (w.alloc (.cells #[.int .i64 r, .slice a ns.length cap] 24)) a ns := hN.below ((Below.refl w.heap.size w).alloc (Nat.le_refl _) _)
  by_cases hc : chkN r ns n = 0
  · obtain ⟨h0, k, rfl, hk⟩ := chkN_zero hc
    obtain ⟨b, off, rfl, hNb⟩ := hN.some (by omega)
    have hnx : aheads r ns (k : Int) = pick (ahB ns k) ns.length := by simp [aheads, hc]
    rw [hnx, hc]
    go_enter Try.func13, Try.ntmps13
    go_wp2_with fail
    refine (checkNode_any r _ cap ns _ _ hN1 hl).mono ?_
    rintro e w1 ⟨rfl, hb1⟩
    have hs1 := hb1.size
    simp only [World.size_alloc] at hs1 hb1
    have hB1 : Below w.heap.size w w1 := ((Below.refl _ _).alloc (Nat.le_refl _) _).trans (hb1.mono (by omega))
    have q0 : w1.cell? ⟨w.heap.size, 0, none⟩ = some (.int .i64 r) := by rw [hb1.cell (p := ⟨w.heap.size, 0, none⟩) (by simp)]; simp
    have q1 : w1.cell? ⟨w.heap.size, 1, none⟩ = some (.slice (some ⟨b, off, none⟩) ns.length cap) := by rw [hb1.cell (p := ⟨w.heap.size, 1, none⟩) (by simp)]; simp
    have hs1' : w.heap.size < w1.heap.size := by omega
    have hA := linksAhead_any r b off cap ns w1 (hNb.below hB1 hNb.lt) h0
    have HA := hide' hA
    clear hb1 hnx hN1 hNb hA
    rw [hc]
    clear hc h0
    go_wp2_with fail
    refine HA.out.mono ?_
    rintro e w2 ⟨rb, vs, rfl, hR, hb2⟩
    have hkv : k < vs.length := by rw [hR.len]; exact hk
    obtain ⟨v, hv⟩ := get_lt hkv
    have hrow := hR.own k v hv
    obtain ⟨a2, cap2, rfl, hI⟩ := ints_of_owns hrow
    have hcell : w2.cell? ⟨rb, k, none⟩ = some (.slice a2 (pick (ahB ns k) ns.length).length cap2) := by rw [blk_cell hR.blk]; simpa using hv
    have hrl := blk_lt hR.blk
    clear hrow hR hv HA
    go_wp2
    go_ret2
    exact ⟨a2, cap2, rfl, hI, hB1.trans (hb2.mono hB1.size)⟩
  · have hnx : aheads r ns n = [] := by simp [aheads, hc]
    rw [hnx]
    have hb : (chkN r ns n != 0) = true := by simp [hc]
    clear hc hnx
    go_enter Try.func13, Try.ntmps13
    go_wp2_with fail
    refine (checkNode_any r _ cap ns _ _ hN1 hl).mono ?_
    rintro e w1 ⟨rfl, hb1⟩
    have hs1 := hb1.size
    simp only [World.size_alloc] at hs1 hb1
    have hB1 : Below w.heap.size w w1 := ((Below.refl _ _).alloc (Nat.le_refl _) _).trans (hb1.mono (by omega))
    go_wp2
    go_ret2
    exact ⟨none, 0, rfl, Or.inl rfl, hB1⟩
end Go.Proofs.Ytoikglgnmjjpcaa
