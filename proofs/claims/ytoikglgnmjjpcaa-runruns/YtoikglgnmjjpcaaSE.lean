/-
  hoistwayref.RunError, walked.
-/
import Derived.Test.YtoikglgnmjjpcaaRY
import Derived.Test.YtoikglgnmjjpcaaE
namespace Go.Proofs.Ytoikglgnmjjpcaa
open Go.RowKit
set_option linter.unusedVariables false

set_option maxHeartbeats 1000000 in
theorem runError_any (r : Int) (a : Option Addr) (cap : Nat) (ns : List Nd) (ia : Option Addr) (il ic : Nat) (fuel : Int) (w : World) (hN : SlN w a ns) (hil : il ≤ 9223372036854775807) :
    Calls Try.prog 23 #[.agg #[.int .i64 r, .slice a ns.length cap], .slice ia il ic, .int .i64 fuel] w fun e w' => e = .returned (.int .i64 (rerr r ns il fuel)) ∧ Below w.heap.size w w' := by
  go_enter Try.func23, Try.ntmps23
  go_wp2_with fail
  have hb0 : Below w.heap.size w (w.alloc (.cells #[.int .i64 r, .slice a ns.length cap] 24)) := (Below.refl _ w).alloc (Nat.le_refl _) _
  refine (checkProg_any r a cap ns _ (hN.below hb0)).mono ?_
  rintro e w1 ⟨rfl, hb1⟩
  have HB := hide (hb0.trans (hb1.mono (by simp)))
  clear hb0 hb1 hN
  by_cases hc : chk r ns = 0
  · rw [hc]
    by_cases hi : 256 < il
    · have hi' : (256 : Int) < (il : Int) := by omega
      have HE := hide (show rerr r ns il fuel = 2 by simp [rerr, hc, hi])
      clear hc
      go_wp2
      go_ret
      exact ⟨ret_int HE.out.symm, HB.out⟩
    · have hi' : ¬ (256 : Int) < (il : Int) := by omega
      by_cases hf : fuel < 0 ∨ 131072 < fuel
      · have HE := hide (show rerr r ns il fuel = 3 by rw [rerr, if_pos hc, if_neg hi, if_pos hf])
        have hwi : wi fuel 0 131072 = false := by
          cases q : wi fuel 0 131072
          · rfl
          · rw [wi_iff] at q; omega
        clear hc hf
        go_wp2_with (go_at_call 60; refine (rwithin_any _ _ _ _).mono ?_; rintro e w' ⟨rfl, rfl⟩)
        go_ret
        exact ⟨ret_int HE.out.symm, HB.out⟩
      · have HE := hide (show rerr r ns il fuel = 0 by rw [rerr, if_pos hc, if_neg hi, if_neg hf])
        have hwi : wi fuel 0 131072 = true := wi_true (by omega) (by omega)
        clear hc hf
        go_wp2_with (go_at_call 60; refine (rwithin_any _ _ _ _).mono ?_; rintro e w' ⟨rfl, rfl⟩)
        go_ret
        exact ⟨ret_int HE.out.symm, HB.out⟩
  · have hcb : (chk r ns != 0) = true := by simpa using hc
    have HE := hide (show rerr r ns il fuel = chk r ns by simp [rerr, hc])
    generalize chk r ns = ch at *
    go_wp2
    go_ret
    exact ⟨ret_int HE.out.symm, HB.out⟩
end Go.Proofs.Ytoikglgnmjjpcaa
