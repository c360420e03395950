/-
  run.machine.step, whole: one node of a right program is done.
-/
import Derived.Test.YtoikglgnmjjpcaaRF
import Derived.Test.YtoikglgnmjjpcaaRG
import Derived.Test.YtoikglgnmjjpcaaRH
import Derived.Test.YtoikglgnmjjpcaaRI
import Derived.Test.YtoikglgnmjjpcaaRJ
import Derived.Test.YtoikglgnmjjpcaaZ
namespace Go.Proofs.Ytoikglgnmjjpcaa
open Go.RowKit Go.Maps Go.ChangeMaps
set_option linter.unusedVariables false

theorem stp_regs (x : Nd) (s : St) : (stp x s).regs.length = s.regs.length := by
  unfold stp; repeat' split
  all_goals simp [setR]

theorem stp_pc {r : Int} {ns : List Nd} {x : Nd} (h : NodeOk r ns.length x) (s : St) : (stp x s).pc < ns.length := by
  have ht := h.t
  unfold stp; repeat' split
  all_goals (try (simp only; omega))
  rename_i h11 _
  have he := h.e h11
  simp only; omega

/-- One node is done. -/
theorem step_any {r : Int} {B s mb rb mp nb noff ncap rc : Nat} {ns : List Nd} {w : World} {σ : St} {v : Value} {ia : Option Addr} {ic n : Nat} {D : DataW Unit} (M : MA B s mb rb mp nb noff ncap rc ns w σ v ia ic n D) {x : Nd} (hx : ns[σ.pc]? = some x) (hlen : ns.length ≤ 256) (hlt : σ.steps < 131072) (hk : NodeOk r ns.length x) (hr : r = σ.regs.length) :
    Calls Try.prog 71 #[.pointer (some ⟨mb, 0, none⟩)] w fun e w' => e = .returned (.tuple #[]) ∧ ∃ v' ia' ic' n' D', MA B s mb rb mp nb noff ncap rc ns w' (stp x σ) v' ia' ic' n' D' ∧ Below B w w' := by
  have ht := hk.t.1
  have hop := hk.op
  by_cases h0 : x.op = 0
  · exact step_skip M hx hlen hlt ht h0
  by_cases h1 : x.op = 1
  · exact step_set M hx hlen hlt ht h1 (by have := hk.d; unfold InR; omega)
  by_cases h2 : x.op = 2
  · exact step_copy M hx hlen hlt ht h2 (by have := hk.d; unfold InR; omega) (by have := hk.a; unfold InR; omega)
  by_cases h9 : x.op = 9
  · exact step_inn M hx hlen hlt ht h9 (by have := hk.d; unfold InR; omega)
  by_cases h10 : x.op = 10
  · exact step_out M hx hlen hlt ht h10 (by have := hk.a; unfold InR; omega)
  by_cases h11 : x.op = 11
  · exact step_iff M hx hlen hlt ht h11 (by have := hk.a; unfold InR; omega) (hk.e h11).1
  by_cases h12 : x.op = 12
  · exact step_end M hx hlen hlt ht h12 (by have := hk.a; unfold InR; omega)
  · exact step_arith M hx hlen hlt ht (by omega) (by have := hk.d; unfold InR; omega) (by have := hk.a; unfold InR; omega) (by have := hk.b; unfold InR; omega)
end Go.Proofs.Ytoikglgnmjjpcaa
