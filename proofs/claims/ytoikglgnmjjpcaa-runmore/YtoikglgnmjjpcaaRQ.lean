/-
  Plain facts on runs of right programs.
-/
import Derived.Test.YtoikglgnmjjpcaaRK
import Derived.Test.YtoikglgnmjjpcaaRO
namespace Go.Proofs.Ytoikglgnmjjpcaa
open Go.RowKit Go.Maps Go.ChangeMaps
set_option linter.unusedVariables false

theorem runN_pc {r : Int} {ns : List Nd} (ok : ∀ x ∈ ns, NodeOk r ns.length x) : ∀ (n : Nat) (s : St), s.pc < ns.length → (runN ns n s).pc < ns.length
  | 0, s, h => h
  | n + 1, s, h => by
    simp only [runN]
    split
    · exact h
    · rw [List.getElem?_eq_getElem h]
      exact runN_pc ok n _ (stp_pc (ok _ (List.getElem_mem h)) s)

theorem runN_regs {ns : List Nd} : ∀ (n : Nat) (s : St), (runN ns n s).regs.length = s.regs.length
  | 0, s => rfl
  | n + 1, s => by
    simp only [runN]
    split
    · rfl
    · split
      · rw [runN_regs n, stp_regs]
      · rfl

theorem stp_twf {r : Int} {len : Nat} (hlen : r ≤ 64) {x : Nd} (h : NodeOk r len x) {s : St} (hs : ∀ c ∈ s.cts, twf c.t) : ∀ c ∈ (stp x s).cts, twf c.t := by
  unfold stp; repeat' split
  all_goals (try exact hs)
  intro c hc
  rcases omore_mem hc with hc | hc
  · exact hs c hc
  · rw [hc]
    have ho := h.op
    have ha := h.a
    have hb := h.b
    refine ⟨small_wf (by simp [tmOf]; omega) (by simp [tmOf]; omega), small_wf (by simp [tmOf]; omega) (by simp [tmOf]; omega), small_wf (by simp [tmOf]; omega) (by simp [tmOf]; omega)⟩

theorem runN_twf {r : Int} {ns : List Nd} (hr : r ≤ 64) (ok : ∀ x ∈ ns, NodeOk r ns.length x) : ∀ (n : Nat) (s : St), (∀ c ∈ s.cts, twf c.t) → ∀ c ∈ (runN ns n s).cts, twf c.t
  | 0, s, h => h
  | n + 1, s, h => by
    simp only [runN]
    split
    · exact h
    · split
      · rename_i x hx
        exact runN_twf hr ok n _ (stp_twf hr (ok _ (List.mem_of_getElem? hx)) h)
      · exact h

theorem runN_succ {r : Int} {ns : List Nd} (ok : ∀ x ∈ ns, NodeOk r ns.length x) (n : Nat) (s : St) (hs : s.pc < ns.length) (he : (runN ns n s).ended = false) {x : Nd} (hx : ns[(runN ns n s).pc]? = some x) : runN ns (n + 1) s = stp x (runN ns n s) := by
  rw [runN_add n 1 s (fun k _ => runN_pc ok k s hs)]
  simp [runN, he, hx]

theorem runN_stop {r : Int} {ns : List Nd} (ok : ∀ x ∈ ns, NodeOk r ns.length x) (n m : Nat) (hnm : n ≤ m) (s : St) (hs : s.pc < ns.length) (he : (runN ns n s).ended = true) : runN ns m s = runN ns n s := by
  rw [show m = n + (m - n) by omega, runN_add n (m - n) s (fun k _ => runN_pc ok k s hs), runN_ended he]

end Go.Proofs.Ytoikglgnmjjpcaa
