/-
  One program does what another one does: plain facts on runs side by side.
-/
import Derived.Test.YtoikglgnmjjpcaaMR
import Derived.Test.YtoikglgnmjjpcaaGD
namespace Go.Proofs.Ytoikglgnmjjpcaa

/-- One node is done, if the run has not ended. -/
def run1 (ns : List Nd) (s : St) : St := if s.ended then s else match ns[s.pc]? with | some x => stp x s | none => s

theorem runN_none {ns : List Nd} {s : St} (h : ns[s.pc]? = none) : ∀ n, runN ns n s = s
  | 0 => rfl
  | n + 1 => by simp [runN, h]

theorem runS_succ (ns : List Nd) (n : Nat) (s : St) : runN ns (n + 1) s = runN ns n (run1 ns s) := by
  cases he : s.ended
  · cases hx : ns[s.pc]? with
    | none => simp [run1, he, hx, runN_none hx]
    | some x => simp [run1, he, hx, runN]
  · simp [run1, he, runN_ended he]

theorem runN_plus (ns : List Nd) : ∀ (n m : Nat) (s : St), runN ns (n + m) s = runN ns m (runN ns n s)
  | 0, m, s => by simp [runN]
  | n + 1, m, s => by rw [show n + 1 + m = (n + m) + 1 by omega, runS_succ, runS_succ, runN_plus ns n m]

theorem runN_last (ns : List Nd) (n : Nat) (s : St) : runN ns (n + 1) s = run1 ns (runN ns n s) := by
  rw [runN_plus ns n 1, runS_succ]; rfl

theorem run1_ended {ns : List Nd} {s : St} (h : s.ended = true) : run1 ns s = s := by simp [run1, h]
theorem run1_at {ns : List Nd} {s : St} {x : Nd} (h : s.ended = false) (hx : ns[s.pc]? = some x) : run1 ns s = stp x s := by simp [run1, h, hx]

theorem run1_out (ns : List Nd) (s : St) : s.out <+: (run1 ns s).out := by
  unfold run1
  split
  · exact List.prefix_refl _
  · split
    · unfold stp; repeat' split
      all_goals simp
    · exact List.prefix_refl _

theorem runN_out' (ns : List Nd) : ∀ (n : Nat) (s : St), s.out <+: (runN ns n s).out
  | 0, s => List.prefix_refl _
  | n + 1, s => by rw [runS_succ]; exact (run1_out ns s).trans (runN_out' ns n _)

theorem runN_out_mono (ns : List Nd) {n m : Nat} (h : n ≤ m) (s : St) : (runN ns n s).out <+: (runN ns m s).out := by
  rw [show m = n + (m - n) by omega, runN_plus]; exact runN_out' ns _ _

theorem runN_stays {ns : List Nd} {n m : Nat} (h : n ≤ m) {s : St} (he : (runN ns n s).ended = true) : runN ns m s = runN ns n s := by
  rw [show m = n + (m - n) by omega, runN_plus, runN_ended he]

/-- Numbers below n, none twice: no more than n. -/
theorem nodup_below : ∀ (n : Nat) (l : List Nat), l.Nodup → (∀ x ∈ l, x < n) → l.length ≤ n
  | 0, l, _, h => by
    cases l with
    | nil => simp
    | cons a l => exact absurd (h a (by simp)) (by omega)
  | n + 1, l, hd, h => by
    have h1 := nodup_below n (l.erase n) (hd.erase n) (fun x hx => by
      have h2 := h x (List.mem_of_mem_erase hx)
      have h3 : x ≠ n := fun e => by
        subst e
        exact (List.Nodup.not_mem_erase hd) hx
      omega)
    have := List.length_erase (a := n) (l := l)
    split at this <;> omega

/-- The program ms does what ns does, node by node, but for silent nodes that stand between. -/
structure Sim (ns ms : List Nd) (f : Nat → Nat) (sil : Nat → Bool) (rk : Nat → Nat) (M : Nat) (R : St → St → Prop) : Prop where
  pc : ∀ s u, R s u → s.pc = f u.pc ∧ s.pc < ns.length ∧ u.pc < ms.length
  obs : ∀ s u, R s u → u.out = s.out ∧ u.ended = s.ended ∧ u.ret = s.ret
  silent : ∀ s u, R s u → s.ended = false → sil u.pc = true → R s (run1 ms u) ∧ rk (run1 ms u).pc < rk u.pc
  step : ∀ s u, R s u → s.ended = false → sil u.pc = false → R (run1 ns s) (run1 ms u)
  bound : ∀ n, rk n ≤ M

/-- From beside one another on: the silent nodes that stand ahead of the next one. -/
theorem Sim.lead {ns ms : List Nd} {f : Nat → Nat} {sil : Nat → Bool} {rk : Nat → Nat} {M : Nat} {R : St → St → Prop} (S : Sim ns ms f sil rk M R) : ∀ (r : Nat) (s u : St), R s u → s.ended = false → rk u.pc ≤ r →
    ∃ l : List Nat, l.Nodup ∧ (∀ x ∈ l, x < ms.length ∧ sil x = true ∧ rk x ≤ rk u.pc) ∧ R s (runN ms l.length u) ∧ sil (runN ms l.length u).pc = false
  | r, s, u, h, he, hr => by
    cases hs : sil u.pc
    · exact ⟨[], by simp, by simp, h, hs⟩
    · obtain ⟨h1, h2⟩ := S.silent s u h he hs
      cases r with
      | zero => omega
      | succ r =>
        obtain ⟨l, l1, l2, l3, l4⟩ := S.lead r s (run1 ms u) h1 he (by omega)
        refine ⟨u.pc :: l, ?_, ?_, ?_, ?_⟩
        · refine List.nodup_cons.2 ⟨fun hm => ?_, l1⟩
          have := (l2 _ hm).2.2; omega
        · intro x hx
          rcases List.mem_cons.1 hx with rfl | hx
          · exact ⟨(S.pc s u h).2.2, hs, Nat.le_refl _⟩
          · have := l2 x hx; exact ⟨this.1, this.2.1, by omega⟩
        · simp only [List.length_cons]; rw [runS_succ]; exact l3
        · simp only [List.length_cons]; rw [runS_succ]; exact l4

/-- One node of ns: at most as many of ms as there are. -/
theorem Sim.one {ns ms : List Nd} {f : Nat → Nat} {sil : Nat → Bool} {rk : Nat → Nat} {M : Nat} {R : St → St → Prop} (S : Sim ns ms f sil rk M R) {s u : St} (h : R s u) : ∃ j, j ≤ ms.length ∧ R (run1 ns s) (runN ms j u) := by
  cases he : s.ended
  · obtain ⟨l, l1, l2, l3, l4⟩ := S.lead _ s u h he (Nat.le_refl _)
    have h1 := S.step _ _ l3 he l4
    rw [← runN_last] at h1
    refine ⟨l.length + 1, ?_, h1⟩
    have hp := (S.pc _ _ l3).2.2
    have := nodup_below ms.length ((runN ms l.length u).pc :: l) (List.nodup_cons.2 ⟨fun hm => (by
      have := (l2 _ hm).2.1; rw [l4] at this; cases this), l1⟩) (fun x hx => by
      rcases List.mem_cons.1 hx with rfl | hx
      · exact hp
      · exact (l2 x hx).1)
    simpa using this
  · exact ⟨0, by omega, by rw [run1_ended he]; exact h⟩

theorem Sim.fwd {ns ms : List Nd} {f : Nat → Nat} {sil : Nat → Bool} {rk : Nat → Nat} {M : Nat} {R : St → St → Prop} (S : Sim ns ms f sil rk M R) {s u : St} (h : R s u) : ∀ n, ∃ m, m ≤ n * ms.length ∧ R (runN ns n s) (runN ms m u)
  | 0 => ⟨0, by omega, h⟩
  | n + 1 => by
    obtain ⟨m, h1, h2⟩ := S.fwd h n
    obtain ⟨j, h3, h4⟩ := S.one h2
    refine ⟨m + j, ?_, ?_⟩
    · rw [Nat.succ_mul]; omega
    · rw [runN_last, runN_plus]; exact h4

theorem Sim.bwd {ns ms : List Nd} {f : Nat → Nat} {sil : Nat → Bool} {rk : Nat → Nat} {M : Nat} {R : St → St → Prop} (S : Sim ns ms f sil rk M R) {s u : St} (h : R s u) : ∀ n, ∃ i, i ≤ n ∧ R (runN ns i s) (runN ms n u)
  | 0 => ⟨0, by omega, h⟩
  | n + 1 => by
    obtain ⟨i, h1, h2⟩ := S.bwd h n
    cases he : (runN ns i s).ended
    · cases hs : sil (runN ms n u).pc
      · exact ⟨i + 1, by omega, by rw [runN_last, runN_last]; exact S.step _ _ h2 he hs⟩
      · exact ⟨i, by omega, by rw [runN_last]; exact (S.silent _ _ h2 he hs).1⟩
    · have he2 : (runN ms n u).ended = true := by rw [(S.obs _ _ h2).2.1]; exact he
      exact ⟨i, by omega, by rw [runN_last, run1_ended he2]; exact h2⟩

/-- What hoistwaylaw.does asks. -/
structure Does (ns ms : List Nd) (s u : St) (n : Nat) : Prop where
  b1 : (runN ms n u).ended = true → (runN ns n s).ended = true ∧ (runN ns n s).ret = (runN ms n u).ret ∧ (runN ns n s).out = (runN ms n u).out
  b2 : (runN ms n u).out <+: (runN ns n s).out
  c1 : (runN ns n s).ended = true → (runN ms (n * (ms.length + 1) + ms.length) u).ended = true ∧ (runN ns n s).ret = (runN ms (n * (ms.length + 1) + ms.length) u).ret ∧ (runN ns n s).out = (runN ms (n * (ms.length + 1) + ms.length) u).out
  c2 : (runN ns n s).out <+: (runN ms (n * (ms.length + 1) + ms.length) u).out

theorem Sim.does {ns ms : List Nd} {f : Nat → Nat} {sil : Nat → Bool} {rk : Nat → Nat} {M : Nat} {R : St → St → Prop} (S : Sim ns ms f sil rk M R) {s u : St} (h : R s u) (n : Nat) : Does ns ms s u n := by
  obtain ⟨i, hi, hR⟩ := S.bwd h n
  obtain ⟨m, hm, hF⟩ := S.fwd h n
  obtain ⟨o1, o2, o3⟩ := S.obs _ _ hR
  obtain ⟨p1, p2, p3⟩ := S.obs _ _ hF
  have hmle : m ≤ n * (ms.length + 1) + ms.length := by rw [Nat.mul_succ]; omega
  refine ⟨fun hb => ?_, ?_, fun ha => ?_, ?_⟩
  · rw [o2] at hb
    rw [runN_stays hi hb]
    exact ⟨hb, o3.symm, o1.symm⟩
  · rw [o1]; exact runN_out_mono ns hi s
  · have hb : (runN ms m u).ended = true := by rw [p2]; exact ha
    rw [runN_stays hmle hb]
    exact ⟨hb, p3.symm, p1.symm⟩
  · rw [← p1]; exact runN_out_mono ms hmle u

/-- One behind the other. -/
theorem Sim.comp {ns ms ls : List Nd} {f g : Nat → Nat} {sil til : Nat → Bool} {rk qk : Nat → Nat} {M L : Nat} {R Q : St → St → Prop} (S : Sim ns ms f sil rk M R) (T : Sim ms ls g til qk L Q) :
    Sim ns ls (fun n => f (g n)) (fun n => til n || sil (g n)) (fun n => rk (g n) * (L + 1) + qk n) (M * (L + 1) + L) (fun s v => ∃ u, R s u ∧ Q u v) := by
  refine ⟨?_, ?_, ?_, ?_, ?_⟩
  · rintro s v ⟨u, h1, h2⟩
    obtain ⟨a1, a2, a3⟩ := S.pc s u h1
    obtain ⟨b1, b2, b3⟩ := T.pc u v h2
    exact ⟨by rw [a1, b1], a2, b3⟩
  · rintro s v ⟨u, h1, h2⟩
    obtain ⟨a1, a2, a3⟩ := S.obs s u h1
    obtain ⟨b1, b2, b3⟩ := T.obs u v h2
    exact ⟨by rw [b1, a1], by rw [b2, a2], by rw [b3, a3]⟩
  · rintro s v ⟨u, h1, h2⟩ he hs
    have heu : u.ended = false := by rw [(S.obs s u h1).2.1]; exact he
    have hg := (T.pc u v h2).1
    cases ht : til v.pc
    · rw [ht, Bool.false_or] at hs
      rw [← hg] at hs
      obtain ⟨c1, c2⟩ := S.silent s u h1 he hs
      have d1 := T.step u v h2 heu ht
      refine ⟨⟨_, c1, d1⟩, ?_⟩
      have hg1 := (T.pc _ _ d1).1
      have hb := T.bound (run1 ls v).pc
      show rk (g (run1 ls v).pc) * (L + 1) + qk (run1 ls v).pc < rk (g v.pc) * (L + 1) + qk v.pc
      rw [← hg1, ← hg]
      have : (rk (run1 ms u).pc + 1) * (L + 1) ≤ rk u.pc * (L + 1) := Nat.mul_le_mul_right _ c2
      rw [Nat.succ_mul] at this
      omega
    · obtain ⟨d1, d2⟩ := T.silent u v h2 heu ht
      refine ⟨⟨_, h1, d1⟩, ?_⟩
      have hg1 := (T.pc _ _ d1).1
      show rk (g (run1 ls v).pc) * (L + 1) + qk (run1 ls v).pc < rk (g v.pc) * (L + 1) + qk v.pc
      rw [← hg1, ← hg]
      omega
  · rintro s v ⟨u, h1, h2⟩ he hs
    have heu : u.ended = false := by rw [(S.obs s u h1).2.1]; exact he
    have hg := (T.pc u v h2).1
    rw [Bool.or_eq_false_iff] at hs
    exact ⟨_, S.step s u h1 he (by rw [hg]; exact hs.2), T.step u v h2 heu hs.1⟩
  · intro n
    have h1 := S.bound (g n)
    have h2 := T.bound n
    have : rk (g n) * (L + 1) ≤ M * (L + 1) := Nat.mul_le_mul_right _ h1
    omega

end Go.Proofs.Ytoikglgnmjjpcaa
