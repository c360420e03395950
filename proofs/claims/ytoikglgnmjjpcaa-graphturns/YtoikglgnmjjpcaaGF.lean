/-
  Coming from node to node by turns over all of them: plain facts.
-/
import Derived.Test.YtoikglgnmjjpcaaGE
namespace Go.Proofs.Ytoikglgnmjjpcaa

/-- Node n tells where it goes on, if it has been come to. -/
def mark1 (ns : List Nd) (x : List Bool) (n : Nat) : List Bool := if bat x n && (nd ns n).op != 12 then x.set (nd ns n).t.toNat true else x
def mark2 (ns : List Nd) (x : List Bool) (n : Nat) : List Bool := if bat x n && (nd ns n).op == 11 then x.set (nd ns n).e.toNat true else x
def mark (ns : List Nd) (x : List Bool) (n : Nat) : List Bool := mark2 ns (mark1 ns x n) n
def markTo (ns : List Nd) (x : List Bool) : Nat → List Bool
  | 0 => x
  | n + 1 => mark ns (markTo ns x n) n
def markN (ns : List Nd) : Nat → List Bool
  | 0 => (List.replicate ns.length false).set 0 true
  | n + 1 => markTo ns (markN ns n) ns.length

theorem mark_len (ns : List Nd) (x : List Bool) (n : Nat) : (mark ns x n).length = x.length := by
  unfold mark mark2 mark1; repeat' split
  all_goals simp
theorem markTo_len (ns : List Nd) (x : List Bool) : ∀ n, (markTo ns x n).length = x.length
  | 0 => rfl
  | n + 1 => by simp only [markTo]; rw [mark_len, markTo_len ns x n]
theorem markN_len (ns : List Nd) : ∀ n, (markN ns n).length = ns.length
  | 0 => by simp [markN]
  | n + 1 => by simp only [markN]; rw [markTo_len, markN_len ns n]

theorem yeses_more {x : List Bool} {i : Nat} (h : i < x.length) : x.set i true = x ∨ yeses x < yeses (x.set i true) := by
  cases e : bat x i
  · right
    have h1 := yeses_set (x := x.set i true) (n := i) (by simpa using h) (by rw [bat_set h]; simp)
    rw [List.set_set, set_same h e] at h1
    omega
  · exact Or.inl (set_same h e)

theorem mark1_or {r : Int} {ns : List Nd} (hc : chk r ns = 0) {x : List Bool} (hl : x.length = ns.length) {n : Nat} (hn : n < ns.length) : mark1 ns x n = x ∨ yeses x < yeses (mark1 ns x n) := by
  unfold mark1
  split
  · rename_i h
    rw [Bool.and_eq_true, bne_iff_ne] at h
    have := (chk_at hc hn).t h.2
    exact yeses_more (by omega)
  · exact Or.inl rfl
theorem mark2_or {r : Int} {ns : List Nd} (hc : chk r ns = 0) {x : List Bool} (hl : x.length = ns.length) {n : Nat} (hn : n < ns.length) : mark2 ns x n = x ∨ yeses x < yeses (mark2 ns x n) := by
  unfold mark2
  split
  · rename_i h
    rw [Bool.and_eq_true, beq_iff_eq] at h
    have := (chk_at hc hn).e h.2
    exact yeses_more (by omega)
  · exact Or.inl rfl

theorem mark1_len (ns : List Nd) (x : List Bool) (n : Nat) : (mark1 ns x n).length = x.length := by
  unfold mark1; split <;> simp

theorem mark_or {r : Int} {ns : List Nd} (hc : chk r ns = 0) {x : List Bool} (hl : x.length = ns.length) {n : Nat} (hn : n < ns.length) : (mark ns x n = x ∧ mark1 ns x n = x ∧ mark2 ns x n = x) ∨ yeses x < yeses (mark ns x n) := by
  unfold mark
  rcases mark1_or hc hl hn with h1 | h1
  · rw [h1]
    rcases mark2_or hc hl hn with h2 | h2
    · exact Or.inl ⟨h2, rfl, h2⟩
    · exact Or.inr h2
  · right
    rcases mark2_or hc (x := mark1 ns x n) (by rw [mark1_len]; exact hl) hn with h2 | h2
    · rw [h2]; exact h1
    · omega

theorem markTo_or {r : Int} {ns : List Nd} (hc : chk r ns = 0) {x : List Bool} (hl : x.length = ns.length) : ∀ n, n ≤ ns.length → (markTo ns x n = x ∧ ∀ m, m < n → mark1 ns x m = x ∧ mark2 ns x m = x) ∨ yeses x < yeses (markTo ns x n)
  | 0, _ => Or.inl ⟨rfl, fun m hm => by omega⟩
  | n + 1, hn => by
    simp only [markTo]
    rcases markTo_or hc hl n (by omega) with ⟨h1, h2⟩ | h1
    · rw [h1]
      rcases mark_or hc hl (n := n) (by omega) with ⟨h3, h4⟩ | h3
      · left
        refine ⟨h3, fun m hm => ?_⟩
        by_cases e : m = n
        · subst e; exact h4
        · exact h2 m (by omega)
      · exact Or.inr h3
    · right
      rcases mark_or hc (x := markTo ns x n) (by rw [markTo_len]; exact hl) (n := n) (by omega) with ⟨h3, _⟩ | h3
      · rw [h3]; exact h1
      · omega

/-- All that is told may be come to. -/
theorem set_rch {ns : List Nd} {x : List Bool} {i : Nat} (hi : i < x.length) (h : ∀ m, bat x m = true → Rch ns m) (hr : Rch ns i) : ∀ m, bat (x.set i true) m = true → Rch ns m := by
  intro m hm
  rw [bat_set hi] at hm
  split at hm
  · rename_i e; subst e; exact hr
  · exact h m hm

theorem mark_rch {r : Int} {ns : List Nd} (hc : chk r ns = 0) {x : List Bool} (hl : x.length = ns.length) {n : Nat} (hn : n < ns.length) (h : ∀ m, bat x m = true → Rch ns m) : ∀ m, bat (mark ns x n) m = true → Rch ns m := by
  have h1 : ∀ m, bat (mark1 ns x n) m = true → Rch ns m := by
    unfold mark1
    split
    · rename_i q
      rw [Bool.and_eq_true, bne_iff_ne] at q
      have := (chk_at hc hn).t q.2
      exact set_rch (by omega) h (Rch.step (h n q.1) (ahB_then hn q.2 (by omega)))
    · exact h
  have hl1 : (mark1 ns x n).length = ns.length := by rw [mark1_len]; exact hl
  unfold mark
  generalize mark1 ns x n = y at h1 hl1
  unfold mark2
  split
  · rename_i q
    rw [Bool.and_eq_true, beq_iff_eq] at q
    have := (chk_at hc hn).e q.2
    exact set_rch (by omega) h1 (Rch.step (h1 n q.1) (ahB_else hn q.2 (by omega)))
  · exact h1

theorem markTo_rch {r : Int} {ns : List Nd} (hc : chk r ns = 0) {x : List Bool} (hl : x.length = ns.length) (h : ∀ m, bat x m = true → Rch ns m) : ∀ n, n ≤ ns.length → ∀ m, bat (markTo ns x n) m = true → Rch ns m
  | 0, _ => h
  | n + 1, hn => mark_rch hc (by rw [markTo_len]; exact hl) (by omega) (markTo_rch hc hl h n (by omega))

theorem start_yes {k : Nat} (h : 0 < k) : bat ((List.replicate k false).set 0 true) 0 = true := by rw [bat_set (by simpa using h)]; simp

theorem markN_rch {r : Int} {ns : List Nd} (hc : chk r ns = 0) : ∀ n, ∀ m, bat (markN ns n) m = true → Rch ns m
  | 0 => fun m hm => by
    simp only [markN] at hm
    rw [bat_set (by have := (chk_full hc).1.1; rw [List.length_replicate]; omega)] at hm
    split at hm
    · rename_i e; subst e; exact Rch.zero
    · rw [show bat (List.replicate ns.length false) m = false by
        by_cases q : m < ns.length <;> simp [bat, q]] at hm
      cases hm
  | n + 1 => markTo_rch hc (markN_len ns n) (markN_rch hc n) ns.length (Nat.le_refl _)

theorem yeses_pos {x : List Bool} {i : Nat} (h : bat x i = true) (hi : i < x.length) : 1 ≤ yeses x := by
  have := yeses_set hi h; omega

theorem markN_or {r : Int} {ns : List Nd} (hc : chk r ns = 0) : ∀ n, (∀ m, m < ns.length → mark1 ns (markN ns n) m = markN ns n ∧ mark2 ns (markN ns n) m = markN ns n) ∨ n + 1 ≤ yeses (markN ns n)
  | 0 => Or.inr (by
      have h := (chk_full hc).1.1
      exact yeses_pos (start_yes (by omega)) (by rw [markN_len]; omega))
  | n + 1 => by
    simp only [markN]
    rcases markTo_or hc (markN_len ns n) ns.length (Nat.le_refl _) with ⟨h1, h2⟩ | h1
    · left; rw [h1]; exact h2
    · rcases markN_or hc n with h2 | h2
      · exfalso
        have : ∀ k, k ≤ ns.length → markTo ns (markN ns n) k = markN ns n := by
          intro k
          induction k with
          | zero => intro _; rfl
          | succ k ih =>
            intro hk
            simp only [markTo]
            rw [ih (by omega)]
            unfold mark
            rw [(h2 k (by omega)).1, (h2 k (by omega)).2]
        rw [this _ (Nat.le_refl _)] at h1; omega
      · right; omega

theorem mark_keeps {ns : List Nd} {x : List Bool} {n j : Nat} (h : bat x j = true) : bat (mark ns x n) j = true := by
  have key : ∀ (y : List Bool) (i : Nat), bat y j = true → bat (y.set i true) j = true := by
    intro y i hy
    by_cases hi : i < y.length
    · rw [bat_set hi]; split
      · rfl
      · exact hy
    · rw [List.set_eq_of_length_le (by omega)]; exact hy
  unfold mark mark2 mark1
  repeat' split
  all_goals first | exact h | exact key _ _ h | exact key _ _ (key _ _ h)

theorem markTo_keeps {ns : List Nd} {x : List Bool} {j : Nat} (h : bat x j = true) : ∀ n, bat (markTo ns x n) j = true
  | 0 => h
  | n + 1 => mark_keeps (markTo_keeps h n)

theorem markN_zero {ns : List Nd} (h : 0 < ns.length) : ∀ n, bat (markN ns n) 0 = true
  | 0 => start_yes h
  | n + 1 => markTo_keeps (markN_zero h n) _

/-- After as many turns as there are nodes it says just which may be come to. -/
theorem markN_done {r : Int} {ns : List Nd} (hc : chk r ns = 0) : markN ns ns.length = rchL ns := by
  refine IsR.uniq ⟨markN_len ns _, fun n hn => ⟨markN_rch hc _ n, fun hr => ?_⟩⟩ (rchL_isR ns)
  have hcl : ∀ m, m < ns.length → mark1 ns (markN ns ns.length) m = markN ns ns.length ∧ mark2 ns (markN ns ns.length) m = markN ns ns.length := by
    rcases markN_or hc ns.length with h | h
    · exact h
    · have := yeses_le (markN ns ns.length); rw [markN_len] at this; omega
  have h0 : bat (markN ns ns.length) 0 = true := markN_zero (by omega) _
  have hlen := markN_len ns ns.length
  generalize markN ns ns.length = x at hcl h0 hlen
  have key : ∀ m, Rch ns m → bat x m = true := by
    intro m hm
    induction hm with
    | zero => exact h0
    | step hr ha ih =>
      rename_i a b
      have hal := ahB_lt ha
      obtain ⟨k1, k2⟩ := hcl a hal
      rw [ahB_at (get_nd hal)] at ha
      have hF := chk_at hc hal
      simp only [ldB, Bool.or_eq_true, Bool.and_eq_true, bne_iff_ne, beq_iff_eq] at ha
      rcases ha with ⟨q1, q2⟩ | ⟨q1, q2⟩
      · have ht := hF.t q1
        unfold mark1 at k1
        rw [if_pos (by rw [Bool.and_eq_true, bne_iff_ne]; exact ⟨ih, q1⟩)] at k1
        have h3 := congrArg (fun l => bat l b) k1
        rw [bat_set (by omega), if_pos (by omega)] at h3
        exact h3.symm
      · have ht := hF.e q1
        unfold mark2 at k2
        rw [if_pos (by rw [Bool.and_eq_true, beq_iff_eq]; exact ⟨ih, q1⟩)] at k2
        have h3 := congrArg (fun l => bat l b) k2
        rw [bat_set (by omega), if_pos (by omega)] at h3
        exact h3.symm
  exact key n hr

end Go.Proofs.Ytoikglgnmjjpcaa
