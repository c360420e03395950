/-
  Plain facts on counts that are kept in order.
-/
import Derived.Test.YtoikglgnmjjpcabRA
namespace Go.Proofs.Ytoikglgnmjjpcab

theorem abv_irrefl (t : Tm) : abv t t = false := by simp [abv]

theorem abv_trans {a b c : Tm} (h1 : abv a b = true) (h2 : abv b c = true) : abv a c = true := by
  obtain ⟨a1, a2, a3⟩ := a
  obtain ⟨b1, b2, b3⟩ := b
  obtain ⟨c1, c2, c3⟩ := c
  simp only [abv] at *
  repeat' split at h1
  all_goals repeat' split at h2
  all_goals repeat' split
  all_goals simp only [decide_eq_true_eq] at *
  all_goals omega

theorem abv_total {a b : Tm} (h : abv a b = false) (hne : a ≠ b) : abv b a = true := by
  obtain ⟨a1, a2, a3⟩ := a
  obtain ⟨b1, b2, b3⟩ := b
  simp only [abv] at *
  have hne' : ¬ (a1 = b1 ∧ a2 = b2 ∧ a3 = b3) := fun ⟨e1, e2, e3⟩ => hne (by rw [e1, e2, e3])
  repeat' split at h
  all_goals repeat' split
  all_goals simp only [decide_eq_true_eq, decide_eq_false_iff_not] at *
  all_goals omega

/-- In order, each term once. -/
def Srt (l : List Ct) : Prop := l.Pairwise (fun a b => abv b.t a.t = true)

def ctOf (l : List Ct) (t : Tm) : Option Int := (l.find? (fun c => decide (c.t = t))).map (·.n)

theorem ctOf_cons (c : Ct) (l : List Ct) (t : Tm) : ctOf (c :: l) t = if c.t = t then some c.n else ctOf l t := by
  unfold ctOf
  rw [List.find?_cons]
  by_cases h : c.t = t <;> simp [h]

theorem ctOf_none {l : List Ct} {t : Tm} (h : ∀ c ∈ l, abv c.t t = true) : ctOf l t = none := by
  induction l with
  | nil => rfl
  | cons c l ih =>
    rw [ctOf_cons, if_neg, ih (fun c hc => h c (List.mem_cons_of_mem _ hc))]
    intro e
    have := h c (List.mem_cons_self ..)
    rw [e, abv_irrefl] at this
    cases this

theorem omore_mem {l : List Ct} {t : Tm} {c : Ct} (h : c ∈ omore l t) : c ∈ l ∨ c.t = t := by
  induction l with
  | nil => simp [omore] at h; right; rw [h]
  | cons d l ih =>
    unfold omore at h
    split at h
    · rcases List.mem_cons.1 h with h | h
      · left; rw [h]; exact List.mem_cons_self ..
      · rcases ih h with h | h
        · left; exact List.mem_cons_of_mem _ h
        · right; exact h
    · split at h
      · rcases List.mem_cons.1 h with h | h
        · right; rw [h]
        · left; exact List.mem_cons_of_mem _ h
      · rcases List.mem_cons.1 h with h | h
        · right; rw [h]
        · left; exact h

theorem omore_srt {l : List Ct} (h : Srt l) (t : Tm) : Srt (omore l t) := by
  induction l with
  | nil => exact List.pairwise_singleton _ _
  | cons c l ih =>
    unfold Srt at h
    rw [List.pairwise_cons] at h
    unfold omore
    split
    · rename_i h1
      refine List.pairwise_cons.2 ⟨fun d hd => ?_, ih h.2⟩
      rcases omore_mem hd with hd | hd
      · exact h.1 d hd
      · rw [hd]; exact h1
    · rename_i h1
      split
      · rename_i h2
        refine List.pairwise_cons.2 ⟨fun d hd => ?_, h.2⟩
        have := h.1 d hd
        rw [h2] at this; exact this
      · rename_i h2
        have h1' : abv t c.t = false := by simpa using h1
        have h3 : abv c.t t = true := abv_total h1' (fun e => h2 e.symm)
        refine List.pairwise_cons.2 ⟨fun d hd => ?_, List.pairwise_cons.2 h⟩
        rcases List.mem_cons.1 hd with hd | hd
        · rw [hd]; exact h3
        · exact abv_trans (h.1 d hd) h3

theorem omore_ct {l : List Ct} (h : Srt l) (t u : Tm) : ctOf (omore l t) u = if u = t then some ((ctOf l t).getD 0 + 1) else ctOf l u := by
  induction l with
  | nil =>
    unfold omore
    rw [ctOf_cons]
    by_cases e : u = t
    · subst e; simp [ctOf]
    · rw [if_neg (fun e' => e e'.symm), if_neg e]
  | cons c l ih =>
    unfold Srt at h
    rw [List.pairwise_cons] at h
    unfold omore
    split
    · rename_i h1
      have hct : c.t ≠ t := fun e => by rw [e, abv_irrefl] at h1; cases h1
      rw [ctOf_cons, ctOf_cons, ctOf_cons, ih h.2, if_neg hct]
      by_cases e : u = t
      · subst e; rw [if_neg hct, if_pos rfl, if_pos rfl]
      · rw [if_neg e, if_neg e]
    · rename_i h1
      split
      · rename_i h2
        rw [ctOf_cons, ctOf_cons, ctOf_cons, if_pos h2]
        by_cases e : u = t
        · subst e; simp
        · rw [if_neg (fun e' => e e'.symm), if_neg e, h2, if_neg (fun e' => e e'.symm)]
      · rename_i h2
        have h1' : abv t c.t = false := by simpa using h1
        have h3 : abv c.t t = true := abv_total h1' (fun e => h2 e.symm)
        have hn : ctOf (c :: l) t = none := ctOf_none (fun d hd => by
          rcases List.mem_cons.1 hd with hd | hd
          · rw [hd]; exact h3
          · exact abv_trans (h.1 d hd) h3)
        rw [ctOf_cons]
        by_cases e : u = t
        · subst e; rw [if_pos rfl, if_pos rfl, hn]; rfl
        · rw [if_neg (fun e' => e e'.symm), if_neg e]

theorem ctOf_mem {l : List Ct} {t : Tm} {n : Int} (h : ctOf l t = some n) : ⟨t, n⟩ ∈ l := by
  unfold ctOf at h
  rw [Option.map_eq_some_iff] at h
  obtain ⟨c, hc, rfl⟩ := h
  have h1 := List.find?_some hc
  have h2 := List.mem_of_find?_eq_some hc
  simp at h1
  subst h1
  exact h2

theorem omore_le {l : List Ct} {t : Tm} {k : Int} (hk : 0 ≤ k) (h : ∀ c ∈ l, 0 ≤ c.n ∧ c.n ≤ k) : ∀ c ∈ omore l t, 0 ≤ c.n ∧ c.n ≤ k + 1 := by
  induction l with
  | nil => intro c hc; simp [omore] at hc; subst hc; simp; omega
  | cons d l ih =>
    intro c hc
    have hd := h d (List.mem_cons_self ..)
    have hl : ∀ c ∈ l, 0 ≤ c.n ∧ c.n ≤ k := fun c hc => h c (List.mem_cons_of_mem _ hc)
    unfold omore at hc
    split at hc
    · rcases List.mem_cons.1 hc with hc | hc
      · subst hc; omega
      · exact ih hl c hc
    · split at hc
      · rcases List.mem_cons.1 hc with hc | hc
        · subst hc; simp; omega
        · have := hl c hc; omega
      · rcases List.mem_cons.1 hc with hc | hc
        · subst hc; simp; omega
        · have := h c hc; omega

theorem omore_len (l : List Ct) (t : Tm) : (omore l t).length ≤ l.length + 1 := by
  induction l with
  | nil => simp [omore]
  | cons c l ih =>
    unfold omore
    split
    · simp; omega
    · split <;> simp

end Go.Proofs.Ytoikglgnmjjpcab
