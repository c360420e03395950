/-
  Greatest answers of questions to all nodes: plain facts on lists of yes and no.
-/
import Derived.Test.YtoikglgnmjjpcaaDoorM
namespace Go.Proofs.YtoikglgnmjjpcaaDoor

/-- Element n of a list of yes and no; no beyond it. -/
def bat (x : List Bool) (n : Nat) : Bool := x.getD n false

theorem bat_get {x : List Bool} {n : Nat} {b : Bool} (h : x[n]? = some b) : bat x n = b := by simp [bat, h]
theorem get_bat {x : List Bool} {n : Nat} (h : n < x.length) : x[n]? = some (bat x n) := by simp [bat, h]
theorem bat_set {x : List Bool} {n m : Nat} {b : Bool} (h : n < x.length) : bat (x.set n b) m = if m = n then b else bat x m := by
  simp only [bat, List.getD_eq_getElem?_getD, List.getElem?_set]
  by_cases e : n = m
  · subst e; simp [h]
  · simp [e, Ne.symm e]
theorem bat_yes {k n : Nat} (h : n < k) : bat (List.replicate k true) n = true := by simp [bat, h]
theorem bat_beyond {x : List Bool} {n : Nat} (h : x.length ≤ n) : bat x n = false := by simp [bat, h]
theorem bat_ext {x y : List Bool} (hl : x.length = y.length) (h : ∀ n, n < x.length → bat x n = bat y n) : x = y := by
  apply List.ext_getElem?
  intro n
  by_cases hn : n < x.length
  · rw [get_bat hn, get_bat (by omega), h n hn]
  · rw [List.getElem?_eq_none (by omega), List.getElem?_eq_none (by omega)]
theorem bat_map {k n : Nat} (f : Nat → Bool) (h : n < k) : bat ((List.range k).map f) n = f n := by simp [bat, h]

/-- A question that says no less where more is said. -/
def Mono (F : (Nat → Bool) → Nat → Bool) : Prop := ∀ x y : Nat → Bool, (∀ m, x m = true → y m = true) → ∀ n, F x n = true → F y n = true

/-- The greatest answer of a question to k nodes. -/
structure IsG (F : (Nat → Bool) → Nat → Bool) (k : Nat) (x : List Bool) : Prop where
  len : x.length = k
  fix : ∀ n, n < k → bat x n = F (bat x) n
  top : ∀ y : Nat → Bool, (∀ n, k ≤ n → y n = false) → (∀ n, n < k → y n = true → F y n = true) → ∀ n, y n = true → bat x n = true

theorem IsG.uniq {F : (Nat → Bool) → Nat → Bool} {k : Nat} {x y : List Bool} (hx : IsG F k x) (hy : IsG F k y) : x = y := by
  refine bat_ext (by rw [hx.len, hy.len]) fun n hn => ?_
  have h1 := hx.top (bat y) (fun n h => bat_beyond (by rw [hy.len]; exact h)) (fun n hn h => by rw [← hy.fix n hn]; exact h) n
  have h2 := hy.top (bat x) (fun n h => bat_beyond (by rw [hx.len]; exact h)) (fun n hn h => by rw [← hx.fix n hn]; exact h) n
  cases h : bat x n <;> cases h' : bat y n <;> simp_all

/-- On the way to the greatest answer, from yes everywhere on: nothing that may be is lost, and who has said no must. -/
structure Onway (F : (Nat → Bool) → Nat → Bool) (k : Nat) (x : List Bool) : Prop where
  len : x.length = k
  no : ∀ n, n < k → bat x n = false → F (bat x) n = false
  top : ∀ y : Nat → Bool, (∀ n, k ≤ n → y n = false) → (∀ n, n < k → y n = true → F y n = true) → ∀ n, y n = true → bat x n = true

theorem Onway.start (F : (Nat → Bool) → Nat → Bool) (k : Nat) : Onway F k (List.replicate k true) := by
  refine ⟨by simp, fun n hn h => (by rw [bat_yes hn] at h; cases h), fun y hb _ n hy => ?_⟩
  by_cases hn : n < k
  · exact bat_yes hn
  · rw [hb n (by omega)] at hy; cases hy

theorem Onway.set {F : (Nat → Bool) → Nat → Bool} {k : Nat} {x : List Bool} (hF : Mono F) (h : Onway F k x) {n : Nat} (hn : n < k) (hs : F (bat x) n = false) : Onway F k (x.set n false) := by
  have hle : ∀ m, bat (x.set n false) m = true → bat x m = true := by
    intro m hm; rw [bat_set (by rw [h.len]; exact hn)] at hm; split at hm
    · cases hm
    · exact hm
  have hno : ∀ m, F (bat x) m = false → F (bat (x.set n false)) m = false := by
    intro m hm
    cases e : F (bat (x.set n false)) m
    · rfl
    · rw [hF _ _ hle m e] at hm; cases hm
  refine ⟨by simp [h.len], fun m hm hb => ?_, fun y hb hy m hm => ?_⟩
  · rw [bat_set (by rw [h.len]; exact hn)] at hb
    split at hb
    · rename_i e; subst e; exact hno _ hs
    · exact hno m (h.no m hm hb)
  · rw [bat_set (by rw [h.len]; exact hn)]
    split
    · rename_i e
      subst e
      have h1 := hy m hn hm
      have h2 := hF y (bat x) (fun j hj => h.top y hb hy j hj) m h1
      rw [hs] at h2; cases h2
    · exact h.top y hb hy m hm

theorem Onway.put {F : (Nat → Bool) → Nat → Bool} {k : Nat} {x : List Bool} (hF : Mono F) (h : Onway F k x) {n : Nat} (hn : n < k) : Onway F k (x.set n (F (bat x) n)) := by
  cases e : F (bat x) n
  · exact h.set hF hn e
  · cases e2 : bat x n
    · rw [h.no n hn e2] at e; cases e
    · have : x.set n true = x := by
        refine bat_ext (by simp) fun m hm => ?_
        rw [bat_set (by rw [h.len]; exact hn)]
        split
        · rename_i q; subst q; exact e2.symm
        · rfl
      rw [this]; exact h

theorem Onway.done {F : (Nat → Bool) → Nat → Bool} {k : Nat} {x : List Bool} (h : Onway F k x) (hy : ∀ n, n < k → bat x n = true → F (bat x) n = true) : IsG F k x := by
  refine ⟨h.len, fun n hn => ?_, h.top⟩
  cases e : bat x n
  · exact (h.no n hn e).symm
  · exact (hy n hn e).symm

/-- How often yes is said. -/
def yeses (x : List Bool) : Nat := x.count true

theorem yeses_set {x : List Bool} {n : Nat} (h : n < x.length) (hb : bat x n = true) : yeses (x.set n false) + 1 = yeses x := by
  induction x generalizing n with
  | nil => simp at h
  | cons a l ih =>
    cases n with
    | zero => simp [bat] at hb; subst hb; simp [yeses]
    | succ n =>
      have := ih (n := n) (by simpa using h) (by simpa [bat] using hb)
      simp only [yeses, List.set_cons_succ, List.count_cons] at this ⊢
      omega

theorem yeses_le (x : List Bool) : yeses x ≤ x.length := List.count_le_length

/-- One turn, node by node, each one seeing what those ahead of it have said. -/
def turnTo (F : (Nat → Bool) → Nat → Bool) (x : List Bool) : Nat → List Bool
  | 0 => x
  | n + 1 => (turnTo F x n).set n (F (bat (turnTo F x n)) n)

theorem turnTo_onway {F : (Nat → Bool) → Nat → Bool} {k : Nat} {x : List Bool} (hF : Mono F) (h : Onway F k x) : ∀ n, n ≤ k → Onway F k (turnTo F x n)
  | 0, _ => h
  | n + 1, hn => (turnTo_onway hF h n (by omega)).put hF (by omega)

theorem set_same {x : List Bool} {n : Nat} {b : Bool} (h : n < x.length) (hb : bat x n = b) : x.set n b = x := by
  refine bat_ext (by simp) fun m hm => ?_
  rw [bat_set h]
  split
  · rename_i q; subst q; exact hb.symm
  · rfl

theorem put_yeses {F : (Nat → Bool) → Nat → Bool} {k : Nat} {x : List Bool} (h : Onway F k x) {n : Nat} (hn : n < k) : x.set n (F (bat x) n) = x ∨ yeses (x.set n (F (bat x) n)) < yeses x := by
  cases e : bat x n
  · rw [h.no n hn e, set_same (by rw [h.len]; exact hn) e]; exact Or.inl rfl
  · cases e2 : F (bat x) n
    · right; have := yeses_set (by rw [h.len]; exact hn) e; omega
    · left; exact set_same (by rw [h.len]; exact hn) e

/-- A turn leaves all as it is, all then saying what they must; or there are fewer yeses. -/
theorem turnTo_yeses {F : (Nat → Bool) → Nat → Bool} {k : Nat} {x : List Bool} (hF : Mono F) (h : Onway F k x) : ∀ n, n ≤ k → (turnTo F x n = x ∧ ∀ m, m < n → bat x m = F (bat x) m) ∨ yeses (turnTo F x n) < yeses x
  | 0, _ => Or.inl ⟨rfl, fun m hm => by omega⟩
  | n + 1, hn => by
    have ho := turnTo_onway hF h n (by omega)
    have hp := put_yeses ho (n := n) (by omega)
    simp only [turnTo]
    rcases turnTo_yeses hF h n (by omega) with ⟨h1, h2⟩ | h1
    · rw [h1] at hp ⊢
      rcases hp with h3 | h3
      · left
        refine ⟨h3, fun m hm => ?_⟩
        by_cases e : m = n
        · subst e
          have := congrArg (fun l => bat l m) h3
          rw [bat_set (by rw [h.len]; omega)] at this
          simpa using this.symm
        · exact h2 m (by omega)
      · exact Or.inr h3
    · right
      rcases hp with h3 | h3
      · rw [h3]; exact h1
      · omega

/-- So many turns. -/
def turns (F : (Nat → Bool) → Nat → Bool) (k : Nat) : Nat → List Bool
  | 0 => List.replicate k true
  | n + 1 => turnTo F (turns F k n) k

theorem turns_onway {F : (Nat → Bool) → Nat → Bool} (hF : Mono F) (k : Nat) : ∀ n, Onway F k (turns F k n)
  | 0 => Onway.start F k
  | n + 1 => turnTo_onway hF (turns_onway hF k n) k (Nat.le_refl _)

theorem turns_yeses {F : (Nat → Bool) → Nat → Bool} (hF : Mono F) (k : Nat) : ∀ n, (∀ m, m < k → bat (turns F k n) m = F (bat (turns F k n)) m) ∨ yeses (turns F k n) + n ≤ k
  | 0 => Or.inr (by have := yeses_le (List.replicate k true); simpa [turns] using this)
  | n + 1 => by
    simp only [turns]
    rcases turnTo_yeses hF (turns_onway hF k n) k (Nat.le_refl _) with ⟨h1, h2⟩ | h1
    · left; rw [h1]; exact h2
    · rcases turns_yeses hF k n with h2 | h2
      · left
        have hs : ∀ j, j ≤ k → turnTo F (turns F k n) j = turns F k n := by
          intro j
          induction j with
          | zero => intro _; rfl
          | succ j ih =>
            intro hj
            simp only [turnTo]
            rw [ih (by omega)]
            exact set_same (by rw [(turns_onway hF k n).len]; omega) (h2 j (by omega))
        rw [hs k (Nat.le_refl _)]; exact h2
      · right; omega

/-- After one turn more than there are nodes it is the greatest answer. -/
theorem turns_isG {F : (Nat → Bool) → Nat → Bool} (hF : Mono F) (k : Nat) : IsG F k (turns F k (k + 1)) := by
  refine (turns_onway hF k (k + 1)).done fun n hn h => ?_
  rcases turns_yeses hF k (k + 1) with h1 | h1
  · rw [← h1 n hn]; exact h
  · omega

/-- .. the greatest answer, reckoned so. -/
def gr (F : (Nat → Bool) → Nat → Bool) (k : Nat) : List Bool := turns F k (k + 1)

theorem gr_isG {F : (Nat → Bool) → Nat → Bool} (hF : Mono F) (k : Nat) : IsG F k (gr F k) := turns_isG hF k
theorem IsG.eq_gr {F : (Nat → Bool) → Nat → Bool} {k : Nat} {x : List Bool} (hF : Mono F) (h : IsG F k x) : x = gr F k := h.uniq (gr_isG hF k)

end Go.Proofs.YtoikglgnmjjpcaaDoor
