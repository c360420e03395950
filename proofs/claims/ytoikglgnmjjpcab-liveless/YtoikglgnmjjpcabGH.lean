/-
  The greatest answer by a stack of nodes that are to be asked again: plain facts.
-/
import Derived.Test.YtoikglgnmjjpcabGC
namespace Go.Proofs.Ytoikglgnmjjpcab

/-- A stack of nodes on the way to the greatest answer: who says yes and must not lies on it. -/
structure Stk (F : (Nat → Bool) → Nat → Bool) (k : Nat) (x : List Bool) (wk : List Nat) : Prop where
  on : Onway F k x
  lt : ∀ n ∈ wk, n < k
  bad : ∀ n, n < k → bat x n = true → F (bat x) n = false → n ∈ wk
  few : wk.length + yeses x * (k + 1) ≤ k + k * (k + 1)

/-- Who may be asked again once n says no. -/
structure Asks (F : (Nat → Bool) → Nat → Bool) (k : Nat) (ask : Nat → List Nat) : Prop where
  lt : ∀ n m, m ∈ ask n → m < k
  len : ∀ n, (ask n).length ≤ k
  dep : ∀ (x y : Nat → Bool) n m, (∀ j, j ≠ n → x j = y j) → F x m = true → F y m = false → m < k → m ∈ ask n

theorem yeses_yes (k : Nat) : yeses (List.replicate k true) = k := by simp [yeses]

theorem Stk.start (F : (Nat → Bool) → Nat → Bool) (k : Nat) : Stk F k (List.replicate k true) (List.range k) :=
  ⟨Onway.start F k, fun n hn => by simpa using hn, fun n hn _ _ => by simpa using hn, by rw [yeses_yes]; simp⟩

theorem Stk.pop {F : (Nat → Bool) → Nat → Bool} {k : Nat} {x : List Bool} {wk : List Nat} {n : Nat} (h : Stk F k x (wk ++ [n])) (hn : bat x n = false ∨ F (bat x) n = true) : Stk F k x wk := by
  refine ⟨h.on, fun m hm => h.lt m (by simp [hm]), fun m hm h1 h2 => ?_, by have := h.few; simp at this; omega⟩
  have := h.bad m hm h1 h2
  simp only [List.mem_append, List.mem_singleton] at this
  rcases this with q | rfl
  · exact q
  · rcases hn with q | q
    · rw [q] at h1; cases h1
    · rw [q] at h2; cases h2

theorem Stk.turn {F : (Nat → Bool) → Nat → Bool} {k : Nat} {x : List Bool} {wk : List Nat} {n : Nat} {ask : Nat → List Nat} (hF : Mono F) (hA : Asks F k ask) (h : Stk F k x (wk ++ [n])) (h1 : bat x n = true) (h2 : F (bat x) n = false) : Stk F k (x.set n false) (wk ++ ask n) := by
  have hn : n < k := h.lt n (by simp)
  have hl : n < x.length := by rw [h.on.len]; exact hn
  refine ⟨h.on.set hF hn h2, fun m hm => ?_, fun m hm h3 h4 => ?_, ?_⟩
  · rcases List.mem_append.1 hm with q | q
    · exact h.lt m (by simp [q])
    · exact hA.lt n m q
  · have hb : bat x m = true := by
      rw [bat_set hl] at h3; split at h3
      · cases h3
      · exact h3
    have hne : m ≠ n := by
      rintro rfl; rw [bat_set hl] at h3; simp at h3
    cases e : F (bat x) m
    · have := h.bad m hm hb e
      simp only [List.mem_append, List.mem_singleton] at this
      rcases this with q | q
      · exact List.mem_append.2 (Or.inl q)
      · exact absurd q hne
    · exact List.mem_append.2 (Or.inr (hA.dep (bat x) (bat (x.set n false)) n m (fun j hj => by rw [bat_set hl, if_neg hj]) e h4 hm))
  · have h5 := yeses_set hl h1
    have h6 := h.few
    have h7 := hA.len n
    simp only [List.length_append, List.length_singleton] at h6 ⊢
    have h8 : (yeses (x.set n false) + 1) * (k + 1) = yeses (x.set n false) * (k + 1) + (k + 1) := Nat.succ_mul _ _
    rw [← h5, h8] at h6
    omega

theorem Stk.less {F : (Nat → Bool) → Nat → Bool} {k : Nat} {x : List Bool} {wk : List Nat} {n : Nat} {ask : Nat → List Nat} (hA : Asks F k ask) (h : Stk F k x (wk ++ [n])) (h1 : bat x n = true) : (wk ++ ask n).length + yeses (x.set n false) * (k + 1) < (wk ++ [n]).length + yeses x * (k + 1) := by
  have hl : n < x.length := by rw [h.on.len]; exact h.lt n (by simp)
  have h5 := yeses_set hl h1
  have h7 := hA.len n
  simp only [List.length_append, List.length_singleton]
  have h8 : (yeses (x.set n false) + 1) * (k + 1) = yeses (x.set n false) * (k + 1) + (k + 1) := Nat.succ_mul _ _
  rw [← h5, h8]
  omega

theorem Stk.done {F : (Nat → Bool) → Nat → Bool} {k : Nat} {x : List Bool} (h : Stk F k x []) : IsG F k x :=
  h.on.done fun n hn h1 => by
    cases e : F (bat x) n
    · have := h.bad n hn h1 e; cases this
    · rfl

theorem nxl_len (ns : List Nd) (n : Nat) : (nxl ns n).length ≤ ns.length := by
  have := List.length_filter_le (fun m => ahB ns m n) (List.range ns.length)
  simpa [nxl] using this
theorem ahl_len (ns : List Nd) (n : Nat) : (ahl ns n).length ≤ ns.length := by
  have := List.length_filter_le (fun m => ahB ns n m) (List.range ns.length)
  simpa [ahl] using this

/-- Of a flow: those whose answers hang on node n's own. -/
def ask (ns : List Nd) (f : Flw) (n : Nat) : List Nat := if f.back then ahl ns n else nxl ns n

theorem all_else {l : List Nat} {p q : Nat → Bool} (hp : l.all p = true) (hq : l.all q = false) : ∃ m ∈ l, p m ≠ q m := by
  rw [List.all_eq_false] at hq
  obtain ⟨m, hm, h⟩ := hq
  rw [List.all_eq_true] at hp
  exact ⟨m, hm, fun e => h (by rw [← e]; exact hp m hm)⟩

theorem allOr_else {e : Bool} {l : List Nat} {p q : Nat → Bool} (hp : allOr e l p = true) (hq : allOr e l q = false) : ∃ m ∈ l, p m ≠ q m := by
  unfold allOr at hp hq
  split at hp
  · rename_i hl; rw [if_pos hl] at hq; rw [hp] at hq; cases hq
  · rename_i hl; rw [if_neg hl] at hq; exact all_else hp hq

theorem asks_of (ns : List Nd) (f : Flw) : Asks (sayF ns f) ns.length (ask ns f) := by
  refine ⟨fun n m hm => ?_, fun n => ?_, fun x y n m hxy h1 h2 hm => ?_⟩
  · unfold ask at hm
    split at hm
    · exact (mem_ahl.1 hm).1
    · exact (mem_nxl.1 hm).1
  · unfold ask
    split
    · exact ahl_len ns n
    · exact nxl_len ns n
  · simp only [sayF, Bool.or_eq_true, Bool.and_eq_true, Bool.or_eq_false_iff, Bool.and_eq_false_iff] at h1 h2
    obtain ⟨h3, h4⟩ := h2
    rcases h1 with h1 | ⟨h5, h6⟩
    · rw [h1] at h3; cases h3
    · rcases h4 with h4 | h4
      · rw [h5] at h4; cases h4
      · obtain ⟨j, hj, hne⟩ := allOr_else h6 h4
        have ej : j = n := Classical.byContradiction fun q => hne (by rw [hxy j q])
        subst ej
        unfold nbs at hj
        unfold ask
        split at hj
        · rename_i hb; rw [if_pos hb]
          exact mem_ahl.2 ⟨hm, (mem_nxl.1 hj).2⟩
        · rename_i hb; rw [if_neg hb]
          exact mem_nxl.2 ⟨hm, (mem_ahl.1 hj).2⟩

/-- A turn of the document's way: who says yes and must not says no. -/
theorem turn_no {F : (Nat → Bool) → Nat → Bool} {k : Nat} {x : List Bool} (h : Onway F k x) {n : Nat} (hn : n < k) (hc : ¬ (bat x n = true ∧ F (bat x) n = false)) : bat x n = F (bat x) n := by
  cases e : bat x n
  · rw [h.no n hn e]
  · cases e2 : F (bat x) n
    · exact absurd ⟨e, e2⟩ hc
    · rfl

end Go.Proofs.Ytoikglgnmjjpcab
