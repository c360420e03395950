/-
  Plain facts on where a node goes on.
-/
import Derived.Test.YtoikglgnmjjpcaaDoorP
namespace Go.Proofs.YtoikglgnmjjpcaaDoor

theorem pick_none {p : Nat → Bool} : ∀ {k : Nat}, (∀ m, m < k → p m = false) → pick p k = []
  | 0, _ => rfl
  | k + 1, h => by rw [pick_no (h k (by omega))]; exact pick_none fun m hm => h m (by omega)

theorem pick_one {p : Nat → Bool} {a : Nat} (ha : p a = true) : ∀ {k : Nat}, a < k → (∀ m, m < k → m ≠ a → p m = false) → pick p k = [(a : Int)]
  | 0, h, _ => by omega
  | k + 1, h, ho => by
    by_cases e : a = k
    · subst e
      rw [pick_yes ha, pick_none fun m hm => ho m (by omega) (by omega)]; rfl
    · rw [pick_no (ho k (by omega) (by omega))]
      exact pick_one ha (by omega) fun m hm hn => ho m (by omega) hn

theorem pick_two {p : Nat → Bool} {a b : Nat} (ha : p a = true) (hb : p b = true) (hab : a < b) : ∀ {k : Nat}, b < k → (∀ m, m < k → m ≠ a → m ≠ b → p m = false) → pick p k = [(a : Int), (b : Int)]
  | 0, h, _ => by omega
  | k + 1, h, ho => by
    by_cases e : b = k
    · subst e
      rw [pick_yes hb, pick_one ha hab fun m hm hn => ho m (by omega) hn (by omega)]; rfl
    · rw [pick_no (ho k (by omega) (by omega) (by omega))]
      exact pick_two ha hb hab (by omega) fun m hm hn hn' => ho m (by omega) hn hn'

/-- What is gathered ahead of the sort: Then and Else, as far as there are such fields. -/
def E3 (x : Nd) : List Int := if k3 x.op = 3 then [x.t] else []
def E4 (x : Nd) : List Int := if k4 x.op = 3 then [x.e] else []
def exs (x : Nd) : Nat → List Int
  | 4 => E3 x
  | 5 => E3 x ++ E4 x
  | _ => []

/-- Where a node goes on: what prog.exits answers. -/
def exl (x : Nd) : List Int :=
  if x.op = 11 then if x.t = x.e then [x.t] else if x.t < x.e then [x.t, x.e] else [x.e, x.t]
  else if wi x.op 0 11 then [x.t] else []

theorem exl_pick (x : Nd) (len : Nat) (hk : kn x.op = true) (ht : x.op ≠ 12 → 1 ≤ x.t ∧ x.t ≤ (len : Int) - 1) (he : x.op = 11 → 1 ≤ x.e ∧ x.e ≤ (len : Int) - 1) : exl x = pick (ldB x) len := by
  obtain ⟨op, d, a, b, t, e⟩ := x
  simp only at *
  have hk' := wi_iff.1 hk
  by_cases h11 : op = 11
  · subst h11
    obtain ⟨t1, t2⟩ := ht (by omega)
    obtain ⟨e1, e2⟩ := he rfl
    obtain ⟨T, rfl⟩ := Int.eq_ofNat_of_zero_le (show 0 ≤ t by omega)
    obtain ⟨E, rfl⟩ := Int.eq_ofNat_of_zero_le (show 0 ≤ e by omega)
    have hld : ∀ m, ldB ⟨11, d, a, b, T, E⟩ m = (decide (T = m) || decide (E = m)) := by
      intro m; rw [Bool.eq_iff_iff]; simp [ldB]; omega
    by_cases hte : T = E
    · subst hte
      rw [pick_one (a := T) (by rw [hld]; simp) (by omega) (fun m _ hn => by rw [hld]; simp; omega)]
      simp [exl]
    · by_cases hlt : T < E
      · rw [pick_two (a := T) (b := E) (by rw [hld]; simp) (by rw [hld]; simp) hlt (by omega) (fun m _ hn hn' => by rw [hld]; simp; omega)]
        simp only [exl, if_true]; rw [if_neg (by omega), if_pos (by omega)]
      · rw [pick_two (a := E) (b := T) (by rw [hld]; simp) (by rw [hld]; simp) (by omega) (by omega) (fun m _ hn hn' => by rw [hld]; simp; omega)]
        simp only [exl, if_true]; rw [if_neg (by omega), if_neg (by omega)]
  · by_cases h12 : op = 12
    · subst h12
      rw [pick_none (fun m _ => by simp [ldB])]
      simp [exl, wi]
    · obtain ⟨t1, t2⟩ := ht h12
      obtain ⟨T, rfl⟩ := Int.eq_ofNat_of_zero_le (show 0 ≤ t by omega)
      have hld : ∀ m, ldB ⟨op, d, a, b, T, e⟩ m = decide (T = m) := by
        intro m; rw [Bool.eq_iff_iff]; simp [ldB]; omega
      rw [pick_one (a := T) (by rw [hld]; simp) (by omega) (fun m _ hn => by rw [hld]; simp; omega)]
      simp only [exl]; rw [if_neg h11, if_pos (wi_true (by omega) (by omega))]

theorem k0_ne (op : Int) : (k0 op == 3) = false := by unfold k0; split <;> rfl
theorem k1_ne (op : Int) : (k1 op == 3) = false := by unfold k1; split; rfl; split <;> rfl
theorem k2_ne (op : Int) : (k2 op == 3) = false := by unfold k2; split <;> rfl

theorem exs_len (x : Nd) (m : Nat) : (exs x m).length ≤ 2 := by
  unfold exs E3 E4
  split
  · split <;> simp
  · split <;> split <;> simp
  · simp

end Go.Proofs.YtoikglgnmjjpcaaDoor
