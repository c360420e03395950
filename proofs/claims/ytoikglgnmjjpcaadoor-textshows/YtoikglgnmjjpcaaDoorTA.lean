/-
  Programs as text: plain functions on bytes, and what is shown is read as it was.
-/
import Derived.Test.YtoikglgnmjjpcaaDoorGV
import Derived.Lib.SplitLaws
import Derived.Lib.Split
import Derived.Lib.Join
import Derived.Lib.AtoiAll
import Derived.Lib.ItoaNum
namespace Go.Proofs.YtoikglgnmjjpcaaDoor

/-- Cut at a byte. -/
def cutC (c : UInt8) : List UInt8 → List (List UInt8)
  | [] => [[]]
  | b :: l => if b = c then [] :: cutC c l else match cutC c l with
    | [] => [[b]]
    | x :: r => (b :: x) :: r

theorem cutC_ne (c : UInt8) : ∀ l, cutC c l ≠ []
  | [] => by simp [cutC]
  | b :: l => by
    unfold cutC
    split
    · simp
    · cases cutC c l <;> simp

theorem index_one (c : UInt8) : ∀ l : List UInt8, Lib.index l [c] = Lib.indexByte l c
  | [] => rfl
  | b :: l => by
    unfold Lib.index Lib.indexByte
    rw [index_one c l]
    by_cases h : b = c
    · subst h; simp [List.isPrefixOf]
    · have h' : ¬ c = b := fun e => h e.symm
      simp [List.isPrefixOf, h, h']

theorem byte_ge (c : UInt8) (l : List UInt8) : -1 ≤ Lib.indexByte l c := Lib.indexByte_ge l c

/-- The shelf's own words for it. -/
theorem splitK_cut (c : UInt8) : ∀ l : List UInt8, Lib.splitK [c] 0 (Lib.count l [c]) l = cutC c l
  | [] => by
    rw [Lib.count_one]
    rfl
  | b :: l => by
    have ih := splitK_cut c l
    unfold cutC
    by_cases h : b = c
    · subst h
      rw [Lib.count_cons_eq, if_pos rfl, ← ih, Nat.add_comm]
      have e : Lib.index (b :: l) [b] = 0 := by rw [index_one]; simp [Lib.indexByte]
      generalize Lib.count l [b] = k
      show (if Lib.index (b :: l) [b] == -1 then _ else _) = _
      rw [e]
      rfl
    · rw [Lib.count_cons_ne b c l h, if_neg h, ← ih]
      have hi : Lib.index (b :: l) [c] = if Lib.index l [c] == -1 then -1 else Lib.index l [c] + 1 := by
        rw [index_one, index_one]
        conv => lhs; unfold Lib.indexByte
        rw [if_neg (by simpa using h)]
      have hge := Lib.index_ge l [c]
      cases hk : Lib.count l [c] with
      | zero =>
        simp only [Lib.splitK]
      | succ k =>
        by_cases hm : Lib.index l [c] = -1
        · rw [Lib.count_miss hm] at hk; cases hk
        · unfold Lib.splitK
          rw [hi]
          have hf : (Lib.index l [c] == -1) = false := by simpa using hm
          have hf2 : (Lib.index l [c] + 1 == -1) = false := by
            simp only [beq_eq_false_iff_ne]; omega
          simp only [hf, hf2, Bool.false_eq_true, if_false]
          have e1 : (Lib.index l [c] + 1).toNat = (Lib.index l [c]).toNat + 1 := by omega
          rw [e1]
          simp

/-- Words without the byte, joined by it, are cut as they were. -/
theorem cut_word (c : UInt8) : ∀ (x rest : List UInt8), c ∉ x → cutC c (x ++ c :: rest) = x :: cutC c rest
  | [], rest, _ => by simp [cutC]
  | b :: x, rest, h => by
    have h1 : b ≠ c := fun e => h (by simp [e])
    have h2 : c ∉ x := fun e => h (by simp [e])
    rw [List.cons_append, cutC, if_neg h1, cut_word c x rest h2]
theorem cut_last (c : UInt8) : ∀ (x : List UInt8), c ∉ x → cutC c x = [x]
  | [], _ => rfl
  | b :: x, h => by
    have h1 : b ≠ c := fun e => h (by simp [e])
    have h2 : c ∉ x := fun e => h (by simp [e])
    rw [cutC, if_neg h1, cut_last c x h2]

theorem join_cons (c : UInt8) (x y : List UInt8) (r : List (List UInt8)) : Lib.join (x :: y :: r) [c] = x ++ c :: Lib.join (y :: r) [c] := by
  simp [Lib.join, List.intercalate]

theorem cut_join (c : UInt8) : ∀ (ws : List (List UInt8)), ws ≠ [] → (∀ x ∈ ws, c ∉ x) → cutC c (Lib.join ws [c]) = ws
  | [], h, _ => absurd rfl h
  | [x], _, h => by rw [Lib.join_one]; exact cut_last c x (h x (by simp))
  | x :: y :: r, _, h => by
    rw [join_cons, cut_word c x _ (h x (by simp)), cut_join c (y :: r) (by simp) fun z hz => h z (by simp [hz])]

/-- Digits. -/
theorem dec_mem : ∀ (u : Nat) {b : UInt8}, b ∈ Lib.decDigits u → 48 ≤ b.toNat ∧ b.toNat ≤ 57 := by
  intro u
  induction u using Nat.strongRecOn with
  | _ u ih =>
    intro b hb
    rw [Lib.decDigits] at hb
    split at hb
    · rename_i h
      simp at hb
      subst hb
      simp [UInt8.toNat_ofNat']
      omega
    · rename_i h
      rcases List.mem_append.1 hb with q | q
      · exact ih (u / 10) (by omega) q
      · simp at q
        subst q
        simp [UInt8.toNat_ofNat']
        omega
theorem dec_ne (u : Nat) : Lib.decDigits u ≠ [] := by
  rw [Lib.decDigits]
  split <;> simp

theorem parse_app : ∀ (l r : List UInt8) (acc u : Nat), Lib.parseUint10 acc l = .ok u → Lib.parseUint10 acc (l ++ r) = Lib.parseUint10 u r
  | [], r, acc, u, h => by
    simp only [Lib.parseUint10] at h
    injection h with h
    rw [h]; rfl
  | c :: l, r, acc, u, h => by
    simp only [Lib.parseUint10, List.cons_append] at h ⊢
    split at h
    · rename_i h1
      rw [if_pos h1]
      split at h
      · cases h
      · rename_i h2
        rw [if_neg h2]
        split at h
        · cases h
        · rename_i h3
          rw [if_neg h3]
          exact parse_app l r _ u h
    · cases h

theorem parse_dec : ∀ (u : Nat), u < 18446744073709551616 → Lib.parseUint10 0 (Lib.decDigits u) = .ok u := by
  intro u
  induction u using Nat.strongRecOn with
  | _ u ih =>
    intro hu
    rw [Lib.decDigits]
    split
    · rename_i h
      simp [Lib.parseUint10, UInt8.toNat_ofNat']
      have e : (48 + u) % 256 = 48 + u := by omega
      rw [e]
      rw [if_pos (by omega)]
      simp
      omega
    · rename_i h
      rw [parse_app _ _ _ _ (ih (u / 10) (by omega) (by omega))]
      simp only [Lib.parseUint10, UInt8.toNat_ofNat']
      have e : (48 + u % 10) % 256 = 48 + u % 10 := by omega
      simp only [show (2 : Nat) ^ 8 = 256 from rfl, e]
      rw [if_pos (by omega), if_neg (by omega), if_neg (by omega)]
      congr 1
      omega

/-- A number that is shown is read as it was. -/
theorem atoi_itoa (n : Int) (h0 : -9223372036854775808 ≤ n) (h1 : n ≤ 9223372036854775807) : Lib.atoiAll (Lib.itoa n) = .ok n := by
  unfold Lib.itoa
  by_cases hn : n < 0
  · rw [if_pos hn]
    unfold Lib.atoiAll Lib.parseMag
    simp only [UInt8.reduceToNat, or_true, if_true, if_neg (dec_ne _), parse_dec _ (show n.natAbs < 18446744073709551616 by omega)]
    simp
    rw [if_neg (by omega)]
    congr 1
    omega
  · rw [if_neg hn]
    cases hd : Lib.decDigits n.toNat with
    | nil => exact absurd hd (dec_ne _)
    | cons c r =>
      have hc := dec_mem n.toNat (b := c) (by rw [hd]; simp)
      unfold Lib.atoiAll Lib.parseMag
      simp only
      rw [if_neg (show ¬ (c.toNat = 43 ∨ c.toNat = 45) by omega), if_neg (by simp), ← hd, parse_dec _ (by omega)]
      simp only
      have h45 : ¬ c.toNat = 45 := by omega
      rw [if_neg (by omega), if_neg (by omega), if_neg h45]
      congr 1
      omega

theorem itoa_no {c : UInt8} (hc : c.toNat < 45) (n : Int) : c ∉ Lib.itoa n := by
  unfold Lib.itoa
  split
  · intro h
    rcases List.mem_cons.1 h with q | q
    · rw [q] at hc; simp at hc
    · have := dec_mem _ q; omega
  · intro h
    have := dec_mem _ h
    omega

end Go.Proofs.YtoikglgnmjjpcaaDoor
