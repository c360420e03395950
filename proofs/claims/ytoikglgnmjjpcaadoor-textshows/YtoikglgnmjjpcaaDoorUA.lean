/-
  The document's reading of a text: plain functions.
-/
import Derived.Test.YtoikglgnmjjpcaaDoorTC
namespace Go.Proofs.YtoikglgnmjjpcaaDoor
open Go.RowKit Go.IntWalk
set_option linter.unusedVariables false

def dg (b : UInt8) : Bool := decide (48 ≤ b.toNat) && decide (b.toNat ≤ 57)
def stepS (n : Int) (b : UInt8) : Int := if b = 45 then n else wrap64 (wrap64 (10 * n) - ((b.toNat : Int) - 48))
def foldS (l : List UInt8) : Int := l.foldl stepS 0
def okS (l : List UInt8) : Bool := l.zipIdx.all fun p => (p.2 == 0 && p.1 == 45) || dg p.1
def minus (l : List UInt8) : Bool := l.head? == some 45
/-- The number that Said answers. -/
def svB (l : List UInt8) : Int := if 20 < l.length then 0 else if okS l then (if minus l then foldS l else wrap64 (-foldS l)) else 0

theorem okS_iff {l : List UInt8} : okS l = true ↔ ∀ (i : Nat) (b : UInt8), l[i]? = some b → (i = 0 ∧ b = 45) ∨ dg b = true := by
  unfold okS
  rw [List.all_eq_true]
  constructor
  · intro h i b hb
    have := h (b, i) (List.mem_zipIdx_iff_getElem?.2 hb)
    simpa using this
  · rintro h ⟨b, i⟩ hm
    have := h i b (List.mem_zipIdx_iff_getElem?.1 hm)
    simpa using this

theorem wrap64_fit (x : Int) : -9223372036854775808 ≤ wrap64 x ∧ wrap64 x ≤ 9223372036854775807 := by unfold wrap64; omega

theorem stepS_fit {n : Int} {b : UInt8} (h : -9223372036854775808 ≤ n ∧ n ≤ 9223372036854775807) : -9223372036854775808 ≤ stepS n b ∧ stepS n b ≤ 9223372036854775807 := by
  unfold stepS
  split
  · exact h
  · exact wrap64_fit _

theorem fold_fit : ∀ (l : List UInt8) (n : Int), (-9223372036854775808 ≤ n ∧ n ≤ 9223372036854775807) → -9223372036854775808 ≤ l.foldl stepS n ∧ l.foldl stepS n ≤ 9223372036854775807
  | [], n, h => h
  | b :: l, n, h => fold_fit l _ (stepS_fit h)

theorem svB_fit (l : List UInt8) : -9223372036854775808 ≤ svB l ∧ svB l ≤ 9223372036854775807 := by
  unfold svB
  split
  · omega
  · split
    · split
      · exact fold_fit l 0 (by omega)
      · exact wrap64_fit _
    · omega

theorem foldS_succ {l : List UInt8} {i : Nat} {b : UInt8} (h : l[i]? = some b) : foldS (l.take (i + 1)) = stepS (foldS (l.take i)) b := by
  unfold foldS
  rw [List.take_add_one, h, List.foldl_append]
  rfl

theorem okS_succ {l : List UInt8} {i : Nat} {b : UInt8} (h : l[i]? = some b) (hok : okS (l.take i) = true) (hb : (i = 0 ∧ b = 45) ∨ dg b = true) : okS (l.take (i + 1)) = true := by
  rw [okS_iff] at hok ⊢
  intro j c hc
  rw [List.getElem?_take] at hc
  split at hc
  · rename_i hj
    by_cases e : j = i
    · subst e
      rw [h] at hc
      cases hc
      exact hb
    · exact hok j c (by rw [List.getElem?_take, if_pos (by omega)]; exact hc)
  · cases hc

theorem okS_no {l : List UInt8} {i : Nat} {b : UInt8} (h : l[i]? = some b) (hb : ¬ ((i = 0 ∧ b = 45) ∨ dg b = true)) : okS l = false := by
  cases e : okS l
  · rfl
  · exact absurd (okS_iff.1 e i b h) hb

theorem foldS_dec : ∀ (u : Nat), u ≤ 9223372036854775808 → foldS (Lib.decDigits u) = -(u : Int) := by
  intro u
  induction u using Nat.strongRecOn with
  | _ u ih =>
    intro hu
    rw [Lib.decDigits]
    split
    · rename_i h
      have hb : (UInt8.ofNat (48 + u)).toNat = 48 + u := by rw [UInt8.toNat_ofNat']; omega
      have hne : ¬ UInt8.ofNat (48 + u) = 45 := by
        intro e
        have := congrArg UInt8.toNat e
        rw [hb] at this
        simp at this
        omega
      show stepS 0 (UInt8.ofNat (48 + u)) = _
      unfold stepS
      rw [if_neg hne, hb]
      unfold wrap64
      omega
    · rename_i h
      have hb : (UInt8.ofNat (48 + u % 10)).toNat = 48 + u % 10 := by rw [UInt8.toNat_ofNat']; omega
      have hne : ¬ UInt8.ofNat (48 + u % 10) = 45 := by
        intro e
        have := congrArg UInt8.toNat e
        rw [hb] at this
        simp at this
        omega
      have h1 := ih (u / 10) (by omega) (by omega)
      unfold foldS at h1 ⊢
      rw [List.foldl_append, h1]
      show stepS _ (UInt8.ofNat (48 + u % 10)) = _
      unfold stepS
      rw [if_neg hne, hb]
      unfold wrap64
      omega

theorem dec_dg {u : Nat} {b : UInt8} (h : b ∈ Lib.decDigits u) : dg b = true ∧ b ≠ 45 := by
  have := dec_mem u h
  refine ⟨by simp [dg, this], ?_⟩
  rintro rfl
  simp at this

/-- A number that is shown is said as it was. -/
theorem svB_itoa {n : Int} (h : -9223372036854775808 ≤ n ∧ n ≤ 9223372036854775807) : svB (Lib.itoa n) = n := by
  have hl := itoa_len20 h
  have hok : okS (Lib.itoa n) = true := by
    rw [okS_iff]
    intro i b hb
    unfold Lib.itoa at hb
    split at hb
    · cases i with
      | zero => simp at hb; exact Or.inl ⟨rfl, hb.symm⟩
      | succ i => exact Or.inr (dec_dg (List.mem_of_getElem? (by simpa using hb))).1
    · exact Or.inr (dec_dg (List.mem_of_getElem? hb)).1
  unfold svB
  rw [if_neg (by omega), if_pos hok]
  unfold Lib.itoa
  by_cases hn : n < 0
  · rw [if_pos hn]
    rw [if_pos (by simp [minus])]
    have : foldS (45 :: Lib.decDigits n.natAbs) = foldS (Lib.decDigits n.natAbs) := rfl
    rw [this, foldS_dec _ (by omega)]
    omega
  · rw [if_neg hn, if_neg, foldS_dec n.toNat (by omega)]
    · unfold wrap64; omega
    · unfold minus
      cases hd : Lib.decDigits n.toNat with
      | nil => simp
      | cons c r =>
        have := (dec_dg (u := n.toNat) (b := c) (by rw [hd]; simp)).2
        simpa using this

/-- The operation that a line's first word names. -/
def opI (ws : List (List UInt8)) : Int := match opOf (ws.headD []) with
  | some o => (o : Int)
  | none => -1
def tk (ws : List (List UInt8)) (k : Nat) : Int := match ws[k]? with
  | some x => svB x
  | none => 0
def ifk (h : Bool) (ws : List (List UInt8)) (k : Nat) : Int := if h then tk ws k else 0
/-- The node that a line may show; the flags say which fields there are. -/
def gF (op : Int) (D A B T O : Bool) (ws : List (List UInt8)) : Nd :=
  ⟨op, ifk D ws 1, ifk A ws (1 + D.toNat), ifk B ws (1 + D.toNat + A.toNat), ifk T ws (1 + D.toNat + A.toNat + B.toNat + 1), ifk O ws (1 + D.toNat + A.toNat + B.toNat + 1 + T.toNat + 1)⟩
def gN (ws : List (List UInt8)) : Nd := gF (opI ws) (wi (opI ws) 1 9) ((wi (opI ws) 2 8 || wi (opI ws) 10 12) || opI ws == 1) (wi (opI ws) 3 8) (opI ws != 12) (opI ws == 11) ws

theorem tk_fit (ws : List (List UInt8)) (k : Nat) : -9223372036854775808 ≤ tk ws k ∧ tk ws k ≤ 9223372036854775807 := by
  unfold tk
  split
  · exact svB_fit _
  · omega

theorem gN_fit (ws : List (List UInt8)) : -9223372036854775808 ≤ (gN ws).a ∧ (gN ws).a ≤ 9223372036854775807 := by
  show _ ≤ ifk _ _ _ ∧ ifk _ _ _ ≤ _
  unfold ifk
  split
  · exact tk_fit _ _
  · omega

theorem opI_words {x : Nd} (h : 0 ≤ x.op ∧ x.op ≤ 12) : opI (wordsB x) = x.op := by
  unfold opI wordsB
  simp only [List.headD_cons]
  rw [opOf_nm h]
  simp only
  omega

theorem gN_words {x : Nd} (h : TxOk x) : gN (wordsB x) = x := by
  have ho := h.op
  have hfit := h.fits
  have hz := And.intro h.d (And.intro h.a (And.intro h.b (And.intro h.t h.e)))
  have e1 := opI_words ho
  unfold gN
  rw [e1]
  clear e1 h
  obtain ⟨op, d, a, b, t, e⟩ := x
  obtain ⟨k, hk⟩ := Int.eq_ofNat_of_zero_le ho.1
  simp only at hk ho
  have hlt : k < 13 := by omega
  have sd := svB_itoa hfit.d
  have sa := svB_itoa hfit.a
  have sb := svB_itoa hfit.b
  have st := svB_itoa hfit.t
  have se := svB_itoa hfit.e
  simp only at sd sa sb st se
  obtain ⟨z1, z2, z3, z4, z5⟩ := hz
  subst hk
  clear ho hfit
  match k, hlt with
  | 0, _ | 1, _ | 2, _ | 3, _ | 4, _ | 5, _ | 6, _ | 7, _ | 8, _ | 9, _ | 10, _ | 11, _ | 12, _ =>
    simp [hasD, hasA, hasB, hasT, hasE, wi] at z1 z2 z3 z4 z5
    simp_all [gF, ifk, tk, wordsB, hasD, hasA, hasB, hasT, hasE, wi]

theorem words_len (x : Nd) : (wordsB x).length ≤ 9 := by
  unfold wordsB
  simp only [List.length_cons, List.length_append]
  cases hasD x.op <;> cases hasA x.op <;> cases hasB x.op <;> cases hasT x.op <;> cases hasE x.op <;> simp

/-- The program that a text may show. -/
def pfL (l : List UInt8) : List (List UInt8) := (cutC 10 l).take 259
def pfW (l : List UInt8) : List (List UInt8) := (cutC 32 ((pfL l).headD [])).take 3
def pfR (l : List UInt8) : Int := if (pfW l).length = 2 then svB ((pfW l).getD 1 []) else 0
def gL (x : List UInt8) : Nd := gN ((cutC 32 x).take 9)
def pfN (l : List UInt8) : List Nd := ((pfL l).dropLast.drop 1).map gL
def pfB (l : List UInt8) : Option (Int × List Nd) := if chk (pfR l) (pfN l) = 0 ∧ showB (pfR l) (pfN l) = l then some (pfR l, pfN l) else none

theorem join_end (c : UInt8) : ∀ (ws : List (List UInt8)), ws ≠ [] → Lib.join (ws ++ [[]]) [c] = Lib.join ws [c] ++ [c]
  | [], h => absurd rfl h
  | [x], _ => by rw [List.cons_append, List.nil_append, join_cons, Lib.join_one, Lib.join_one]
  | x :: y :: r, _ => by
    have := join_end c (y :: r) (by simp)
    rw [List.cons_append] at this
    rw [List.cons_append, List.cons_append, join_cons, this, join_cons]
    simp

theorem cut_full (r : Int) (ns : List Nd) : cutC 10 (showB r ns) = (regsL r :: ns.map lineW) ++ [[]] := by
  unfold showB
  rw [show_join, ← join_end 10 _ (by simp)]
  refine cut_join 10 _ (by simp) fun x hx => ?_
  rcases List.mem_append.1 hx with hx | hx
  · rcases List.mem_cons.1 hx with rfl | hx
    · exact regs_no r
    · obtain ⟨y, _, rfl⟩ := List.mem_map.1 hx
      exact line_no y
  · simp at hx; subst hx; simp

theorem pf_show {r : Int} {ns : List Nd} (hc : chk r ns = 0) (ha : ∀ x ∈ ns, -9223372036854775808 ≤ x.a ∧ x.a ≤ 9223372036854775807) : pfR (showB r ns) = r ∧ pfN (showB r ns) = ns := by
  obtain ⟨hl, hr, _⟩ := chk_full hc
  have e1 : pfL (showB r ns) = (regsL r :: ns.map lineW) ++ [[]] := by
    unfold pfL
    rw [cut_full, List.take_of_length_le]
    simp only [List.length_append, List.length_cons, List.length_map, List.length_nil]
    omega
  constructor
  · unfold pfR pfW
    rw [e1]
    have : cutC 32 (regsL r) = [[114, 101, 103, 115], Lib.itoa r] := by
      unfold regsL regsW
      rw [show ([114, 101, 103, 115, 32] : List UInt8) ++ Lib.itoa r = [114, 101, 103, 115] ++ 32 :: Lib.itoa r from rfl, cut_word 32 _ _ (by decide), cut_last 32 _ (itoa_no (by decide) r)]
    simp only [List.cons_append, List.headD_cons, this]
    simp only [List.take, List.length_cons, List.length_nil, if_true, List.getD_cons_succ, List.getD_cons_zero]
    exact svB_itoa (by omega)
  · unfold pfN
    rw [e1, List.dropLast_concat, List.drop_succ_cons, List.drop_zero, List.map_map]
    have : ∀ x ∈ ns, (gL ∘ lineW) x = id x := by
      intro x hx
      show gN ((cutC 32 (lineW x)).take 9) = x
      rw [cut_line, List.take_of_length_le (words_len x)]
      exact gN_words (tx_of hc hx (ha x hx))
    rw [List.map_congr_left this, List.map_id]

theorem itoa_low {n : Int} (h : n < 0) (h' : -10 < n) : 45 :: Lib.itoa (-n) = Lib.itoa n := by
  unfold Lib.itoa
  rw [if_pos h, if_neg (by omega)]
  have : (-n).toNat = n.natAbs := by omega
  rw [this]
theorem dec_big {u : Nat} (h : 10 ≤ u) : Lib.decDigits u = Lib.decDigits (u / 10) ++ Lib.decDigits (u % 10) := by
  rw [Lib.decDigits, dif_neg (by omega)]
  congr 1
  rw [Lib.decDigits, dif_pos (by omega)]
theorem itoa_neg {n q r : Int} (h : n ≤ -10) (hq : q = -((n.natAbs / 10 : Nat) : Int)) (hr : r = ((n.natAbs % 10 : Nat) : Int)) : Lib.itoa q ++ Lib.itoa r = Lib.itoa n := by
  unfold Lib.itoa
  rw [if_pos (by omega), if_neg (by omega), if_pos (by omega), dec_big (u := n.natAbs) (by omega)]
  have e1 : q.natAbs = n.natAbs / 10 := by omega
  have e2 : r.toNat = n.natAbs % 10 := by omega
  rw [e1, e2]; rfl
theorem itoa_pos {n q r : Int} (h : 10 ≤ n) (hq : q = ((n.natAbs / 10 : Nat) : Int)) (hr : r = ((n.natAbs % 10 : Nat) : Int)) : Lib.itoa q ++ Lib.itoa r = Lib.itoa n := by
  unfold Lib.itoa
  rw [if_neg (by omega), if_neg (by omega), if_neg (by omega), dec_big (u := n.toNat) (by omega)]
  have e0 : n.toNat = n.natAbs := by omega
  have e1 : q.toNat = n.natAbs / 10 := by omega
  have e2 : r.toNat = n.natAbs % 10 := by omega
  rw [e0, e1, e2]
theorem itoa_one {n : Int} (h : 0 ≤ n) (h' : n < 10) : Lib.itoa n = [UInt8.ofNat (48 + n.toNat)] := by
  unfold Lib.itoa
  rw [if_neg (by omega), Lib.decDigits, dif_pos (by omega)]

/-- Cutting as the document does: the parts so far, and where the next one begins. -/
def stC (c : UInt8) (l : List UInt8) : Nat → List (List UInt8) × Nat
  | 0 => ([], 0)
  | i + 1 => if i = l.length ∨ l[i]? = some c then ((stC c l i).1 ++ [l.extract (stC c l i).2 i], i + 1) else stC c l i

theorem stC_hit {c : UInt8} {l : List UInt8} {i : Nat} (h : i = l.length ∨ l[i]? = some c) : stC c l (i + 1) = ((stC c l i).1 ++ [l.extract (stC c l i).2 i], i + 1) := by rw [stC, if_pos h]
theorem stC_miss {c : UInt8} {l : List UInt8} {i : Nat} (h : ¬ (i = l.length ∨ l[i]? = some c)) : stC c l (i + 1) = stC c l i := by rw [stC, if_neg h]

theorem stC_le (c : UInt8) (l : List UInt8) : ∀ i, (stC c l i).2 ≤ i
  | 0 => Nat.le_refl _
  | i + 1 => by
    unfold stC
    split
    · exact Nat.le_refl _
    · have := stC_le c l i; omega

theorem stC_len (c : UInt8) (l : List UInt8) : ∀ i, (stC c l i).1.length ≤ i
  | 0 => Nat.le_refl _
  | i + 1 => by
    have := stC_len c l i
    unfold stC
    split
    · simp; omega
    · omega

theorem extract_succ {l : List UInt8} {f i : Nat} {b : UInt8} (hf : f ≤ i) (h : l[i]? = some b) : l.extract f (i + 1) = l.extract f i ++ [b] := by
  rw [List.extract_eq_take_drop, List.extract_eq_take_drop, show i + 1 - f = (i - f) + 1 by omega, List.take_add_one, List.getElem?_drop, show f + (i - f) = i by omega, h]
  rfl

theorem stC_cut (c : UInt8) (l : List UInt8) : ∀ i, i ≤ l.length → ∃ x r, cutC c (l.drop i) = x :: r ∧ cutC c l = (stC c l i).1 ++ (l.extract (stC c l i).2 i ++ x) :: r
  | 0, _ => by
    cases h : cutC c l with
    | nil => exact absurd h (cutC_ne c l)
    | cons x r => exact ⟨x, r, by simpa using h, by simp [stC]⟩
  | i + 1, hi => by
    obtain ⟨x, r, h1, h2⟩ := stC_cut c l i (by omega)
    have hlt : i < l.length := by omega
    have hb : l[i]? = some l[i] := List.getElem?_eq_getElem hlt
    generalize hbv : l[i] = b at hb
    have hd : l.drop i = b :: l.drop (i + 1) := by rw [List.drop_eq_getElem_cons hlt, hbv]
    rw [hd] at h1
    unfold cutC at h1
    have hfl := stC_le c l i
    by_cases e : b = c
    · rw [if_pos e] at h1
      injection h1 with hx hr
      subst hx
      cases h3 : cutC c (l.drop (i + 1)) with
      | nil => exact absurd h3 (cutC_ne _ _)
      | cons y r' =>
        refine ⟨y, r', rfl, ?_⟩
        rw [h2, ← hr, h3]
        rw [stC_hit (Or.inr (by rw [hb, e]))]
        simp
    · rw [if_neg e] at h1
      cases h3 : cutC c (l.drop (i + 1)) with
      | nil => exact absurd h3 (cutC_ne _ _)
      | cons y r' =>
        rw [h3] at h1
        simp only at h1
        injection h1 with hx hr
        refine ⟨y, r', rfl, ?_⟩
        rw [h2, ← hr, ← hx]
        rw [stC_miss (by rintro (q | q); · omega
                         · rw [hb] at q; exact e (Option.some.inj q)), extract_succ hfl hb]
        simp

theorem stC_all (c : UInt8) (l : List UInt8) : (stC c l (l.length + 1)).1 = cutC c l := by
  obtain ⟨x, r, h1, h2⟩ := stC_cut c l l.length (Nat.le_refl _)
  rw [List.drop_length] at h1
  simp only [cutC] at h1
  injection h1 with hx hr
  rw [h2, ← hx, ← hr]
  rw [stC_hit (Or.inl rfl)]
  simp

theorem stC_pre (c : UInt8) (l : List UInt8) (i : Nat) : ∀ k, (stC c l i).1 <+: (stC c l (i + k)).1
  | 0 => List.prefix_refl _
  | k + 1 => by
    refine (stC_pre c l i k).trans ?_
    show _ <+: (stC c l (i + k + 1)).1
    by_cases h : i + k = l.length ∨ l[i + k]? = some c
    · rw [stC_hit h]; exact List.prefix_append _ _
    · rw [stC_miss h]; exact List.prefix_refl _

theorem stC_take {c : UInt8} {l : List UInt8} {i m : Nat} (hi : i ≤ l.length + 1) (h : (stC c l i).1.length = m) : (stC c l i).1 = (cutC c l).take m := by
  have hp := stC_pre c l i (l.length + 1 - i)
  rw [show i + (l.length + 1 - i) = l.length + 1 by omega, stC_all] at hp
  rw [← h]
  exact List.prefix_iff_eq_take.1 hp

theorem stC_end {c : UInt8} {l : List UInt8} {m : Nat} (h : (stC c l (l.length + 1)).1.length ≤ m) : (stC c l (l.length + 1)).1 = (cutC c l).take m := by
  rw [stC_all] at h ⊢
  rw [List.take_of_length_le h]

theorem cut_take_ne {c : UInt8} {l : List UInt8} {m : Nat} (hm : 0 < m) : (cutC c l).take m ≠ [] := by
  cases h : cutC c l with
  | nil => exact absurd h (cutC_ne c l)
  | cons x r =>
    cases m with
    | zero => omega
    | succ m => simp

theorem td_neg {n : Int} (h : n < 0) : Int.tdiv n 10 = -((n.natAbs / 10 : Nat) : Int) ∧ Int.tmod n 10 = -((n.natAbs % 10 : Nat) : Int) := by
  obtain ⟨m, rfl⟩ : ∃ m : Nat, n = -(m : Int) := ⟨n.natAbs, by omega⟩
  rw [Int.neg_tdiv, Int.neg_tmod, Int.natAbs_neg, Int.natAbs_natCast]
  exact ⟨rfl, rfl⟩
theorem td_pos {n : Int} (h : 0 ≤ n) : Int.tdiv n 10 = ((n.natAbs / 10 : Nat) : Int) ∧ Int.tmod n 10 = ((n.natAbs % 10 : Nat) : Int) := by
  obtain ⟨m, rfl⟩ : ∃ m : Nat, n = (m : Int) := ⟨n.natAbs, by omega⟩
  rw [Int.natAbs_natCast]
  exact ⟨rfl, rfl⟩

end Go.Proofs.YtoikglgnmjjpcaaDoor
