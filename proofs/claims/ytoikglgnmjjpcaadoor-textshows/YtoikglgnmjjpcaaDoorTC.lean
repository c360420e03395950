/-
  What is shown is read as it was: plain facts.
-/
import Derived.Test.YtoikglgnmjjpcaaDoorTB
import Derived.Lib.Strings
namespace Go.Proofs.YtoikglgnmjjpcaaDoor

/-- A right node, as far as its text goes. -/
structure TxOk (x : Nd) : Prop where
  op : 0 ≤ x.op ∧ x.op ≤ 12
  fits : Fits x
  d : hasD x.op = false → x.d = 0
  a : hasA x.op = false → x.a = 0
  b : hasB x.op = false → x.b = 0
  t : hasT x.op = false → x.t = 0
  e : hasE x.op = false → x.e = 0
  sd : 0 ≤ x.d ∧ x.d < 1000
  sa : x.op ≠ 1 → 0 ≤ x.a ∧ x.a < 1000
  sb : 0 ≤ x.b ∧ x.b < 1000
  st : 0 ≤ x.t ∧ x.t < 1000
  se : 0 ≤ x.e ∧ x.e < 1000

theorem wi_no {n l h : Int} (q : wi n l h = false) : ¬ (l ≤ n ∧ n ≤ h) := fun z => by rw [wi_iff.2 z] at q; cases q

theorem tx_of {r : Int} {ns : List Nd} (hc : chk r ns = 0) {x : Nd} (hx : x ∈ ns) (ha : -9223372036854775808 ≤ x.a ∧ x.a ≤ 9223372036854775807) : TxOk x := by
  obtain ⟨hl, hr, hf⟩ := chk_full hc
  have hF := hf x hx
  have hop := hF.op
  have hb := full_bounds hF hl.1
  have hd : 0 ≤ x.d ∧ x.d < 1000 := by
    by_cases q : 1 ≤ x.op ∧ x.op ≤ 9
    · have := hF.d q.1 q.2; omega
    · have := hF.d0 q; omega
  have hB : 0 ≤ x.b ∧ x.b < 1000 := by
    by_cases q : 3 ≤ x.op ∧ x.op ≤ 8
    · have := hF.b q.1 q.2; omega
    · have := hF.b0 q; omega
  refine ⟨hop, ⟨by omega, ha, by omega, by omega, by omega⟩, fun q => hF.d0 (wi_no q), ?_, fun q => hF.b0 (wi_no q), ?_, ?_, hd, ?_, hB, by omega, by omega⟩
  · intro q
    unfold hasA at q
    rw [Bool.or_eq_false_iff] at q
    have h1 := wi_no q.1
    have h2 := wi_no q.2
    exact hF.a0 (by omega)
  · intro q
    have := wi_no q
    exact hF.t0 (by omega)
  · intro q
    unfold hasE at q
    exact hF.e0 (by simpa using q)
  · intro q
    by_cases h0 : x.op = 0 ∨ x.op = 9
    · have := hF.a0 h0; omega
    · have := hF.a (by omega) (by omega) (by omega); omega

theorem tx_rd {x : Nd} (h : TxOk x) : rdN (wordsB x) = some x := rdN_words h.op h.fits h.d h.a h.b h.t h.e

theorem nm_mem {op : Int} {b : UInt8} (h : b ∈ nmB op) : 97 ≤ b.toNat := by
  have key : ∀ x ∈ nmL, ∀ b ∈ x, 97 ≤ b.toNat := by decide
  unfold nmB at h
  by_cases hl : op.toNat < nmL.length
  · have : nmL.getD op.toNat [] ∈ nmL := by
      rw [List.getD_eq_getElem?_getD, List.getElem?_eq_getElem hl]
      exact List.getElem_mem hl
    exact key _ this b h
  · rw [List.getD_eq_getElem?_getD, List.getElem?_eq_none (by omega)] at h
    cases h

theorem no_low {c : UInt8} (hc : c.toNat < 45) (x : Nd) : ∀ y ∈ wordsB x, c ∉ y := by
  intro y hy
  unfold wordsB at hy
  have low : ∀ n : Int, c ∉ Lib.itoa n := fun n => itoa_no hc n
  have hto : c ∉ toW := by
    intro q
    have : ∀ b ∈ toW, 97 ≤ b.toNat := by decide
    have := this c q; omega
  have hel : c ∉ elW := by
    intro q
    have : ∀ b ∈ elW, 97 ≤ b.toNat := by decide
    have := this c q; omega
  have hnm : c ∉ nmB x.op := fun q => by have := nm_mem q; omega
  simp only [List.mem_cons, List.mem_append] at hy
  rcases hy with rfl | q | q | q | q | q
  · exact hnm
  · split at q <;> simp at q; subst q; exact low _
  · split at q <;> simp at q; subst q; exact low _
  · split at q <;> simp at q; subst q; exact low _
  · split at q <;> simp at q
    rcases q with rfl | rfl
    · exact hto
    · exact low _
  · split at q <;> simp at q
    rcases q with rfl | rfl
    · exact hel
    · exact low _

theorem words_ne (x : Nd) : wordsB x ≠ [] := by simp [wordsB]

theorem cut_line (x : Nd) : cutC 32 (lineW x) = wordsB x := cut_join 32 _ (words_ne x) (no_low (by decide) x)

theorem join_no {c s : UInt8} (hs : c ≠ s) : ∀ (ws : List (List UInt8)), (∀ x ∈ ws, c ∉ x) → c ∉ Lib.join ws [s]
  | [], _ => by simp [Lib.join_nil]
  | [x], h => by rw [Lib.join_one]; exact h x (by simp)
  | x :: y :: r, h => by
    rw [join_cons]
    intro q
    rcases List.mem_append.1 q with q | q
    · exact h x (by simp) q
    · rcases List.mem_cons.1 q with q | q
      · exact hs q
      · exact join_no hs (y :: r) (fun z hz => h z (by simp [hz])) q

theorem line_no (x : Nd) : (10 : UInt8) ∉ lineW x := join_no (by decide) _ (no_low (by decide) x)
theorem regs_no (r : Int) : (10 : UInt8) ∉ regsL r := by
  unfold regsL
  intro q
  rcases List.mem_append.1 q with q | q
  · revert q; decide
  · exact itoa_no (by decide) r q

theorem rdAll_lines : ∀ (ns : List Nd), (∀ x ∈ ns, TxOk x) → rdAll (ns.map lineW) = some ns
  | [], _ => rfl
  | x :: ns, h => by
    rw [List.map_cons, rdAll, cut_line, tx_rd (h x (by simp)), rdAll_lines ns fun y hy => h y (by simp [hy])]; rfl

/-- All lines, cut. -/
theorem show_join (l : List UInt8) : ∀ (ns : List Nd), l ++ 10 :: (ns.flatMap fun x => lineW x ++ [10]) = Lib.join (l :: ns.map lineW) [10] ++ [10]
  | [] => by simp [Lib.join_one]
  | x :: ns => by
    rw [List.map_cons, join_cons, List.append_assoc, List.cons_append, ← show_join (lineW x) ns]
    simp

theorem trim_show (r : Int) (ns : List Nd) : trimB (showB r ns) = Lib.join (regsL r :: ns.map lineW) [10] := by
  unfold trimB showB
  rw [show_join]
  unfold Lib.trimSuffix Lib.hasSuffix
  rw [if_pos (by simp)]
  simp

theorem cut_show (r : Int) (ns : List Nd) : cutC 10 (trimB (showB r ns)) = regsL r :: ns.map lineW := by
  rw [trim_show]
  refine cut_join 10 _ (by simp) fun x hx => ?_
  rcases List.mem_cons.1 hx with rfl | hx
  · exact regs_no r
  · obtain ⟨y, _, rfl⟩ := List.mem_map.1 hx
    exact line_no y

theorem dec_len3 {u : Nat} (h : u < 1000) : (Lib.decDigits u).length ≤ 3 := by
  rw [Lib.decDigits_length]
  by_cases h1 : u < 10
  · rw [Lib.nDigits_small h1]; omega
  · rw [Lib.nDigits_big h1]
    by_cases h2 : u / 10 < 10
    · rw [Lib.nDigits_small h2]; omega
    · rw [Lib.nDigits_big h2, Lib.nDigits_small (by omega)]
      omega
theorem itoa_len3 {n : Int} (h : 0 ≤ n ∧ n < 1000) : (Lib.itoa n).length ≤ 3 := by
  unfold Lib.itoa
  rw [if_neg (by omega)]
  exact dec_len3 (by omega)
theorem dec_len19 : ∀ (k u : Nat), u < 10 ^ (k + 1) → (Lib.decDigits u).length ≤ k + 1
  | 0, u, h => by rw [Lib.decDigits_length, Lib.nDigits_small (by simpa using h)]; omega
  | k + 1, u, h => by
    rw [Lib.decDigits_length]
    by_cases h1 : u < 10
    · rw [Lib.nDigits_small h1]; omega
    · rw [Lib.nDigits_big h1, ← Lib.decDigits_length]
      have := dec_len19 k (u / 10) (by rw [Nat.pow_succ] at h; omega)
      omega
theorem itoa_len20 {n : Int} (h : -9223372036854775808 ≤ n ∧ n ≤ 9223372036854775807) : (Lib.itoa n).length ≤ 20 := by
  unfold Lib.itoa
  split
  · have := dec_len19 18 n.natAbs (by omega)
    simp only [List.length_cons]; omega
  · have := dec_len19 18 n.toNat (by omega)
    omega

theorem nm_len (op : Int) : (nmB op).length ≤ 4 := by
  have key : ∀ x ∈ nmL, x.length ≤ 4 := by decide
  unfold nmB
  by_cases hl : op.toNat < nmL.length
  · have : nmL.getD op.toNat [] ∈ nmL := by
      rw [List.getD_eq_getElem?_getD, List.getElem?_eq_getElem hl]
      exact List.getElem_mem hl
    exact key _ this
  · rw [List.getD_eq_getElem?_getD, List.getElem?_eq_none (by omega)]
    simp

theorem join_len (c : UInt8) : ∀ (ws : List (List UInt8)), (Lib.join ws [c]).length ≤ (ws.map fun x => x.length + 1).sum
  | [] => by simp [Lib.join_nil]
  | [x] => by simp [Lib.join_one]
  | x :: y :: r => by
    have := join_len c (y :: r)
    rw [join_cons]
    simp only [List.length_append, List.length_cons, List.map_cons, List.sum_cons] at this ⊢
    omega

theorem line_len {x : Nd} (h : TxOk x) : (lineW x).length ≤ 63 := by
  have h0 := join_len 32 (wordsB x)
  have hn := nm_len x.op
  have hd := itoa_len3 h.sd
  have hb := itoa_len3 h.sb
  have ht := itoa_len3 h.st
  have he := itoa_len3 h.se
  have ha20 := itoa_len20 h.fits.a
  unfold lineW
  refine Nat.le_trans h0 ?_
  unfold wordsB
  simp only [List.map_cons, List.map_append, List.sum_cons, List.sum_append]
  have e1 : ((if hasD x.op = true then [Lib.itoa x.d] else []).map fun x => x.length + 1).sum ≤ 4 := by split <;> simp; omega
  have e3 : ((if hasB x.op = true then [Lib.itoa x.b] else []).map fun x => x.length + 1).sum ≤ (if x.op = 1 then 0 else 4) := by
    split
    · rename_i q
      have := wi_iff.1 q
      rw [if_neg (by omega)]
      simp; omega
    · simp
  have e2 : ((if hasA x.op = true then [Lib.itoa x.a] else []).map fun x => x.length + 1).sum ≤ (if x.op = 1 then 21 else 4) := by
    split
    · split
      · simp; omega
      · rename_i q
        have := itoa_len3 (h.sa q)
        simp; omega
    · simp
  have e4 : ((if hasT x.op = true then [toW, Lib.itoa x.t] else []).map fun x => x.length + 1).sum ≤ 7 := by split <;> simp [toW]; omega
  have e5 : ((if hasE x.op = true then [elW, Lib.itoa x.e] else []).map fun x => x.length + 1).sum ≤ 9 := by split <;> simp [elW]; omega
  have k2 : (if x.op = 1 then 21 else 4) ≤ 21 := by split <;> omega
  have k3 : (if x.op = 1 then 0 else 4) ≤ 4 := by split <;> omega
  generalize ((if hasD x.op = true then [Lib.itoa x.d] else []).map fun x => x.length + 1).sum = s1 at *
  generalize ((if hasA x.op = true then [Lib.itoa x.a] else []).map fun x => x.length + 1).sum = s2 at *
  generalize ((if hasB x.op = true then [Lib.itoa x.b] else []).map fun x => x.length + 1).sum = s3 at *
  generalize ((if hasT x.op = true then [toW, Lib.itoa x.t] else []).map fun x => x.length + 1).sum = s4 at *
  generalize ((if hasE x.op = true then [elW, Lib.itoa x.e] else []).map fun x => x.length + 1).sum = s5 at *
  generalize (if x.op = 1 then 21 else 4) = k21 at *
  generalize (if x.op = 1 then 0 else 4) = k04 at *
  omega

theorem show_len {r : Int} (hr : 0 ≤ r ∧ r < 1000) : ∀ (ns : List Nd), (∀ x ∈ ns, TxOk x) → (showB r ns).length ≤ 64 + 64 * ns.length := by
  intro ns h
  have key : ∀ (l : List Nd), (∀ x ∈ l, TxOk x) → (l.flatMap fun x => lineW x ++ [10]).length ≤ 64 * l.length := by
    intro l
    induction l with
    | nil => intro _; simp
    | cons x l ih =>
      intro hl
      have h1 := ih fun y hy => hl y (by simp [hy])
      have h2 := line_len (hl x (by simp))
      simp only [List.flatMap_cons, List.length_append, List.length_cons, List.length_nil]
      omega
  have h1 := key ns h
  have h2 := itoa_len3 hr
  unfold showB regsL
  simp only [List.length_append, List.length_cons, regsW, List.length_nil]
  omega

/-- What is shown is read as it was. -/
theorem rdP_show {r : Int} {ns : List Nd} (hc : chk r ns = 0) (ha : ∀ x ∈ ns, -9223372036854775808 ≤ x.a ∧ x.a ≤ 9223372036854775807) : rdP (showB r ns) = some (r, ns) := by
  obtain ⟨hl, hr, _⟩ := chk_full hc
  have ht : ∀ x ∈ ns, TxOk x := fun x hx => tx_of hc hx (ha x hx)
  have hlen := show_len (r := r) (by omega) ns ht
  unfold rdP
  rw [if_neg (by omega), cut_show]
  simp only
  have hp : Lib.hasPrefix (regsL r) regsW = true := by unfold Lib.hasPrefix regsL; simp
  have hd : (regsL r).drop 5 = Lib.itoa r := by unfold regsL regsW; simp
  rw [hp, hd, atoi_itoa r (by omega) (by omega), rdAll_lines ns ht]
  rfl

/-- What Read answers. -/
def readB (s : List UInt8) : Option (Int × List Nd) :=
  match rdP s with
  | none => none
  | some (r, ns) => if chk r ns = 0 ∧ showB r ns = s then some (r, ns) else none

/-- Two programs that are shown alike are alike. -/
theorem show_inj {r r' : Int} {ns ms : List Nd} (hc : chk r ns = 0) (ha : ∀ x ∈ ns, -9223372036854775808 ≤ x.a ∧ x.a ≤ 9223372036854775807) (hc' : chk r' ms = 0) (ha' : ∀ x ∈ ms, -9223372036854775808 ≤ x.a ∧ x.a ≤ 9223372036854775807) (h : showB r ns = showB r' ms) : r = r' ∧ ns = ms := by
  have h1 := rdP_show hc ha
  have h2 := rdP_show hc' ha'
  rw [h, h2] at h1
  simp at h1
  exact ⟨h1.1.symm, h1.2.symm⟩

end Go.Proofs.YtoikglgnmjjpcaaDoor
