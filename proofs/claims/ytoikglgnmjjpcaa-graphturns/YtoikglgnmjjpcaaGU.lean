/-
  What is split does what it did, and has nothing to split any more: plain facts.
-/
import Derived.Test.YtoikglgnmjjpcaaGT
namespace Go.Proofs.Ytoikglgnmjjpcaa

def skp (m : Int) : Nd := ⟨0, 0, 0, 0, m, 0⟩
/-- Do two or more nodes lead there? -/
def many (ns : List Nd) (m : Int) : Prop := 1 < (ahl ns m.toNat).length

theorem nd_set {l : List Nd} {n : Nat} (x : Nd) (h : n < l.length) (j : Nat) : nd (l.set n x) j = if j = n then x else nd l j := by
  simp only [nd, List.getD_eq_getElem?_getD, List.getElem?_set]
  by_cases e : n = j
  · subst e; simp [h]
  · simp [e, Ne.symm e]
theorem nd_app_left {l m : List Nd} {j : Nat} (h : j < l.length) : nd (l ++ m) j = nd l j := by
  simp only [nd, List.getD_eq_getElem?_getD]; rw [List.getElem?_append_left h]
theorem nd_app_last (l : List Nd) (x : Nd) : nd (l ++ [x]) l.length = x := by simp [nd]

/-- On the way: of the exits that P names it is done. -/
structure SI (ns out : List Nd) (P : Nat → Int → Prop) : Prop where
  len : ns.length ≤ out.length
  same : ∀ n, n < ns.length → (nd out n).op = (nd ns n).op ∧ (nd out n).d = (nd ns n).d ∧ (nd out n).a = (nd ns n).a ∧ (nd out n).b = (nd ns n).b
  t0 : ∀ n, n < ns.length → (¬ P n (nd ns n).t ∨ ¬ many ns (nd ns n).t) → (nd out n).t = (nd ns n).t
  t1 : ∀ n, n < ns.length → P n (nd ns n).t → many ns (nd ns n).t → ∃ i : Nat, ns.length ≤ i ∧ i < out.length ∧ (nd out n).t = i ∧ nd out i = skp (nd ns n).t
  e0 : ∀ n, n < ns.length → (¬ P n (nd ns n).e ∨ ¬ many ns (nd ns n).e) → (nd out n).e = (nd ns n).e
  e1 : ∀ n, n < ns.length → P n (nd ns n).e → many ns (nd ns n).e → ∃ i : Nat, ns.length ≤ i ∧ i < out.length ∧ (nd out n).e = i ∧ nd out i = skp (nd ns n).e
  new : ∀ i, ns.length ≤ i → i < out.length → ∃ n m, n < ns.length ∧ P n m ∧ many ns m ∧ nd out i = skp m
  uniq : ∀ i n1 n2 : Nat, ns.length ≤ i → n1 < ns.length → n2 < ns.length → ((nd out n1).t = i ∨ (nd out n1).e = i) → ((nd out n2).t = i ∨ (nd out n2).e = i) → n1 = n2

theorem full_bounds {r : Int} {len : Nat} {x : Nd} (h : Full r len x) (hl : 1 ≤ len) : 0 ≤ x.t ∧ x.t < len ∧ 0 ≤ x.e ∧ x.e < len := by
  have := h.t; have := h.t0; have := h.e; have := h.e0
  by_cases h12 : x.op = 12 <;> by_cases h11 : x.op = 11 <;> simp_all <;> omega

theorem SI.start {r : Int} {ns : List Nd} (hc : chk r ns = 0) : SI ns ns (fun _ _ => False) := by
  refine ⟨Nat.le_refl _, fun n _ => ⟨rfl, rfl, rfl, rfl⟩, fun n _ _ => rfl, fun n _ h => h.elim, fun n _ _ => rfl, fun n _ h => h.elim, fun i h1 h2 => by omega, fun i n1 n2 hi h1 h2 q1 _ => ?_⟩
  have := full_bounds (chk_at hc h1) (chk_full hc).1.1
  omega

theorem SI.weak {ns out : List Nd} {P : Nat → Int → Prop} (h : SI ns out P) {n : Nat} {m : Int} (hm : ¬ many ns m) : SI ns out (fun i j => P i j ∨ (i = n ∧ j = m)) := by
  refine ⟨h.len, h.same, fun j hj hp => h.t0 j hj ?_, fun j hj hp hmn => h.t1 j hj ?_ hmn, fun j hj hp => h.e0 j hj ?_, fun j hj hp hmn => h.e1 j hj ?_ hmn, fun i h1 h2 => ?_, h.uniq⟩
  · rcases hp with hp | hp
    · exact Or.inl fun q => hp (Or.inl q)
    · exact Or.inr hp
  · rcases hp with hp | ⟨_, e⟩
    · exact hp
    · rw [e] at hmn; exact absurd hmn hm
  · rcases hp with hp | hp
    · exact Or.inl fun q => hp (Or.inl q)
    · exact Or.inr hp
  · rcases hp with hp | ⟨_, e⟩
    · exact hp
    · rw [e] at hmn; exact absurd hmn hm
  · obtain ⟨a, b, c, d, e⟩ := h.new i h1 h2; exact ⟨a, b, c, Or.inl d, e⟩

theorem SI.grow {r : Int} {ns out : List Nd} {P : Nat → Int → Prop} (hc : chk r ns = 0) (h : SI ns out P) {n : Nat} {m : Int} (hn : n < ns.length) (hm : many ns m) (hp : ¬ P n m) (hb : 1 ≤ m ∧ m < ns.length) :
    SI ns (out.set n (trn (nd out n) m out.length) ++ [skp m]) (fun i j => P i j ∨ (i = n ∧ j = m)) := by
  have hlen := h.len
  have hno : n < out.length := by omega
  have at0 : ∀ j, j < out.length → nd (out.set n (trn (nd out n) m out.length) ++ [skp m]) j = if j = n then trn (nd out n) m out.length else nd out j := fun j hj => by
    rw [nd_app_left (by simpa using hj), nd_set _ hno]
  have atn : ∀ j, j < ns.length → j ≠ n → nd (out.set n (trn (nd out n) m out.length) ++ [skp m]) j = nd out j := fun j hj e => by rw [at0 j (by omega), if_neg e]
  have ato : ∀ j, ns.length ≤ j → j < out.length → nd (out.set n (trn (nd out n) m out.length) ++ [skp m]) j = nd out j := fun j h1 h2 => by rw [at0 j h2, if_neg (by omega)]
  have atl : nd (out.set n (trn (nd out n) m out.length) ++ [skp m]) out.length = skp m := by
    have := nd_app_last (out.set n (trn (nd out n) m out.length)) (skp m)
    rwa [List.length_set] at this
  have atN : nd (out.set n (trn (nd out n) m out.length) ++ [skp m]) n = trn (nd out n) m out.length := by rw [at0 n hno, if_pos rfl]
  have hfb := full_bounds (chk_at hc hn) (chk_full hc).1.1
  have hlen' : (out.set n (trn (nd out n) m out.length) ++ [skp m]).length = out.length + 1 := by simp
  have atT : (trn (nd out n) m out.length).t = if (nd out n).t = m then (out.length : Int) else (nd out n).t := rfl
  have atE : (trn (nd out n) m out.length).e = if (nd out n).e = m then (out.length : Int) else (nd out n).e := rfl
  have atR : (trn (nd out n) m out.length).op = (nd out n).op ∧ (trn (nd out n) m out.length).d = (nd out n).d ∧ (trn (nd out n) m out.length).a = (nd out n).a ∧ (trn (nd out n) m out.length).b = (nd out n).b := ⟨rfl, rfl, rfl, rfl⟩
  clear at0
  generalize trn (nd out n) m out.length = X at *
  generalize out.set n X ++ [skp m] = new at *
  -- the two fields of node n, ahead of it
  have ht : (nd ns n).t = m ∧ (nd out n).t = m ∨ (nd ns n).t ≠ m ∧ (nd out n).t ≠ m := by
    by_cases e : (nd ns n).t = m
    · left; exact ⟨e, by rw [h.t0 n hn (Or.inl (by rw [e]; exact hp)), e]⟩
    · right
      refine ⟨e, fun q => ?_⟩
      by_cases hP : P n (nd ns n).t ∧ many ns (nd ns n).t
      · obtain ⟨i, i1, i2, i3, _⟩ := h.t1 n hn hP.1 hP.2; omega
      · have := h.t0 n hn (by by_cases a : P n (nd ns n).t
                              · right; exact fun b => hP ⟨a, b⟩
                              · left; exact a)
        rw [this] at q; exact e q
  have hee : (nd ns n).e = m ∧ (nd out n).e = m ∨ (nd ns n).e ≠ m ∧ (nd out n).e ≠ m := by
    by_cases e : (nd ns n).e = m
    · left; exact ⟨e, by rw [h.e0 n hn (Or.inl (by rw [e]; exact hp)), e]⟩
    · right
      refine ⟨e, fun q => ?_⟩
      by_cases hP : P n (nd ns n).e ∧ many ns (nd ns n).e
      · obtain ⟨i, i1, i2, i3, _⟩ := h.e1 n hn hP.1 hP.2; omega
      · have := h.e0 n hn (by by_cases a : P n (nd ns n).e
                              · right; exact fun b => hP ⟨a, b⟩
                              · left; exact a)
        rw [this] at q; exact e q
  -- all fields lie below the length
  have hlt : ∀ j, j < ns.length → (nd out j).t < out.length ∧ (nd out j).e < out.length := by
    intro j hj
    have hfj := full_bounds (chk_at hc hj) (chk_full hc).1.1
    constructor
    · by_cases hP : P j (nd ns j).t ∧ many ns (nd ns j).t
      · obtain ⟨i, i1, i2, i3, _⟩ := h.t1 j hj hP.1 hP.2; omega
      · have := h.t0 j hj (by by_cases a : P j (nd ns j).t
                              · right; exact fun b => hP ⟨a, b⟩
                              · left; exact a)
        omega
    · by_cases hP : P j (nd ns j).e ∧ many ns (nd ns j).e
      · obtain ⟨i, i1, i2, i3, _⟩ := h.e1 j hj hP.1 hP.2; omega
      · have := h.e0 j hj (by by_cases a : P j (nd ns j).e
                              · right; exact fun b => hP ⟨a, b⟩
                              · left; exact a)
        omega
  refine ⟨by omega, fun j hj => ?_, fun j hj hq => ?_, fun j hj hq hmn => ?_, fun j hj hq => ?_, fun j hj hq hmn => ?_, fun i h1 h2 => ?_, fun i n1 n2 hi h1 h2 q1 q2 => ?_⟩
  · by_cases e : j = n
    · subst e; rw [atN, atR.1, atR.2.1, atR.2.2.1, atR.2.2.2]; exact h.same j hj
    · rw [atn j hj e]; exact h.same j hj
  · by_cases e : j = n
    · subst e
      rw [atN]
      rw [atT]
      rcases ht with ⟨a, b⟩ | ⟨a, b⟩
      · exfalso
        rcases hq with hq | hq
        · exact hq (Or.inr ⟨rfl, a⟩)
        · rw [a] at hq; exact hq hm
      · rw [if_neg b]
        refine h.t0 j hj ?_
        rcases hq with hq | hq
        · exact Or.inl fun z => hq (Or.inl z)
        · exact Or.inr hq
    · rw [atn j hj e]
      refine h.t0 j hj ?_
      rcases hq with hq | hq
      · exact Or.inl fun z => hq (Or.inl z)
      · exact Or.inr hq
  · by_cases e : j = n
    · subst e
      rw [atN]
      rw [atT]
      rcases ht with ⟨a, b⟩ | ⟨a, b⟩
      · refine ⟨out.length, by omega, by omega, by rw [if_pos b], by rw [atl, a]⟩
      · rcases hq with hq | ⟨_, hq⟩
        · obtain ⟨i, i1, i2, i3, i4⟩ := h.t1 j hj hq hmn
          exact ⟨i, i1, by omega, by rw [if_neg b]; exact i3, by rw [ato i i1 i2]; exact i4⟩
        · exact absurd hq a
    · rw [atn j hj e]
      rcases hq with hq | ⟨hq, _⟩
      · obtain ⟨i, i1, i2, i3, i4⟩ := h.t1 j hj hq hmn
        exact ⟨i, i1, by omega, i3, by rw [ato i i1 i2]; exact i4⟩
      · exact absurd hq e
  · by_cases e : j = n
    · subst e
      rw [atN]
      rw [atE]
      rcases hee with ⟨a, b⟩ | ⟨a, b⟩
      · exfalso
        rcases hq with hq | hq
        · exact hq (Or.inr ⟨rfl, a⟩)
        · rw [a] at hq; exact hq hm
      · rw [if_neg b]
        refine h.e0 j hj ?_
        rcases hq with hq | hq
        · exact Or.inl fun z => hq (Or.inl z)
        · exact Or.inr hq
    · rw [atn j hj e]
      refine h.e0 j hj ?_
      rcases hq with hq | hq
      · exact Or.inl fun z => hq (Or.inl z)
      · exact Or.inr hq
  · by_cases e : j = n
    · subst e
      rw [atN]
      rw [atE]
      rcases hee with ⟨a, b⟩ | ⟨a, b⟩
      · refine ⟨out.length, by omega, by omega, by rw [if_pos b], by rw [atl, a]⟩
      · rcases hq with hq | ⟨_, hq⟩
        · obtain ⟨i, i1, i2, i3, i4⟩ := h.e1 j hj hq hmn
          exact ⟨i, i1, by omega, by rw [if_neg b]; exact i3, by rw [ato i i1 i2]; exact i4⟩
        · exact absurd hq a
    · rw [atn j hj e]
      rcases hq with hq | ⟨hq, _⟩
      · obtain ⟨i, i1, i2, i3, i4⟩ := h.e1 j hj hq hmn
        exact ⟨i, i1, by omega, i3, by rw [ato i i1 i2]; exact i4⟩
      · exact absurd hq e
  · by_cases e : i = out.length
    · subst e; exact ⟨n, m, hn, Or.inr ⟨rfl, rfl⟩, hm, atl⟩
    · have h2' : i < out.length := by omega
      obtain ⟨a, b, c, d, f, g⟩ := h.new i h1 h2'
      exact ⟨a, b, c, Or.inl d, f, by rw [ato i h1 h2']; exact g⟩
  · -- who leads to a new one
    have key : ∀ j, j < ns.length → ((nd new j).t = i ∨ (nd new j).e = i) → (i = out.length ∧ j = n) ∨ (i < out.length ∧ ((nd out j).t = i ∨ (nd out j).e = i)) := by
      intro j hj hq
      have hb' := hlt j hj
      by_cases e : j = n
      · subst e
        rw [atN, atT, atE] at hq
        rcases hq with hq | hq
        · split at hq
          · left; exact ⟨by omega, rfl⟩
          · right; exact ⟨by omega, Or.inl hq⟩
        · split at hq
          · left; exact ⟨by omega, rfl⟩
          · right; exact ⟨by omega, Or.inr hq⟩
      · rw [atn j hj e] at hq
        right
        rcases hq with hq | hq
        · exact ⟨by omega, Or.inl hq⟩
        · exact ⟨by omega, Or.inr hq⟩
    rcases key n1 h1 q1 with ⟨a, b⟩ | ⟨a, b⟩ <;> rcases key n2 h2 q2 with ⟨c, d⟩ | ⟨c, d⟩
    · rw [b, d]
    · omega
    · omega
    · exact h.uniq i n1 n2 hi h1 h2 b d

theorem SI.one {r : Int} {ns out : List Nd} {P : Nat → Int → Prop} (hc : chk r ns = 0) (h : SI ns out P) {n : Nat} {m : Int} (hn : n < ns.length) (hp : ¬ P n m) (hb : 1 ≤ m ∧ m < ns.length) : SI ns (spl1 ns n out m) (fun i j => P i j ∨ (i = n ∧ j = m)) := by
  unfold spl1
  split
  · rename_i hm; exact h.grow hc hn hm hp hb
  · rename_i hm; exact h.weak hm

/-- The exits of the nodes below k, but of Skips. -/
def PTo (ns : List Nd) (k : Nat) (i : Nat) (m : Int) : Prop := i < k ∧ (nd ns i).op ≠ 0 ∧ m ∈ exo (nd ns i)

theorem SI.congr {ns out : List Nd} {P Q : Nat → Int → Prop} (h : SI ns out P) (e : ∀ i m, P i m ↔ Q i m) : SI ns out Q := by
  have : P = Q := by funext i m; exact propext (e i m)
  rw [← this]; exact h

theorem exo_bounds {r : Int} {len : Nat} {x : Nd} (h : Full r len x) {m : Int} (hm : m ∈ exo x) : 1 ≤ m ∧ m < len := by
  unfold exo at hm
  split at hm
  · rename_i h11
    have a := h.t (by omega)
    have b := h.e h11
    split at hm
    · simp at hm; omega
    · simp at hm; omega
  · split at hm
    · rename_i h11 hw
      have := wi_iff.1 hw
      have a := h.t (by omega)
      simp at hm; omega
    · simp at hm

theorem split_SI {r : Int} {ns : List Nd} (hc : chk r ns = 0) : ∀ k, k ≤ ns.length → SI ns (splTo ns k) (PTo ns k)
  | 0, _ => (SI.start hc).congr fun i m => by simp [PTo]
  | k + 1, hk => by
    have ih := split_SI hc k (by omega)
    have hF := chk_at hc (show k < ns.length by omega)
    rw [splTo_succ]
    unfold spl2
    have hpk : ∀ m, ¬ PTo ns k k m := fun m h => by have := h.1; omega
    split
    · rename_i h0
      refine ih.congr fun i m => ⟨fun h => ⟨by have := h.1; omega, h.2⟩, fun h => ⟨?_, h.2⟩⟩
      have h1 := h.1
      have h2 : i ≠ k := fun e => by subst e; exact h.2.1 h0
      omega
    · rename_i h0
      have hx : ∀ m, m ∈ exo (nd ns k) → 1 ≤ m ∧ m < ns.length := fun m hm => exo_bounds hF hm
      have hin : ∀ i m, PTo ns (k + 1) i m ↔ PTo ns k i m ∨ (i = k ∧ m ∈ exo (nd ns k)) := by
        intro i m
        constructor
        · intro h
          by_cases e : i = k
          · subst e; exact Or.inr ⟨rfl, h.2.2⟩
          · exact Or.inl ⟨by have := h.1; omega, h.2⟩
        · rintro (h | ⟨rfl, h⟩)
          · exact ⟨by have := h.1; omega, h.2⟩
          · exact ⟨by omega, h0, h⟩
      generalize hex : exo (nd ns k) = ex at hx hin ⊢
      have hcase : ex = [] ∨ (∃ a, ex = [a]) ∨ ∃ a b, ex = [a, b] ∧ a ≠ b := by
        rw [← hex]; unfold exo
        split
        · split
          · exact Or.inr (Or.inl ⟨_, rfl⟩)
          · rename_i q; exact Or.inr (Or.inr ⟨_, _, rfl, fun e => q e.symm⟩)
        · split
          · exact Or.inr (Or.inl ⟨_, rfl⟩)
          · exact Or.inl rfl
      rcases hcase with rfl | ⟨a, rfl⟩ | ⟨a, b, rfl, hab⟩
      · exact ih.congr fun i m => by rw [hin]; simp
      · have h1 := ih.one hc (n := k) (m := a) (by omega) (hpk a) (hx a (by simp))
        exact h1.congr fun i m => by rw [hin]; simp
      · have h1 := ih.one hc (n := k) (m := a) (by omega) (hpk a) (hx a (by simp))
        have h2 := h1.one hc (n := k) (m := b) (by omega) (by rintro (h | ⟨_, h⟩)
                                                              · exact hpk b h
                                                              · exact hab h.symm) (hx b (by simp))
        refine h2.congr fun i m => ?_
        rw [hin]
        simp only [List.mem_cons, List.not_mem_nil, or_false]
        constructor
        · rintro ((h | ⟨a1, a2⟩) | ⟨a1, a2⟩)
          · exact Or.inl h
          · exact Or.inr ⟨a1, Or.inl a2⟩
          · exact Or.inr ⟨a1, Or.inr a2⟩
        · rintro (h | ⟨a1, a2 | a2⟩)
          · exact Or.inl (Or.inl h)
          · exact Or.inl (Or.inr ⟨a1, a2⟩)
          · exact Or.inr ⟨a1, a2⟩

end Go.Proofs.Ytoikglgnmjjpcaa
