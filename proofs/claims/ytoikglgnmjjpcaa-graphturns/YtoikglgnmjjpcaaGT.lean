/-
  What is trimmed does what it did, step by step: plain facts.
-/
import Derived.Test.YtoikglgnmjjpcaaGS
import Derived.Test.YtoikglgnmjjpcaaMP
namespace Go.Proofs.Ytoikglgnmjjpcaa

/-- All that is right of a node. -/
structure Full (r : Int) (len : Nat) (x : Nd) : Prop where
  op : 0 ≤ x.op ∧ x.op ≤ 12
  d : 1 ≤ x.op → x.op ≤ 9 → 0 ≤ x.d ∧ x.d < r
  d0 : ¬ (1 ≤ x.op ∧ x.op ≤ 9) → x.d = 0
  a : x.op ≠ 0 → x.op ≠ 1 → x.op ≠ 9 → 0 ≤ x.a ∧ x.a < r
  a0 : x.op = 0 ∨ x.op = 9 → x.a = 0
  b : 3 ≤ x.op → x.op ≤ 8 → 0 ≤ x.b ∧ x.b < r
  b0 : ¬ (3 ≤ x.op ∧ x.op ≤ 8) → x.b = 0
  t : x.op ≠ 12 → 1 ≤ x.t ∧ x.t < len
  t0 : x.op = 12 → x.t = 0
  e : x.op = 11 → 1 ≤ x.e ∧ x.e < len
  e0 : x.op ≠ 11 → x.e = 0

theorem full_of {r : Int} {len : Nat} {x : Nd} (hk : kn x.op = true) (hi : fieldsOk (inB r len) x = true) (hn : fieldsOk noF x = true) : Full r len x := by
  have hop := wi_iff.1 hk
  simp only [fieldsOk, kvs, List.all_cons, List.all_nil, Bool.and_true, Bool.and_eq_true] at hi hn
  obtain ⟨q0, q1, q2, q3, q4⟩ := hi
  obtain ⟨n0, n1, n2, n3, n4⟩ := hn
  refine ⟨hop, fun a b => ?_, fun h => ?_, fun a b c => ?_, fun h => ?_, fun a b => ?_, fun h => ?_, fun h => ?_, fun h => ?_, fun h => ?_, fun h => ?_⟩
  · simp only [k0, wi_true a b, if_true, inB] at q0
    have := wi_iff.1 q0; omega
  · have e : wi x.op 1 9 = false := wi_false (by omega)
    simpa [k0, e, noF] using n0
  · have e : (wi x.op 2 8 || wi x.op 10 12) = true := by
      rw [Bool.or_eq_true, wi_iff, wi_iff]; omega
    simp only [k1, if_neg b, e, if_true, inB] at q1
    have := wi_iff.1 q1; omega
  · have e1 : wi x.op 2 8 = false := wi_false (by omega)
    have e2 : wi x.op 10 12 = false := wi_false (by omega)
    have e3 : x.op ≠ 1 := by omega
    simpa [k1, e1, e2, e3, noF] using n1
  · simp only [k2, wi_true a b, if_true, inB] at q2
    have := wi_iff.1 q2; omega
  · have e : wi x.op 3 8 = false := wi_false (by omega)
    simpa [k2, e, noF] using n2
  · rw [k3_val hk, if_neg h] at q3
    simp only [inB] at q3
    have := wi_iff.1 q3; omega
  · rw [k3_val hk, if_pos h] at n3
    simpa [noF] using n3
  · simp only [k4, if_pos h, inB] at q4
    have := wi_iff.1 q4; omega
  · simpa [k4, h, noF] using n4

theorem Full.ok {r : Int} {len : Nat} {x : Nd} (h : Full r len x) : kn x.op = true ∧ fieldsOk (inB r len) x = true ∧ fieldsOk noF x = true := by
  obtain ⟨hop, hd, hd0, ha, ha0, hb, hb0, ht, ht0, he, he0⟩ := h
  have hk : kn x.op = true := wi_true hop.1 hop.2
  have K3 := k3_val hk
  refine ⟨hk, ?_, ?_⟩
  · simp only [fieldsOk, kvs, List.all_cons, List.all_nil, Bool.and_true, Bool.and_eq_true]
    refine ⟨?_, ?_, ?_, ?_, ?_⟩
    · by_cases c : 1 ≤ x.op ∧ x.op ≤ 9
      · have := hd c.1 c.2
        simp only [k0, wi_true c.1 c.2, if_true, inB]; exact wi_true (by omega) (by omega)
      · have e : wi x.op 1 9 = false := wi_false (by omega)
        simp [k0, e, inB]
    · by_cases c1 : x.op = 1
      · simp [k1, c1, inB]
      · cases e : (wi x.op 2 8 || wi x.op 10 12)
        · simp [k1, c1, e, inB]
        · rw [Bool.or_eq_true, wi_iff, wi_iff] at e
          have := ha (by omega) c1 (by omega)
          have e' : (wi x.op 2 8 || wi x.op 10 12) = true := by rw [Bool.or_eq_true, wi_iff, wi_iff]; exact e
          simp only [k1, if_neg c1, e', if_true, inB]; exact wi_true (by omega) (by omega)
    · by_cases c : 3 ≤ x.op ∧ x.op ≤ 8
      · have := hb c.1 c.2
        simp only [k2, wi_true c.1 c.2, if_true, inB]; exact wi_true (by omega) (by omega)
      · have e : wi x.op 3 8 = false := wi_false (by omega)
        simp [k2, e, inB]
    · rw [K3]
      by_cases c : x.op = 12
      · simp [c, inB]
      · have := ht c
        rw [if_neg c]
        simp only [inB]
        exact wi_true (by omega) (by omega)
    · by_cases c : x.op = 11
      · have := he c
        simp only [k4, if_pos c, inB]; exact wi_true (by omega) (by omega)
      · simp [k4, c, inB]
  · simp only [fieldsOk, kvs, List.all_cons, List.all_nil, Bool.and_true, Bool.and_eq_true]
    refine ⟨?_, ?_, ?_, ?_, ?_⟩
    · by_cases c : 1 ≤ x.op ∧ x.op ≤ 9
      · simp [k0, wi_true c.1 c.2, noF]
      · simp [noF, hd0 c]
    · by_cases c : x.op = 0 ∨ x.op = 9
      · simp [noF, ha0 c]
      · by_cases c1 : x.op = 1
        · simp [k1, c1, noF]
        · have e' : (wi x.op 2 8 || wi x.op 10 12) = true := by rw [Bool.or_eq_true, wi_iff, wi_iff]; omega
          simp [k1, c1, e', noF]
    · by_cases c : 3 ≤ x.op ∧ x.op ≤ 8
      · simp [k2, wi_true c.1 c.2, noF]
      · simp [noF, hb0 c]
    · rw [K3]
      by_cases c : x.op = 12
      · simp [noF, ht0 c]
      · simp [c, noF]
    · by_cases c : x.op = 11
      · simp [k4, c, noF]
      · simp [noF, he0 c]

theorem chk_full {r : Int} {ns : List Nd} (h : chk r ns = 0) : (1 ≤ ns.length ∧ ns.length ≤ 256) ∧ (1 ≤ r ∧ r ≤ 64) ∧ ∀ x ∈ ns, Full r ns.length x := by
  obtain ⟨h1, h2, h3, h4, h5⟩ := chk_zero h
  exact ⟨h1, h2, fun x hx => full_of (h3 x hx) (h4 x hx) (h5 x hx)⟩

theorem chk_mk {r : Int} {ns : List Nd} (h1 : 1 ≤ ns.length ∧ ns.length ≤ 256) (h2 : 1 ≤ r ∧ r ≤ 64) (h3 : ∀ x ∈ ns, Full r ns.length x) : chk r ns = 0 := by
  unfold chk
  have e1 : (wi ns.length 1 256 && wi r 1 64) = true := by
    rw [Bool.and_eq_true]; exact ⟨wi_true (by omega) (by omega), wi_true h2.1 h2.2⟩
  have e2 : ns.all (fun x => kn x.op) = true := List.all_eq_true.2 fun x hx => (h3 x hx).ok.1
  have e3 : ns.all (fieldsOk (inB r ns.length)) = true := List.all_eq_true.2 fun x hx => (h3 x hx).ok.2.1
  have e4 : ns.all (fieldsOk noF) = true := List.all_eq_true.2 fun x hx => (h3 x hx).ok.2.2
  rw [if_pos e1, if_pos e2, if_pos e3, if_pos e4]

theorem chk_at {r : Int} {ns : List Nd} (h : chk r ns = 0) {n : Nat} (hn : n < ns.length) : Full r ns.length (nd ns n) :=
  (chk_full h).2.2 _ (List.mem_of_getElem? (get_nd hn))

theorem keptI_get {x : List Bool} {j : Nat} (hj : bat x j = true) : ∀ {k : Nat}, j < k → (keptI x k)[(keptI x j).length]? = some j
  | 0, h => by omega
  | k + 1, h => by
    by_cases e : j = k
    · subst e; rw [keptI_yes hj]; simp
    · have ih := keptI_get hj (k := k) (by omega)
      cases hb : bat x k
      · rw [keptI_no hb]; exact ih
      · rw [keptI_yes hb, List.getElem?_append_left (List.getElem?_eq_some_iff.1 ih).1]; exact ih

theorem keptI_mem {x : List Bool} {k j : Nat} : j ∈ keptI x k ↔ j < k ∧ bat x j = true := by simp [keptI]

theorem keptI_lt {x : List Bool} {j k : Nat} (hj : bat x j = true) (h : j < k) : (keptI x j).length < (keptI x k).length := (List.getElem?_eq_some_iff.1 (keptI_get hj h)).1

theorem rch_bat {ns : List Nd} {n : Nat} (hn : n < ns.length) : bat (rchL ns) n = true ↔ Rch ns n := (rchL_isR ns).iff n hn

theorem rch_zero {ns : List Nd} (h : 0 < ns.length) : bat (rchL ns) 0 = true := (rch_bat h).2 Rch.zero

theorem anew_zero (x : List Bool) : anewAt x 0 = 0 := by unfold anewAt; split <;> simp [keptI]

theorem ahB_then {ns : List Nd} {n : Nat} (hn : n < ns.length) (h : (nd ns n).op ≠ 12) {m : Nat} (hm : (nd ns n).t = m) : ahB ns m n = true := by
  rw [ahB_at (get_nd hn)]; simp [ldB, h, hm]
theorem ahB_else {ns : List Nd} {n : Nat} (hn : n < ns.length) (h : (nd ns n).op = 11) {m : Nat} (hm : (nd ns n).e = m) : ahB ns m n = true := by
  rw [ahB_at (get_nd hn)]; simp [ldB, h, hm]

theorem rch_then {r : Int} {ns : List Nd} (hc : chk r ns = 0) {n : Nat} (hn : n < ns.length) (hr : bat (rchL ns) n = true) (h : (nd ns n).op ≠ 12) : (nd ns n).t.toNat < ns.length ∧ bat (rchL ns) (nd ns n).t.toNat = true := by
  have ht := (chk_at hc hn).t h
  have hlt : (nd ns n).t.toNat < ns.length := by omega
  exact ⟨hlt, (rch_bat hlt).2 (Rch.step ((rch_bat hn).1 hr) (ahB_then hn h (by omega)))⟩
theorem rch_else {r : Int} {ns : List Nd} (hc : chk r ns = 0) {n : Nat} (hn : n < ns.length) (hr : bat (rchL ns) n = true) (h : (nd ns n).op = 11) : (nd ns n).e.toNat < ns.length ∧ bat (rchL ns) (nd ns n).e.toNat = true := by
  have ht := (chk_at hc hn).e h
  have hlt : (nd ns n).e.toNat < ns.length := by omega
  exact ⟨hlt, (rch_bat hlt).2 (Rch.step ((rch_bat hn).1 hr) (ahB_else hn h (by omega)))⟩

theorem trimN_get {ns : List Nd} {j : Nat} (hj : j < ns.length) (hr : bat (rchL ns) j = true) : (trimN ns)[anewAt (rchL ns) j]? = some (ren (rchL ns) (nd ns j)) := by
  simp only [trimN, anewAt, hr, if_true, List.getElem?_map, keptI_get hr hj, Option.map_some]

theorem trimN_len (ns : List Nd) : (trimN ns).length = (keptI (rchL ns) ns.length).length := by simp [trimN]

theorem anew_lt {ns : List Nd} {j : Nat} (hj : j < ns.length) (hr : bat (rchL ns) j = true) : anewAt (rchL ns) j < (trimN ns).length := (List.getElem?_eq_some_iff.1 (trimN_get hj hr)).1

theorem trimN_pos {ns : List Nd} (h : 0 < ns.length) : 0 < (trimN ns).length := by
  have := anew_lt h (rch_zero h); rw [anew_zero] at this; exact this

theorem anew_pos {ns : List Nd} {j : Nat} (hj : j < ns.length) (h0 : 0 < j) (hr : bat (rchL ns) j = true) : 0 < anewAt (rchL ns) j := by
  simp only [anewAt, hr, if_true]
  exact Nat.lt_of_le_of_lt (Nat.zero_le _) (keptI_lt (rch_zero (by omega)) h0)

theorem ren_full {r : Int} {ns : List Nd} (hc : chk r ns = 0) {n : Nat} (hn : n < ns.length) (hr : bat (rchL ns) n = true) : Full r (trimN ns).length (ren (rchL ns) (nd ns n)) := by
  have h := chk_at hc hn
  refine ⟨h.op, h.d, h.d0, h.a, h.a0, h.b, h.b0, fun h12 => ?_, fun h12 => ?_, fun h11 => ?_, fun h11 => ?_⟩
  · obtain ⟨a1, a2⟩ := rch_then hc hn hr h12
    have ht := h.t h12
    have p := anew_pos a1 (by omega) a2
    have q := anew_lt a1 a2
    simp only [ren]; omega
  · have := h.t0 h12
    simp [ren, this, anew_zero]
  · obtain ⟨a1, a2⟩ := rch_else hc hn hr h11
    have ht := h.e h11
    have p := anew_pos a1 (by omega) a2
    have q := anew_lt a1 a2
    simp only [ren]; omega
  · have := h.e0 h11
    simp [ren, this, anew_zero]

theorem trimN_mem {ns : List Nd} {y : Nd} (h : y ∈ trimN ns) : ∃ n, n < ns.length ∧ bat (rchL ns) n = true ∧ y = ren (rchL ns) (nd ns n) := by
  simp only [trimN, List.mem_map] at h
  obtain ⟨n, hn, rfl⟩ := h
  rw [keptI_mem] at hn
  exact ⟨n, hn.1, hn.2, rfl⟩

theorem trim_chk {r : Int} {ns : List Nd} (hc : chk r ns = 0) : chk r (trimN ns) = 0 := by
  have h := chk_full hc
  have h0 : 0 < (trimN ns).length := trimN_pos (by omega)
  have h1 : (trimN ns).length ≤ ns.length := by rw [trimN_len]; exact keptI_len _ _
  refine chk_mk ⟨by omega, by omega⟩ h.2.1 fun y hy => ?_
  obtain ⟨n, hn, hr, rfl⟩ := trimN_mem hy
  exact ren_full hc hn hr

/-- The same state, at the node's new number. -/
def renS (x : List Bool) (s : St) : St := { s with pc := anewAt x s.pc }

theorem stp_ren (x : List Bool) (m : Nd) (s : St) : stp (ren x m) (renS x s) = renS x (stp m s) := by
  unfold stp ren renS
  simp only
  repeat' split
  all_goals first | rfl | simp_all [tmOf]

theorem trim_run1 {r : Int} {ns : List Nd} (hc : chk r ns = 0) {s : St} (h : s.ended = true ∨ s.pc < ns.length ∧ bat (rchL ns) s.pc = true) :
    run1 (trimN ns) (renS (rchL ns) s) = renS (rchL ns) (run1 ns s) ∧ ((run1 ns s).ended = true ∨ (run1 ns s).pc < ns.length ∧ bat (rchL ns) (run1 ns s).pc = true) := by
  cases he : s.ended
  · rcases h with h | ⟨hn, hr⟩
    · rw [he] at h; cases h
    · rw [run1_at he (get_nd hn), run1_at (s := renS (rchL ns) s) he (trimN_get hn hr)]
      refine ⟨stp_ren _ _ _, ?_⟩
      by_cases h12 : (nd ns s.pc).op = 12
      · left; simp [stp, h12]
      · right
        have a := rch_then hc hn hr h12
        by_cases h11 : (nd ns s.pc).op = 11
        · have b := rch_else hc hn hr h11
          simp only [stp, h11]
          simp only [show ¬ ((11 : Int) = 0) by omega, show ¬ ((11 : Int) = 1) by omega, show ¬ ((11 : Int) = 2) by omega, show ¬ ((11 : Int) = 9) by omega, show ¬ ((11 : Int) = 10) by omega, if_false, if_true]
          split
          · exact b
          · exact a
        · have e : (stp (nd ns s.pc) s).pc = (nd ns s.pc).t.toNat := by
            unfold stp; repeat' split
            all_goals first | rfl | contradiction
          rw [e]; exact a
  · rw [run1_ended he, run1_ended (s := renS (rchL ns) s) he]; exact ⟨rfl, Or.inl he⟩

theorem trim_run {r : Int} {ns : List Nd} (hc : chk r ns = 0) : ∀ (n : Nat) {s : St}, (s.ended = true ∨ s.pc < ns.length ∧ bat (rchL ns) s.pc = true) → runN (trimN ns) n (renS (rchL ns) s) = renS (rchL ns) (runN ns n s)
  | 0, s, _ => rfl
  | n + 1, s, h => by
    obtain ⟨h1, h2⟩ := trim_run1 hc h
    rw [runS_succ, runS_succ, h1, trim_run hc n h2]

theorem trim_same {r : Int} {ns : List Nd} (hc : chk r ns = 0) (n k : Nat) (inp : List Int) : runN (trimN ns) n (st0 k inp) = renS (rchL ns) (runN ns n (st0 k inp)) := by
  have h := trim_run hc n (s := st0 k inp) (Or.inr ⟨(chk_full hc).1.1, rch_zero (chk_full hc).1.1⟩)
  have e : renS (rchL ns) (st0 k inp) = st0 k inp := by simp [renS, st0, anew_zero]
  rw [e] at h; exact h

/-- All nodes of a trimmed program may be come to. -/
theorem trim_rch {r : Int} {ns : List Nd} (hc : chk r ns = 0) {n : Nat} (h : Rch ns n) : n < ns.length ∧ Rch (trimN ns) (anewAt (rchL ns) n) := by
  induction h with
  | zero => exact ⟨(chk_full hc).1.1, by rw [anew_zero]; exact Rch.zero⟩
  | step hr ha ih =>
    rename_i a b
    obtain ⟨hlt, ih⟩ := ih
    have hra : bat (rchL ns) a = true := (rch_bat hlt).2 hr
    have hF := chk_at hc hlt
    have hb : b < ns.length := by
      rw [ahB_at (get_nd hlt)] at ha
      simp only [ldB, Bool.or_eq_true, Bool.and_eq_true, bne_iff_ne, beq_iff_eq] at ha
      rcases ha with ⟨h1, h2⟩ | ⟨h1, h2⟩
      · have := hF.t h1; omega
      · have := hF.e h1; omega
    refine ⟨hb, Rch.step ih ?_⟩
    rw [ahB_at (get_nd hlt)] at ha
    rw [ahB_at (trimN_get hlt hra)]
    simp only [ldB, Bool.or_eq_true, Bool.and_eq_true, bne_iff_ne, beq_iff_eq, ren] at ha ⊢
    rcases ha with ⟨h1, h2⟩ | ⟨h1, h2⟩
    · left; exact ⟨h1, by rw [h2]; simp⟩
    · right; exact ⟨h1, by rw [h2]; simp⟩

theorem trim_all {r : Int} {ns : List Nd} (hc : chk r ns = 0) : rchL (trimN ns) = List.replicate (trimN ns).length true := by
  refine bat_ext (by rw [rchL_len]; simp) fun m hm => ?_
  rw [rchL_len] at hm
  rw [bat_yes hm, rch_bat hm]
  obtain ⟨y, hy⟩ := get_lt hm
  have hk : m < (keptI (rchL ns) ns.length).length := by rw [← trimN_len]; exact hm
  obtain ⟨n, hn⟩ := get_lt hk
  have hmem := keptI_mem.1 (List.mem_of_getElem? hn)
  have h1 := (trim_rch hc ((rch_bat hmem.1).1 hmem.2)).2
  have h2 := keptI_get hmem.2 hmem.1
  have e : m = anewAt (rchL ns) n := by
    simp only [anewAt, hmem.2, if_true]
    have hnd : (keptI (rchL ns) ns.length).Nodup := List.Nodup.sublist List.filter_sublist List.nodup_range
    exact (List.getElem?_inj hk hnd).1 (by rw [hn, h2])
  rw [e]; exact h1

theorem keptI_rep {k : Nat} : ∀ j, j ≤ k → keptI (List.replicate k true) j = List.range j
  | 0, _ => rfl
  | j + 1, h => by rw [keptI_yes (bat_yes (by omega)), keptI_rep j (by omega), List.range_succ]

theorem anew_rep {k j : Nat} (h : j < k) : anewAt (List.replicate k true) j = j := by
  rw [anewAt, if_pos (bat_yes h), keptI_rep (k := k) j (by omega)]; simp

/-- Trimmed once more it is the same. -/
theorem trim_idem {r : Int} {ns : List Nd} (hc : chk r ns = 0) : trimN (trimN ns) = trimN ns := by
  have hc1 := trim_chk hc
  have hall := trim_all hc
  have h0 := (chk_full hc1).1.1
  generalize trimN ns = ms at hc1 hall h0 ⊢
  unfold trimN
  rw [hall, keptI_rep _ (Nat.le_refl _)]
  apply List.ext_getElem?
  intro n
  by_cases hn : n < ms.length
  · have hF := chk_at hc1 hn
    rw [List.getElem?_map, List.getElem?_range hn, Option.map_some, get_nd hn]
    congr 1
    obtain ⟨op, d, a, b, t, e, hx⟩ : ∃ op d a b t e, nd ms n = ⟨op, d, a, b, t, e⟩ := ⟨_, _, _, _, _, _, rfl⟩
    rw [hx] at hF ⊢
    have e1 : (anewAt (List.replicate ms.length true) t.toNat : Int) = t := by
      by_cases h12 : op = 12
      · have := hF.t0 h12; simp only at this; subst this; simp [anew_zero]
      · have := hF.t h12; simp only at this; rw [anew_rep (by omega)]; omega
    have e2 : (anewAt (List.replicate ms.length true) e.toNat : Int) = e := by
      by_cases h12 : op = 11
      · have := hF.e h12; simp only at this; rw [anew_rep (by omega)]; omega
      · have := hF.e0 h12; simp only at this; subst this; simp [anew_zero]
    simp [ren, e1, e2]
  · rw [List.getElem?_eq_none (by simp; omega), List.getElem?_eq_none (by omega)]

end Go.Proofs.Ytoikglgnmjjpcaa
