/-
  hoistwayref.onceMore, walked: a term was reckoned once more.
-/
import Derived.Test.YtoikglgnmjjpcaaSA
import Derived.Test.YtoikglgnmjjpcaaRT
import Derived.Laws.OwnMore
import Derived.Deep.AppendLies
import Derived.Deep.CutRange
import Derived.Deep.RegionWith
namespace Go.Proofs.Ytoikglgnmjjpcaa
open Go.RowKit
set_option linter.unusedVariables false

theorem omore_found {L : List Ct} {t : Tm} {k : Nat} {c : Ct} (h : ∀ d ∈ L.take k, abv t d.t = true) (hk : L[k]? = some c) (hc : c.t = t) : omore L t = L.set k ⟨t, c.n + 1⟩ := by
  induction L generalizing k with
  | nil => simp at hk
  | cons d L ih =>
    cases k with
    | zero =>
      simp at hk; subst hk
      unfold omore
      rw [if_neg (by rw [hc, abv_irrefl]; simp), if_pos hc]; rfl
    | succ k =>
      simp at hk
      unfold omore
      rw [if_pos (h d (by simp)), ih (k := k) (fun e he => h e (by simp [he])) hk]; rfl

theorem omore_ins {L : List Ct} {t : Tm} {k : Nat} (h : ∀ d ∈ L.take k, abv t d.t = true) (hk : k ≤ L.length) (hc : ∀ c, L[k]? = some c → abv t c.t = false ∧ c.t ≠ t) : omore L t = L.take k ++ ⟨t, 1⟩ :: L.drop k := by
  induction L generalizing k with
  | nil => simp at hk; subst hk; rfl
  | cons d L ih =>
    cases k with
    | zero =>
      have := hc d (by simp)
      unfold omore
      rw [if_neg (by rw [this.1]; simp), if_neg this.2]; rfl
    | succ k =>
      simp at hk
      unfold omore
      rw [if_pos (h d (by simp)), ih (k := k) (fun e he => h e (by simp [he])) hk (fun c hc' => hc c (by simpa using hc'))]; rfl

theorem flat_set (M : List Ct) (k : Nat) (c : Ct) (hk : k < M.length) : (M.set k c).flatMap encCt = ((((M.flatMap encCt).set (k * 4) (.int .i64 c.t.op)).set (k * 4 + 1) (.int .i64 c.t.a)).set (k * 4 + 2) (.int .i64 c.t.b)).set (k * 4 + 3) (.int .i64 c.n) := by
  apply List.ext_getElem?
  intro j
  have hl := flatCt_len M
  by_cases hj : j < M.length * 4
  · have hjm : j / 4 < M.length := by omega
    have hj4 : j = j / 4 * 4 + j % 4 := by omega
    have q1 := flat4 (M.set k c) (j / 4) (j % 4) ((M.set k c)[j / 4]'(by simpa using hjm)) (List.getElem?_eq_getElem _) (by omega)
    have q2 := flat4 M (j / 4) (j % 4) M[j / 4] (List.getElem?_eq_getElem hjm) (by omega)
    rw [← hj4] at q1 q2
    rw [q1]
    simp only [List.getElem?_set, List.length_set, hl, q2]
    by_cases hjk : j / 4 = k
    · subst hjk
      have : j % 4 = 0 ∨ j % 4 = 1 ∨ j % 4 = 2 ∨ j % 4 = 3 := by omega
      rcases this with e | e | e | e
      all_goals
        rw [e]
        simp [encCt]
        repeat' split
        all_goals first | rfl | omega
    · have e : (M.set k c)[j / 4]'(by simpa using hjm) = M[j / 4] := by
        rw [List.getElem_set_ne (fun h => hjk h.symm)]
      rw [e]
      repeat' split
      all_goals first | rfl | omega
  · rw [List.getElem?_eq_none (by rw [flatCt_len]; simp; omega), List.getElem?_eq_none (by simp [hl]; omega)]

theorem flatCt_append (A B : List Ct) : (A ++ B).flatMap encCt = A.flatMap encCt ++ B.flatMap encCt := List.flatMap_append

/-- The rest of onceMore: the element's cells are written. -/
theorem owns_put {w : World} {base g cap n : Nat} {M : List Ct} (h : w.ownsRow base 111 4 (.slice (some ⟨g, 0, none⟩) n cap) n (M.flatMap encCt)) (hn : M.length = n) {k : Nat} (hk : k < n) (c : Ct) :
    (((((w.setCell ⟨g, k * 4, none⟩ (.int .i64 c.t.op)).setCell ⟨g, k * 4 + 1, none⟩ (.int .i64 c.t.a)).setCell ⟨g, k * 4 + 2, none⟩ (.int .i64 c.t.b)).setCell ⟨g, k * 4 + 3, none⟩ (.int .i64 c.n))).ownsRow base 111 4 (.slice (some ⟨g, 0, none⟩) n cap) n ((M.set k c).flatMap encCt) := by
  rw [flat_set M k c (by omega)]
  exact ((((h.stored _ _).1.stored _ _).1.stored _ _).1.stored _ _).1

theorem set_same {α : Type} {l : List α} {j : Nat} {x : α} (h : l[j]? = some x) : l.set j x = l := by
  apply List.ext_getElem?
  intro i
  rw [List.getElem?_set]
  split
  · rename_i e; subst e
    split
    · exact h.symm
    · rename_i hj; rw [List.getElem?_eq_none (by omega)]
  · rfl

theorem flat_set3 {M : List Ct} {k : Nat} {c : Ct} (hk : M[k]? = some c) (n : Int) : (M.set k ⟨c.t, n⟩).flatMap encCt = (M.flatMap encCt).set (k * 4 + 3) (.int .i64 n) := by
  have hlt := (List.getElem?_eq_some_iff.1 hk).1
  rw [flat_set M k ⟨c.t, n⟩ hlt]
  have q0 := flat4 M k 0 c hk (by omega)
  have q1 := flat4 M k 1 c hk (by omega)
  have q2 := flat4 M k 2 c hk (by omega)
  rw [Nat.add_zero] at q0
  rw [set_same (j := k * 4) q0, set_same (j := k * 4 + 1) q1, set_same (j := k * 4 + 2) q2]

theorem grown_put {w w4 w5 : World} {o : Option Nat} {g : Nat} (h : w.grownBy w4 o) (hg : o = some g ∨ w.heap.size ≤ g) (K : Keeps [g] w4 w5) : w.grownBy w5 o :=
  ⟨K.os.trans h.os, K.tape.trans h.tape, K.output.trans h.output, Nat.le_trans h.size K.size, fun k hk hne => (K.block k (Nat.lt_of_lt_of_le hk h.size) (by
    simp
    intro e
    subst e
    rcases hg with hg | hg
    · exact hne hg.symm
    · omega)).trans (h.block k hk hne)⟩

theorem below_grown {w wA w4 : World} {o : Option Nat} (h : Below w.heap.size w wA) (hg : wA.grownBy w4 o) : w.grownBy w4 o :=
  ⟨hg.os.trans h.os, hg.tape.trans h.tape, hg.output.trans h.output, Nat.le_trans h.size hg.size, fun k hk hne => (hg.block k (Nat.lt_of_lt_of_le hk h.size) hne).trans (h.block k hk)⟩

theorem owns_drewN {w : World} {base : Nat} {e : TypeId} {size : Nat} {v : Value} {n : Nat} {xs : List Value} (h : w.ownsRow base e size v n xs) (m : Nat) : (w.drewN m).ownsRow base e size v n xs := h

theorem cells_at {w : World} {base g cap n : Nat} {M : List Ct} (h : w.ownsRow base 111 4 (.slice (some ⟨g, 0, none⟩) n cap) n (M.flatMap encCt)) {k : Nat} {c : Ct} (hk : M[k]? = some c) (hn : M.length = n) :
    w.cell? ⟨g, k * 4, none⟩ = some (.int .i64 c.t.op) ∧ w.cell? ⟨g, k * 4 + 1, none⟩ = some (.int .i64 c.t.a) ∧ w.cell? ⟨g, k * 4 + 2, none⟩ = some (.int .i64 c.t.b) ∧ w.cell? ⟨g, k * 4 + 3, none⟩ = some (.int .i64 c.n) := by
  have hlt := (List.getElem?_eq_some_iff.1 hk).1
  have q0 := flat4 M k 0 c hk (by omega)
  rw [Nat.add_zero] at q0
  exact ⟨(h.cellAt _ (by omega)).trans q0, (h.cellAt _ (by omega)).trans (flat4 M k 1 c hk (by omega)), (h.cellAt _ (by omega)).trans (flat4 M k 2 c hk (by omega)), (h.cellAt _ (by omega)).trans (flat4 M k 3 c hk (by omega))⟩

theorem flat_drop {L : List Ct} {k : Nat} (hk : k ≤ L.length) (j : Nat) : (L.flatMap encCt)[k * 4 + j]? = ((L.drop k).flatMap encCt)[j]? := by
  have e : L.flatMap encCt = (L.take k).flatMap encCt ++ (L.drop k).flatMap encCt := by rw [← List.flatMap_append, List.take_append_drop]
  have hl : ((L.take k).flatMap encCt).length = k * 4 := by rw [flatCt_len]; simp; omega
  rw [e, List.getElem?_append_right (by omega), hl]
  congr 1; omega

theorem flat_take {L : List Ct} {k : Nat} (hk : k ≤ L.length) : (L.flatMap encCt).take (k * 4) = (L.take k).flatMap encCt := by
  have e : L.flatMap encCt = (L.take k).flatMap encCt ++ (L.drop k).flatMap encCt := by rw [← List.flatMap_append, List.take_append_drop]
  have hl : ((L.take k).flatMap encCt).length = k * 4 := by rw [flatCt_len]; simp; omega
  rw [e, List.take_append_of_le_length (by omega), List.take_of_length_le (by omega)]

theorem owns_shift {w : World} {base g cap k k1 n1 : Nat} {L : List Ct} {cur : Array Value} (hk : k < L.length) (hk1 : k1 = k + 1) (hn1 : L.length + 1 = n1) (hcu : w.heap[g]? = some (.cells cur 111 (0, 0))) (hcap : n1 ≤ cap) (hmax : cap ≤ maxLen) (hcs : cur.size = cap * 4)
    (htake : cur.toList.take (n1 * 4) = L.flatMap encCt ++ [.int .i64 0, .int .i64 0, .int .i64 0, .int .i64 0]) (hg : base ≤ g) :
    (w.setRow g (cur.toList.take (k1 * 4) ++ ((L.drop k).flatMap encCt ++ cur.toList.drop (k1 * 4 + ((L.drop k).flatMap encCt).length))).toArray).ownsRow base 111 4 (.slice (some ⟨g, 0, none⟩) n1 cap) n1 ((L.take k1 ++ L.drop k).flatMap encCt) := by
  have hdl : ((L.drop k).flatMap encCt).length = (L.length - k) * 4 := by rw [flatCt_len]; simp
  have hcl : cur.toList.length = cap * 4 := by simpa using hcs
  have htl : (cur.toList.take (k1 * 4)).length = k1 * 4 := by simp; omega
  refine ⟨by rw [flatCt_len]; simp; omega, Or.inr ⟨g, cap, _, rfl, hg, setRow_heap w g cur _ _ _ hcu, hcap, hmax, ?_, ?_⟩⟩
  · simp only [List.size_toArray, List.length_append, htl, hdl, List.length_drop, hcl]; omega
  · have e1 : cur.toList.take (k1 * 4) = (L.take k1).flatMap encCt := by
      have q : (cur.toList.take (n1 * 4)).take (k1 * 4) = cur.toList.take (k1 * 4) := by rw [List.take_take]; congr 1; omega
      rw [← q, htake, List.take_append_of_le_length (by rw [flatCt_len]; omega), flat_take (by omega)]
    rw [flatCt_append, ← e1]
    simp only
    rw [← List.append_assoc, List.take_append_of_le_length (by simp only [List.length_append, htl, hdl]; omega), List.take_of_length_le (by simp only [List.length_append, htl, hdl]; omega)]

theorem fin_put {w : World} {base g cap n1 : Nat} {M : List Ct} (h : w.ownsRow base 111 4 (.slice (some ⟨g, 0, none⟩) n1 cap) n1 (M.flatMap encCt)) (hn : M.length = n1) {k : Nat} (hk : k < n1) (t : Tm) :
    ((((((w.setCell ⟨g, k * 4, none⟩ (.int .i64 t.op)).setCell ⟨g, k * 4 + 1, none⟩ (.int .i64 t.a)).setCell ⟨g, k * 4 + 2, none⟩ (.int .i64 t.b)).setCell ⟨g, k * 4 + 3, none⟩ (.int .i64 0)).setCell ⟨g, k * 4 + 3, none⟩ (.int .i64 1))).ownsRow base 111 4 (.slice (some ⟨g, 0, none⟩) n1 cap) n1 ((M.set k ⟨t, 1⟩).flatMap encCt) ∧
    Keeps [g] w ((((((w.setCell ⟨g, k * 4, none⟩ (.int .i64 t.op)).setCell ⟨g, k * 4 + 1, none⟩ (.int .i64 t.a)).setCell ⟨g, k * 4 + 2, none⟩ (.int .i64 t.b)).setCell ⟨g, k * 4 + 3, none⟩ (.int .i64 0)).setCell ⟨g, k * 4 + 3, none⟩ (.int .i64 1))) := by
  refine ⟨?_, (((((Keeps.refl [g] w).setCell (p := ⟨g, k * 4, none⟩) (by simp) _).setCell (p := ⟨g, k * 4 + 1, none⟩) (by simp) _).setCell (p := ⟨g, k * 4 + 2, none⟩) (by simp) _).setCell (p := ⟨g, k * 4 + 3, none⟩) (by simp) _).setCell (p := ⟨g, k * 4 + 3, none⟩) (by simp) _⟩
  have q := ((owns_put h hn hk ⟨t, 0⟩).stored (k * 4 + 3) (.int .i64 1)).1
  have e := flat_set3 (M := M.set k ⟨t, 0⟩) (k := k) (c := ⟨t, 0⟩) (by rw [List.getElem?_set]; simp; omega) 1
  rw [← e, List.set_set] at q
  exact q

theorem shift_set {L : List Ct} {k k1 : Nat} (hk : k < L.length) (hk1 : k1 = k + 1) (x : Ct) : (L.take k1 ++ L.drop k).set k x = L.take k ++ x :: L.drop k := by
  subst hk1
  rw [List.take_add_one, List.getElem?_eq_getElem hk]
  simp only [Option.toList_some, List.append_assoc]
  rw [List.set_append_right _ _ (by simp; omega)]
  have : (L.take k).length = k := by simp; omega
  rw [this, Nat.sub_self]
  rfl

set_option maxHeartbeats 2000000 in
set_option maxRecDepth 100000 in
theorem onceMore_any (v : Value) (L : List Ct) (t : Tm) (base : Nat) (w : World) (hown : w.ownsRow base 111 4 v L.length (L.flatMap encCt)) (hbase : base ≤ w.heap.size) (hl : L.length ≤ 131072) (hcn : ∀ c ∈ L, 0 ≤ c.n ∧ c.n ≤ 131072) :
    Calls Try.prog 74 #[v, .agg #[.int .i64 t.op, .int .i64 t.a, .int .i64 t.b]] w fun e w' => ∃ v', e = .returned v' ∧ w'.ownsRow base 111 4 v' (omore L t).length ((omore L t).flatMap encCt) ∧ w.grownBy w' v.ownBlock ∧ (v'.ownBlock = v.ownBlock ∨ ∀ g, v'.ownBlock = some g → w.heap.size ≤ g) := by
  obtain ⟨i0, hi, hz0, hz1, hz2⟩ := info_parts info_count
  obtain ⟨a, cap, rfl, hC⟩ := cts_of_owns hown
  go_enter Try.func74, Try.ntmps74
  go_wp2
  have hb0 : Below w.heap.size w (w.alloc (.cells #[.int .i64 t.op, .int .i64 t.a, .int .i64 t.b] 36)) := (Below.refl _ w).alloc (Nat.le_refl _) _
  have hk0 : (w.alloc (.cells #[.int .i64 t.op, .int .i64 t.a, .int .i64 t.b] 36)).heap[w.heap.size]? = some (.cells #[.int .i64 t.op, .int .i64 t.a, .int .i64 t.b] 36 (0, 0)) := blk_new rfl
  generalize w.alloc (.cells #[.int .i64 t.op, .int .i64 t.a, .int .i64 t.b] 36) = W0 at hb0 hk0 ⊢
  have hs0 := blk_lt hk0
  have HO := hide hown
  have HC := hide (hC.below hb0)
  have HB0 := hide hb0
  have HK0 := hide hk0
  have HCN := hide hcn
  clear hown hC hb0 hk0 hcn
  go_loopw [5] (fun i wr => ∃ k : Nat, k ≤ L.length ∧ i = .int .i64 k ∧ (∀ d ∈ L.take k, abv t d.t = true) ∧ Below W0.heap.size W0 wr) (fun i _ => L.length - (intOf i).toNat)
  case atStart => exact ⟨0, Nat.zero_le _, rfl, by simp, Below.refl _ _⟩
  case round =>
    obtain ⟨k, hk, rfl, hn, hb⟩ := hrel
    have HN := hide hn
    have hsr := hb.size
    have hkr : wr.heap[w.heap.size]? = _ := (hb.block _ hs0).trans HK0.out
    have HBr := hide hb
    have HOr := hide (ownsRow_below HO.out (HB0.out.trans (hb.mono (by have := HB0.out.size; omega))) (Nat.le_refl _))
    clear hn hb
    by_cases hlt : k < L.length
    · obtain ⟨c, hc⟩ : ∃ c, L[k]? = some c := ⟨L[k], List.getElem?_eq_getElem hlt⟩
      obtain ⟨b, off, rfl, hbl, c0, c1, c2, c3⟩ := (HC.out.below HBr.out).at hc
      have hoff : off = 0 := by
        rcases HO.out.2 with ⟨q, _⟩ | ⟨g, cap', cur, q, _⟩
        · cases q
        · cases q; rfl
      subst hoff
      simp only [Nat.zero_add] at c0 c1 c2 c3
      have hlt' : (k : Int) < (L.length : Int) := by omega
      have HX := hide hc
      have HS := hide (fun (u : World) (hB : Below wr.heap.size wr u) => (show u.cell? ⟨w.heap.size, 0, none⟩ = some (.int .i64 t.op) ∧ u.cell? ⟨w.heap.size, 1, none⟩ = some (.int .i64 t.a) ∧ u.cell? ⟨w.heap.size, 2, none⟩ = some (.int .i64 t.b) ∧ u.cell? ⟨b, k * 4, none⟩ = some (.int .i64 c.t.op) ∧ u.cell? ⟨b, k * 4 + 1, none⟩ = some (.int .i64 c.t.a) ∧ u.cell? ⟨b, k * 4 + 2, none⟩ = some (.int .i64 c.t.b) from
        ⟨(hB.cell (p := ⟨w.heap.size, 0, none⟩) (blk_lt hkr)).trans (blk_cell hkr 0), (hB.cell (p := ⟨w.heap.size, 1, none⟩) (blk_lt hkr)).trans (blk_cell hkr 1), (hB.cell (p := ⟨w.heap.size, 2, none⟩) (blk_lt hkr)).trans (blk_cell hkr 2), (hB.cell (p := ⟨b, _, none⟩) hbl).trans c0, (hB.cell (p := ⟨b, _, none⟩) hbl).trans c1, (hB.cell (p := ⟨b, _, none⟩) hbl).trans c2⟩))
      clear hc c0 c1 c2 c3 hkr
      go_wp2
      go_region_held3 (fun u => u.cell? ⟨w.heap.size, 0, none⟩ = some (.int .i64 t.op) ∧ u.cell? ⟨w.heap.size, 1, none⟩ = some (.int .i64 t.a) ∧ u.cell? ⟨w.heap.size, 2, none⟩ = some (.int .i64 t.b) ∧ u.cell? ⟨b, k * 4, none⟩ = some (.int .i64 c.t.op) ∧ u.cell? ⟨b, k * 4 + 1, none⟩ = some (.int .i64 c.t.a) ∧ u.cell? ⟨b, k * 4 + 2, none⟩ = some (.int .i64 c.t.b)) (first
        | exact HS.out _ hB3
        | exact HS.out _ (Below.refl _ wr).drew
        | exact HS.out _ (Below.refl _ wr)) (first
        | (go_at_call 107; refine (above_any t c.t _).mono ?_; rintro e w3 ⟨rfl, hb3⟩; have hB3 : Below wr.heap.size wr w3 := (Below.refl _ wr).drew.trans hb3))
      have HB3 := hide hB3
      have HO3 := hide (ownsRow_below HOr.out hB3 (Nat.le_refl _))
      have HBw := hide (HB0.out.trans ((HBr.out.trans (hB3.mono hsr)).mono HB0.out.size))
      obtain ⟨t0, t1, t2, c0, c1, c2⟩ := HS.out w3 hB3
      clear hB3 hb3
      cases hab : abv t c.t
      · by_cases e : c.t = t
        · have HE := hide (omore_found HN.out HX.out e)
          subst e
          have c3 := (cells_at HO3.out HX.out rfl).2.2.2
          have f3 := HO3.out.frozenAt (k * 4 + 3)
          have hcc := HCN.out c (List.mem_of_getElem? HX.out)
          have hne : ((k : Int) == (L.length : Int)) = false := by simp; omega
          go_wp2
          go_quiet (fail)
          go_wp2
          go_ret
          rw [HE.out, List.length_set]
          refine ⟨_, rfl, ?_, grown_put (below_grown HBw.out (World.grownBy.but ⟨rfl, rfl, rfl, Nat.le_refl _, fun _ _ _ => rfl⟩ _)) (Or.inl rfl) ((Keeps.refl [b] w3).drewN nq |>.setCell (p := ⟨b, k * 4 + 3, none⟩) (by simp) _), Or.inl rfl⟩
          rw [flat_set3 HX.out]
          exact ((owns_drewN HO3.out nq).stored _ _).1
        · have HE := hide (omore_ins HN.out hk (fun d hd => by rw [HX.out] at hd; cases hd; exact ⟨hab, e⟩))
          have hq : ¬ (c.t.op = t.op ∧ c.t.a = t.a ∧ c.t.b = t.b) := fun h => e (by cases t; cases hct : c.t; rw [hct] at h; simp at h; obtain ⟨rfl, rfl, rfl⟩ := h; rfl)
          have hne : ((k : Int) == (L.length : Int)) = false := by simp; omega
          clear e
          go_upto_region 4 with fail
          go_cut [33] from 21 to 33 (fun v33 wx => v33 = .bool true ∧ ∃ m, wx = w3.drewN m)
          case first =>
            by_cases e1 : c.t.op = t.op
            · have e1' : (c.t.op == t.op) = true := by simp [e1]
              by_cases e2 : c.t.a = t.a
              · have e2' : (c.t.a == t.a) = true := by simp [e2]
                have e3' : (c.t.b == t.b) = false := by simp; intro e3; exact hq ⟨e1, e2, e3⟩
                clear hq
                go_quiet (fail)
                go_wp2
                go_meet
                exact ⟨rfl, nq, rfl⟩
              · have e2' : (c.t.a == t.a) = false := by simp [e2]
                clear hq
                go_quiet (fail)
                go_wp2
                go_meet
                exact ⟨rfl, nq, rfl⟩
            · have e1' : (c.t.op == t.op) = false := by simp [e1]
              clear hq
              go_quiet (fail)
              go_wp2
              go_meet
              exact ⟨rfl, nq, rfl⟩
          case rest =>
            obtain ⟨rfl, m, rfl⟩ := hcut
            have qz := blk_cell (w := (w3.drewN m).alloc (.cells #[.int .i64 0, .int .i64 0, .int .i64 0, .int .i64 0] 111)) (b := w3.heap.size) (blk_new rfl)
            have QZ := hide qz
            clear qz
            go_wp2_with (at_builtin; refine wpList_append_lies _ rfl (.tmp 34) (.tmp 36) 40 rfl base 111 i0 _ 4 32 Try.underlying40 hi hz0 hz1 hz2 rfl (by decide) _ _ _ rfl ((owns_drewN HO3.out m).alloc _) ⟨w3.heap.size, 0, none⟩ 1 1 [.int .i64 0, .int .i64 0, .int .i64 0, .int .i64 0] rfl rfl ?c1 ?c2 (by omega) ?c3 ?c4 ?c5 _ rfl ?_)
            case c1 =>
              intro j u hj
              match j, hj with
              | 0, hj => simp at hj; subst hj; simp [Addr.add]; exact QZ.out 0
              | 1, hj => simp at hj; subst hj; simp [Addr.add]; exact QZ.out 1
              | 2, hj => simp at hj; subst hj; simp [Addr.add]; exact QZ.out 2
              | 3, hj => simp at hj; subst hj; simp [Addr.add]; exact QZ.out 3
              | j + 4, hj => simp at hj
            case c2 => intro u hu; simp at hu; rcases hu with rfl | rfl | rfl | rfl <;> rfl
            case c3 => unfold maxLen; omega
            case c4 => omega
            case c5 => have := HBw.out.size; simp; omega
            intro g cap4 w4 hown4 hg4 hat4 hlt4
            have hs3 := HBw.out.size
            have hw3 : w.heap.size < w3.heap.size := by have := HB3.out.size; omega
            have hbw : b < w.heap.size := (HO.out.lt b rfl).2
            have hblk : w4.heap[w.heap.size]? = w3.heap[w.heap.size]? := (hg4.block _ (by simp; omega) (by simp [Value.ownBlock]; omega)).trans (Below.heap_alloc _ _ _ (by show w.heap.size < w3.heap.size; omega))
            replace t0 := (World.cell?_of_block (a := ⟨w.heap.size, 0, none⟩) hblk).trans t0
            replace t1 := (World.cell?_of_block (a := ⟨w.heap.size, 1, none⟩) hblk).trans t1
            replace t2 := (World.cell?_of_block (a := ⟨w.heap.size, 2, none⟩) hblk).trans t2
            have HG4 := hide (below_grown ((below_drewN HBw.out m).alloc (by show w.heap.size ≤ w3.heap.size; omega) _) hg4)
            have hat : (Value.slice (some ⟨b, 0, none⟩) L.length cap).ownBlock = some g ∨ w.heap.size ≤ g := by
              rcases hat4 with h | h
              · exact Or.inl h
              · right; omega
            obtain ⟨cur, hcu, hcap, hmax, hcs, htake⟩ : ∃ cur, w4.heap[g]? = some (.cells cur 111 (0, 0)) ∧ L.length + 1 ≤ cap4 ∧ cap4 ≤ maxLen ∧ cur.size = cap4 * 4 ∧ cur.toList.take ((L.length + 1) * 4) = L.flatMap encCt ++ [.int .i64 0, .int .i64 0, .int .i64 0, .int .i64 0] := by
              rcases hown4.2 with ⟨q, _⟩ | ⟨g', cap', cur, q, _, h1, h2, h3, h4, h5⟩
              · cases q
              · injection q with q1 q2 q3
                injection q1 with q1
                injection q1 with q1
                subst q1 q3
                exact ⟨cur, h1, h2, h3, h4, h5⟩
            have HAT := hide hat
            have hw4 : w.heap.size < w4.heap.size := by have := hg4.size; simp at this; omega
            have hgw : g ≠ w.heap.size := by
              rcases hat4 with h | h
              · simp [Value.ownBlock] at h; omega
              · omega
            have HO4 := hide hown4
            have HCU := hide (And.intro hcu htake)
            have hgb : base ≤ g := (hown4.lt g rfl).1
            clear hblk hg4 hat4 hat hown4 hcu htake c0 c1 c2 HS HO3 QZ
            go_wp2
            generalize hn1 : L.length + 1 = n1 at *
            obtain ⟨k1, hk1⟩ : ∃ k1, k1 = k + 1 := ⟨_, rfl⟩
            refine wp_region_still_tail 7 (by kernel_rfl) (by kernel_rfl) ?_
            simp only [List.take_succ_cons, List.take_zero, List.drop_succ_cons, List.drop_zero]
            have hwr : IntKind.i64.wrap ((k : Int) + 1) = (k1 : Int) := by rw [IntWalk.i64_left]; unfold wrap64; omega
            have l1 : (k1 : Int) ≤ (n1 : Int) := by omega
            have l2 : (k1 : Int) ≤ (cap4 : Int) := by omega
            have l3 : (k : Int) ≤ (n1 : Int) := by omega
            have l8 : (n1 : Int) ≤ (cap4 : Int) := by omega
            have l4 : k1 < cap4 := by omega
            have l5 : k < cap4 := by omega
            have l6 : k1 ≤ n1 := by omega
            have l7 : k ≤ n1 := by omega
            have HK1 := hide hk1
            have HN1 := hide hn1
            clear hk1 hn1
            repeat still_step
            refine wpStill_nil ?_
            rw [if_neg (show ¬ cap4 = k1 by omega), if_neg (show ¬ cap4 = k by omega)]
            have hdl : ((L.drop k).flatMap encCt).length = (L.length - k) * 4 := by rw [flatCt_len]; simp
            refine wpList_copy4 rfl (.tmp 41) (.tmp 44) 40 40 rfl 111 Try.underlying40 (by rw [hi]; simp [hz1]) g (k1 * 4) (n1 - k1) (cap4 - k1) ⟨g, k * 4, none⟩ (n1 - k) (cap4 - k) rfl rfl cur 111 HCU.out.1 ((L.drop k).flatMap encCt) ?d1 ?d2 ?d3 ?d4 ?_
            case d1 =>
              have := HK1.out; have := HN1.out
              rw [hdl, show Nat.min (n1 - k) (n1 - k1) = n1 - k1 from Nat.min_eq_right (by omega)]; congr 1; omega
            case d2 =>
              intro j u hj
              have hjl := (List.getElem?_eq_some_iff.1 hj).1
              have e : (⟨g, k * 4, none⟩ : Addr).add j = ⟨g, k * 4 + j, none⟩ := by cases j <;> simp [Addr.add]
              have q : (cur.toList.take (n1 * 4))[k * 4 + j]? = some u := by
                rw [HCU.out.2, List.getElem?_append_left (by rw [flatCt_len]; omega), flat_drop (by omega)]; exact hj
              have := HN1.out
              rw [List.getElem?_take_of_lt (by omega), Array.getElem?_toList] at q
              rw [e]
              exact (blk_cell (w := w4) HCU.out.1 _).trans q
            case d3 => have := HK1.out; have := HN1.out; rw [hdl, hcs]; omega
            case d4 =>
              intro u hu
              rw [List.mem_flatMap] at hu
              obtain ⟨d, _, hd⟩ := hu
              simp [encCt] at hd
              rcases hd with rfl | rfl | rfl | rfl <;> rfl
            have hown5 := owns_shift (w := { heap := w4.heap, tape := w4.tape, drawn := w4.drawn + 1, os := w4.os, output := w4.output }) (base := base) (cap := cap4) hlt HK1.out HN1.out HCU.out.1 hcap hmax hcs HCU.out.2 hgb
            have K5 : Keeps [g] w4 (World.setRow { heap := w4.heap, tape := w4.tape, drawn := w4.drawn + 1, os := w4.os, output := w4.output } g (cur.toList.take (k1 * 4) ++ ((L.drop k).flatMap encCt ++ cur.toList.drop (k1 * 4 + ((L.drop k).flatMap encCt).length))).toArray) := ⟨rfl, rfl, rfl, by simp [World.setRow], fun j hj hn => by simp at hn; exact setRow_other w4.drew g j _ hn⟩
            generalize (World.setRow { heap := w4.heap, tape := w4.tape, drawn := w4.drawn + 1, os := w4.os, output := w4.output } g (cur.toList.take (k1 * 4) ++ ((L.drop k).flatMap encCt ++ cur.toList.drop (k1 * 4 + ((L.drop k).flatMap encCt).length))).toArray) = w5 at hown5 K5 ⊢
            replace t0 := (K5.cell (b := w.heap.size) (i := 0) (by omega) (by simpa using hgw.symm)).trans t0
            replace t1 := (K5.cell (b := w.heap.size) (i := 1) (by omega) (by simpa using hgw.symm)).trans t1
            replace t2 := (K5.cell (b := w.heap.size) (i := 2) (by omega) (by simpa using hgw.symm)).trans t2
            have hML : (L.take k1 ++ L.drop k).length = n1 := by have := HK1.out; have := HN1.out; simp; omega
            have hkn : k < n1 := by have := HN1.out; omega
            obtain ⟨x, hx⟩ : ∃ x, (L.take k1 ++ L.drop k)[k]? = some x := ⟨_, List.getElem?_eq_getElem (by omega)⟩
            obtain ⟨d0, d1, d2, d3⟩ := cells_at hown5 hx hML
            have f0 := hown5.frozenAt (k * 4)
            have f1 := hown5.frozenAt (k * 4 + 1)
            have f2 := hown5.frozenAt (k * 4 + 2)
            have f3 := hown5.frozenAt (k * 4 + 3)
            have HF := hide (fin_put hown5 hML hkn t)
            have HM := hide (shift_set (L := L) hlt HK1.out ⟨t, 1⟩)
            have HK5 := hide K5
            have hkn' : (k : Int) < (n1 : Int) := by omega
            have hMQ := hide hML
            clear hown5 K5 hx hML hdl hwr
            go_wp2
            go_ret
            rw [HE.out, ← HM.out, List.length_set, hMQ.out]
            refine ⟨_, rfl, HF.out.1, grown_put HG4.out HAT.out (HK5.out.trans HF.out.2), ?_⟩
            rcases HAT.out with h | h
            · exact Or.inl h.symm
            · exact Or.inr fun g' hg' => by simp [Value.ownBlock] at hg'; omega
      · go_wp2
        go_roundw
        case rel =>
          refine ⟨k + 1, by omega, by go_num, ?_, HBr.out.trans (HB3.out.mono hsr)⟩
          rw [List.take_add_one, HX.out]
          intro d hd
          rw [List.mem_append] at hd
          rcases hd with hd | hd
          · exact HN.out d hd
          · simp at hd; subst hd; exact hab
        case measure => simp [intOf]; omega
    · have hkL : k = L.length := by omega
      have HE := hide (omore_ins HN.out hk (fun d hd => by rw [List.getElem?_eq_none (by omega)] at hd; cases hd))
      have hlt' : ¬ (k : Int) < (L.length : Int) := by omega
      have hne : ((k : Int) == (L.length : Int)) = true := by simp; omega
      have t0 : wr.cell? ⟨w.heap.size, 0, none⟩ = some (.int .i64 t.op) := blk_cell hkr 0
      have t1 : wr.cell? ⟨w.heap.size, 1, none⟩ = some (.int .i64 t.a) := blk_cell hkr 1
      have t2 : wr.cell? ⟨w.heap.size, 2, none⟩ = some (.int .i64 t.b) := blk_cell hkr 2
      have HBw := hide (HB0.out.trans (HBr.out.mono HB0.out.size))
      have HKL := hide hkL
      clear hkr hkL
      go_wp2
      go_quiet (fail)
      obtain ⟨m1, hm1⟩ : ∃ m1, m1 = nq := ⟨_, rfl⟩
      rw [← hm1]
      clear hm1
      go_wp2
      go_quiet (fail)
      go_upto_region 5 with fail
      rw [World.drewN_drewN]
      obtain ⟨m, hm⟩ : ∃ m, m = m1 + nq := ⟨_, rfl⟩
      rw [← hm]
      clear hm
      have qz := blk_cell (w := (wr.drewN m).alloc (.cells #[.int .i64 0, .int .i64 0, .int .i64 0, .int .i64 0] 111)) (b := wr.heap.size) (blk_new rfl)
      have QZ := hide qz
      clear qz
      go_wp2_with (at_builtin; refine wpList_append_lies _ rfl (.tmp 34) (.tmp 36) 40 rfl base 111 i0 _ 4 32 Try.underlying40 hi hz0 hz1 hz2 rfl (by decide) _ _ _ rfl ((owns_drewN HOr.out m).alloc _) ⟨wr.heap.size, 0, none⟩ 1 1 [.int .i64 0, .int .i64 0, .int .i64 0, .int .i64 0] rfl rfl ?c1 ?c2 (by omega) ?c3 ?c4 ?c5 _ rfl ?_)
      case c1 =>
        intro j u hj
        match j, hj with
        | 0, hj => simp at hj; subst hj; simp [Addr.add]; exact QZ.out 0
        | 1, hj => simp at hj; subst hj; simp [Addr.add]; exact QZ.out 1
        | 2, hj => simp at hj; subst hj; simp [Addr.add]; exact QZ.out 2
        | 3, hj => simp at hj; subst hj; simp [Addr.add]; exact QZ.out 3
        | j + 4, hj => simp at hj
      case c2 => intro u hu; simp at hu; rcases hu with rfl | rfl | rfl | rfl <;> rfl
      case c3 => unfold maxLen; omega
      case c4 => omega
      case c5 => have := HBw.out.size; simp; omega
      intro g cap4 w4 hown4 hg4 hat4 hlt4
      have hs3 := HBw.out.size
      have hw3 : w.heap.size < wr.heap.size := by omega
      have hbw : ∀ b, (Value.slice a L.length cap).ownBlock = some b → b < w.heap.size := fun b hb => (HO.out.lt b hb).2
      have hblk : w4.heap[w.heap.size]? = wr.heap[w.heap.size]? := (hg4.block _ (by simp; omega) (fun q => by have := hbw _ q.symm; omega)).trans (Below.heap_alloc _ _ _ (by show w.heap.size < wr.heap.size; omega))
      replace t0 := (World.cell?_of_block (a := ⟨w.heap.size, 0, none⟩) hblk).trans t0
      replace t1 := (World.cell?_of_block (a := ⟨w.heap.size, 1, none⟩) hblk).trans t1
      replace t2 := (World.cell?_of_block (a := ⟨w.heap.size, 2, none⟩) hblk).trans t2
      have HG4 := hide (below_grown ((below_drewN HBw.out m).alloc (by show w.heap.size ≤ wr.heap.size; omega) _) hg4)
      have hat : (Value.slice a L.length cap).ownBlock = some g ∨ w.heap.size ≤ g := by
        rcases hat4 with h | h
        · exact Or.inl h
        · right; omega
      obtain ⟨cur, hcu, hcap, hmax, hcs, htake⟩ : ∃ cur, w4.heap[g]? = some (.cells cur 111 (0, 0)) ∧ L.length + 1 ≤ cap4 ∧ cap4 ≤ maxLen ∧ cur.size = cap4 * 4 ∧ cur.toList.take ((L.length + 1) * 4) = L.flatMap encCt ++ [.int .i64 0, .int .i64 0, .int .i64 0, .int .i64 0] := by
        rcases hown4.2 with ⟨q, _⟩ | ⟨g', cap', cur, q, _, h1, h2, h3, h4, h5⟩
        · cases q
        · injection q with q1 q2 q3
          injection q1 with q1
          injection q1 with q1
          subst q1 q3
          exact ⟨cur, h1, h2, h3, h4, h5⟩
      have HAT := hide hat
      have hw4 : w.heap.size < w4.heap.size := by have := hg4.size; simp at this; omega
      have hgw : g ≠ w.heap.size := by
        rcases hat4 with h | h
        · have := hbw _ h; omega
        · omega
      have HO4 := hide hown4
      have HCU := hide (And.intro hcu htake)
      have hgb : base ≤ g := (hown4.lt g rfl).1
      clear hblk hg4 hat4 hat hown4 hcu htake HOr QZ
      go_wp2
      generalize hn1 : L.length + 1 = n1 at *
      obtain ⟨k1, hk1⟩ : ∃ k1, k1 = k + 1 := ⟨_, rfl⟩
      refine wp_region_still_tail 7 (by kernel_rfl) (by kernel_rfl) ?_
      simp only [List.take_succ_cons, List.take_zero, List.drop_succ_cons, List.drop_zero]
      have hwr : IntKind.i64.wrap ((k : Int) + 1) = (k1 : Int) := by rw [IntWalk.i64_left]; unfold wrap64; omega
      have hke := HKL.out
      have l1 : (k1 : Int) ≤ (n1 : Int) := by omega
      have l2 : (k1 : Int) ≤ (cap4 : Int) := by omega
      have l3 : (k : Int) ≤ (n1 : Int) := by omega
      have l8 : (n1 : Int) ≤ (cap4 : Int) := by omega
      have l4 : k1 ≤ cap4 := by omega
      have l5 : k < cap4 := by omega
      have l6 : k1 ≤ n1 := by omega
      have l7 : k ≤ n1 := by omega
      have hkn : k < n1 := by omega
      have HMIN := hide (show Nat.min (n1 - k) (n1 - k1) = 0 by rw [show n1 - k1 = 0 by omega]; exact Nat.min_zero _)
      have HK1 := hide hk1
      have HN1 := hide hn1
      have hM0 : (L ++ [(⟨⟨0, 0, 0⟩, 0⟩ : Ct)]).length = n1 := by simp; omega
      clear hk1 hn1 hke
      repeat still_step
      refine wpStill_nil ?_
      rw [if_neg (show ¬ cap4 = k by omega)]
      generalize (if cap4 = k1 then some (⟨g, 0, none⟩ : Addr) else some ⟨g, k1 * 4, none⟩) = p41
      refine wpList_copy4_none rfl (.tmp 41) (.tmp 44) 40 40 rfl 111 Try.underlying40 (by rw [hi]; simp [hz1]) _ _ (n1 - k1) (cap4 - k1) (n1 - k) (cap4 - k) rfl rfl HMIN.out ?_
      have hown5 : World.ownsRow { heap := w4.heap, tape := w4.tape, drawn := w4.drawn + 1, os := w4.os, output := w4.output } base 111 4 (.slice (some ⟨g, 0, none⟩) n1 cap4) n1 ((L ++ [(⟨⟨0, 0, 0⟩, 0⟩ : Ct)]).flatMap encCt) := by
        rw [flatCt_append]; exact HO4.out
      have K5 : Keeps [g] w4 { heap := w4.heap, tape := w4.tape, drawn := w4.drawn + 1, os := w4.os, output := w4.output } := ⟨rfl, rfl, rfl, Nat.le_refl _, fun _ _ _ => rfl⟩
      generalize ({ heap := w4.heap, tape := w4.tape, drawn := w4.drawn + 1, os := w4.os, output := w4.output } : World) = w5 at hown5 K5 ⊢
      replace t0 := (K5.cell (b := w.heap.size) (i := 0) (by omega) (by simpa using hgw.symm)).trans t0
      replace t1 := (K5.cell (b := w.heap.size) (i := 1) (by omega) (by simpa using hgw.symm)).trans t1
      replace t2 := (K5.cell (b := w.heap.size) (i := 2) (by omega) (by simpa using hgw.symm)).trans t2
      obtain ⟨x, hx⟩ : ∃ x, (L ++ [(⟨⟨0, 0, 0⟩, 0⟩ : Ct)])[k]? = some x := ⟨_, List.getElem?_eq_getElem (by omega)⟩
      obtain ⟨d0, d1, d2, d3⟩ := cells_at hown5 hx hM0
      have f0 := hown5.frozenAt (k * 4)
      have f1 := hown5.frozenAt (k * 4 + 1)
      have f2 := hown5.frozenAt (k * 4 + 2)
      have f3 := hown5.frozenAt (k * 4 + 3)
      have HF := hide (fin_put hown5 hM0 hkn t)
      have HM := hide (show (L ++ [(⟨⟨0, 0, 0⟩, 0⟩ : Ct)]).set k ⟨t, 1⟩ = L.take k ++ ⟨t, 1⟩ :: L.drop k by
        rw [HKL.out, List.set_append_right _ _ (Nat.le_refl _), Nat.sub_self, List.take_of_length_le (Nat.le_refl _), List.drop_of_length_le (Nat.le_refl _)]; rfl)
      have HK5 := hide K5
      have hMQ := hide hM0
      have hkn' : (k : Int) < (n1 : Int) := by omega
      clear hown5 K5 hx hM0 hwr
      go_wp2
      go_ret
      rw [HE.out, ← HM.out, List.length_set, hMQ.out]
      refine ⟨_, rfl, HF.out.1, grown_put HG4.out HAT.out (HK5.out.trans HF.out.2), ?_⟩
      rcases HAT.out with h | h
      · exact Or.inl h.symm
      · exact Or.inr fun g' hg' => by simp [Value.ownBlock] at hg'; omega
end Go.Proofs.Ytoikglgnmjjpcaa
