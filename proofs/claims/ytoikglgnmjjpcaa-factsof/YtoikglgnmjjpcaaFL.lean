/-
  The facts as the document reckons them: plain facts.
  What lies in memory while the document reckons the facts; its lists of yes.
-/
import Derived.Test.YtoikglgnmjjpcaaGC
import Derived.Test.YtoikglgnmjjpcaaFD
import Derived.Maps.AppendAt
namespace Go.Proofs.Ytoikglgnmjjpcaa
set_option linter.unusedVariables false
set_option linter.unusedSimpArgs false

/-- The question where the one who is asked has said yes. -/
def selfT (F : (Nat → Bool) → Nat → Bool) (x : Nat → Bool) (n : Nat) : Bool := F (fun m => m == n || x m) n

theorem selfT_mono {F : (Nat → Bool) → Nat → Bool} (hF : Mono F) : Mono (selfT F) := by
  intro x y hxy n h
  refine hF _ _ (fun m hm => ?_) n h
  simp only [Bool.or_eq_true] at hm ⊢
  exact hm.imp id (hxy m)

theorem selfT_isG {F : (Nat → Bool) → Nat → Bool} {k : Nat} {x : List Bool} (hF : Mono F) (h : IsG (selfT F) k x) : IsG F k x := by
  have hle : ∀ (y : Nat → Bool) n, F y n = true → selfT F y n = true := fun y n hy => hF _ _ (fun m hm => by simp [hm]) n hy
  refine ⟨h.len, fun n hn => ?_, fun y hb hy => h.top y hb fun n hn hyn => hle y n (hy n hn hyn)⟩
  have h1 := h.fix n hn
  cases e : bat x n
  · cases e2 : F (bat x) n
    · rfl
    · rw [e, hle _ n e2] at h1; cases h1
  · have h2 : (fun m => m == n || bat x m) = bat x := by
      funext m
      by_cases q : m = n
      · subst q; simp [e]
      · simp [q]
    rw [e, selfT, h2] at h1
    exact h1

theorem gr_selfT {F : (Nat → Bool) → Nat → Bool} (hF : Mono F) (k : Nat) : gr (selfT F) k = gr F k := (selfT_isG hF (gr_isG (selfT_mono hF) k)).eq_gr hF

theorem bat_nol (k m : Nat) : bat (nol k) m = false := by simp [bat, nol, List.getD_eq_getElem?_getD, List.getElem?_replicate]; split <;> rfl
theorem bat_yesl {k m : Nat} (h : m < k) : bat (yesl k) m = true := bat_yes h

theorem all_eq {l : List Nat} {p q : Nat → Bool} (h : ∀ m ∈ l, p m = q m) : l.all p = l.all q := by
  induction l with
  | nil => rfl
  | cons a l ih =>
    simp only [List.all_cons]
    rw [h a (by simp), ih fun m hm => h m (by simp [hm])]
theorem any_eq {l : List Nat} {p q : Nat → Bool} (h : ∀ m ∈ l, p m = q m) : l.any p = l.any q := by
  induction l with
  | nil => rfl
  | cons a l ih =>
    simp only [List.any_cons]
    rw [h a (by simp), ih fun m hm => h m (by simp [hm])]
theorem allOr_false (l : List Nat) (p : Nat → Bool) : allOr false l p = (decide (0 < l.length) && l.all p) := by
  cases l <;> simp [allOr]
theorem allOr_true (l : List Nat) (p : Nat → Bool) : allOr true l p = l.all p := by
  cases l <;> simp [allOr]
theorem not_all (l : List Nat) (p : Nat → Bool) : (!l.all p) = l.any fun m => !p m := by
  induction l with
  | nil => rfl
  | cons a l ih => simp only [List.all_cons, List.any_cons, Bool.not_and, ih]
theorem nxl_lt {ns : List Nd} {n m : Nat} (h : m ∈ nxl ns n) : m < ns.length := (mem_nxl.1 h).1
theorem ahl_lt {ns : List Nd} {n m : Nat} (h : m ∈ ahl ns n) : m < ns.length := (mem_ahl.1 h).1


theorem down_step {ns : List Nd} {t : Tm} {n : Nat} (y : Nat → Bool) (hn : n < ns.length) :
    sayF ns (downW ns t) y n = (bat (rcl ns t) n || (bat (kpl ns t) n && decide (0 < (nxl ns n).length) && (nxl ns n).all y)) := by
  simp only [sayF, downW, nbs, if_true, allOr_false]
  rw [all_eq (q := y) fun m hm => by rw [bat_nol, bat_yesl (nxl_lt hm)]; simp]
  cases bat (rcl ns t) n <;> cases bat (kpl ns t) n <;> simp

theorem both_bat {ns : List Nd} {t : Tm} {m : Nat} (h : m < ns.length) : bat (bothl ns t) m = (bat (kpl ns t) m && bat (rcl ns t) m) := by
  obtain ⟨x, hx⟩ : ∃ x, ns[m]? = some x := ⟨_, List.getElem?_eq_getElem h⟩
  rw [bothl, kpl, rcl, bat_mapn hx, bat_mapn hx, bat_mapn hx]
theorem nrc_bat {ns : List Nd} {t : Tm} {m : Nat} (h : m < ns.length) : bat (nrcl ns t) m = !bat (rcl ns t) m := by
  obtain ⟨x, hx⟩ : ∃ x, ns[m]? = some x := ⟨_, List.getElem?_eq_getElem h⟩
  rw [nrcl, rcl, bat_mapn hx, bat_mapn hx]

/-- What the document asks of one that node n is reached from, of up. -/
def upQ (ns : List Nd) (t : Tm) (n : Nat) (y : Nat → Bool) (m : Nat) : Bool := bat (kpl ns t) m && ((m == n || y m) || bat (rcl ns t) m)
theorem up_step {ns : List Nd} {t : Tm} {n : Nat} (y : Nat → Bool) (hn : n < ns.length) :
    selfT (sayF ns (upW ns t)) y n = (decide (0 < (ahl ns n).length) && (ahl ns n).all (upQ ns t n y)) := by
  simp only [selfT, sayF, upW, nbs, if_false, allOr_false, Bool.false_eq_true]
  rw [bat_nol, bat_yesl hn, all_eq (q := upQ ns t n y) fun m hm => by
    rw [both_bat (ahl_lt hm), upQ]
    cases bat (kpl ns t) m <;> cases bat (rcl ns t) m <;> simp]
  simp

def aloneQ (ns : List Nd) (t : Tm) (n : Nat) (y : Nat → Bool) (m : Nat) : Bool := bat (lateL ns t) m || (!bat (rcl ns t) m && (m == n || y m))
theorem alone_step {ns : List Nd} {t : Tm} {n : Nat} (y : Nat → Bool) (hn : n < ns.length) :
    selfT (sayF ns (aloneW ns t)) y n = (nxl ns n).all (aloneQ ns t n y) := by
  simp only [selfT, sayF, aloneW, nbs, if_true, allOr_true]
  rw [bat_nol, bat_yesl hn, all_eq (q := aloneQ ns t n y) fun m hm => by
    rw [nrc_bat (nxl_lt hm), aloneQ]]
  simp

def delayQ (ns : List Nd) (t : Tm) (y : Nat → Bool) (m : Nat) : Bool := y m && !bat (rcl ns t) m
theorem delay_step {ns : List Nd} {t : Tm} {n : Nat} (y : Nat → Bool) (hn : n < ns.length) :
    sayF ns (delayW ns t) y n = (bat (earlyL ns t) n || (decide (0 < (ahl ns n).length) && (ahl ns n).all (delayQ ns t y))) := by
  simp only [sayF, delayW, nbs, if_false, allOr_false, Bool.false_eq_true]
  rw [bat_yesl hn, all_eq (q := delayQ ns t y) fun m hm => by
    rw [bat_nol, nrc_bat (ahl_lt hm), delayQ]
    cases y m <;> cases bat (rcl ns t) m <;> simp]
  simp

def earlyQ (ns : List Nd) (t : Tm) (m : Nat) : Bool := !bat (kpl ns t) m || (!bat (downL ns t) m && !bat (upL ns t) m)
theorem early_step {ns : List Nd} {t : Tm} {n : Nat} (hn : n < ns.length) :
    bat (earlyL ns t) n = (bat (downL ns t) n && (decide ((ahl ns n).length = 0) || (ahl ns n).any (earlyQ ns t))) := by
  rw [earlyL, bat_map _ hn, not_all, any_eq (q := earlyQ ns t) fun m hm => by
    rw [earlyQ]; cases bat (kpl ns t) m <;> cases bat (downL ns t) m <;> cases bat (upL ns t) m <;> rfl]
  cases ahl ns n <;> simp

theorem late_step {ns : List Nd} {t : Tm} {n : Nat} (hn : n < ns.length) :
    bat (lateL ns t) n = (bat (delayL ns t) n && (bat (rcl ns t) n || (nxl ns n).any fun m => !bat (delayL ns t) m)) := by
  rw [lateL, bat_map _ hn, not_all]

theorem take_all_succ {l : List Nat} {q m : Nat} (p : Nat → Bool) (h : l[q]? = some m) : (l.take (q + 1)).all p = ((l.take q).all p && p m) := by
  have hq := (List.getElem?_eq_some_iff.1 h)
  obtain ⟨hlt, he⟩ := hq
  rw [List.take_add_one, h]; simp [List.all_append]
theorem take_any_succ {l : List Nat} {q m : Nat} (p : Nat → Bool) (h : l[q]? = some m) : (l.take (q + 1)).any p = ((l.take q).any p || p m) := by
  rw [List.take_add_one, h]; simp [List.any_append]

end Go.Proofs.Ytoikglgnmjjpcaa

namespace Go.Proofs.Ytoikglgnmjjpcaa
open Go.RowKit Go.Shelf
set_option linter.unusedVariables false
set_option linter.unusedSimpArgs false

theorem P1 {α : Type} (l : List α) (i : Nat) (a : α) : l.toArray.setIfInBounds i a = (l.set i a).toArray := List.setIfInBounds_toArray l i a
theorem P2 {α : Type} {x a : α} {xs : List α} : (x :: xs).set 0 a = a :: xs := rfl
theorem P3 {α : Type} {x a : α} {i : Nat} {xs : List α} : (x :: xs).set (i + 1) a = x :: xs.set i a := rfl

theorem blk_ne {w : World} {b b' : Nat} {cs cs' : Array Value} {t t' : TypeId} (h : w.heap[b]? = some (.cells cs t (0, 0))) (h' : w.heap[b']? = some (.cells cs' t' (0, 0))) (hne : t ≠ t') : b ≠ b' := by
  rintro rfl
  rw [h] at h'
  cases h'
  exact hne rfl

/-- A table of rows of numbers, that grows. -/
def Tab (w : World) (base : Nat) (v : Value) (k : Nat) (F : Nat → List Nat) : Prop :=
  ∃ vs : List Value, w.ownsRow base 25 1 v k vs ∧ ∀ m, m < k → ∃ u, vs[m]? = some u ∧ w.ownsRow 0 3 1 u (F m).length ((ints (F m)).map (Value.int .i64))

theorem Tab.below {w w' : World} {base : Nat} {v : Value} {k : Nat} {F : Nat → List Nat} (h : Tab w base v k F) (hb : Below w.heap.size w w') : Tab w' base v k F := by
  obtain ⟨vs, h1, h2⟩ := h
  refine ⟨vs, ownsRow_below h1 hb (Nat.le_refl _), fun m hm => ?_⟩
  obtain ⟨u, h3, h4⟩ := h2 m hm
  exact ⟨u, h3, ownsRow_below h4 hb (Nat.le_refl _)⟩
theorem Tab.set {w : World} {base : Nat} {v u : Value} {k b o : Nat} {F : Nat → List Nat} {cs : Array Value} {t : TypeId} (h : Tab w base v k F) (hb : w.heap[b]? = some (.cells cs t (0, 0))) (h1 : t ≠ 25) (h2 : t ≠ 3) : Tab (w.setCell ⟨b, o, none⟩ u) base v k F := by
  obtain ⟨vs, k1, k2⟩ := h
  refine ⟨vs, owns_set k1 hb h1, fun m hm => ?_⟩
  obtain ⟨u, h3, h4⟩ := k2 m hm
  exact ⟨u, h3, owns_set h4 hb h2⟩
theorem Tab.read {w : World} {base : Nat} {v : Value} {k m : Nat} {F : Nat → List Nat} (h : Tab w base v k F) (hm : m < k) : ∃ g c a d, v = .slice (some ⟨g, 0, none⟩) k c ∧ g < w.heap.size ∧ w.cell? ⟨g, m, none⟩ = some (.slice a (F m).length d) ∧ IntsAt w a (ints (F m)) := by
  obtain ⟨vs, h1, h2⟩ := h
  obtain ⟨u, h3, h4⟩ := h2 m hm
  obtain ⟨a, d, rfl, hI⟩ := ints_of_owns (zs := ints (F m)) (by rw [ints_len]; exact h4)
  rw [ints_len] at h3
  rcases h1.2 with ⟨e1, e2⟩ | ⟨g, c, cur, rfl, _, hg, _, _, _, hc⟩
  · subst e2; omega
  · refine ⟨g, c, a, d, rfl, blk_lt hg, ?_, hI⟩
    rw [blk_cell hg]
    have hv : cur[m]? = some (.slice a (F m).length d) := by
      have : (cur.toList.take (k * 1))[m]? = some (.slice a (F m).length d) := by rw [hc]; exact h3
      rw [List.getElem?_take_of_lt (by omega)] at this
      simpa using this
    exact hv

theorem owns_kept {w w' : World} {base : Nat} {e : TypeId} {size : Nat} {v : Value} {n : Nat} {xs : List Value} {row : Option Nat} (h : w.ownsRow base e size v n xs) (hg : w.grownBy w' row) (hne : ∀ g, v.ownBlock = some g → row ≠ some g) : w'.ownsRow base e size v n xs := by
  obtain ⟨hl, h3⟩ := h
  refine ⟨hl, ?_⟩
  rcases h3 with h3 | ⟨g, cap, cur, rfl, a1, a2, a3⟩
  · exact Or.inl h3
  · exact Or.inr ⟨g, cap, cur, rfl, a1, (hg.block g (blk_lt a2) (fun q => hne g rfl q.symm)).trans a2, a3⟩
theorem own_row_ne {w : World} {base b : Nat} {e t : TypeId} {size : Nat} {v : Value} {n : Nat} {xs : List Value} {cs : Array Value} (h : w.ownsRow base e size v n xs) (hb : w.heap[b]? = some (.cells cs t (0, 0))) (hne : t ≠ e) : v.ownBlock ≠ some b := by
  rcases h.2 with ⟨rfl, _⟩ | ⟨g, cap, cur, rfl, _, a2, _⟩
  · simp [Value.ownBlock]
  · intro e1
    simp [Value.ownBlock] at e1
    subst e1
    rw [a2] at hb
    cases hb
    exact hne rfl
theorem own_own_ne {w : World} {base base' : Nat} {e e' : TypeId} {size size' : Nat} {v v' : Value} {n n' : Nat} {xs xs' : List Value} (h : w.ownsRow base e size v n xs) (h' : w.ownsRow base' e' size' v' n' xs') (hne : e ≠ e') : ∀ g, v.ownBlock = some g → v'.ownBlock ≠ some g := by
  intro g hg
  rcases h.2 with ⟨rfl, _⟩ | ⟨g', cap, cur, rfl, _, a2, _⟩
  · simp [Value.ownBlock] at hg
  · simp [Value.ownBlock] at hg
    subst hg
    exact own_row_ne h' a2 hne
theorem Tab.kept {w w' : World} {base : Nat} {v : Value} {k : Nat} {F : Nat → List Nat} {row : Option Nat} (h : Tab w base v k F) (hg : w.grownBy w' row) (h1 : ∀ g, v.ownBlock = some g → row ≠ some g) (h2 : ∀ g, row = some g → ∃ cs, w.heap[g]? = some (.cells cs 25 (0, 0))) : Tab w' base v k F := by
  obtain ⟨vs, k1, k2⟩ := h
  refine ⟨vs, owns_kept k1 hg h1, fun m hm => ?_⟩
  obtain ⟨u, h3, h4⟩ := k2 m hm
  refine ⟨u, h3, owns_kept h4 hg fun g hu e => ?_⟩
  obtain ⟨cs, hc⟩ := h2 g e
  exact own_row_ne h4 hc (by decide) hu
theorem own_block {w : World} {base : Nat} {e : TypeId} {size : Nat} {v : Value} {n : Nat} {xs : List Value} (h : w.ownsRow base e size v n xs) : ∀ g, v.ownBlock = some g → base ≤ g ∧ g < w.heap.size ∧ ∃ cs, w.heap[g]? = some (.cells cs e (0, 0)) := by
  intro g hg
  rcases h.2 with ⟨rfl, _⟩ | ⟨g', cap, cur, rfl, a1, a2, _⟩
  · simp [Value.ownBlock] at hg
  · simp [Value.ownBlock] at hg
    subst hg
    exact ⟨a1, blk_lt a2, cur, a2⟩
theorem tab_more {w w' : World} {base : Nat} {v v' u : Value} {k : Nat} {F : Nat → List Nat} {vs : List Value} (hv : w.ownsRow base 25 1 v k vs) (hr : ∀ m, m < k → ∃ u, vs[m]? = some u ∧ w.ownsRow 0 3 1 u (F m).length ((ints (F m)).map (Value.int .i64))) (hu : w.ownsRow 0 3 1 u (F k).length ((ints (F k)).map (Value.int .i64))) (hown : w'.ownsRow base 25 1 v' (k + 1) (vs ++ [u])) (hg : w.grownBy w' v.ownBlock) : Tab w' base v' (k + 1) F := by
  refine ⟨_, hown, fun m hm => ?_⟩
  have hl : vs.length = k := by have := hv.1; omega
  have hk : ∀ z n xs, w.ownsRow 0 3 1 z n xs → w'.ownsRow 0 3 1 z n xs := fun z n xs h => owns_kept h hg fun g hz e => own_own_ne hv h (by decide) g e hz
  by_cases e : m = k
  · subst e
    exact ⟨u, by rw [← hl]; simp, hk _ _ _ hu⟩
  · obtain ⟨z, h1, h2⟩ := hr m (by omega)
    exact ⟨z, by rw [List.getElem?_append_left (by omega)]; exact h1, hk _ _ _ h2⟩

/-- What lies in memory while the document reckons the facts. -/
structure FS (w0 : World) (r : Int) (b off cap : Nat) (ns : List Nd) (t : Tm) (X : Nat → Nat) (L : Nat → List Bool) (v13 v14 : Value) (k k' : Nat) (w : World) : Prop where
  pb : w.heap[w0.heap.size]? = some (.cells #[.int .i64 r, .slice (some ⟨b, off, none⟩) ns.length cap] 24 (0, 0))
  tb : w.heap[w0.heap.size + 1]? = some (.cells #[.int .i64 t.op, .int .i64 t.a, .int .i64 t.b] 36 (0, 0))
  rb : w.heap[w0.heap.size + 2]? = some (.cells #[.slice none 0 0, .slice none 0 0, .slice none 0 0, .slice none 0 0, .slice none 0 0, .slice none 0 0] 74 (0, 0))
  kb : w.heap[w0.heap.size + 3]? = some (.cells #[.int .i64 ns.length] 3 (0, 0))
  blk : ∀ i, i < 6 → w.heap[X i]? = some (.cells ((L i).map Value.bool).toArray 4 (0, 0))
  len : ∀ i, i < 6 → (L i).length = ns.length
  inj : ∀ i j, i < 6 → j < 6 → X i = X j → i = j
  low : ∀ i, i < 6 → w0.heap.size ≤ X i
  nx : Tab w w0.heap.size v13 k (nxl ns)
  ah : Tab w w0.heap.size v14 k' (ahl ns)
  dj : ∀ g, v13.ownBlock = some g → v14.ownBlock ≠ some g
  bel : Below w0.heap.size w0 w

theorem FS.below {w0 : World} {r : Int} {b off cap : Nat} {ns : List Nd} {t : Tm} {X : Nat → Nat} {L : Nat → List Bool} {v13 v14 : Value} {k k' : Nat} {w w' : World} (h : FS w0 r b off cap ns t X L v13 v14 k k' w) (hb : Below w.heap.size w w') : FS w0 r b off cap ns t X L v13 v14 k k' w' :=
  ⟨(hb.block _ (blk_lt h.pb)).trans h.pb, (hb.block _ (blk_lt h.tb)).trans h.tb, (hb.block _ (blk_lt h.rb)).trans h.rb, (hb.block _ (blk_lt h.kb)).trans h.kb, fun i hi => (hb.block _ (blk_lt (h.blk i hi))).trans (h.blk i hi), h.len, h.inj, h.low, h.nx.below hb, h.ah.below hb, h.dj, h.bel.trans (hb.mono h.bel.size)⟩

/-- One list of them is another. -/
def putL (L : Nat → List Bool) (i : Nat) (x : List Bool) : Nat → List Bool := fun j => if j = i then x else L j
theorem putL_same (L : Nat → List Bool) (i : Nat) (x : List Bool) : putL L i x i = x := by simp [putL]
theorem putL_ne {L : Nat → List Bool} {i j : Nat} {x : List Bool} (h : j ≠ i) : putL L i x j = L j := by simp [putL, h]
theorem putL_putL (L : Nat → List Bool) (i : Nat) (x y : List Bool) : putL (putL L i x) i y = putL L i y := by
  funext j; simp only [putL]; split <;> rfl
theorem putL_self (L : Nat → List Bool) (i : Nat) : putL L i (L i) = L := by
  funext j; simp only [putL]; split
  · rename_i e; rw [e]
  · rfl

theorem FS.set {w0 : World} {r : Int} {b off cap : Nat} {ns : List Nd} {t : Tm} {X : Nat → Nat} {L : Nat → List Bool} {v13 v14 : Value} {k k' : Nat} {w : World} (h : FS w0 r b off cap ns t X L v13 v14 k k' w) {i : Nat} (hi : i < 6) (m : Nat) (v : Bool) : FS w0 r b off cap ns t X (putL L i ((L i).set m v)) v13 v14 k k' (w.setCell ⟨X i, m, none⟩ (.bool v)) := by
  have hb := h.blk i hi
  refine ⟨blk_set_ne _ h.pb (blk_ne h.pb hb (by decide)), blk_set_ne _ h.tb (blk_ne h.tb hb (by decide)), blk_set_ne _ h.rb (blk_ne h.rb hb (by decide)), blk_set_ne _ h.kb (blk_ne h.kb hb (by decide)), fun j hj => ?_, fun j hj => ?_, h.inj, h.low, h.nx.set hb (by decide) (by decide), h.ah.set hb (by decide) (by decide), h.dj, h.bel.setCell (p := ⟨X i, m, none⟩) (h.low i hi) _⟩
  · by_cases e : j = i
    · subst e
      rw [putL_same, blk_set _ hb]
      simp only [List.map_set, List.setIfInBounds_toArray]
    · rw [putL_ne e]
      exact blk_set_ne _ (h.blk j hj) (fun q => e (h.inj j i hj hi q))
  · by_cases e : j = i
    · subst e; rw [putL_same, List.length_set]; exact h.len j hj
    · rw [putL_ne e]; exact h.len j hj

theorem FS.cb {w0 : World} {r : Int} {b off cap : Nat} {ns : List Nd} {t : Tm} {X : Nat → Nat} {L : Nat → List Bool} {v13 v14 : Value} {k k' : Nat} {w : World} (h : FS w0 r b off cap ns t X L v13 v14 k k' w) {i m : Nat} (hi : i < 6) (hm : m < ns.length) : w.cell? ⟨X i, m, none⟩ = some (.bool (bat (L i) m)) := by
  rw [blk_cell (h.blk i hi), List.getElem?_toArray, List.getElem?_map, get_bat (by rw [h.len i hi]; exact hm)]; rfl
theorem FS.lt {w0 : World} {r : Int} {b off cap : Nat} {ns : List Nd} {t : Tm} {X : Nat → Nat} {L : Nat → List Bool} {v13 v14 : Value} {k k' : Nat} {w : World} (h : FS w0 r b off cap ns t X L v13 v14 k k' w) {i : Nat} (hi : i < 6) : X i < w.heap.size := blk_lt (h.blk i hi)
theorem FS.fr {w0 : World} {r : Int} {b off cap : Nat} {ns : List Nd} {t : Tm} {X : Nat → Nat} {L : Nat → List Bool} {v13 v14 : Value} {k k' : Nat} {w : World} (h : FS w0 r b off cap ns t X L v13 v14 k k' w) {i : Nat} (hi : i < 6) (m : Nat) : w.frozen? ⟨X i, m, none⟩ = false := blk_frozen (h.blk i hi) m
theorem FS.c5 {w0 : World} {r : Int} {b off cap : Nat} {ns : List Nd} {t : Tm} {X : Nat → Nat} {L : Nat → List Bool} {v13 v14 : Value} {k k' : Nat} {w : World} (h : FS w0 r b off cap ns t X L v13 v14 k k' w) : w.cell? ⟨w0.heap.size + 3, 0, none⟩ = some (.int .i64 ns.length) := by rw [blk_cell h.kb]; rfl

theorem FS.grow1 {w0 : World} {r : Int} {b off cap : Nat} {ns : List Nd} {t : Tm} {X : Nat → Nat} {L : Nat → List Bool} {v13 v14 v' u : Value} {k k' : Nat} {w w' : World} {vs : List Value} (h : FS w0 r b off cap ns t X L v13 v14 k k' w) (hv : w.ownsRow w0.heap.size 25 1 v13 k vs) (hr : ∀ m, m < k → ∃ u, vs[m]? = some u ∧ w.ownsRow 0 3 1 u (nxl ns m).length ((ints (nxl ns m)).map (Value.int .i64))) (hu : w.ownsRow 0 3 1 u (nxl ns k).length ((ints (nxl ns k)).map (Value.int .i64))) (hown : w'.ownsRow w0.heap.size 25 1 v' (k + 1) (vs ++ [u])) (hg : w.grownBy w' v13.ownBlock) (hat : v'.ownBlock = v13.ownBlock ∨ v'.ownBlock = some w.heap.size) : FS w0 r b off cap ns t X L v' v14 (k + 1) k' w' := by
  have hk : ∀ (q : Nat) (cs : Array Value) (ty : TypeId), ty ≠ 25 → w.heap[q]? = some (.cells cs ty (0, 0)) → w'.heap[q]? = some (.cells cs ty (0, 0)) := fun q cs ty hty hq => (hg.block q (blk_lt hq) (fun e => own_row_ne hv hq hty e.symm)).trans hq
  obtain ⟨vs', hv', _⟩ := h.ah
  refine ⟨hk _ _ _ (by decide) h.pb, hk _ _ _ (by decide) h.tb, hk _ _ _ (by decide) h.rb, hk _ _ _ (by decide) h.kb, fun i hi => hk _ _ _ (by decide) (h.blk i hi), h.len, h.inj, h.low, tab_more hv hr hu hown hg, h.ah.kept hg (fun g h1 h2 => h.dj g h2 h1) (fun g e => (own_block hv g e).2.2), fun g hg' => ?_, h.bel.grown hg h.bel.size (fun q e => (own_block hv q e).1)⟩
  rcases hat with e | e
  · rw [e] at hg'; exact h.dj g hg'
  · rw [e] at hg'
    intro q
    have := (own_block hv' g q).2.1
    simp at hg'
    omega
theorem FS.grow2 {w0 : World} {r : Int} {b off cap : Nat} {ns : List Nd} {t : Tm} {X : Nat → Nat} {L : Nat → List Bool} {v13 v14 v' u : Value} {k k' : Nat} {w w' : World} {vs : List Value} (h : FS w0 r b off cap ns t X L v13 v14 k k' w) (hv : w.ownsRow w0.heap.size 25 1 v14 k' vs) (hr : ∀ m, m < k' → ∃ u, vs[m]? = some u ∧ w.ownsRow 0 3 1 u (ahl ns m).length ((ints (ahl ns m)).map (Value.int .i64))) (hu : w.ownsRow 0 3 1 u (ahl ns k').length ((ints (ahl ns k')).map (Value.int .i64))) (hown : w'.ownsRow w0.heap.size 25 1 v' (k' + 1) (vs ++ [u])) (hg : w.grownBy w' v14.ownBlock) (hat : v'.ownBlock = v14.ownBlock ∨ v'.ownBlock = some w.heap.size) : FS w0 r b off cap ns t X L v13 v' k (k' + 1) w' := by
  have hk : ∀ (q : Nat) (cs : Array Value) (ty : TypeId), ty ≠ 25 → w.heap[q]? = some (.cells cs ty (0, 0)) → w'.heap[q]? = some (.cells cs ty (0, 0)) := fun q cs ty hty hq => (hg.block q (blk_lt hq) (fun e => own_row_ne hv hq hty e.symm)).trans hq
  obtain ⟨vs', hv', _⟩ := h.nx
  refine ⟨hk _ _ _ (by decide) h.pb, hk _ _ _ (by decide) h.tb, hk _ _ _ (by decide) h.rb, hk _ _ _ (by decide) h.kb, fun i hi => hk _ _ _ (by decide) (h.blk i hi), h.len, h.inj, h.low, h.nx.kept hg (fun g h1 h2 => h.dj g h1 h2) (fun g e => (own_block hv g e).2.2), tab_more hv hr hu hown hg, fun g hg' => ?_, h.bel.grown hg h.bel.size (fun q e => (own_block hv q e).1)⟩
  rcases hat with e | e
  · rw [e]; exact h.dj g hg'
  · rw [e]
    intro q
    have := (own_block hv' g hg').2.1
    simp at q
    omega

theorem Tab.row {w : World} {base g c k m : Nat} {F : Nat → List Nat} (h : Tab w base (.slice (some ⟨g, 0, none⟩) k c) k F) (hm : m < k) : ∃ a d, w.cell? ⟨g, m, none⟩ = some (.slice a (F m).length d) ∧ IntsAt w a (ints (F m)) ∧ g < w.heap.size := by
  obtain ⟨g', c', a, d, e, h1, h2, h3⟩ := h.read hm
  simp at e
  obtain ⟨rfl, rfl⟩ := e
  exact ⟨a, d, h2, h3, h1⟩
theorem Tab.rowT {w : World} {base g c k m : Nat} {F : Nat → List Nat} (h : Tab w base (.slice (some ⟨g, 0, none⟩) k c) k F) (hm : m < k) : ∃ a d, w.cell? ⟨g, m, none⟩ = some (.slice a (F m).length d) ∧ w.ownsRow 0 3 1 (.slice a (F m).length d) (F m).length ((ints (F m)).map (Value.int .i64)) ∧ g < w.heap.size := by
  obtain ⟨vs, h1, h2⟩ := h
  obtain ⟨u, h3, h4⟩ := h2 m hm
  obtain ⟨a, d, rfl⟩ := owns_slice h4
  rcases h1.2 with ⟨e1, e2⟩ | ⟨g', c', cur, e, _, hg, _, _, _, hc⟩
  · cases e1
  · cases e
    refine ⟨a, d, ?_, h4, blk_lt hg⟩
    rw [blk_cell hg]
    have : (cur.toList.take (k * 1))[m]? = some (.slice a (F m).length d) := by rw [hc]; exact h3
    rw [List.getElem?_take_of_lt (by omega)] at this
    simpa using this
theorem row_at {w : World} {a : Option Addr} {l : List Nat} {d q m : Nat} (h : w.ownsRow 0 3 1 (.slice a l.length d) l.length ((ints l).map (Value.int .i64))) (hq : l[q]? = some m) : ∃ bb oo, a = some ⟨bb, oo, none⟩ ∧ bb < w.heap.size ∧ w.cell? ⟨bb, oo + q, none⟩ = some (.int .i64 (m : Int)) ∧ ∃ cs, w.heap[bb]? = some (.cells cs 3 (0, 0)) := by
  rcases h.2 with ⟨e1, e2⟩ | ⟨g, c, cur, e, _, hg, _, _, _, hc⟩
  · rw [List.length_eq_zero_iff.1 e2] at hq; simp at hq
  · cases e
    refine ⟨g, 0, rfl, blk_lt hg, ?_, cur, hg⟩
    rw [blk_cell hg, Nat.zero_add]
    have hql := (List.getElem?_eq_some_iff.1 hq).1
    have : (cur.toList.take (l.length * 1))[q]? = some (.int .i64 (m : Int)) := by rw [hc]; simp [ints, hq]
    rw [List.getElem?_take_of_lt (by omega)] at this
    simpa using this
theorem bat_set_same {x : List Bool} {n : Nat} {b : Bool} (h : n < x.length) : bat (x.set n b) n = b := by rw [bat_set h, if_pos rfl]
theorem bat_set_self {x : List Bool} {n m : Nat} (h : n < x.length) : bat (x.set n true) m = (m == n || bat x m) := by
  rw [bat_set h]
  by_cases e : m = n
  · simp [e]
  · simp [e]

/-- A list that has been filled up to j. -/
def partL (E : List Bool) (n j : Nat) : List Bool := (List.range n).map fun i => decide (i < j) && bat E i
theorem partL_zero (E : List Bool) (n : Nat) : partL E n 0 = nol n := by
  refine List.ext_getElem (by simp [partL, nol]) fun i h1 h2 => ?_
  simp [partL, nol]
theorem partL_succ {E : List Bool} {n j : Nat} (h : j < n) : partL E n (j + 1) = (partL E n j).set j (bat E j) := by
  refine bat_ext (by simp [partL]) fun i hi => ?_
  have hi' : i < n := by simpa [partL] using hi
  rw [bat_set (by simp [partL]; exact h), partL, partL, bat_map _ hi', bat_map _ hi']
  by_cases e : i = j
  · subst e; simp
  · rw [if_neg e, decide_eq_decide.2 (show i < j + 1 ↔ i < j by omega)]
theorem partL_all {E : List Bool} {n : Nat} (h : E.length = n) : partL E n n = E := by
  refine bat_ext (by simp [partL, h]) fun i hi => ?_
  have hi' : i < n := by simpa [partL] using hi
  rw [partL, bat_map _ hi']
  simp [hi']

theorem ints_at {w : World} {a : Option Addr} {l : List Nat} {q m : Nat} (h : IntsAt w a (ints l)) (hq : l[q]? = some m) : ∃ bb oo, a = some ⟨bb, oo, none⟩ ∧ bb < w.heap.size ∧ w.cell? ⟨bb, oo + q, none⟩ = some (.int .i64 (m : Int)) := by
  rcases h with h | ⟨bb, oo, rfl, h1, h2⟩
  · cases l with
    | nil => simp at hq
    | cons _ _ => simp [ints] at h
  · exact ⟨bb, oo, rfl, h1, h2 q m (by simp [ints, hq])⟩

theorem FS.put {w0 : World} {r : Int} {b off cap : Nat} {ns : List Nd} {t : Tm} {X : Nat → Nat} {L : Nat → List Bool} {v13 v14 : Value} {k k' : Nat} {w : World} {i : Nat} {x : List Bool} (h : FS w0 r b off cap ns t X (putL L i x) v13 v14 k k' w) (hi : i < 6) (m : Nat) (v : Bool) : FS w0 r b off cap ns t X (putL L i (x.set m v)) v13 v14 k k' (w.setCell ⟨X i, m, none⟩ (.bool v)) := by
  have := h.set hi m v
  rwa [putL_same, putL_putL] at this
theorem cell_set_ne {w : World} {b o : Nat} {q : Addr} {v : Value} (h : q.block ≠ b) : (w.setCell ⟨b, o, none⟩ v).cell? q = w.cell? q := World.cell?_of_block (Below.heap_setCell _ _ _ _ h)

/-- The cells that a node's question reads. -/
def NC (w0 : World) (r : Int) (b off cap n : Nat) (t : Tm) (m : Nat) (x : Nd) (u : World) : Prop :=
  u.cell? ⟨w0.heap.size, 0, none⟩ = some (.int .i64 r) ∧ u.cell? ⟨w0.heap.size, 1, none⟩ = some (.slice (some ⟨b, off, none⟩) n cap) ∧ u.cell? ⟨w0.heap.size + 1, 0, none⟩ = some (.int .i64 t.op) ∧ u.cell? ⟨w0.heap.size + 1, 1, none⟩ = some (.int .i64 t.a) ∧ u.cell? ⟨w0.heap.size + 1, 2, none⟩ = some (.int .i64 t.b) ∧ u.cell? ⟨b, off + m * 6, none⟩ = some (.int .i64 x.op) ∧ u.cell? ⟨b, off + m * 6 + 1, none⟩ = some (.int .i64 x.d) ∧ u.cell? ⟨b, off + m * 6 + 2, none⟩ = some (.int .i64 x.a) ∧ u.cell? ⟨b, off + m * 6 + 3, none⟩ = some (.int .i64 x.b) ∧ u.cell? ⟨b, off + m * 6 + 4, none⟩ = some (.int .i64 x.t) ∧ u.cell? ⟨b, off + m * 6 + 5, none⟩ = some (.int .i64 x.e)
theorem FS.nc {w0 : World} {r : Int} {b off cap : Nat} {ns : List Nd} {t : Tm} {X : Nat → Nat} {L : Nat → List Bool} {v13 v14 : Value} {k k' : Nat} {w : World} (h : FS w0 r b off cap ns t X L v13 v14 k k' w) (hN : NodesAt w0 b off ns) {m : Nat} {x : Nd} (hx : ns[m]? = some x) : NC w0 r b off cap ns.length t m x w := by
  have k3 := hN.below h.bel hN.lt
  refine ⟨?_, ?_, ?_, ?_, ?_, k3.c0 m x hx, k3.c1 m x hx, k3.c2 m x hx, k3.c3 m x hx, k3.c4 m x hx, k3.c5 m x hx⟩
  · rw [blk_cell h.pb]; rfl
  · rw [blk_cell h.pb]; rfl
  · rw [blk_cell h.tb]; rfl
  · rw [blk_cell h.tb]; rfl
  · rw [blk_cell h.tb]; rfl

theorem NC.set {w0 : World} {r : Int} {b off cap n : Nat} {t : Tm} {m : Nat} {x : Nd} {u : World} {z o : Nat} {v : Value} (h : NC w0 r b off cap n t m x u) (h1 : z ≠ w0.heap.size) (h2 : z ≠ w0.heap.size + 1) (h3 : z ≠ b) : NC w0 r b off cap n t m x (u.setCell ⟨z, o, none⟩ v) := by
  obtain ⟨a1, a2, a3, a4, a5, a6, a7, a8, a9, a10, a11⟩ := h
  refine ⟨?_, ?_, ?_, ?_, ?_, ?_, ?_, ?_, ?_, ?_, ?_⟩
  · rw [cell_set_ne (Ne.symm h1)]; exact a1
  · rw [cell_set_ne (Ne.symm h1)]; exact a2
  · rw [cell_set_ne (Ne.symm h2)]; exact a3
  · rw [cell_set_ne (Ne.symm h2)]; exact a4
  · rw [cell_set_ne (Ne.symm h2)]; exact a5
  · rw [cell_set_ne (Ne.symm h3)]; exact a6
  · rw [cell_set_ne (Ne.symm h3)]; exact a7
  · rw [cell_set_ne (Ne.symm h3)]; exact a8
  · rw [cell_set_ne (Ne.symm h3)]; exact a9
  · rw [cell_set_ne (Ne.symm h3)]; exact a10
  · rw [cell_set_ne (Ne.symm h3)]; exact a11
theorem FS.zne {w0 : World} {r : Int} {b off cap : Nat} {ns : List Nd} {t : Tm} {X : Nat → Nat} {L : Nat → List Bool} {v13 v14 : Value} {k k' : Nat} {w : World} (h : FS w0 r b off cap ns t X L v13 v14 k k' w) (hN : NodesAt w0 b off ns) {i : Nat} (hi : i < 6) : X i ≠ w0.heap.size ∧ X i ≠ w0.heap.size + 1 ∧ X i ≠ b :=
  ⟨blk_ne (h.blk i hi) h.pb (by decide), blk_ne (h.blk i hi) h.tb (by decide), fun e => by have := h.low i hi; have := hN.lt; omega⟩

set_option maxHeartbeats 4000000 in
theorem yes1_any (n K : Nat) (w : World) (hn : n ≤ 256) (hK : w.heap[K]? = some (.cells #[.int .i64 n] 3 (0, 0))) :
    Calls Try.prog 92 #[.pointer (some ⟨K, 0, none⟩)] w fun e w' => e = .returned (.slice (some ⟨w.heap.size, 0, none⟩) n n) ∧ w'.heap[w.heap.size]? = some (.cells ((yesl n).map Value.bool).toArray 4 (0, 0)) ∧ Below w.heap.size w w' := by
  have hms : ∀ W : World, Sem.run Try.prog (Instr.makeSlice 53 (.int .i64 (n : Int)) (.int .i64 (n : Int))) W = .ok (.slice (some ⟨W.heap.size, 0, none⟩) n n) (W.alloc (.cells (madeCells #[.bool false] n) 4)) := fun W => run_make_row' 53 4 _ 1 Try.underlying53 info_boolF rfl .i64 .i64 n (by omega) (by omega) W
  have k0 := blk_cell hK 0
  simp at k0
  have kl := blk_lt hK
  go_enter Try.func92, Try.ntmps92
  go_wp2_with fail
  have hB0 : Below w.heap.size w (w.alloc (.cells (madeCells #[.bool false] n) 4)) := (Below.refl _ w).alloc (Nat.le_refl _) _
  have hX0 : (w.alloc (.cells (madeCells #[.bool false] n) 4)).heap[w.heap.size]? = some (.cells ((List.replicate 0 true ++ List.replicate (n - 0) false).map Value.bool).toArray 4 (0, 0)) := by
    rw [World.alloc_heap_new, made_boolsF]; simp
  generalize (w.alloc (.cells (madeCells #[.bool false] n) 4)) = W0 at hB0 hX0 ⊢
  have HX0 := hide hX0
  clear hX0 hms
  go_loopw [3] (fun i wr => ∃ k : Nat, k ≤ n ∧ i = .int .i64 k ∧ wr.heap[w.heap.size]? = some (.cells ((List.replicate k true ++ List.replicate (n - k) false).map Value.bool).toArray 4 (0, 0)) ∧ Below w.heap.size w wr) (fun i _ => n - (intOf i).toNat)
  case atStart => exact ⟨0, Nat.zero_le _, rfl, HX0.out, hB0⟩
  case round =>
    obtain ⟨k, hk, rfl, hX, hb⟩ := hrel
    have hsz := hb.size
    have hXl := blk_lt hX
    have kr := (hb.cell (p := ⟨K, 0, none⟩) kl).trans k0
    have krl := Nat.lt_of_lt_of_le kl hsz
    by_cases hlt : k < n
    · have hxc := blk_cell hX k
      rw [repl_get hlt] at hxc
      have hxf := blk_frozen hX k
      have hli : (k : Int) < (n : Int) := by omega
      have HX := hide hX
      have HB := hide hb
      clear hX hb
      go_wp2
      go_roundw
      case rel =>
        refine ⟨k + 1, by omega, by go_num, ?_, HB.out.setCell (p := ⟨w.heap.size, k, none⟩) (Nat.le_refl _) _⟩
        rw [blk_set _ HX.out, ← repl_set hlt]
        simp only [List.map_set, List.setIfInBounds_toArray]
      case measure => simp [intOf]; omega
    · have ek : k = n := by omega
      subst ek
      have hX' : wr.heap[w.heap.size]? = some (.cells ((yesl k).map Value.bool).toArray 4 (0, 0)) := by rw [hX]; simp [yesl]
      have HX := hide hX'
      have HB := hide hb
      clear hX hX' hb
      go_wp2
      go_ret
      exact ⟨rfl, HX.out, HB.out⟩
end Go.Proofs.Ytoikglgnmjjpcaa

