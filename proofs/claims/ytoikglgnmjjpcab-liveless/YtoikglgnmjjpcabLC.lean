/-
  links.Ahead: rows of rows, and one more element in one of them.
-/
import Derived.Deep.AppendLies
import Derived.Test.YtoikglgnmjjpcabLB
import Derived.Test.YtoikglgnmjjpcabRD
namespace Go.Proofs.Ytoikglgnmjjpcab
open Go.RowKit Go.Shelf
set_option linter.unusedVariables false

/-- The rows f lie in block rb, each one in memory of its own. -/
structure RowsAt (w : World) (base rb L : Nat) (vs : List Value) (f : Nat → List Int) : Prop where
  blk : w.heap[rb]? = some (.cells vs.toArray 36 (0, 0))
  len : vs.length = L
  own : ∀ (m : Nat) (v : Value), vs[m]? = some v → w.ownsRow base 3 1 v (f m).length ((f m).map (Value.int .i64))
  apart : ∀ (m1 m2 : Nat) (v1 v2 : Value) (g : Nat), vs[m1]? = some v1 → vs[m2]? = some v2 → v1.ownBlock = some g → v2.ownBlock = some g → m1 = m2

theorem owns_ne_ty {w : World} {base b : Nat} {e t : TypeId} {size : Nat} {v : Value} {n : Nat} {xs : List Value} {vs : Array Value} (h : w.ownsRow base e size v n xs) (hb : w.heap[b]? = some (.cells vs t (0, 0))) (hte : t ≠ e) : some b ≠ v.ownBlock := by
  rcases h.2 with ⟨rfl, _⟩ | ⟨g, cap, cur, rfl, _, hgb, _⟩
  · simp [Value.ownBlock]
  · intro e'
    obtain rfl : b = g := by simpa [Value.ownBlock] using e'
    rw [hb] at hgb
    cases hgb
    exact hte rfl

theorem RowsAt.kept {w w' : World} {base rb L : Nat} {vs : List Value} {f : Nat → List Int} (h : RowsAt w base rb L vs f) {row : Option Nat} (hg : w.grownBy w' row) (hr : ∀ r, row = some r → ∃ o : Obj, w.heap[r]? = some o ∧ o.isCells = false) : RowsAt w' base rb L vs f := by
  refine ⟨?_, h.len, fun m v hv => ?_, h.apart⟩
  · rw [hg.block rb (Array.getElem?_eq_some_iff.1 h.blk).1 (fun e => by
      obtain ⟨o, h1, h2⟩ := hr rb e.symm
      rw [h.blk] at h1; cases h1; cases h2)]
    exact h.blk
  · refine (h.own m v hv).kept hg ?_
    rcases (h.own m v hv).2 with ⟨rfl, _⟩ | ⟨g, cap, cur, rfl, _, hgb, _⟩
    · exact .inl rfl
    · refine .inr fun e => ?_
      obtain ⟨o, h1, h2⟩ := hr g (by simpa [Value.ownBlock] using e.symm)
      rw [hgb] at h1; cases h1; cases h2

theorem RowsAt.below {w w' : World} {base rb L : Nat} {vs : List Value} {f : Nat → List Int} (h : RowsAt w base rb L vs f) (hb : Below w.heap.size w w') : RowsAt w' base rb L vs f :=
  h.kept (grown_of_below hb none) (fun r e => by cases e)

/-- One element more in row m: its block has grown, or is new. -/
theorem RowsAt.grow {w w1 : World} {base rb L : Nat} {vs : List Value} {f f' : Nat → List Int} (h : RowsAt w base rb L vs f) {m : Nat} {v : Value} (hv : vs[m]? = some v) {g cap : Nat}
    (hg : w.grownBy w1 v.ownBlock) (hat : v.ownBlock = some g ∨ w.heap.size ≤ g) (hown : w1.ownsRow base 3 1 (.slice (some ⟨g, 0, none⟩) (f' m).length cap) (f' m).length ((f' m).map (Value.int .i64)))
    (hf : ∀ j, j ≠ m → f' j = f j) : RowsAt (w1.setCell ⟨rb, m, none⟩ (.slice (some ⟨g, 0, none⟩) (f' m).length cap)) base rb L (vs.set m (.slice (some ⟨g, 0, none⟩) (f' m).length cap)) f' := by
  have hml : m < vs.length := (List.getElem?_eq_some_iff.1 hv).1
  have hr1 : w1.heap[rb]? = some (.cells vs.toArray 36 (0, 0)) := (hg.block rb (Array.getElem?_eq_some_iff.1 h.blk).1 (owns_ne_ty (h.own m v hv) h.blk (by decide))).trans h.blk
  have hlt : ∀ (j : Nat) (u : Value) (k : Nat), vs[j]? = some u → u.ownBlock = some k → k < w.heap.size := fun j u k hj hk => ((h.own j u hj).lt k hk).2
  have hset : ∀ {e : TypeId} {v' : Value} {n : Nat} {xs : List Value}, w1.ownsRow base 3 1 v' n xs → (w1.setCell ⟨rb, m, none⟩ (.slice (some ⟨g, 0, none⟩) (f' m).length cap)).ownsRow base 3 1 v' n xs := by
    intro e v' n xs h2
    have hne := owns_ne_ty h2 hr1 (by decide)
    obtain ⟨hl, h3⟩ := h2
    refine ⟨hl, ?_⟩
    rcases h3 with h3 | ⟨g', cap', cur', rfl, a1, a2, a3⟩
    · exact Or.inl h3
    · refine Or.inr ⟨g', cap', cur', rfl, a1, ?_, a3⟩
      rw [Below.heap_setCell _ _ _ g' (fun e => hne (by simp only [Value.ownBlock]; exact congrArg some e.symm))]
      exact a2
  refine ⟨?_, by simpa using h.len, fun j u hj => ?_, fun j1 j2 u1 u2 k h1 h2 e1 e2 => ?_⟩
  · rw [blk_set _ hr1]; simp
  · rw [List.getElem?_set] at hj
    by_cases e : m = j
    · subst e
      rw [if_pos rfl, if_pos hml] at hj
      cases hj
      exact hset (e := 0) hown
    · rw [if_neg e] at hj
      rw [hf j (fun q => e q.symm)]
      refine hset (e := 0) ((h.own j u hj).kept hg ?_)
      rcases (h.own j u hj).2 with ⟨rfl, _⟩ | ⟨g', cap', cur', rfl, _⟩
      · exact .inl rfl
      · refine .inr fun q => ?_
        exact e (h.apart m j v _ g' hv hj (by rw [← q]; rfl) rfl)
  · rw [List.getElem?_set] at h1 h2
    by_cases q1 : m = j1
    · by_cases q2 : m = j2
      · rw [← q1, ← q2]
      · rw [if_pos q1, if_pos hml] at h1
        rw [if_neg q2] at h2
        cases h1
        simp only [Value.ownBlock, Option.some.injEq] at e1
        subst e1
        exfalso
        rcases hat with hat | hat
        · exact q2 (h.apart m j2 v u2 g hv h2 hat e2)
        · have := hlt j2 u2 g h2 e2; omega
    · rw [if_neg q1] at h1
      by_cases q2 : m = j2
      · rw [if_pos q2, if_pos hml] at h2
        cases h2
        simp only [Value.ownBlock, Option.some.injEq] at e2
        subst e2
        exfalso
        rcases hat with hat | hat
        · exact q1 (h.apart m j1 v u1 g hv h1 hat e1)
        · have := hlt j1 u1 g h1 e1; omega
      · rw [if_neg q2] at h2
        exact h.apart j1 j2 u1 u2 k h1 h2 e1 e2

/-- What the rows hold, nodes below k having been looked at, and the exits pre of node k. -/
def rowsAt (ns : List Nd) (k : Nat) (pre : List Int) (m : Nat) : List Int := pick (ahB ns m) k ++ List.replicate (pre.count (m : Int)) (k : Int)

theorem rowsAt_nil (ns : List Nd) (k : Nat) : rowsAt ns k [] = fun m => pick (ahB ns m) k := by funext m; simp [rowsAt]

theorem count_exo (x : Nd) (hk : kn x.op = true) (m : Nat) : (exo x).count (m : Int) = if ldB x m then 1 else 0 := by
  have hop := wi_iff.1 hk
  unfold exo ldB
  by_cases h11 : x.op = 11
  · rw [if_pos h11]
    by_cases he : x.e = x.t
    · rw [if_pos he]
      by_cases ht : x.t = m
      · simp [h11, ht]
      · simp [h11, he, ht]
    · rw [if_neg he]
      by_cases ht : x.t = m
      · have : ¬ x.e = m := fun q => he (by rw [q, ht])
        simp [h11, ht, this]
      · by_cases q : x.e = m
        · simp [h11, ht, q]
        · simp [h11, ht, q]
  · rw [if_neg h11]
    by_cases h12 : x.op = 12
    · have e : wi x.op 0 11 = false := wi_false (by omega)
      simp [h12]
      rw [h12] at e; simp [e]
    · rw [wi_true (by omega) (by omega), if_pos rfl]
      by_cases ht : x.t = m
      · simp [h11, h12, ht]
      · simp [h11, h12, ht]

theorem rowsAt_done (ns : List Nd) (k : Nat) {x : Nd} (hx : ns[k]? = some x) (hk : kn x.op = true) : rowsAt ns k (exo x) = fun m => pick (ahB ns m) (k + 1) := by
  funext m
  rw [rowsAt, count_exo x hk]
  have := ahB_at (n := m) hx
  cases h : ldB x m
  · rw [pick_no (by rw [this]; exact h)]; simp
  · rw [pick_yes (by rw [this]; exact h)]; simp

theorem rowsAt_len (ns : List Nd) (k : Nat) (pre : List Int) (m : Nat) : (rowsAt ns k pre m).length ≤ k + pre.length := by
  have h1 := pick_len (ahB ns m) k
  have h2 : pre.count (m : Int) ≤ pre.length := List.count_le_length
  simp [rowsAt]; omega

end Go.Proofs.Ytoikglgnmjjpcab
