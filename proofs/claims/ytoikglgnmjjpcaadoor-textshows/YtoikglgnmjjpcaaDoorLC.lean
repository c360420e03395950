/-
  links.Ahead: rows of rows, and one more element in one of them.
-/
import Derived.Deep.AppendLies
import Derived.Test.YtoikglgnmjjpcaaDoorLB
import Derived.Test.YtoikglgnmjjpcaaDoorRD
namespace Go.Proofs.YtoikglgnmjjpcaaDoor
open Go.RowKit Go.Shelf
set_option linter.unusedVariables false

theorem owns_ne_ty {w : World} {base b : Nat} {e t : TypeId} {size : Nat} {v : Value} {n : Nat} {xs : List Value} {vs : Array Value} (h : w.ownsRow base e size v n xs) (hb : w.heap[b]? = some (.cells vs t (0, 0))) (hte : t ≠ e) : some b ≠ v.ownBlock := by
  rcases h.2 with ⟨rfl, _⟩ | ⟨g, cap, cur, rfl, _, hgb, _⟩
  · simp [Value.ownBlock]
  · intro e'
    obtain rfl : b = g := by simpa [Value.ownBlock] using e'
    rw [hb] at hgb
    cases hgb
    exact hte rfl

/-- What the rows hold, nodes below k having been looked at, and the exits pre of node k. -/
def rowsAt (ns : List Nd) (k : Nat) (pre : List Int) (m : Nat) : List Int := pick (ahB ns m) k ++ List.replicate (pre.count (m : Int)) (k : Int)

theorem rowsAt_nil (ns : List Nd) (k : Nat) : rowsAt ns k [] = fun m => pick (ahB ns m) k := by funext m; simp [rowsAt]

theorem count_exo (x : Nd) (hk : kn x.op = true) (m : Nat) : (exo x).count (m : Int) = if ldB x m then 1 else 0 := by
  have hop := wi_iff.1 hk
  unfold exo ldB
  by_cases h11 : x.op = 11
  · rw [if_pos h11]
    by_cases he : x.e = x.t
    · rw [if_pos he]
      by_cases ht : x.t = m
      · simp [h11, ht]
      · simp [h11, he, ht]
    · rw [if_neg he]
      by_cases ht : x.t = m
      · have : ¬ x.e = m := fun q => he (by rw [q, ht])
        simp [h11, ht, this]
      · by_cases q : x.e = m
        · simp [h11, ht, q]
        · simp [h11, ht, q]
  · rw [if_neg h11]
    by_cases h12 : x.op = 12
    · have e : wi x.op 0 11 = false := wi_false (by omega)
      simp [h12]
      rw [h12] at e; simp [e]
    · rw [wi_true (by omega) (by omega), if_pos rfl]
      by_cases ht : x.t = m
      · simp [h11, h12, ht]
      · simp [h11, h12, ht]

theorem rowsAt_done (ns : List Nd) (k : Nat) {x : Nd} (hx : ns[k]? = some x) (hk : kn x.op = true) : rowsAt ns k (exo x) = fun m => pick (ahB ns m) (k + 1) := by
  funext m
  rw [rowsAt, count_exo x hk]
  have := ahB_at (n := m) hx
  cases h : ldB x m
  · rw [pick_no (by rw [this]; exact h)]; simp
  · rw [pick_yes (by rw [this]; exact h)]; simp

theorem rowsAt_len (ns : List Nd) (k : Nat) (pre : List Int) (m : Nat) : (rowsAt ns k pre m).length ≤ k + pre.length := by
  have h1 := pick_len (ahB ns m) k
  have h2 : pre.count (m : Int) ≤ pre.length := List.count_le_length
  simp [rowsAt]; omega

end Go.Proofs.YtoikglgnmjjpcaaDoor
