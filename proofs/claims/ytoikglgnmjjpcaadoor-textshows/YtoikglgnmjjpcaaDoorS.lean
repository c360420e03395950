/-
  Plain facts on terms.
-/
import Derived.Test.YtoikglgnmjjpcaaDoorM
namespace Go.Proofs.YtoikglgnmjjpcaaDoor

structure Tm where
  op : Int
  a : Int
  b : Int
  deriving DecidableEq, Inhabited

def tmOf (x : Nd) : Tm := ⟨x.op, x.a, x.b⟩

/-- One node more: its term, if it reckons one that was not there. -/
def tstep (acc : List Tm) (x : Nd) : List Tm := if wi x.op 3 8 && !(acc.any fun y => decide (tmOf x = y)) then acc ++ [tmOf x] else acc
def tms (ns : List Nd) (k : Nat) : List Tm := (ns.take k).foldl tstep []

theorem tms_succ {ns : List Nd} {k : Nat} {x : Nd} (h : ns[k]? = some x) : tms ns (k + 1) = tstep (tms ns k) x := by
  simp only [tms, take_succ_get h, List.foldl_append, List.foldl_cons, List.foldl_nil]

theorem tstep_yes (acc : List Tm) {x : Nd} (h : wi x.op 3 8 = true) : tstep acc x = if !(acc.any fun y => decide (tmOf x = y)) then acc ++ [tmOf x] else acc := by
  simp only [tstep, h, Bool.true_and]
theorem tstep_no (acc : List Tm) {x : Nd} (h : wi x.op 3 8 = false) : tstep acc x = acc := by
  simp [tstep, h]

theorem tstep_len (acc : List Tm) (x : Nd) : (tstep acc x).length ≤ acc.length + 1 := by
  unfold tstep; split <;> simp

theorem tms_len (ns : List Nd) : ∀ k, (tms ns k).length ≤ k
  | 0 => by simp [tms]
  | k + 1 => by
    by_cases h : k < ns.length
    · obtain ⟨x, hx⟩ := get_lt h
      rw [tms_succ hx]
      have := tstep_len (tms ns k) x
      have := tms_len ns k
      omega
    · have e : ns.take (k + 1) = ns.take k := by rw [List.take_of_length_le (by omega), List.take_of_length_le (by omega)]
      have := tms_len ns k
      simp only [tms, e] at this ⊢
      omega

theorem flat3 {β : Type} (f : Tm → List β) (hf : ∀ t, (f t).length = 3) : ∀ (ts : List Tm) (j i : Nat) (t : Tm), ts[j]? = some t → i < 3 → (ts.flatMap f)[j * 3 + i]? = (f t)[i]?
  | [], j, i, t, h, _ => by simp at h
  | u :: ts, 0, i, t, h, hi => by
    simp at h; subst h
    rw [List.flatMap_cons, List.getElem?_append_left (by rw [hf]; omega)]; simp
  | u :: ts, j + 1, i, t, h, hi => by
    simp at h
    rw [List.flatMap_cons, List.getElem?_append_right (by rw [hf]; omega), hf, show (j + 1) * 3 + i - 3 = j * 3 + i by omega]
    exact flat3 f hf ts j i t h hi

end Go.Proofs.YtoikglgnmjjpcaaDoor
