/-
  Plain functions on numbers and lists, over which the walks of hoistway's functions are stated; nothing here speaks of the program.
-/
namespace Go.Proofs.YtoikglgnmjjpcaaDoor

structure Nd where
  op : Int
  d : Int
  a : Int
  b : Int
  t : Int
  e : Int
  deriving DecidableEq, Inhabited

def wi (v l h : Int) : Bool := decide (l ≤ v) && decide (v ≤ h)

theorem wi_true {v l h : Int} (h1 : l ≤ v) (h2 : v ≤ h) : wi v l h = true := by simp [wi, h1, h2]
theorem wi_false {v l h : Int} (h1 : v < l ∨ h < v) : wi v l h = false := by
  simp only [wi, Bool.and_eq_false_iff, decide_eq_false_iff_not]; omega
theorem wi_iff {v l h : Int} : wi v l h = true ↔ l ≤ v ∧ v ≤ h := by simp [wi]
theorem wi_not {v l h : Int} : wi v l h = false ↔ v < l ∨ h < v := by
  simp only [wi, Bool.and_eq_false_iff, decide_eq_false_iff_not]; omega

/-- Is there such an operation? -/
def kn (op : Int) : Bool := wi op 0 12
/-- The kinds of the fields D, A, B, Then, Else by the operation: 0 none, 1 a register, 2 a number, 3 a place. -/
def k0 (op : Int) : Int := if wi op 1 9 then 1 else 0
def k1 (op : Int) : Int := if op = 1 then 2 else if wi op 2 8 || wi op 10 12 then 1 else 0
def k2 (op : Int) : Int := if wi op 3 8 then 1 else 0
def k3 (op : Int) : Int := if wi op 0 11 then 3 else 0
def k4 (op : Int) : Int := if op = 11 then 3 else 0

theorem kinds_unknown {op : Int} (h : op < 0 ∨ 12 < op) : kn op = false ∧ k0 op = 0 ∧ k1 op = 0 ∧ k2 op = 0 ∧ k3 op = 0 ∧ k4 op = 0 := by
  have e1 : wi op 1 9 = false := wi_false (by omega)
  have e2 : wi op 2 8 = false := wi_false (by omega)
  have e3 : wi op 10 12 = false := wi_false (by omega)
  have e4 : wi op 3 8 = false := wi_false (by omega)
  have e5 : wi op 0 11 = false := wi_false (by omega)
  have e6 : wi op 0 12 = false := wi_false (by omega)
  have n1 : op ≠ 1 := by omega
  have n2 : op ≠ 11 := by omega
  simp [kn, k0, k1, k2, k3, k4, e1, e2, e3, e4, e5, e6, n1, n2]

theorem op_cases (op : Int) : (op = 0 ∨ op = 1 ∨ op = 2 ∨ op = 3 ∨ op = 4 ∨ op = 5 ∨ op = 6 ∨ op = 7 ∨ op = 8 ∨ op = 9 ∨ op = 10 ∨ op = 11 ∨ op = 12) ∨ (op < 0 ∨ 12 < op) := by omega

theorem take_succ_get {α : Type} {l : List α} {k : Nat} {x : α} (h : l[k]? = some x) : l.take (k + 1) = l.take k ++ [x] := by
  obtain ⟨hk, rfl⟩ := List.getElem?_eq_some_iff.1 h
  exact List.take_succ_eq_append_getElem hk

theorem all_take_succ {α : Type} {l : List α} {k : Nat} {x : α} (p : α → Bool) (h : l[k]? = some x) : (l.take (k + 1)).all p = ((l.take k).all p && p x) := by
  rw [take_succ_get h, List.all_append]; simp

theorem all_false_at {α : Type} {l : List α} {k : Nat} {x : α} (p : α → Bool) (h : l[k]? = some x) (hp : p x = false) : l.all p = false := by
  rw [List.all_eq_false]; exact ⟨x, List.mem_of_getElem? h, by simp [hp]⟩

theorem take_all_len {α : Type} {l : List α} {k : Nat} (h : l.length ≤ k) : l.take k = l := List.take_of_length_le h

theorem get_lt {α : Type} {l : List α} {k : Nat} (h : k < l.length) : ∃ x, l[k]? = some x := ⟨l[k], List.getElem?_eq_getElem h⟩

end Go.Proofs.YtoikglgnmjjpcaaDoor
