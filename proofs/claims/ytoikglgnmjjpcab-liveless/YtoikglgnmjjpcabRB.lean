/-
  The machine of package run in memory; run.machine.comeIn, walked.
-/
import Derived.Test.YtoikglgnmjjpcabRA
import Derived.Test.YtoikglgnmjjpcabF
namespace Go.Proofs.Ytoikglgnmjjpcab
open Go.RowKit
set_option linter.unusedVariables false

theorem blk_set {w : World} {b i : Nat} {cs : Array Value} {t : TypeId} {fr : Nat × Nat} (v : Value) (h : w.heap[b]? = some (.cells cs t fr)) : (w.setCell ⟨b, i, none⟩ v).heap[b]? = some (.cells (cs.setIfInBounds i v) t fr) := by
  simp [World.setCell, Array.getElem?_modify, h]
theorem blk_set_ne {w : World} {b b' i : Nat} {o : Obj} (v : Value) (h : w.heap[b]? = some o) (hne : b ≠ b') : (w.setCell ⟨b', i, none⟩ v).heap[b]? = some o := by
  rw [Below.heap_setCell _ _ _ _ (by exact hne)]; exact h
theorem blk_alloc {w : World} {b : Nat} {o : Obj} (o' : Obj) (h : w.heap[b]? = some o) : (w.alloc o').heap[b]? = some o := by
  rw [Below.heap_alloc _ _ _ (Array.getElem?_eq_some_iff.1 h).1]; exact h
theorem blk_drew {w : World} {b : Nat} {o : Obj} (h : w.heap[b]? = some o) : w.drew.heap[b]? = some o := h
theorem blk_lt {w : World} {b : Nat} {o : Obj} (h : w.heap[b]? = some o) : b < w.heap.size := (Array.getElem?_eq_some_iff.1 h).1
theorem blk_cell {w : World} {b : Nat} {cs : Array Value} {t : TypeId} {fr : Nat × Nat} (h : w.heap[b]? = some (.cells cs t fr)) (i : Nat) : w.cell? ⟨b, i, none⟩ = cs[i]? := by
  simp [World.cell?, h]
theorem blk_frozen {w : World} {b : Nat} {cs : Array Value} {t : TypeId} (h : w.heap[b]? = some (.cells cs t (0, 0))) (i : Nat) : w.frozen? ⟨b, i, none⟩ = false := by
  simp [World.frozen?, h]

/-- The numbers that have not come in yet lie below block B. -/
def InAt (w : World) (B : Nat) (a : Option Addr) (zs : List Int) : Prop :=
  zs = [] ∨ ∃ b off, a = some ⟨b, off, none⟩ ∧ b < B ∧ ∀ (j : Nat) (z : Int), zs[j]? = some z → w.cell? ⟨b, off + j, none⟩ = some (.int .i64 z)

theorem InAt.below {w w' : World} {B : Nat} {a : Option Addr} {zs : List Int} (h : InAt w B a zs) (hb : Below B w w') : InAt w' B a zs := by
  rcases h with h | ⟨b, off, rfl, hlt, h⟩
  · exact Or.inl h
  · exact Or.inr ⟨b, off, rfl, hlt, fun j z hz => by rw [hb.cell (p := ⟨b, _, none⟩) hlt]; exact h j z hz⟩

set_option maxHeartbeats 400000 in
theorem comeIn_nil (mb : Nat) (v0 v1 v2 v3 v4 v5 v6 v8 v9 : Value) (ia : Option Addr) (ic : Nat) (w : World)
    (hm : w.heap[mb]? = some (.cells #[v0, v1, v2, v3, v4, v5, v6, .slice ia 0 ic, v8, v9] 75 (0, 0))) :
    Calls Try.prog 45 #[.pointer (some ⟨mb, 0, none⟩)] w fun e w' => e = .returned (.int .i64 0) ∧ w' = w := by
  have c7 := blk_cell hm 7
  simp at c7
  clear hm
  go_enter Try.func45, Try.ntmps45
  go_wp2
  go_ret
  exact ⟨rfl, rfl⟩

set_option maxHeartbeats 400000 in
theorem comeIn_cons (mb : Nat) (v0 v1 v2 v3 v4 v5 v6 v8 v9 : Value) (b off l ic : Nat) (z : Int) (w : World) (hl : l + 1 ≤ ic)
    (hm : w.heap[mb]? = some (.cells #[v0, v1, v2, v3, v4, v5, v6, .slice (some ⟨b, off, none⟩) (l + 1) ic, v8, v9] 75 (0, 0))) (hz : w.cell? ⟨b, off, none⟩ = some (.int .i64 z)) :
    Calls Try.prog 45 #[.pointer (some ⟨mb, 0, none⟩)] w fun e w' => e = .returned (.int .i64 z) ∧ ∃ ia ic', w' = w.setCell ⟨mb, 7, none⟩ (.slice ia l ic') ∧ l ≤ ic' ∧ (l = 0 ∨ ia = some ⟨b, off + 1, none⟩) := by
  have c7 := blk_cell hm 7
  have f7 := blk_frozen hm 7
  simp at c7
  clear hm
  have hne : (((l + 1 : Nat) : Int) == 0) = false := by simp; omega
  by_cases hc : ic = 1
  · subst hc
    have hl0 : l = 0 := by omega
    subst hl0
    go_enter Try.func45, Try.ntmps45
    go_wp2
    go_ret
    exact ⟨rfl, _, _, rfl, Nat.zero_le _, Or.inl (by first | rfl | trivial)⟩
  · have hc1 : (1 : Nat) < ic := by omega
    go_enter Try.func45, Try.ntmps45
    go_wp2
    go_ret
    exact ⟨rfl, _, ic - 1, rfl, by omega, Or.inr rfl⟩
end Go.Proofs.Ytoikglgnmjjpcab
