/-
  More small functions of hoistway, each walked.
-/
import Derived.Test.YtoikglgnmjjpcaaDoorA
import Derived.Test.YtoikglgnmjjpcaaDoorMP
namespace Go.Proofs.YtoikglgnmjjpcaaDoor
open Go.RowKit
set_option linter.unusedVariables false

theorem hide {p : Prop} (h : p) : Hid p := h

set_option maxHeartbeats 400000 in
theorem fields_any (op : Int) (w : World) :
    Calls Tryd.prog 19 #[.int .i64 op] w fun e w' => e = .returned (.tuple #[.bool (wi op 1 9), .bool (wi op 2 8 || wi op 10 12), .bool (wi op 3 8), .bool (op != 12), .bool (op == 11)]) ∧ w' = w := by
  go_enter Tryd.func19, Tryd.ntmps19
  go_wp2_with (go_at_call 18; refine (rwithin_any _ _ _ _).mono ?_; rintro e w' ⟨rfl, rfl⟩)
  all_goals exact bodyPost_ret (v := .tuple #[.bool (wi op 1 9), .bool (wi op 2 8 || wi op 10 12), .bool (wi op 3 8), .bool (op != 12), .bool (op == 11)]) (by simp [results, Tryd.results19, go_sem, *]) rfl ⟨rfl, rfl⟩

set_option maxHeartbeats 400000 in
theorem values_any (op d a b t e : Int) (w : World) :
    Calls Tryd.prog 36 #[.agg #[.int .i64 op, .int .i64 d, .int .i64 a, .int .i64 b, .int .i64 t, .int .i64 e]] w fun r w' => r = .returned (.agg #[.int .i64 d, .int .i64 a, .int .i64 b, .int .i64 t, .int .i64 e]) ∧ Below w.heap.size w w' := by
  go_enter Tryd.func36, Tryd.ntmps36
  go_wp2
  exact bodyPost_ret (v := .agg #[.int .i64 d, .int .i64 a, .int .i64 b, .int .i64 t, .int .i64 e]) (by simp [results, Tryd.results36, go_sem]) rfl ⟨rfl, ((Below.refl _ _).alloc (Nat.le_refl _) _).alloc (by simp) _⟩

/-- The nodes ns lie in block b from cell off on. -/
structure NodesAt (w : World) (b off : Nat) (ns : List Nd) : Prop where
  lt : b < w.heap.size
  c0 : ∀ (i : Nat) (x : Nd), ns[i]? = some x → w.cell? ⟨b, off + i * 6, none⟩ = some (.int .i64 x.op)
  c1 : ∀ (i : Nat) (x : Nd), ns[i]? = some x → w.cell? ⟨b, off + i * 6 + 1, none⟩ = some (.int .i64 x.d)
  c2 : ∀ (i : Nat) (x : Nd), ns[i]? = some x → w.cell? ⟨b, off + i * 6 + 2, none⟩ = some (.int .i64 x.a)
  c3 : ∀ (i : Nat) (x : Nd), ns[i]? = some x → w.cell? ⟨b, off + i * 6 + 3, none⟩ = some (.int .i64 x.b)
  c4 : ∀ (i : Nat) (x : Nd), ns[i]? = some x → w.cell? ⟨b, off + i * 6 + 4, none⟩ = some (.int .i64 x.t)
  c5 : ∀ (i : Nat) (x : Nd), ns[i]? = some x → w.cell? ⟨b, off + i * 6 + 5, none⟩ = some (.int .i64 x.e)

theorem NodesAt.below {w w' : World} {b off B : Nat} {ns : List Nd} (h : NodesAt w b off ns) (hb : Below B w w') (hB : b < B) : NodesAt w' b off ns := by
  refine ⟨Nat.lt_of_lt_of_le h.lt hb.size, ?_, ?_, ?_, ?_, ?_, ?_⟩
  · intro i x hx; rw [hb.cell (p := ⟨b, _, none⟩) hB]; exact h.c0 i x hx
  · intro i x hx; rw [hb.cell (p := ⟨b, _, none⟩) hB]; exact h.c1 i x hx
  · intro i x hx; rw [hb.cell (p := ⟨b, _, none⟩) hB]; exact h.c2 i x hx
  · intro i x hx; rw [hb.cell (p := ⟨b, _, none⟩) hB]; exact h.c3 i x hx
  · intro i x hx; rw [hb.cell (p := ⟨b, _, none⟩) hB]; exact h.c4 i x hx
  · intro i x hx; rw [hb.cell (p := ⟨b, _, none⟩) hB]; exact h.c5 i x hx

def smallN : List Nd := [⟨9, 0, 0, 0, 1, 0⟩, ⟨9, 1, 0, 0, 2, 0⟩, ⟨11, 0, 0, 0, 3, 5⟩, ⟨3, 2, 0, 1, 4, 0⟩, ⟨10, 0, 2, 0, 5, 0⟩, ⟨3, 2, 0, 1, 6, 0⟩, ⟨12, 0, 2, 0, 0, 0⟩]

theorem small_cases {i : Nat} {x : Nd} (h : smallN[i]? = some x) : i = 0 ∧ x = ⟨9, 0, 0, 0, 1, 0⟩ ∨ i = 1 ∧ x = ⟨9, 1, 0, 0, 2, 0⟩ ∨ i = 2 ∧ x = ⟨11, 0, 0, 0, 3, 5⟩ ∨ i = 3 ∧ x = ⟨3, 2, 0, 1, 4, 0⟩ ∨ i = 4 ∧ x = ⟨10, 0, 2, 0, 5, 0⟩ ∨ i = 5 ∧ x = ⟨3, 2, 0, 1, 6, 0⟩ ∨ i = 6 ∧ x = ⟨12, 0, 2, 0, 0, 0⟩ := by
  match i, h with
  | 0, h => simp [smallN] at h; simp [h]
  | 1, h => simp [smallN] at h; simp [h]
  | 2, h => simp [smallN] at h; simp [h]
  | 3, h => simp [smallN] at h; simp [h]
  | 4, h => simp [smallN] at h; simp [h]
  | 5, h => simp [smallN] at h; simp [h]
  | 6, h => simp [smallN] at h; simp [h]
  | n + 7, h => simp [smallN] at h

set_option maxHeartbeats 400000 in
theorem small_any (w : World) :
    Calls Tryd.prog 26 #[] w fun r w' => r = .returned (.agg #[.int .i64 3, .slice (some ⟨w.heap.size + 1, 0, none⟩) 7 7]) ∧ NodesAt w' (w.heap.size + 1) 0 smallN ∧ Below w.heap.size w w' := by
  go_enter Tryd.func26, Tryd.ntmps26
  go_wp2
  refine bodyPost_ret (v := .agg #[.int .i64 3, .slice (some ⟨w.heap.size + 1, 0, none⟩) 7 7]) (by simp [results, Tryd.results26, go_sem]) rfl ⟨rfl, ⟨by simp, ?_, ?_, ?_, ?_, ?_, ?_⟩, ((Below.refl _ _).alloc (Nat.le_refl _) _).alloc (by simp) _⟩
  all_goals
    intro i x hx
    rcases small_cases hx with ⟨rfl, rfl⟩ | ⟨rfl, rfl⟩ | ⟨rfl, rfl⟩ | ⟨rfl, rfl⟩ | ⟨rfl, rfl⟩ | ⟨rfl, rfl⟩ | ⟨rfl, rfl⟩
    all_goals (rw [World.cell?_alloc_at _ _ _ _ (by simp)]; simp)

set_option maxHeartbeats 400000 in
theorem inb_any (k v r : Int) (pb : Nat) (a : Option Addr) (len cap : Nat) (w : World) (hr : 1 ≤ r ∧ r ≤ 64) (hl : len ≤ 256)
    (hp0 : w.cell? ⟨pb, 0, none⟩ = some (.int .i64 r)) (hp1 : w.cell? ⟨pb, 1, none⟩ = some (.slice a len cap)) :
    Calls Tryd.prog 29 #[.int .i64 k, .int .i64 v, .pointer (some ⟨pb, 0, none⟩)] w fun e w' => e = .returned (.bool (inB r len k v)) ∧ w' = w := by
  by_cases h1 : k = 1
  · subst h1
    go_enter Tryd.func29, Tryd.ntmps29
    go_wp2_with (go_at_call 27; refine (pwithin_any _ _ _ _).mono ?_; rintro e w' ⟨rfl, rfl⟩)
    go_ret
    exact ⟨ret_bool (by simp [inB]), rfl⟩
  by_cases h3 : k = 3
  · subst h3
    go_enter Tryd.func29, Tryd.ntmps29
    go_wp2_with (go_at_call 27; refine (pwithin_any _ _ _ _).mono ?_; rintro e w' ⟨rfl, rfl⟩)
    go_ret
    exact ⟨ret_bool (by simp [inB]), rfl⟩
  · go_enter Tryd.func29, Tryd.ntmps29
    go_wp2
    go_ret
    exact ⟨ret_bool (by simp [inB, h1, h3]), rfl⟩

set_option maxHeartbeats 400000 in
theorem nof_any (k v : Int) (w : World) :
    Calls Tryd.prog 31 #[.int .i64 k, .int .i64 v] w fun e w' => e = .returned (.bool (noF k v)) ∧ w' = w := by
  by_cases h0 : k = 0
  · subst h0
    go_enter Tryd.func31, Tryd.ntmps31
    go_wp2
    go_ret
    exact ⟨ret_bool (by simp [noF]), rfl⟩
  · have hb : (k != 0) = true := by simp [h0]
    go_enter Tryd.func31, Tryd.ntmps31
    go_wp2
    go_ret
    exact ⟨ret_bool (by simp [noF, h0]), rfl⟩

end Go.Proofs.YtoikglgnmjjpcaaDoor
