/-
  flow.Solve, walked.
-/
import Derived.Test.YtoikglgnmjjpcaaME
import Derived.Deep.Upon
namespace Go.Proofs.Ytoikglgnmjjpcaa
open Go.RowKit Go.Shelf
set_option linter.unusedVariables false

theorem info_boolF : (Try.prog.info? 4).map (fun i => (i.zero, i.size, i.bytes)) = some (some (.bool false), 1, 1) := by kernel_rfl
theorem made_boolsF (n : Nat) : madeCells #[Value.bool false] n = ((List.replicate n false).map Value.bool).toArray := by
  apply Array.ext'
  rw [toList_madeCells_one]
  simp

/-- How many of the cells say yes. -/
def trues (cs : Array Value) : Nat := (cs.toList.filter fun v => match v with | .bool true => true | _ => false).length
def truesAt (w : World) (b : Nat) : Nat := match w.heap[b]? with | some (.cells cs _ _) => trues cs | _ => 0
def lenV : Value → Nat | .slice _ n _ => n | _ => 0

theorem trues_map (x : List Bool) : trues (x.map Value.bool).toArray = yeses x := by
  simp only [trues, yeses]
  induction x with
  | nil => rfl
  | cons a l ih =>
    cases a
    · simpa using ih
    · simpa using ih

theorem truesAt_of {w : World} {b : Nat} {x : List Bool} {t : TypeId} {fr : Nat × Nat} (h : w.heap[b]? = some (.cells (x.map Value.bool).toArray t fr)) : truesAt w b = yeses x := by
  simp only [truesAt, h]; exact trues_map x

theorem repl_set {k L : Nat} (h : k < L) : (List.replicate k true ++ List.replicate (L - k) false).set k true = List.replicate (k + 1) true ++ List.replicate (L - (k + 1)) false := by
  obtain ⟨d, hd⟩ : ∃ d, L - k = d + 1 := ⟨L - k - 1, by omega⟩
  have e : L - (k + 1) = d := by omega
  rw [hd, e, List.replicate_succ, List.set_append_right _ _ (by simp)]
  simp [List.replicate_succ']

theorem repl_get {k L : Nat} (h : k < L) : ((List.replicate k true ++ List.replicate (L - k) false).map Value.bool).toArray[k]? = some (.bool false) := by
  obtain ⟨d, hd⟩ : ∃ d, L - k = d + 1 := ⟨L - k - 1, by omega⟩
  rw [hd, List.getElem?_toArray, List.getElem?_map, List.getElem?_append_right (by simp)]
  simp

theorem ints_snoc (l : List Nat) (k : Nat) : ints (l ++ [k]) = ints l ++ [(k : Int)] := by simp [ints]
theorem ints_append (l m : List Nat) : ints (l ++ m) = ints l ++ ints m := by simp [ints]

/-- The last one is taken off. -/
theorem owns_pop {w : World} {base : Nat} {e : TypeId} {g cap n : Nat} {xs : List Value} {v : Value} (h : w.ownsRow base e 1 (.slice (some ⟨g, 0, none⟩) (n + 1) cap) (n + 1) (xs ++ [v])) : w.ownsRow base e 1 (.slice (some ⟨g, 0, none⟩) n cap) n xs := by
  obtain ⟨hl, h⟩ := h
  simp only [List.length_append, List.length_singleton, Nat.mul_one] at hl
  refine ⟨by omega, ?_⟩
  rcases h with ⟨q, _⟩ | ⟨g', cap', cur, q, a1, a2, a3, a4, a5, a6⟩
  · cases q
  · cases q
    refine Or.inr ⟨g, cap, cur, rfl, a1, a2, by omega, a4, a5, ?_⟩
    simp only [Nat.mul_one] at a6 ⊢
    have h2 := congrArg (List.take n) a6
    rw [List.take_take, Nat.min_eq_left (by omega)] at h2
    rw [h2, List.take_append_of_le_length (by omega), List.take_of_length_le (by omega)]

theorem append_zero (w : World) (ty : TypeId) (base a : Option Addr) (sLen sCap c : Nat) (hle : sLen ≤ sCap) :
    (Builtin.append_ #[25, 25] ty #[.slice base sLen sCap, .slice a 0 c]).run Try.prog w = .ok (.slice base sLen sCap) w := by
  obtain ⟨i0, hi, hz0, hz1, hz2⟩ := info_parts info_int
  refine run_append_nothing w 25 25 ty 3 i0 Try.underlying25 hi base sLen sCap hle _ ⟨Or.inl ⟨_, Try.underlying25⟩, fun w' => by simp [Builtin.lenOf], ?_, ?_, by simp, by simp⟩
  · cases a <;> simp [Builtin.firstCells, loadCells, loadCellsFrom]
  · cases a <;> simp [Builtin.firstCells, loadCells, loadCellsFrom]

theorem wpList_append_zero {w : World} {ops : Array Oper} {rest : List Oper} {o : Oper} {a : Act} {Q : Exit → Act → World → Prop} (hgd : o.guard = none) (s x : Operand)
    (ho : o.op = .call { callee := .builtin .append, args := #[s, x], argTypes := #[25, 25] }) (base ra : Option Addr) (sLen sCap c : Nat) (hs : a.eval s = .slice base sLen sCap) (hx : a.eval x = .slice ra 0 c) (hle : sLen ≤ sCap)
    (h : wpList Try.prog ops Q rest (a.put o.dst (.slice base sLen sCap)) w) : wpList Try.prog ops Q (o :: rest) a w := by
  refine wpList_plain hgd fun K hK => ?_
  have hr := append_zero w o.type base ra sLen sCap c hle
  unfold Oper.wp execOp
  simp only [ho, resolve, invoke, builtin, Sem.run_bind, Sem.run_pure, Result.andThen_ok, List.map_toArray, List.map_cons, List.map_nil, hs, hx, hr]
  exact hK _ _ h

theorem addr_add (b o j : Nat) : (⟨b, o, none⟩ : Addr).add j = ⟨b, o + j, none⟩ := by
  cases j <;> simp [Addr.add]

end Go.Proofs.Ytoikglgnmjjpcaa
