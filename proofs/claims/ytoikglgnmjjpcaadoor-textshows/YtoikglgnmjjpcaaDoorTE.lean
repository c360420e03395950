/-
  text.operations, walked: the map of names.
-/
import Derived.Test.YtoikglgnmjjpcaaDoorB
import Derived.Test.YtoikglgnmjjpcaaDoorTC
import Derived.Maps.OwnSet
import Derived.Maps.RangeWalk
import Derived.StringKeys
namespace Go.Proofs.YtoikglgnmjjpcaaDoor
open Go.RowKit Go.Maps Go.ChangeMaps
open Go.WideMaps (KeyLaw string_law keyOf_string_mk)
set_option linter.unusedVariables false

theorem wpList_insert_own {H : Type} {P : Program} (w : World) {ops : Array Oper} {rest : List Oper} {o : Oper} {a : Act} {Q : Exit → Act → World → Prop}
    (hg : o.guard = none) (m x v : Operand) (t : TypeId) (hop : o.op = Op.insert t m x v)
    (k e : TypeId) (K : Keyed P k) (ht : P.underlying t = some (.map k e)) (R : Value → Option (DataW H × List MemPlace)) (b n : Nat) (D : DataW H)
    (hm : a.eval m = .map (some b)) (hown : w.ownsMap P k R b n D) (hn : n < maxLen) (key val : Value) (kl : Lit) (hx : a.eval x = key) (hv : a.eval v = val) (hkey : keyOf P k key = some kl)
    (d : DataW H) (ps : List MemPlace) (hval : R val = some (d, ps))
    (hK : ∀ w', w'.ownsMap P k R b (n + 1) (D.put kl d) → w.grownBy w' (some b) → wpList P ops Q rest (a.put o.dst undef) w') :
    wpList P ops Q (o :: rest) a w := by
  refine wpList_plain hg fun K' hK' => ?_
  obtain ⟨w', hrun, r1, r2⟩ := hown.update K ht hn hkey hval
  unfold Oper.wp
  simp [execOp, hop, hm, hx, hv, hrun, Result.andThen]
  exact hK' _ _ (hK w' r1 r2)

theorem slaw : KeyLaw Tryd.prog 9 := string_law Tryd.underlying9

/-- The map of names, as data. -/
def opD : DataW Unit := nmL.zipIdx.foldl (fun D p => D.put (.string p.1) (.lit (.int .i64 (p.2 : Nat)))) (.map [])

theorem opD_fold (x : List UInt8) : ∀ (l : List (List UInt8 × Nat)) (D : DataW Unit), IsMap D → (l.map (·.1)).Nodup →
    ∀ z, (l.foldl (fun D p => D.put (.string p.1) (.lit (.int .i64 (p.2 : Nat)))) D).atKey (.string x) z = match l.find? (fun p => p.1 == x) with
      | some p => .lit (.int .i64 (p.2 : Nat))
      | none => D.atKey (.string x) z
  | [], D, hD, hn, z => rfl
  | p :: l, D, hD, hn, z => by
    rw [List.foldl_cons, opD_fold x l _ (hD.put _ _) (List.nodup_cons.1 hn).2 z, List.find?_cons]
    by_cases e : p.1 = x
    · have hno : l.find? (fun q => q.1 == x) = none := by
        rw [List.find?_eq_none]
        intro q hq he
        have : q.1 = x := by simpa using he
        exact (List.nodup_cons.1 hn).1 (by show p.1 ∈ _; rw [e, ← this]; exact List.mem_map_of_mem hq)
      rw [hno]
      simp only [e, beq_self_eq_true]
      exact atKey_put_same hD (by trivial) _ _
    · have : (p.1 == x) = false := by simpa using e
      rw [this]
      simp only
      split
      · rfl
      · exact atKey_put_other (by intro h; exact e (Lit.string.inj h).symm) _ _

theorem opD_at (x : List UInt8) (z : DataW Unit) : opD.atKey (.string x) z = match opOf x with
    | some o => .lit (.int .i64 (o : Nat))
    | none => z := by
  unfold opD
  rw [opD_fold x _ _ isMap_empty (by decide) z]
  unfold opOf
  have key : ∀ (l : List (List UInt8)) (k : Nat), ((l.zipIdx k).find? (fun p => p.1 == x)).map (·.2) = (l.findIdx? (· == x)).map (· + k) := by
    intro l
    induction l with
    | nil => intro k; rfl
    | cons y l ih =>
      intro k
      rw [List.zipIdx_cons, List.find?_cons, List.findIdx?_cons]
      by_cases e : (y == x) = true
      · simp [e]
      · have e' : (y == x) = false := by simpa using e
        simp only [e', if_false, Bool.false_eq_true]
        rw [ih]
        cases l.findIdx? (· == x) <;> simp <;> omega
  have k0 := key nmL 0
  cases e1 : nmL.findIdx? (· == x) with
  | none =>
    rw [e1] at k0
    cases e2 : nmL.zipIdx.find? (fun p => p.1 == x) with
    | none => simp only; rfl
    | some p => rw [e2] at k0; simp at k0
  | some o =>
    rw [e1] at k0
    cases e2 : nmL.zipIdx.find? (fun p => p.1 == x) with
    | none => rw [e2] at k0; simp at k0
    | some p => rw [e2] at k0; simp at k0; simp only; rw [k0]

theorem opD_has (x : List UInt8) : Maps.has opD (.string x) = (opOf x).isSome := by
  cases e : opOf x with
  | none => exact has_false_of_atKey fun z => by rw [opD_at, e]
  | some o => exact has_true_of_atKey (y := .lit (.int .i64 (o : Nat))) fun z => by rw [opD_at, e]

set_option maxHeartbeats 2000000 in
set_option maxRecDepth 100000 in
theorem operations_any (w : World) : Calls Tryd.prog 32 #[] w fun e w' => e = .returned (.map (some w.heap.size)) ∧ w'.ownsMap Tryd.prog 9 (plainElem Tryd.prog 3) w.heap.size 13 opD ∧ Below w.heap.size w w' := by
  have KK := Keyed.of_law slaw
  have hown := World.ownsMap_made (H := Unit) w Tryd.prog 9 (plainElem Tryd.prog 3)
  have hB : Below w.heap.size w (w.alloc (.map #[] 0)) := (Below.refl _ _).alloc (Nat.le_refl _) _
  have hmk : ∀ W : World, Sem.run Tryd.prog (Instr.makeMap 66 none) W = .ok (.map (some W.heap.size)) (W.alloc (.map #[] 0)) := fun W => rfl
  have hml : 13 < maxLen := by decide
  go_enter Tryd.func32, Tryd.ntmps32
  go_wp2_with (refine wpList_insert_own _ rfl _ _ _ 66 rfl 9 3 KK Tryd.underlying66 _ w.heap.size _ _ rfl hown (by omega) _ _ _ rfl rfl (keyOf_string_mk Tryd.underlying9 (by decide)) _ [] (plainElem_int Tryd.underlying3 (by decide)) ?_; have hlt := hown.lt; clear hown; intro w1 hown hg1; replace hB := hB.grown hg1 (by omega) (fun k hk => by have := Option.some.inj hk; omega); clear hg1 hlt)
  go_ret
  refine ⟨rfl, hown, hB⟩

end Go.Proofs.YtoikglgnmjjpcaaDoor
