/-
  run.counts, walked up to its sort: what a map of counts holds, gone through in whatever order.
-/
import Derived.Test.YtoikglgnmjjpcaaRE
import Derived.Test.YtoikglgnmjjpcaaG
import Derived.Maps.RangeWalk
namespace Go.Proofs.Ytoikglgnmjjpcaa
open Go.RowKit Go.Maps Go.ChangeMaps
set_option linter.unusedVariables false

theorem lits_int_inv {d : Nat} {u : Value} {ls : List Lit} (h : Try.prog.keyLits (d + 1) 3 [u] = some ls) : ∃ n, u = .int .i64 n ∧ (Lit.int .i64 n).wf = true := by
  cases u <;> simp [Program.keyLits, Try.underlying3] at h
  obtain ⟨⟨rfl, hw⟩, rfl⟩ := h
  exact ⟨_, rfl, hw⟩

set_option maxRecDepth 100000 in
theorem tkey_inv {key : Value} {kl : Lit} (h : keyOf Try.prog 36 key = some kl) : ∃ t : Tm, key = .agg #[.int .i64 t.op, .int .i64 t.a, .int .i64 t.b] ∧ twf t ∧ kl = tkl t := by
  have hk : Try.prog.keyType 36 = true := by kernel_rfl
  have hc : Try.prog.cellsOf 36 = 3 := by kernel_rfl
  have hci : Try.prog.cellsOf 3 = 1 := by kernel_rfl
  obtain ⟨m, hm⟩ := types_pos
  have h' := h
  unfold keyOf at h
  rw [Try.underlying36] at h
  simp only [hk, Bool.true_and] at h
  split at h
  · rename_i hf
    cases key <;> simp [Value.formed, Try.underlying36] at hf
    rename_i cs
    rw [hc] at hf
    obtain ⟨l⟩ := cs
    match l, hf with
    | [a, b, c], _ =>
      rw [hm] at h
      unfold Program.keyLits at h
      simp [Try.underlying36, hc, hci, Value.cells] at h
      have q1 : ∃ l1, Try.prog.keyLits (m + 1) 3 [a] = some l1 := by
        cases e : Try.prog.keyLits (m + 1) 3 [a] with
        | none => simp [e] at h
        | some l1 => exact ⟨l1, rfl⟩
      obtain ⟨l1, q1⟩ := q1
      rw [q1] at h
      have q2 : ∃ l1, Try.prog.keyLits (m + 1) 3 [b] = some l1 := by
        cases e : Try.prog.keyLits (m + 1) 3 [b] with
        | none => simp [e] at h
        | some l1 => exact ⟨l1, rfl⟩
      obtain ⟨l2, q2⟩ := q2
      rw [q2] at h
      have q3 : ∃ l1, Try.prog.keyLits (m + 1) 3 [c] = some l1 := by
        cases e : Try.prog.keyLits (m + 1) 3 [c] with
        | none => simp [e] at h
        | some l1 => exact ⟨l1, rfl⟩
      obtain ⟨l3, q3⟩ := q3
      obtain ⟨n1, rfl, w1⟩ := lits_int_inv q1
      obtain ⟨n2, rfl, w2⟩ := lits_int_inv q2
      obtain ⟨n3, rfl, w3⟩ := lits_int_inv q3
      refine ⟨⟨n1, n2, n3⟩, rfl, ⟨w1, w2, w3⟩, ?_⟩
      have := tkey ⟨n1, n2, n3⟩ w1 w2 w3
      rw [h'] at this
      exact Option.some.inj this
  · exact absurd h (by simp)

def encCt (c : Ct) : List Value := [.int .i64 c.t.op, .int .i64 c.t.a, .int .i64 c.t.b, .int .i64 c.n]

/-- What has been gone through of the counts l, where 'left' is what is still to come. -/
structure Gone (l : List Ct) (left : Lit → Bool) (L : List Ct) : Prop where
  mem : ∀ c ∈ L, ctOf l c.t = some c.n ∧ left (tkl c.t) = false ∧ twf c.t
  nd : (L.map (·.t)).Nodup
  all : ∀ t, twf t → (ctOf l t).isSome = true → left (tkl t) = false → t ∈ L.map (·.t)

theorem Gone.start {l : List Ct} {D : DataW Unit} (rel : MapRel D l) : Gone l (Maps.has D) [] := by
  refine ⟨by simp, by simp, fun t ht h1 h2 => ?_⟩
  exfalso
  cases e : ctOf l t with
  | none => simp [e] at h1
  | some n =>
    have := has_true_of_atKey (D := D) (k := tkl t) (y := .lit (.int .i64 n)) fun z => by rw [rel.2 t ht z, e]
    rw [this] at h2; exact absurd h2 (by simp)

theorem MapRel.found {D : DataW Unit} {l : List Ct} (rel : MapRel D l) {t : Tm} (ht : twf t) {n : Int} (h : ∀ z, D.atKey (tkl t) z = .lit (.int .i64 n)) : ctOf l t = some n := by
  have h1 := rel.2 t ht (.lit (.int .i64 (n + 1)))
  rw [h] at h1
  cases e : ctOf l t with
  | none => rw [e] at h1; have := (Lit.int.inj (DataW.lit.inj h1)).2; omega
  | some m => rw [e] at h1; have := (Lit.int.inj (DataW.lit.inj h1)).2; rw [this]

theorem Gone.more {l : List Ct} {left : Lit → Bool} {L : List Ct} (h : Gone l left L) {t : Tm} {n : Int} (ht : twf t) (hl : left (tkl t) = true) (hc : ctOf l t = some n) : Gone l (fun z => left z && !z.sameKey (tkl t)) (L ++ [⟨t, n⟩]) := by
  have hkl : (tkl t).sameKey (tkl t) = true := by simp [tkl, Lit.sameKey]
  have hne : ∀ u, twf u → u ≠ t → (tkl u).sameKey (tkl t) = false := fun u hu e => by
    cases q : (tkl u).sameKey (tkl t)
    · rfl
    · exfalso
      apply e
      apply tkl_inj hu ht
      simpa [tkl, Lit.sameKey] using q
  have hnot : t ∉ L.map (·.t) := fun hm => by
    obtain ⟨c, hc1, hc2⟩ := List.mem_map.1 hm
    have := (h.mem c hc1).2.1
    rw [hc2, hl] at this; exact absurd this (by simp)
  refine ⟨fun c hcm => ?_, ?_, fun u hu hs hf => ?_⟩
  · rw [List.mem_append] at hcm
    rcases hcm with hcm | hcm
    · obtain ⟨a, b, c⟩ := h.mem c hcm
      exact ⟨a, by rw [b]; rfl, c⟩
    · simp at hcm; subst hcm
      exact ⟨hc, by simp [hkl], ht⟩
  · rw [List.map_append, List.nodup_append]
    refine ⟨h.nd, by simp, fun a ha b hb => ?_⟩
    simp at hb; subst hb
    exact fun e => hnot (e ▸ ha)
  · rw [List.map_append, List.mem_append]
    by_cases e : u = t
    · subst e; right; simp
    · left
      refine h.all u hu hs ?_
      simpa [hne u hu e] using hf

end Go.Proofs.Ytoikglgnmjjpcaa
