/-
  links.Exits: the iterator over a node's exits, and what it owes to whoever ranges over it.
-/
import Derived.RangeFuncNested
import Derived.RangeFuncBound
import Derived.RangeFuncCalls
import Derived.RangeFuncLeaves
import Derived.Shelf.Abstract
import Derived.Shelf.RegionOpen
import Derived.OwnWalkIn
import Derived.TacticsInMore
import Derived.LoopNIn
import Derived.LoopIn
import Derived.Test.YtoikglgnmjjpcabA
import Derived.Test.YtoikglgnmjjpcabGD
namespace Go.Proofs.Ytoikglgnmjjpcab
open Go.RowKit Go.Shelf
set_option linter.unusedVariables false

attribute [local go_sem] Oper.semAt_some

theorem hide' {p : Prop} (h : p) : Hid p := h

/-- An exit of a node. -/
abbrev Ex (x : Nd) := { m : Int // m ∈ exo x }
def exoA (x : Nd) : List (Ex x) := (exo x).attach
def exv {x : Nd} (l : List (Ex x)) : List Int := l.map (·.1)
theorem exv_nil {x : Nd} : exv ([] : List (Ex x)) = [] := rfl
theorem exv_snoc {x : Nd} (l : List (Ex x)) (y : Ex x) : exv (l ++ [y]) = exv l ++ [y.1] := by simp [exv]
theorem exoA_map (x : Nd) : (exoA x).map (·.1) = exo x := by simp [exoA]
theorem exv_all (x : Nd) : exv (exoA x) = exo x := exoA_map x
theorem exv_len {x : Nd} (l : List (Ex x)) : (exv l).length = l.length := by simp [exv]
theorem exoA_len (x : Nd) : (exoA x).length = (exo x).length := by simp [exoA]
theorem exo_len (x : Nd) : (exo x).length ≤ 2 := by
  unfold exo; repeat' split
  all_goals simp

/-- The node's box. -/
def NodeBox (w : World) (B : Nat) (x : Nd) : Prop := w.heap[B]? = some (.cells #[.int .i64 x.op, .int .i64 x.d, .int .i64 x.a, .int .i64 x.b, .int .i64 x.t, .int .i64 x.e] 53 (0, 0))
theorem NodeBox.lt {w : World} {B : Nat} {x : Nd} (h : NodeBox w B x) : B < w.heap.size := (Array.getElem?_eq_some_iff.1 h).1
theorem NodeBox.c0 {w : World} {B : Nat} {x : Nd} (h : NodeBox w B x) : w.cell? ⟨B, 0, none⟩ = some (.int .i64 x.op) := by simp [World.cell?, show w.heap[B]? = _ from h]
theorem NodeBox.c4 {w : World} {B : Nat} {x : Nd} (h : NodeBox w B x) : w.cell? ⟨B, 4, none⟩ = some (.int .i64 x.t) := by simp [World.cell?, show w.heap[B]? = _ from h]
theorem NodeBox.c5 {w : World} {B : Nat} {x : Nd} (h : NodeBox w B x) : w.cell? ⟨B, 5, none⟩ = some (.int .i64 x.e) := by simp [World.cell?, show w.heap[B]? = _ from h]
theorem NodeBox.below {w w' : World} {B n₀ : Nat} {x : Nd} (h : NodeBox w B x) (hb : Below n₀ w w') (hB : B < n₀) : NodeBox w' B x := (hb.block B hB).trans h

/-- What a round keeps for the iterator: the node's box, and the kinds that it has laid for itself. -/
structure KT (B : Nat) (A C : World) : Prop where
  box : C.heap[B]? = A.heap[B]?
  kinds : ∀ (k : Nat) vs fr, A.heap[k]? = some (.cells vs 90 fr) → C.heap[k]? = A.heap[k]?

theorem KT.refl (B : Nat) (A : World) : KT B A A := ⟨rfl, fun _ _ _ _ => rfl⟩
theorem KT.trans {B : Nat} {A C E : World} (h : KT B A C) (k : KT B C E) : KT B A E :=
  ⟨k.box.trans h.box, fun i vs fr e => by
    have h1 := h.kinds i vs fr e
    rw [k.kinds i vs fr (h1.trans e), h1]⟩
theorem KT.of_below {B : Nat} {A C : World} (h : Below A.heap.size A C) (hB : B < A.heap.size) : KT B A C :=
  ⟨h.block B hB, fun i vs fr e => h.block i (Array.getElem?_eq_some_iff.1 e).1⟩
theorem KT.grown {B : Nat} {A C : World} {row : Option Nat} (hg : A.grownBy C row) (hB : B < A.heap.size) (hr : ∀ g, row = some g → g ≠ B ∧ ∃ vs t fr, A.heap[g]? = some (.cells vs t fr) ∧ t ≠ 90) : KT B A C :=
  ⟨hg.block B hB fun e => (hr B e.symm).1 rfl, fun i vs fr e => hg.block i (Array.getElem?_eq_some_iff.1 e).1 fun e2 => by
    obtain ⟨_, vs', t, fr', h1, h2⟩ := hr i e2.symm
    rw [h1] at e
    cases e
    exact h2 rfl⟩
theorem KT.setCell {B : Nat} {A : World} {b o : Nat} {vs : Array Value} {t : TypeId} {fr : Nat × Nat} (h : A.heap[b]? = some (.cells vs t fr)) (ht : t ≠ 90) (hb : b ≠ B) (v : Value) : KT B A (A.setCell ⟨b, o, none⟩ v) :=
  ⟨Below.heap_setCell _ _ _ B fun e2 => hb e2.symm, fun i vs' fr' e => Below.heap_setCell _ _ _ i fun e2 => by
    simp only at e2
    subst e2
    rw [h] at e
    cases e
    exact ht rfl⟩
theorem KT.putObj {B : Nat} {w : World} (hB : B < w.heap.size) (W : World) (l : Nat) (o o' : Obj) (hl : w.heap.size ≤ l) (h : W.heap[l]? = some o) (hc : o.isCells = false) (_ : o.isWalk = false) : KT B W (W.putObj l o') :=
  ⟨World.putObj_heap_other (by omega), fun i vs fr e => World.putObj_heap_other fun e2 => by
    subst e2
    rw [h] at e
    cases e
    cases hc⟩
theorem KT.node {B : Nat} {A C : World} {x : Nd} (h : KT B A C) (hx : NodeBox A B x) : NodeBox C B x := h.box.trans hx

theorem k3_ne {op : Int} (h : ¬ (0 ≤ op ∧ op ≤ 11)) : (k3 op == 3) = false := by
  have : wi op 0 11 = false := wi_false (by omega)
  simp [k3, this]
theorem k3_eq {op : Int} (h : 0 ≤ op ∧ op ≤ 11) : k3 op = 3 := by
  simp [k3, wi_true h.1 h.2]

theorem grown_of_below {w w' : World} (h : Below w.heap.size w w') (row : Option Nat) : w.grownBy w' row := ⟨h.os, h.tape, h.output, h.size, fun k hk _ => h.block k hk⟩

theorem abides_below {α : Type} {B : Nat} {J : List α → World → Prop} (hJ : AbidesFrom B J) {s : List α} {w w' : World} (h : J s w) (hb : Below w.heap.size w w') : J s w' :=
  hJ s w w' none h (grown_of_below hb none) (fun r e => by cases e)

theorem exoA_nil {x : Nd} (h : exo x = []) : exoA x = [] := by
  have := exoA_len x; rw [h] at this; exact List.eq_nil_of_length_eq_zero this
theorem exoA_one {x : Nd} {a : Int} (h : exo x = [a]) : ∃ ha : a ∈ exo x, exoA x = [⟨a, ha⟩] := by
  refine ⟨by rw [h]; simp, ?_⟩
  have hm := (exoA_map x).trans h
  cases e : exoA x with
  | nil => rw [e] at hm; simp at hm
  | cons y l =>
    rw [e] at hm
    simp only [List.map_cons, List.cons.injEq, List.map_eq_nil_iff] at hm
    obtain ⟨h1, h2⟩ := hm
    subst h2
    congr 1; exact Subtype.ext h1
theorem exoA_two {x : Nd} {a b : Int} (h : exo x = [a, b]) : ∃ (ha : a ∈ exo x) (hb : b ∈ exo x), exoA x = [⟨a, ha⟩, ⟨b, hb⟩] := by
  refine ⟨by rw [h]; simp, by rw [h]; simp, ?_⟩
  have hm := (exoA_map x).trans h
  cases e : exoA x with
  | nil => rw [e] at hm; simp at hm
  | cons y l =>
    rw [e] at hm
    cases l with
    | nil => simp at hm
    | cons z l =>
      simp only [List.map_cons, List.cons.injEq, List.map_eq_nil_iff] at hm
      obtain ⟨h1, h2, h3⟩ := hm
      subst h3
      congr 1
      · exact Subtype.ext h1
      · congr 1; exact Subtype.ext h2

set_option maxRecDepth 100000 in
set_option maxHeartbeats 1000000 in
theorem exits1_none (n : Nat) (hn : 1 ≤ n) (l B : Nat) (x : Nd) (J Jx : List (Ex x) → World → Prop) (W : World) (hJ : AbidesFrom W.heap.size J)
    (hY : ∀ pre (y : Ex x) W, J pre W → pre.length < (exo x).length → YieldAt Fence.wide (n - 1) Try.prog l #[.int .i64 y.1] W fun e W' =>
      (e = .returned (.bool true) ∧ J (pre ++ [y]) W' ∧ KT B W W') ∨ (e = .returned (.bool false) ∧ Jx (pre ++ [y]) W'))
    (hx : NodeBox W B x) (h0 : J [] W) (h3 : ¬ (0 ≤ x.op ∧ x.op ≤ 11)) :
    CallsIn Fence.wide n Try.prog 62 #[.func (.yield l) #[] #[], .pointer (some ⟨B, 0, none⟩)] W fun e W' => (∃ v, e = .returned v) ∧
      ((∃ ys, ys = exoA x ∧ J ys W') ∨ (∃ pre, pre <+: exoA x ∧ Jx pre W')) := by
  have c0 := hx.c0
  have hk3 := k3_ne h3
  have hk4 : (k4 x.op == 3) = false := by simp [k4]; omega
  have hex : exo x = [] := by
    have e : wi x.op 0 11 = false := wi_false (by omega)
    simp [exo, e]; omega
  refine callsIn_of_wp Try.func62 rfl trivial ?_ rfl
  simp only [Try.ntmps62, List.size_toArray, List.length_cons, List.length_nil, Nat.reduceAdd, Nat.reduceSub, Array.replicate_succ, Array.replicate_zero, List.push_toArray, List.append_toArray, List.nil_append, List.cons_append]
  gi_wp2_with (refine ⟨trivial, ?_⟩; gi_at_call 51; refine (callsIn_wide.2 (of_any _ _)).mono ?_; rintro e w1 ⟨rfl, hb1⟩)
  refine ⟨fun _ h => (by cases h), ?_⟩
  gi_wp2
  go_end0
  exact ⟨⟨_, rfl⟩, .inl ⟨_, (exoA_nil hex).symm, abides_below hJ h0 (hb1.alloc hb1.size _)⟩⟩

set_option maxRecDepth 100000 in
set_option maxHeartbeats 1000000 in
theorem exits1_one (n : Nat) (hn : 1 ≤ n) (l B : Nat) (x : Nd) (J Jx : List (Ex x) → World → Prop) (W : World) (hJ : AbidesFrom W.heap.size J)
    (hY : ∀ pre (y : Ex x) W, J pre W → pre.length < (exo x).length → YieldAt Fence.wide (n - 1) Try.prog l #[.int .i64 y.1] W fun e W' =>
      (e = .returned (.bool true) ∧ J (pre ++ [y]) W' ∧ KT B W W') ∨ (e = .returned (.bool false) ∧ Jx (pre ++ [y]) W'))
    (hx : NodeBox W B x) (h0 : J [] W) (h3 : 0 ≤ x.op ∧ x.op ≤ 10) :
    CallsIn Fence.wide n Try.prog 62 #[.func (.yield l) #[] #[], .pointer (some ⟨B, 0, none⟩)] W fun e W' => (∃ v, e = .returned v) ∧
      ((∃ ys, ys = exoA x ∧ J ys W') ∨ (∃ pre, pre <+: exoA x ∧ Jx pre W')) := by
  have c0 := hx.c0
  have hk3 := k3_eq (op := x.op) (by omega)
  have hk4 : (k4 x.op == 3) = false := by simp [k4]; omega
  have hex : exo x = [x.t] := by
    simp only [exo]
    rw [if_neg (by omega), if_pos (wi_true (by omega) (by omega))]
  obtain ⟨ha, hexA⟩ := exoA_one hex
  have HX := hide' hexA
  have HY := hide' hY
  have HL := hide' hex
  clear hexA hY hex
  refine callsIn_of_wp Try.func62 rfl trivial ?_ rfl
  simp only [Try.ntmps62, List.size_toArray, List.length_cons, List.length_nil, Nat.reduceAdd, Nat.reduceSub, Array.replicate_succ, Array.replicate_zero, List.push_toArray, List.append_toArray, List.nil_append, List.cons_append]
  gi_wp2_with (refine ⟨trivial, ?_⟩; gi_at_call 51; refine (callsIn_wide.2 (of_any _ _)).mono ?_; rintro e w1 ⟨rfl, hb1⟩; have hs1 := hb1.size; have c4 : w1.cell? ⟨B, 4, none⟩ = some (.int .i64 x.t) := (hb1.cell (p := ⟨B, 4, none⟩) hx.lt).trans hx.c4; have hlt : B < w1.heap.size := Nat.lt_of_lt_of_le hx.lt hb1.size; have hj1 : J [] (w1.alloc (.cells #[.int .i64 (k0 x.op), .int .i64 (k1 x.op), .int .i64 (k2 x.op), .int .i64 3, .int .i64 (k4 x.op)] 90)) := abides_below hJ h0 (hb1.alloc hb1.size _); obtain ⟨fn, tmps, assign, body, hy, hR⟩ := HY.out [] ⟨x.t, ha⟩ _ hj1 (by rw [HL.out]; simp); dsimp only at hy)
  refine hR.mono ?_
  rintro e W3 (⟨rfl, hJ3, hk3'⟩ | ⟨rfl, hJx3⟩)
  · have hz : W3.cell? ⟨w1.heap.size, 4, none⟩ = some (.int .i64 (k4 x.op)) := by
      have h1 := hk3'.kinds w1.heap.size _ _ (World.alloc_heap_new w1 _)
      rw [World.alloc_heap_new] at h1
      simp [World.cell?, h1]
    gi_wp2
    go_end0
    exact ⟨⟨_, rfl⟩, .inl ⟨_, HX.out.symm, hJ3⟩⟩
  · gi_wp2
    refine bodyPost_ret (results_none rfl _ _ _) rfl ?_
    exact ⟨⟨_, rfl⟩, .inr ⟨_, by rw [HX.out]; simp, hJx3⟩⟩

set_option maxRecDepth 100000 in
set_option maxHeartbeats 1000000 in
theorem exits1_same (n : Nat) (hn : 1 ≤ n) (l B : Nat) (x : Nd) (J Jx : List (Ex x) → World → Prop) (W : World) (hJ : AbidesFrom W.heap.size J)
    (hY : ∀ pre (y : Ex x) W, J pre W → pre.length < (exo x).length → YieldAt Fence.wide (n - 1) Try.prog l #[.int .i64 y.1] W fun e W' =>
      (e = .returned (.bool true) ∧ J (pre ++ [y]) W' ∧ KT B W W') ∨ (e = .returned (.bool false) ∧ Jx (pre ++ [y]) W'))
    (hx : NodeBox W B x) (h0 : J [] W) (h3 : x.op = 11) (he : x.e = x.t) :
    CallsIn Fence.wide n Try.prog 62 #[.func (.yield l) #[] #[], .pointer (some ⟨B, 0, none⟩)] W fun e W' => (∃ v, e = .returned v) ∧
      ((∃ ys, ys = exoA x ∧ J ys W') ∨ (∃ pre, pre <+: exoA x ∧ Jx pre W')) := by
  have c0 := hx.c0
  have hk3 := k3_eq (op := x.op) (by omega)
  have hk4 : k4 x.op = 3 := by simp [k4, h3]
  have hex : exo x = [x.t] := by
    simp only [exo]
    rw [if_pos h3, if_pos he]
  obtain ⟨ha, hexA⟩ := exoA_one hex
  have HX := hide' hexA
  have HY := hide' hY
  have HL := hide' hex
  have HE := hide' he
  have hle : 11 ≤ x.op := by omega
  clear hexA hY hex he h3 hle
  refine callsIn_of_wp Try.func62 rfl trivial ?_ rfl
  simp only [Try.ntmps62, List.size_toArray, List.length_cons, List.length_nil, Nat.reduceAdd, Nat.reduceSub, Array.replicate_succ, Array.replicate_zero, List.push_toArray, List.append_toArray, List.nil_append, List.cons_append]
  gi_wp2_with (refine ⟨trivial, ?_⟩; gi_at_call 51; refine (callsIn_wide.2 (of_any _ _)).mono ?_; rintro e w1 ⟨rfl, hb1⟩; have hs1 := hb1.size; have c4 : w1.cell? ⟨B, 4, none⟩ = some (.int .i64 x.t) := (hb1.cell (p := ⟨B, 4, none⟩) hx.lt).trans hx.c4; have hlt : B < w1.heap.size := Nat.lt_of_lt_of_le hx.lt hb1.size; have hj1 : J [] (w1.alloc (.cells #[.int .i64 (k0 x.op), .int .i64 (k1 x.op), .int .i64 (k2 x.op), .int .i64 3, .int .i64 3] 90)) := abides_below hJ h0 (hb1.alloc hb1.size _); obtain ⟨fn, tmps, assign, body, hy, hR⟩ := HY.out [] ⟨x.t, ha⟩ _ hj1 (by rw [HL.out]; simp); dsimp only at hy)
  refine hR.mono ?_
  rintro e W3 (⟨rfl, hJ3, hk3'⟩ | ⟨rfl, hJx3⟩)
  · have hz : W3.cell? ⟨w1.heap.size, 4, none⟩ = some (.int .i64 3) := by
      have h1 := hk3'.kinds w1.heap.size _ _ (World.alloc_heap_new w1 _)
      rw [World.alloc_heap_new] at h1
      simp [World.cell?, h1]
    have hnb := hx.below (hb1.alloc hb1.size (.cells #[.int .i64 (k0 x.op), .int .i64 (k1 x.op), .int .i64 (k2 x.op), .int .i64 3, .int .i64 3] 90)) hx.lt
    have q4 : W3.cell? ⟨B, 4, none⟩ = some (.int .i64 x.t) := (hk3'.node hnb).c4
    have q5 : W3.cell? ⟨B, 5, none⟩ = some (.int .i64 x.t) := (hk3'.node hnb).c5.trans (by rw [HE.out])
    gi_wp2
    go_end0
    exact ⟨⟨_, rfl⟩, .inl ⟨_, HX.out.symm, hJ3⟩⟩
  · gi_wp2
    refine bodyPost_ret (results_none rfl _ _ _) rfl ?_
    exact ⟨⟨_, rfl⟩, .inr ⟨_, by rw [HX.out]; simp, hJx3⟩⟩

set_option maxRecDepth 100000 in
set_option maxHeartbeats 1000000 in
theorem exits1_both (n : Nat) (hn : 1 ≤ n) (l B : Nat) (x : Nd) (J Jx : List (Ex x) → World → Prop) (W : World) (hJ : AbidesFrom W.heap.size J)
    (hY : ∀ pre (y : Ex x) W, J pre W → pre.length < (exo x).length → YieldAt Fence.wide (n - 1) Try.prog l #[.int .i64 y.1] W fun e W' =>
      (e = .returned (.bool true) ∧ J (pre ++ [y]) W' ∧ KT B W W') ∨ (e = .returned (.bool false) ∧ Jx (pre ++ [y]) W'))
    (hx : NodeBox W B x) (h0 : J [] W) (h3 : x.op = 11) (he : x.e ≠ x.t) :
    CallsIn Fence.wide n Try.prog 62 #[.func (.yield l) #[] #[], .pointer (some ⟨B, 0, none⟩)] W fun e W' => (∃ v, e = .returned v) ∧
      ((∃ ys, ys = exoA x ∧ J ys W') ∨ (∃ pre, pre <+: exoA x ∧ Jx pre W')) := by
  have c0 := hx.c0
  have hk3 := k3_eq (op := x.op) (by omega)
  have hk4 : k4 x.op = 3 := by simp [k4, h3]
  have hex : exo x = [x.t, x.e] := by
    simp only [exo]
    rw [if_pos h3, if_neg he]
  obtain ⟨ha, hb, hexA⟩ := exoA_two hex
  have hne : (x.e != x.t) = true := by simpa using he
  have HX := hide' hexA
  have HY := hide' hY
  have HL := hide' hex
  have HE := hide' he
  have hle : 11 ≤ x.op := by omega
  clear hexA hY hex he h3 hle
  refine callsIn_of_wp Try.func62 rfl trivial ?_ rfl
  simp only [Try.ntmps62, List.size_toArray, List.length_cons, List.length_nil, Nat.reduceAdd, Nat.reduceSub, Array.replicate_succ, Array.replicate_zero, List.push_toArray, List.append_toArray, List.nil_append, List.cons_append]
  gi_wp2_with (refine ⟨trivial, ?_⟩; gi_at_call 51; refine (callsIn_wide.2 (of_any _ _)).mono ?_; rintro e w1 ⟨rfl, hb1⟩; have hs1 := hb1.size; have c4 : w1.cell? ⟨B, 4, none⟩ = some (.int .i64 x.t) := (hb1.cell (p := ⟨B, 4, none⟩) hx.lt).trans hx.c4; have hlt : B < w1.heap.size := Nat.lt_of_lt_of_le hx.lt hb1.size; have hj1 : J [] (w1.alloc (.cells #[.int .i64 (k0 x.op), .int .i64 (k1 x.op), .int .i64 (k2 x.op), .int .i64 3, .int .i64 3] 90)) := abides_below hJ h0 (hb1.alloc hb1.size _); obtain ⟨fn, tmps, assign, body, hy, hR⟩ := HY.out [] ⟨x.t, ha⟩ _ hj1 (by rw [HL.out]; simp); dsimp only at hy)
  refine hR.mono ?_
  rintro e W3 (⟨rfl, hJ3, hk3'⟩ | ⟨rfl, hJx3⟩)
  · have hz : W3.cell? ⟨w1.heap.size, 4, none⟩ = some (.int .i64 3) := by
      have h1 := hk3'.kinds w1.heap.size _ _ (World.alloc_heap_new w1 _)
      rw [World.alloc_heap_new] at h1
      simp [World.cell?, h1]
    have hnb := hx.below (hb1.alloc hb1.size (.cells #[.int .i64 (k0 x.op), .int .i64 (k1 x.op), .int .i64 (k2 x.op), .int .i64 3, .int .i64 3] 90)) hx.lt
    have q4 : W3.cell? ⟨B, 4, none⟩ = some (.int .i64 x.t) := (hk3'.node hnb).c4
    have q5 : W3.cell? ⟨B, 5, none⟩ = some (.int .i64 x.e) := (hk3'.node hnb).c5
    obtain ⟨fn2, tmps2, assign2, body2, hy2, hR2⟩ := HY.out _ ⟨x.e, hb⟩ _ hJ3 (by have := congrArg List.length HL.out; simp at this ⊢; omega)
    dsimp only at hy2
    gi_wp2
    refine hR2.mono ?_
    rintro e2 W4 (⟨rfl, hJ4, _⟩ | ⟨rfl, hJx4⟩)
    · gi_wp2
      go_end0
      exact ⟨⟨_, rfl⟩, .inl ⟨_, HX.out.symm, hJ4⟩⟩
    · gi_wp2
      go_end0
      exact ⟨⟨_, rfl⟩, .inr ⟨_, by rw [HX.out]; simp, hJx4⟩⟩
  · gi_wp2
    refine bodyPost_ret (results_none rfl _ _ _) rfl ?_
    exact ⟨⟨_, rfl⟩, .inr ⟨_, by rw [HX.out]; simp, hJx3⟩⟩


/-- **Exits' iterator, whatever its caller does in a round that keeps the iterator's own.** -/
theorem exits_stops (n : Nat) (hn : 1 ≤ n) (B : Nat) (x : Nd) (w : World) (hx : NodeBox w B x) :
    SeqStopsK Fence.wide n Try.prog 62 #[.pointer (some ⟨B, 0, none⟩)] (fun y : Ex x => #[Value.int .i64 y.1]) (KT B) (fun ys => ys = exoA x) (fun pre => pre <+: exoA x) (exo x).length w := fun l J Jx W hW hJ _ hY h0 => by
  have hx' : NodeBox W B x := hx.below hW hx.lt
  by_cases h3 : 0 ≤ x.op ∧ x.op ≤ 11
  · by_cases h11 : x.op = 11
    · by_cases he : x.e = x.t
      · exact exits1_same n hn l B x J Jx W hJ hY hx' h0 h11 he
      · exact exits1_both n hn l B x J Jx W hJ hY hx' h0 h11 he
    · exact exits1_one n hn l B x J Jx W hJ hY hx' h0 (by omega)
  · exact exits1_none n hn l B x J Jx W hJ hY hx' h0 h3

set_option maxHeartbeats 1000000 in
/-- links.Exits: the node is boxed; the function value captures the box. -/
theorem exits_in (n : Nat) (op d a b t e : Int) (w : World) :
    CallsIn Fence.wide n Try.prog 54 #[.agg #[.int .i64 op, .int .i64 d, .int .i64 a, .int .i64 b, .int .i64 t, .int .i64 e]] w fun r w' => r = .returned (.func (.func 62) #[] #[.pointer (some ⟨w.heap.size, 0, none⟩)]) ∧ w' = w.alloc (.cells #[.int .i64 op, .int .i64 d, .int .i64 a, .int .i64 b, .int .i64 t, .int .i64 e] 53) := by
  refine callsIn_of_wp Try.func54 rfl trivial ?_ rfl
  simp only [Try.ntmps54, List.size_toArray, List.length_cons, List.length_nil, Nat.reduceAdd, Nat.reduceSub, Array.replicate_succ, Array.replicate_zero, List.push_toArray, List.append_toArray, List.nil_append, List.cons_append]
  gi_wp2
  go_ret
  exact ⟨rfl, rfl⟩

theorem nodeBox_new (w : World) (x : Nd) : NodeBox (w.alloc (.cells #[.int .i64 x.op, .int .i64 x.d, .int .i64 x.a, .int .i64 x.b, .int .i64 x.t, .int .i64 x.e] 53)) w.heap.size x := World.alloc_heap_new w _

end Go.Proofs.Ytoikglgnmjjpcab
