/-
  What a call keeps but for some blocks; run.machine.reckon, walked.
-/
import Derived.Test.YtoikglgnmjjpcaaDoorRC
import Derived.Deep.RegionHeld3
import Derived.StillTailTactics
namespace Go.Proofs.YtoikglgnmjjpcaaDoor
open Go.RowKit Go.Maps Go.ChangeMaps
set_option linter.unusedVariables false

/-- Nothing that was there has turned but for the blocks of A. -/
structure Keeps (A : List Nat) (w w' : World) : Prop where
  os : w'.os = w.os
  tape : w'.tape = w.tape
  output : w'.output = w.output
  size : w.heap.size ≤ w'.heap.size
  block : ∀ k, k < w.heap.size → k ∉ A → w'.heap[k]? = w.heap[k]?

theorem Keeps.refl (A : List Nat) (w : World) : Keeps A w w := ⟨rfl, rfl, rfl, Nat.le_refl _, fun _ _ _ => rfl⟩
theorem Keeps.trans {A : List Nat} {a b c : World} (h : Keeps A a b) (k : Keeps A b c) : Keeps A a c :=
  ⟨k.os.trans h.os, k.tape.trans h.tape, k.output.trans h.output, Nat.le_trans h.size k.size, fun i hi hA => (k.block i (Nat.lt_of_lt_of_le hi h.size) hA).trans (h.block i hi hA)⟩
theorem Keeps.mono {A A' : List Nat} {a b : World} (h : Keeps A a b) (hA : ∀ x ∈ A, x ∈ A') : Keeps A' a b :=
  ⟨h.os, h.tape, h.output, h.size, fun i hi hn => h.block i hi (fun hx => hn (hA i hx))⟩
theorem Keeps.drew {A : List Nat} {a w : World} (h : Keeps A a w) : Keeps A a w.drew := ⟨h.os, h.tape, h.output, h.size, h.block⟩
theorem Keeps.drewN {A : List Nat} {a w : World} (h : Keeps A a w) (n : Nat) : Keeps A a (w.drewN n) := ⟨h.os, h.tape, h.output, h.size, h.block⟩
theorem Keeps.alloc {A : List Nat} {a w : World} (h : Keeps A a w) (o : Obj) : Keeps A a (w.alloc o) :=
  ⟨h.os, h.tape, h.output, by simp; have := h.size; omega, fun k hk hA => by rw [Below.heap_alloc _ _ _ (Nat.lt_of_lt_of_le hk h.size)]; exact h.block k hk hA⟩
theorem Keeps.setCell {A : List Nat} {a w : World} (h : Keeps A a w) {p : Addr} (hp : p.block ∈ A) (u : Value) : Keeps A a (w.setCell p u) :=
  ⟨h.os, h.tape, h.output, by simp [World.setCell]; exact h.size, fun k hk hA => by rw [Below.heap_setCell w p u k (fun e => hA (by rw [e]; exact hp))]; exact h.block k hk hA⟩
theorem Keeps.setBlock {A : List Nat} {a w : World} (h : Keeps A a w) {b : Nat} {es : Array MapEntry} {clock : Nat} (hb : w.heap[b]? = some (.map es clock)) (hp : b ∈ A) (o : Obj) : Keeps A a (ChangeMaps.setBlock w b o) :=
  ⟨h.os, h.tape, h.output, by simp [ChangeMaps.setBlock]; exact h.size, fun k hk hA => by rw [heap_setBlock_other (i := k) hb o (fun e => hA (by rw [e]; exact hp))]; exact h.block k hk hA⟩
theorem Keeps.of_below {A : List Nat} {w w' : World} (h : Below w.heap.size w w') : Keeps A w w' := ⟨h.os, h.tape, h.output, h.size, fun k hk _ => h.block k hk⟩
theorem Keeps.below {A : List Nat} {w w' : World} (h : Keeps A w w') {B : Nat} (hA : ∀ x ∈ A, B ≤ x) (hB : B ≤ w.heap.size) : Below B w w' :=
  ⟨h.os, h.tape, h.output, h.size, fun k hk => h.block k (Nat.lt_of_lt_of_le hk hB) (fun hx => by have := hA k hx; omega)⟩
theorem Keeps.cell {A : List Nat} {w w' : World} (h : Keeps A w w') {b i : Nat} (hb : b < w.heap.size) (hA : b ∉ A) : w'.cell? ⟨b, i, none⟩ = w.cell? ⟨b, i, none⟩ := World.cell?_of_block (w := w) (h.block b hb hA)
theorem Keeps.owns {A : List Nat} {w w' : World} (h : Keeps A w w') {base : Nat} {e : TypeId} {size : Nat} {v : Value} {n : Nat} {xs : List Value} (ho : w.ownsRow base e size v n xs) (hA : ∀ x ∈ A, x < base) : w'.ownsRow base e size v n xs := by
  obtain ⟨hl, ho⟩ := ho
  refine ⟨hl, ?_⟩
  rcases ho with ho | ⟨g, cap, cur, rfl, h1, h2, h3⟩
  · exact Or.inl ho
  · refine Or.inr ⟨g, cap, cur, rfl, h1, ?_, h3⟩
    rw [h.block g (blk_lt h2) (fun hx => by have := hA g hx; omega)]; exact h2

theorem small_wf {n : Int} (h0 : 0 ≤ n) (h1 : n ≤ 1000000) : (Lit.int .i64 n).wf = true := by
  simp [Lit.wf, IntKind.min, IntKind.max, IntKind.signed, IntKind.bits]; omega

end Go.Proofs.YtoikglgnmjjpcaaDoor
