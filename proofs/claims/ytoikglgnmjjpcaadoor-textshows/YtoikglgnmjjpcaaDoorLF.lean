/-
  A region that draws its order of evaluation, by an invariant over what has been done: also inside a round.
  Ranges over a function inside a plain loop: the marks that they leave behind, one a round.
-/
import Derived.Test.YtoikglgnmjjpcaaDoorLC
import Derived.Deep.OwnRows
import Derived.OrdersIn
namespace Go.Proofs.YtoikglgnmjjpcaaDoor
open Go.RowKit Go.Shelf
set_option linter.unusedVariables false

def markD (D : Nat) : Deferred := { target := .collected D, args := #[] }

/-- The blocks of the loops that have run, each empty. -/
structure Marks (ds : List Nat) (W : World) : Prop where
  nodup : ds.Nodup
  here : ∀ D ∈ ds, W.heap[D]? = some (.deferred (some []))

theorem Marks.nil (W : World) : Marks [] W := ⟨List.nodup_nil, fun D h => by cases h⟩
theorem Marks.lt {ds : List Nat} {W : World} (h : Marks ds W) {D : Nat} (hD : D ∈ ds) : D < W.heap.size := (Array.getElem?_eq_some_iff.1 (h.here D hD)).1
theorem Marks.cons {ds : List Nat} {W : World} (h : Marks ds W) {D : Nat} (hD : W.heap[D]? = some (.deferred (some []))) (hn : ∀ E ∈ ds, E < D) : Marks (D :: ds) W :=
  ⟨List.nodup_cons.2 ⟨fun hm => Nat.lt_irrefl _ (hn D hm), h.nodup⟩, fun E hE => by
    rcases List.mem_cons.1 hE with rfl | hE
    · exact hD
    · exact h.here E hE⟩
/-- A step that turns no block but cells, and new ones. -/
theorem Marks.keep {ds : List Nat} {W W' : World} (h : Marks ds W) (hk : ∀ k o, W.heap[k]? = some o → o.isCells = false → k ∈ ds → W'.heap[k]? = some o) : Marks ds W' :=
  ⟨h.nodup, fun D hD => hk D _ (h.here D hD) rfl hD⟩
theorem Marks.grown {ds : List Nat} {W W' : World} {row : Option Nat} (h : Marks ds W) (hg : W.grownBy W' row) (hr : ∀ r, row = some r → r ∉ ds) : Marks ds W' :=
  h.keep fun k o hk _ hm => (hg.block k (Array.getElem?_eq_some_iff.1 hk).1 fun e => hr k e.symm hm).trans hk
theorem Marks.below {ds : List Nat} {W W' : World} (h : Marks ds W) (hb : Below W.heap.size W W') : Marks ds W' := h.grown (grown_of_below hb none) (fun r e => by cases e)
theorem Marks.others {ds : List Nat} {W W' : World} (h : Marks ds W) (hk : KeepsOthers W W') : Marks ds W' := h.keep fun k o h1 h2 _ => hk.same k o h1 h2

/-- The marks' blocks have been shut. -/
structure Shut (B : Nat) (W W' : World) : Prop where
  below : Below B W W'
  cells : ∀ (k : Nat) (o : Obj), W.heap[k]? = some o → o.isCells = true → W'.heap[k]? = some o

theorem Shut.refl (B : Nat) (W : World) : Shut B W W := ⟨Below.refl _ _, fun _ _ h _ => h⟩

theorem leaves_marks {F : Fence} {n : Nat} {P : Program} {fn : Func} {tmps : Array Value} {R : Ending → World → Prop} {B : Nat} : ∀ (ds : List Nat) (W : World), Marks ds W → (∀ D ∈ ds, B ≤ D) →
    (∀ W', Shut B W W' → LeavesInM F n P fn tmps R [] .returning W') → LeavesInM F n P fn tmps R (ds.map markD) .returning W
  | [], W, _, _, h => h W (Shut.refl _ _)
  | D :: ds, W, hm, hB, h => by
    have hD := hm.here D (by simp)
    have hlt := hm.lt (D := D) (by simp)
    have hg := grownBy_putObj' W D (.deferred none)
    have hnd := List.nodup_cons.1 hm.nodup
    refine ⟨by simp, .inl ⟨D, _, rfl, run_takeDeferred hD, ?_⟩⟩
    refine leaves_marks ds _ ⟨hnd.2, fun E hE => ?_⟩ (fun E hE => hB E (by simp [hE])) fun W' hs => h W' ⟨?_, fun k o hk ho => ?_⟩
    · have hne : E ≠ D := fun e => hnd.1 (e ▸ hE)
      exact (World.putObj_heap_other hne).trans (hm.here E (by simp [hE]))
    · exact ((Below.refl B W).grown hg (by have := hB D (by simp); omega) (fun k e => by cases e; exact hB D (by simp))).trans hs.below
    · refine hs.cells k o ((World.putObj_heap_other fun e => ?_).trans hk) ho
      subst e
      rw [hD] at hk
      cases hk
      cases ho

theorem Shut.owns {B : Nat} {W W' : World} (h : Shut B W W') {base : Nat} {e : TypeId} {size : Nat} {v : Value} {n : Nat} {xs : List Value} (ho : W.ownsRow base e size v n xs) : W'.ownsRow base e size v n xs := by
  obtain ⟨hl, h3⟩ := ho
  refine ⟨hl, ?_⟩
  rcases h3 with h3 | ⟨g', cap', cur', rfl, a1, a2, a3⟩
  · exact Or.inl h3
  · exact Or.inr ⟨g', cap', cur', rfl, a1, h.cells _ _ a2 rfl, a3⟩

end Go.Proofs.YtoikglgnmjjpcaaDoor

namespace Go.Proofs.YtoikglgnmjjpcaaDoor
open Go.RowKit Go.Shelf
set_option linter.unusedVariables false

theorem count_less {p q : Nat → Bool} {i : Nat} (hp : p i = true) (hq : q i = false) (he : ∀ j, j ≠ i → q j = p j) : ∀ k, i < k → ((List.range k).filter q).length + 1 = ((List.range k).filter p).length
  | 0, h => by omega
  | k + 1, h => by
    simp only [List.range_succ, List.filter_append, List.length_append]
    by_cases e : i = k
    · subst e
      have hs : (List.range i).filter q = (List.range i).filter p := List.filter_congr fun j hj => he j (by have := List.mem_range.1 hj; omega)
      rw [hs]
      simp [hp, hq]
    · have ih := count_less hp hq he k (by omega)
      have hk : (List.filter q [k]).length = (List.filter p [k]).length := by
        rw [List.filter_congr (p := q) (q := p) fun j hj => he j (by simp at hj; omega)]
      omega

/-- How many have not been done. -/
def undone (k : Nat) (listed : Array Bool) : Nat := ((List.range k).filter fun i => !listed.getD i false).length

theorem undone_set {k : Nat} {listed : Array Bool} {i : Nat} (hk : listed.size = k) (hi : i < k) (h : listed.getD i true = false) : undone k (listed.setIfInBounds i true) + 1 = undone k listed := by
  refine count_less (i := i) ?_ ?_ (fun j hj => ?_) k hi
  · have : listed.getD i false = false := by
      simp only [Array.getD] at h ⊢
      split at h
      · rename_i hlt; rw [dif_pos hlt]; exact h
      · cases h
    simp [this]
  · simp [hk, hi]
  · rw [getD_set_ne false (fun e => hj e.symm)]

/-- What has been done lies behind what it waits for. -/
def Closed (ops : Array Oper) (listed : Array Bool) : Prop := ∀ (i : Nat) (o : Oper), ops[i]? = some o → listed.getD i false = true → ∀ e ∈ o.after, Region.binds .any e = true → listed.getD e.on false = true

/-- **A region that draws its order: what Inv says of what has been done carries over every operation that may come up.** -/
theorem region_inv {F : Fence} {n : Nat} {P : Program} {id : Nat} {ops : Array Oper} {Q : Exit → Act → World → Prop} {a : Act} {w : World} (hm : P.follows .mixedOrders = true) (Inv : Array Bool → Act → World → Prop)
    (hg : ∀ (i : Nat) (o : Oper), ops[i]? = some o → o.guard = none ∧ ∀ e ∈ o.after, Region.binds .any e = true → e.on < i)
    (hsz : ∀ listed a w, Inv listed a w → listed.size = ops.size)
    (h0 : Inv (Array.replicate ops.size false) a w.drew)
    (hs : ∀ listed a w (i : Nat) (o : Oper), Inv listed a w → Closed ops listed → ops[i]? = some o → listed.getD i true = false → (∀ e ∈ o.after, Region.binds .any e = true → listed.getD e.on false = true) → Oper.wpIn F n P o a w (Inv (listed.setIfInBounds i true)) Q)
    (h1 : ∀ listed a w, Inv listed a w → (∀ i, i < ops.size → listed.getD i false = true) → Q .normal a w) : (Code.region id ops true).wpIn F n P Q a w := by
  refine wpIn_region_any hm ?_
  have all : ∀ listed a w, Inv listed a w → Region.ready .any ops listed = [] → ∀ i, i < ops.size → listed.getD i false = true := by
    intro listed a w hI hr i
    induction i using Nat.strongRecOn with
    | _ i ih =>
      intro hi
      cases hb : listed.getD i false
      · exfalso
        have hsi := hsz _ _ _ hI
        have hb' : listed.getD i true = false := by
          simp only [Array.getD] at hb ⊢
          rw [dif_pos (by omega)] at hb ⊢; exact hb
        have : i ∈ Region.ready .any ops listed := by
          rw [mem_ready]
          refine ⟨hb', ops[i], Array.getElem?_eq_getElem hi, fun e he hbe => ?_⟩
          have := (hg i _ (Array.getElem?_eq_getElem hi)).2 e he hbe
          exact ih e.on this (by omega)
        rw [hr] at this; cases this
      · rfl
  have main : ∀ (fuel : Nat) (listed : Array Bool) (a : Act) (w : World), Inv listed a w → Closed ops listed → undone ops.size listed ≤ fuel → wpAnyIn F n P .any ops Q fuel listed a w := by
    intro fuel
    induction fuel with
    | zero =>
      intro listed a w hI hC hu
      have hr : Region.ready .any ops listed = [] := by
        apply List.eq_nil_iff_forall_not_mem.2
        intro i hi
        obtain ⟨h2, o, h3, _⟩ := mem_ready.1 hi
        have := undone_set (hsz _ _ _ hI) (Array.getElem?_eq_some_iff.1 h3).1 h2
        omega
      exact ⟨hr, h1 _ _ _ hI (all _ _ _ hI hr)⟩
    | succ fuel ih =>
      intro listed a w hI hC hu
      refine ⟨fun hr => h1 _ _ _ hI (all _ _ _ hI hr), fun i hi => ?_⟩
      obtain ⟨h2, o, h3, h4⟩ := mem_ready.1 hi
      have hsi := hsz _ _ _ hI
      have hu2 := undone_set hsi (Array.getElem?_eq_some_iff.1 h3).1 h2
      have hC' : Closed ops (listed.setIfInBounds i true) := by
        intro j p hj hl e he hb
        by_cases q : j = i
        · subst q
          rw [h3] at hj; cases hj
          exact getD_set_true (h4 e he hb)
        · rw [getD_set_ne false (fun e => q e.symm)] at hl
          exact getD_set_true (hC j p hj hl e he hb)
      unfold wpOpIn
      rw [h3]
      simp only
      rw [if_pos (by simp [Region.wanted, (hg i o h3).1])]
      exact Oper.wpIn_mono (fun a' w' hI' => ih _ a' w' hI' hC' (by omega)) (hs listed a w i o hI hC h3 h2 h4)
  refine main _ _ _ _ h0 (fun i o _ hl => ?_) (by
    unfold undone
    exact Nat.le_trans (List.length_filter_le _ _) (by simp))
  have : (Array.replicate ops.size false).getD i false = false := by simp [Array.getD]
  rw [this] at hl; cases hl

end Go.Proofs.YtoikglgnmjjpcaaDoor

