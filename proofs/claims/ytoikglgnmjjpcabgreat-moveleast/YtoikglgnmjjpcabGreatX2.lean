/-
  links.Ahead: rows of rows, and one more element in one of them.
  A region that draws its order of evaluation, by an invariant over what has been done: also inside a round.
  Ranges over a function inside a plain loop: the marks that they leave behind, one a round.
  Rows of nodes in memory of a call's own.
  slices.Clone at nodes, and graph.turn, walked.
  Plain facts on counts that are kept in order.
  links.Ahead, walked: of each node the nodes which may go on at it.
-/
import Derived.Test.YtoikglgnmjjpcabGreatX1
import Derived.Deep.AppendLies
import Derived.Deep.OwnRows
import Derived.OrdersIn
import Derived.Laws.MakeOwn
namespace Go.Proofs.YtoikglgnmjjpcabGreat
open Go.RowKit Go.Shelf
set_option linter.unusedVariables false

structure RowsAt (w : World) (base rb L : Nat) (vs : List Value) (f : Nat → List Int) : Prop where
  blk : w.heap[rb]? = some (.cells vs.toArray 40 (0, 0))
  len : vs.length = L
  own : ∀ (m : Nat) (v : Value), vs[m]? = some v → w.ownsRow base 3 1 v (f m).length ((f m).map (Value.int .i64))
  apart : ∀ (m1 m2 : Nat) (v1 v2 : Value) (g : Nat), vs[m1]? = some v1 → vs[m2]? = some v2 → v1.ownBlock = some g → v2.ownBlock = some g → m1 = m2

theorem owns_ne_ty {w : World} {base b : Nat} {e t : TypeId} {size : Nat} {v : Value} {n : Nat} {xs : List Value} {vs : Array Value} (h : w.ownsRow base e size v n xs) (hb : w.heap[b]? = some (.cells vs t (0, 0))) (hte : t ≠ e) : some b ≠ v.ownBlock := by
  rcases h.2 with ⟨rfl, _⟩ | ⟨g, cap, cur, rfl, _, hgb, _⟩
  · simp [Value.ownBlock]
  · intro e'
    obtain rfl : b = g := by simpa [Value.ownBlock] using e'
    rw [hb] at hgb
    cases hgb
    exact hte rfl

theorem RowsAt.kept {w w' : World} {base rb L : Nat} {vs : List Value} {f : Nat → List Int} (h : RowsAt w base rb L vs f) {row : Option Nat} (hg : w.grownBy w' row) (hr : ∀ r, row = some r → ∃ o : Obj, w.heap[r]? = some o ∧ o.isCells = false) : RowsAt w' base rb L vs f := by
  refine ⟨?_, h.len, fun m v hv => ?_, h.apart⟩
  · rw [hg.block rb (Array.getElem?_eq_some_iff.1 h.blk).1 (fun e => by
      obtain ⟨o, h1, h2⟩ := hr rb e.symm
      rw [h.blk] at h1; cases h1; cases h2)]
    exact h.blk
  · refine (h.own m v hv).kept hg ?_
    rcases (h.own m v hv).2 with ⟨rfl, _⟩ | ⟨g, cap, cur, rfl, _, hgb, _⟩
    · exact .inl rfl
    · refine .inr fun e => ?_
      obtain ⟨o, h1, h2⟩ := hr g (by simpa [Value.ownBlock] using e.symm)
      rw [hgb] at h1; cases h1; cases h2

theorem RowsAt.below {w w' : World} {base rb L : Nat} {vs : List Value} {f : Nat → List Int} (h : RowsAt w base rb L vs f) (hb : Below w.heap.size w w') : RowsAt w' base rb L vs f :=
  h.kept (grown_of_below hb none) (fun r e => by cases e)

theorem RowsAt.grow {w w1 : World} {base rb L : Nat} {vs : List Value} {f f' : Nat → List Int} (h : RowsAt w base rb L vs f) {m : Nat} {v : Value} (hv : vs[m]? = some v) {g cap : Nat}
    (hg : w.grownBy w1 v.ownBlock) (hat : v.ownBlock = some g ∨ w.heap.size ≤ g) (hown : w1.ownsRow base 3 1 (.slice (some ⟨g, 0, none⟩) (f' m).length cap) (f' m).length ((f' m).map (Value.int .i64)))
    (hf : ∀ j, j ≠ m → f' j = f j) : RowsAt (w1.setCell ⟨rb, m, none⟩ (.slice (some ⟨g, 0, none⟩) (f' m).length cap)) base rb L (vs.set m (.slice (some ⟨g, 0, none⟩) (f' m).length cap)) f' := by
  have hml : m < vs.length := (List.getElem?_eq_some_iff.1 hv).1
  have hr1 : w1.heap[rb]? = some (.cells vs.toArray 40 (0, 0)) := (hg.block rb (Array.getElem?_eq_some_iff.1 h.blk).1 (owns_ne_ty (h.own m v hv) h.blk (by decide))).trans h.blk
  have hlt : ∀ (j : Nat) (u : Value) (k : Nat), vs[j]? = some u → u.ownBlock = some k → k < w.heap.size := fun j u k hj hk => ((h.own j u hj).lt k hk).2
  have hset : ∀ {e : TypeId} {v' : Value} {n : Nat} {xs : List Value}, w1.ownsRow base 3 1 v' n xs → (w1.setCell ⟨rb, m, none⟩ (.slice (some ⟨g, 0, none⟩) (f' m).length cap)).ownsRow base 3 1 v' n xs := by
    intro e v' n xs h2
    have hne := owns_ne_ty h2 hr1 (by decide)
    obtain ⟨hl, h3⟩ := h2
    refine ⟨hl, ?_⟩
    rcases h3 with h3 | ⟨g', cap', cur', rfl, a1, a2, a3⟩
    · exact Or.inl h3
    · refine Or.inr ⟨g', cap', cur', rfl, a1, ?_, a3⟩
      rw [Below.heap_setCell _ _ _ g' (fun e => hne (by simp only [Value.ownBlock]; exact congrArg some e.symm))]
      exact a2
  refine ⟨?_, by simpa using h.len, fun j u hj => ?_, fun j1 j2 u1 u2 k h1 h2 e1 e2 => ?_⟩
  · rw [blk_set _ hr1]; simp
  · rw [List.getElem?_set] at hj
    by_cases e : m = j
    · subst e
      rw [if_pos rfl, if_pos hml] at hj
      cases hj
      exact hset (e := 0) hown
    · rw [if_neg e] at hj
      rw [hf j (fun q => e q.symm)]
      refine hset (e := 0) ((h.own j u hj).kept hg ?_)
      rcases (h.own j u hj).2 with ⟨rfl, _⟩ | ⟨g', cap', cur', rfl, _⟩
      · exact .inl rfl
      · refine .inr fun q => ?_
        exact e (h.apart m j v _ g' hv hj (by rw [← q]; rfl) rfl)
  · rw [List.getElem?_set] at h1 h2
    by_cases q1 : m = j1
    · by_cases q2 : m = j2
      · rw [← q1, ← q2]
      · rw [if_pos q1, if_pos hml] at h1
        rw [if_neg q2] at h2
        cases h1
        simp only [Value.ownBlock, Option.some.injEq] at e1
        subst e1
        exfalso
        rcases hat with hat | hat
        · exact q2 (h.apart m j2 v u2 g hv h2 hat e2)
        · have := hlt j2 u2 g h2 e2; omega
    · rw [if_neg q1] at h1
      by_cases q2 : m = j2
      · rw [if_pos q2, if_pos hml] at h2
        cases h2
        simp only [Value.ownBlock, Option.some.injEq] at e2
        subst e2
        exfalso
        rcases hat with hat | hat
        · exact q1 (h.apart m j1 v u1 g hv h1 hat e1)
        · have := hlt j1 u1 g h1 e1; omega
      · rw [if_neg q2] at h2
        exact h.apart j1 j2 u1 u2 k h1 h2 e1 e2

def rowsAt (ns : List Nd) (k : Nat) (pre : List Int) (m : Nat) : List Int := pick (ahB ns m) k ++ List.replicate (pre.count (m : Int)) (k : Int)

theorem rowsAt_nil (ns : List Nd) (k : Nat) : rowsAt ns k [] = fun m => pick (ahB ns m) k := by funext m; simp [rowsAt]

theorem count_exo (x : Nd) (hk : kn x.op = true) (m : Nat) : (exo x).count (m : Int) = if ldB x m then 1 else 0 := by
  have hop := wi_iff.1 hk
  unfold exo ldB
  by_cases h11 : x.op = 11
  · rw [if_pos h11]
    by_cases he : x.e = x.t
    · rw [if_pos he]
      by_cases ht : x.t = m
      · simp [h11, ht]
      · simp [h11, he, ht]
    · rw [if_neg he]
      by_cases ht : x.t = m
      · have : ¬ x.e = m := fun q => he (by rw [q, ht])
        simp [h11, ht, this]
      · by_cases q : x.e = m
        · simp [h11, ht, q]
        · simp [h11, ht, q]
  · rw [if_neg h11]
    by_cases h12 : x.op = 12
    · have e : wi x.op 0 11 = false := wi_false (by omega)
      simp [h12]
      rw [h12] at e; simp [e]
    · rw [wi_true (by omega) (by omega), if_pos rfl]
      by_cases ht : x.t = m
      · simp [h11, h12, ht]
      · simp [h11, h12, ht]

theorem rowsAt_done (ns : List Nd) (k : Nat) {x : Nd} (hx : ns[k]? = some x) (hk : kn x.op = true) : rowsAt ns k (exo x) = fun m => pick (ahB ns m) (k + 1) := by
  funext m
  rw [rowsAt, count_exo x hk]
  have := ahB_at (n := m) hx
  cases h : ldB x m
  · rw [pick_no (by rw [this]; exact h)]; simp
  · rw [pick_yes (by rw [this]; exact h)]; simp

theorem rowsAt_len (ns : List Nd) (k : Nat) (pre : List Int) (m : Nat) : (rowsAt ns k pre m).length ≤ k + pre.length := by
  have h1 := pick_len (ahB ns m) k
  have h2 : pre.count (m : Int) ≤ pre.length := List.count_le_length
  simp [rowsAt]; omega

end Go.Proofs.YtoikglgnmjjpcabGreat

namespace Go.Proofs.YtoikglgnmjjpcabGreat
open Go.RowKit Go.Shelf
set_option linter.unusedVariables false

def markD (D : Nat) : Deferred := { target := .collected D, args := #[] }

structure Marks (ds : List Nat) (W : World) : Prop where
  nodup : ds.Nodup
  here : ∀ D ∈ ds, W.heap[D]? = some (.deferred (some []))

theorem Marks.nil (W : World) : Marks [] W := ⟨List.nodup_nil, fun D h => by cases h⟩
theorem Marks.lt {ds : List Nat} {W : World} (h : Marks ds W) {D : Nat} (hD : D ∈ ds) : D < W.heap.size := (Array.getElem?_eq_some_iff.1 (h.here D hD)).1
theorem Marks.cons {ds : List Nat} {W : World} (h : Marks ds W) {D : Nat} (hD : W.heap[D]? = some (.deferred (some []))) (hn : ∀ E ∈ ds, E < D) : Marks (D :: ds) W :=
  ⟨List.nodup_cons.2 ⟨fun hm => Nat.lt_irrefl _ (hn D hm), h.nodup⟩, fun E hE => by
    rcases List.mem_cons.1 hE with rfl | hE
    · exact hD
    · exact h.here E hE⟩
theorem Marks.keep {ds : List Nat} {W W' : World} (h : Marks ds W) (hk : ∀ k o, W.heap[k]? = some o → o.isCells = false → k ∈ ds → W'.heap[k]? = some o) : Marks ds W' :=
  ⟨h.nodup, fun D hD => hk D _ (h.here D hD) rfl hD⟩
theorem Marks.grown {ds : List Nat} {W W' : World} {row : Option Nat} (h : Marks ds W) (hg : W.grownBy W' row) (hr : ∀ r, row = some r → r ∉ ds) : Marks ds W' :=
  h.keep fun k o hk _ hm => (hg.block k (Array.getElem?_eq_some_iff.1 hk).1 fun e => hr k e.symm hm).trans hk
theorem Marks.below {ds : List Nat} {W W' : World} (h : Marks ds W) (hb : Below W.heap.size W W') : Marks ds W' := h.grown (grown_of_below hb none) (fun r e => by cases e)
theorem Marks.others {ds : List Nat} {W W' : World} (h : Marks ds W) (hk : KeepsOthers W W') : Marks ds W' := h.keep fun k o h1 h2 _ => hk.same k o h1 h2

structure Shut (B : Nat) (W W' : World) : Prop where
  below : Below B W W'
  cells : ∀ (k : Nat) (o : Obj), W.heap[k]? = some o → o.isCells = true → W'.heap[k]? = some o

theorem Shut.refl (B : Nat) (W : World) : Shut B W W := ⟨Below.refl _ _, fun _ _ h _ => h⟩

theorem leaves_marks {F : Fence} {n : Nat} {P : Program} {fn : Func} {tmps : Array Value} {R : Ending → World → Prop} {B : Nat} : ∀ (ds : List Nat) (W : World), Marks ds W → (∀ D ∈ ds, B ≤ D) →
    (∀ W', Shut B W W' → LeavesInM F n P fn tmps R [] .returning W') → LeavesInM F n P fn tmps R (ds.map markD) .returning W
  | [], W, _, _, h => h W (Shut.refl _ _)
  | D :: ds, W, hm, hB, h => by
    have hD := hm.here D (by simp)
    have hlt := hm.lt (D := D) (by simp)
    have hg := grownBy_putObj' W D (.deferred none)
    have hnd := List.nodup_cons.1 hm.nodup
    refine ⟨by simp, .inl ⟨D, _, rfl, run_takeDeferred hD, ?_⟩⟩
    refine leaves_marks ds _ ⟨hnd.2, fun E hE => ?_⟩ (fun E hE => hB E (by simp [hE])) fun W' hs => h W' ⟨?_, fun k o hk ho => ?_⟩
    · have hne : E ≠ D := fun e => hnd.1 (e ▸ hE)
      exact (World.putObj_heap_other hne).trans (hm.here E (by simp [hE]))
    · exact ((Below.refl B W).grown hg (by have := hB D (by simp); omega) (fun k e => by cases e; exact hB D (by simp))).trans hs.below
    · refine hs.cells k o ((World.putObj_heap_other fun e => ?_).trans hk) ho
      subst e
      rw [hD] at hk
      cases hk
      cases ho

theorem Shut.owns {B : Nat} {W W' : World} (h : Shut B W W') {base : Nat} {e : TypeId} {size : Nat} {v : Value} {n : Nat} {xs : List Value} (ho : W.ownsRow base e size v n xs) : W'.ownsRow base e size v n xs := by
  obtain ⟨hl, h3⟩ := ho
  refine ⟨hl, ?_⟩
  rcases h3 with h3 | ⟨g', cap', cur', rfl, a1, a2, a3⟩
  · exact Or.inl h3
  · exact Or.inr ⟨g', cap', cur', rfl, a1, h.cells _ _ a2 rfl, a3⟩

theorem Shut.rows {B : Nat} {W W' : World} (h : Shut B W W') {base rb L : Nat} {vs : List Value} {f : Nat → List Int} (hr : RowsAt W base rb L vs f) : RowsAt W' base rb L vs f :=
  ⟨h.cells _ _ hr.blk rfl, hr.len, fun m v hv => h.owns (hr.own m v hv), hr.apart⟩

end Go.Proofs.YtoikglgnmjjpcabGreat

namespace Go.Proofs.YtoikglgnmjjpcabGreat
open Go.RowKit Go.Shelf
set_option linter.unusedVariables false

theorem count_less {p q : Nat → Bool} {i : Nat} (hp : p i = true) (hq : q i = false) (he : ∀ j, j ≠ i → q j = p j) : ∀ k, i < k → ((List.range k).filter q).length + 1 = ((List.range k).filter p).length
  | 0, h => by omega
  | k + 1, h => by
    simp only [List.range_succ, List.filter_append, List.length_append]
    by_cases e : i = k
    · subst e
      have hs : (List.range i).filter q = (List.range i).filter p := List.filter_congr fun j hj => he j (by have := List.mem_range.1 hj; omega)
      rw [hs]
      simp [hp, hq]
    · have ih := count_less hp hq he k (by omega)
      have hk : (List.filter q [k]).length = (List.filter p [k]).length := by
        rw [List.filter_congr (p := q) (q := p) fun j hj => he j (by simp at hj; omega)]
      omega

def undone (k : Nat) (listed : Array Bool) : Nat := ((List.range k).filter fun i => !listed.getD i false).length

theorem undone_set {k : Nat} {listed : Array Bool} {i : Nat} (hk : listed.size = k) (hi : i < k) (h : listed.getD i true = false) : undone k (listed.setIfInBounds i true) + 1 = undone k listed := by
  refine count_less (i := i) ?_ ?_ (fun j hj => ?_) k hi
  · have : listed.getD i false = false := by
      simp only [Array.getD] at h ⊢
      split at h
      · rename_i hlt; rw [dif_pos hlt]; exact h
      · cases h
    simp [this]
  · simp [hk, hi]
  · rw [getD_set_ne false (fun e => hj e.symm)]

def Closed (ops : Array Oper) (listed : Array Bool) : Prop := ∀ (i : Nat) (o : Oper), ops[i]? = some o → listed.getD i false = true → ∀ e ∈ o.after, Region.binds .any e = true → listed.getD e.on false = true

theorem region_inv {F : Fence} {n : Nat} {P : Program} {id : Nat} {ops : Array Oper} {Q : Exit → Act → World → Prop} {a : Act} {w : World} (hm : P.follows .mixedOrders = true) (Inv : Array Bool → Act → World → Prop)
    (hg : ∀ (i : Nat) (o : Oper), ops[i]? = some o → o.guard = none ∧ ∀ e ∈ o.after, Region.binds .any e = true → e.on < i)
    (hsz : ∀ listed a w, Inv listed a w → listed.size = ops.size)
    (h0 : Inv (Array.replicate ops.size false) a w.drew)
    (hs : ∀ listed a w (i : Nat) (o : Oper), Inv listed a w → Closed ops listed → ops[i]? = some o → listed.getD i true = false → (∀ e ∈ o.after, Region.binds .any e = true → listed.getD e.on false = true) → Oper.wpIn F n P o a w (Inv (listed.setIfInBounds i true)) Q)
    (h1 : ∀ listed a w, Inv listed a w → (∀ i, i < ops.size → listed.getD i false = true) → Q .normal a w) : (Code.region id ops true).wpIn F n P Q a w := by
  refine wpIn_region_any hm ?_
  have all : ∀ listed a w, Inv listed a w → Region.ready .any ops listed = [] → ∀ i, i < ops.size → listed.getD i false = true := by
    intro listed a w hI hr i
    induction i using Nat.strongRecOn with
    | _ i ih =>
      intro hi
      cases hb : listed.getD i false
      · exfalso
        have hsi := hsz _ _ _ hI
        have hb' : listed.getD i true = false := by
          simp only [Array.getD] at hb ⊢
          rw [dif_pos (by omega)] at hb ⊢; exact hb
        have : i ∈ Region.ready .any ops listed := by
          rw [mem_ready]
          refine ⟨hb', ops[i], Array.getElem?_eq_getElem hi, fun e he hbe => ?_⟩
          have := (hg i _ (Array.getElem?_eq_getElem hi)).2 e he hbe
          exact ih e.on this (by omega)
        rw [hr] at this; cases this
      · rfl
  have main : ∀ (fuel : Nat) (listed : Array Bool) (a : Act) (w : World), Inv listed a w → Closed ops listed → undone ops.size listed ≤ fuel → wpAnyIn F n P .any ops Q fuel listed a w := by
    intro fuel
    induction fuel with
    | zero =>
      intro listed a w hI hC hu
      have hr : Region.ready .any ops listed = [] := by
        apply List.eq_nil_iff_forall_not_mem.2
        intro i hi
        obtain ⟨h2, o, h3, _⟩ := mem_ready.1 hi
        have := undone_set (hsz _ _ _ hI) (Array.getElem?_eq_some_iff.1 h3).1 h2
        omega
      exact ⟨hr, h1 _ _ _ hI (all _ _ _ hI hr)⟩
    | succ fuel ih =>
      intro listed a w hI hC hu
      refine ⟨fun hr => h1 _ _ _ hI (all _ _ _ hI hr), fun i hi => ?_⟩
      obtain ⟨h2, o, h3, h4⟩ := mem_ready.1 hi
      have hsi := hsz _ _ _ hI
      have hu2 := undone_set hsi (Array.getElem?_eq_some_iff.1 h3).1 h2
      have hC' : Closed ops (listed.setIfInBounds i true) := by
        intro j p hj hl e he hb
        by_cases q : j = i
        · subst q
          rw [h3] at hj; cases hj
          exact getD_set_true (h4 e he hb)
        · rw [getD_set_ne false (fun e => q e.symm)] at hl
          exact getD_set_true (hC j p hj hl e he hb)
      unfold wpOpIn
      rw [h3]
      simp only
      rw [if_pos (by simp [Region.wanted, (hg i o h3).1])]
      exact Oper.wpIn_mono (fun a' w' hI' => ih _ a' w' hI' hC' (by omega)) (hs listed a w i o hI hC h3 h2 h4)
  refine main _ _ _ _ h0 (fun i o _ hl => ?_) (by
    unfold undone
    exact Nat.le_trans (List.length_filter_le _ _) (by simp))
  have : (Array.replicate ops.size false).getD i false = false := by simp [Array.getD]
  rw [this] at hl; cases hl

end Go.Proofs.YtoikglgnmjjpcabGreat


namespace Go.Proofs.YtoikglgnmjjpcabGreat
open Go.RowKit Go.Shelf
set_option linter.unusedVariables false

def encNd (x : Nd) : List Value := [.int .i64 x.op, .int .i64 x.d, .int .i64 x.a, .int .i64 x.b, .int .i64 x.t, .int .i64 x.e]
theorem encNd_len (x : Nd) : (encNd x).length = 6 := rfl
theorem encNd_one (ns : List Nd) : ∀ u ∈ ns.flatMap encNd, u.oneCell' = true := by
  intro u hu
  obtain ⟨x, _, hx⟩ := List.mem_flatMap.1 hu
  simp only [encNd, List.mem_cons, List.not_mem_nil, or_false] at hx
  rcases hx with rfl | rfl | rfl | rfl | rfl | rfl <;> rfl

theorem flatK {α β : Type} (k : Nat) (f : α → List β) (hf : ∀ x, (f x).length = k) : ∀ (l : List α) (j i : Nat) (x : α), l[j]? = some x → i < k → (l.flatMap f)[j * k + i]? = (f x)[i]?
  | [], j, i, x, h, _ => by simp at h
  | u :: l, 0, i, x, h, hi => by
    simp at h; subst h
    rw [List.flatMap_cons, List.getElem?_append_left (by rw [hf]; omega)]; simp
  | u :: l, j + 1, i, x, h, hi => by
    simp at h
    rw [List.flatMap_cons, List.getElem?_append_right (by rw [hf, Nat.succ_mul]; omega), hf, show (j + 1) * k + i - k = j * k + i by rw [Nat.succ_mul]; omega]
    exact flatK k f hf l j i x h hi

theorem flat_len {α β : Type} (k : Nat) (f : α → List β) (hf : ∀ x, (f x).length = k) : ∀ l : List α, (l.flatMap f).length = l.length * k
  | [] => by simp
  | u :: l => by rw [List.flatMap_cons, List.length_append, hf, flat_len k f hf l, List.length_cons, Nat.succ_mul]; omega

theorem nodes_flat {w : World} {b off : Nat} {ns : List Nd} (hN : NodesAt w b off ns) : ∀ (j : Nat) (u : Value), (ns.flatMap encNd)[j]? = some u → w.cell? ((⟨b, off, none⟩ : Addr).add j) = some u := by
  intro j u hu
  have hlt : j < ns.length * 6 := by
    have := (List.getElem?_eq_some_iff.1 hu).1
    rwa [flat_len 6 encNd encNd_len] at this
  have hq : j / 6 < ns.length := by omega
  obtain ⟨x, hx⟩ := get_lt hq
  have h1 := flatK 6 encNd encNd_len ns (j / 6) (j % 6) x hx (Nat.mod_lt _ (by decide))
  rw [show j / 6 * 6 + j % 6 = j by omega, hu] at h1
  have e : (⟨b, off, none⟩ : Addr).add j = ⟨b, off + j / 6 * 6 + j % 6, none⟩ := by
    have : (⟨b, off, none⟩ : Addr).add j = ⟨b, off + j, none⟩ := by cases j <;> simp [Addr.add]
    rw [this]; congr 1; omega
  rw [e]
  have hm : j % 6 < 6 := Nat.mod_lt _ (by decide)
  generalize j % 6 = m at h1 hm ⊢
  match m, hm with
  | 0, _ => simp [encNd] at h1; subst h1; exact hN.c0 _ x hx
  | 1, _ => simp [encNd] at h1; subst h1; exact hN.c1 _ x hx
  | 2, _ => simp [encNd] at h1; subst h1; exact hN.c2 _ x hx
  | 3, _ => simp [encNd] at h1; subst h1; exact hN.c3 _ x hx
  | 4, _ => simp [encNd] at h1; subst h1; exact hN.c4 _ x hx
  | 5, _ => simp [encNd] at h1; subst h1; exact hN.c5 _ x hx

theorem nodes_of_cells {w : World} {b off : Nat} {ns : List Nd} (hlt : b < w.heap.size) (h : ∀ (j : Nat) (u : Value), (ns.flatMap encNd)[j]? = some u → w.cell? ⟨b, off + j, none⟩ = some u) : NodesAt w b off ns := by
  have key : ∀ (i : Nat) (x : Nd) (m : Nat) (u : Value), ns[i]? = some x → m < 6 → (encNd x)[m]? = some u → w.cell? ⟨b, off + i * 6 + m, none⟩ = some u := by
    intro i x m u hx hm hu
    have := h (i * 6 + m) u (by rw [flatK 6 encNd encNd_len ns i m x hx hm]; exact hu)
    rwa [← Nat.add_assoc] at this
  exact ⟨hlt, fun i x hx => key i x 0 _ hx (by decide) rfl, fun i x hx => key i x 1 _ hx (by decide) rfl, fun i x hx => key i x 2 _ hx (by decide) rfl, fun i x hx => key i x 3 _ hx (by decide) rfl, fun i x hx => key i x 4 _ hx (by decide) rfl, fun i x hx => key i x 5 _ hx (by decide) rfl⟩

theorem nodes_of_owns {w : World} {base : Nat} {e : TypeId} {v : Value} {ns : List Nd} (h : w.ownsRow base e 6 v ns.length (ns.flatMap encNd)) : ∃ a cap, v = .slice a ns.length cap ∧ SlN w a ns := by
  have hc : ∀ g, v.ownBlock = some g → ∀ j u, (ns.flatMap encNd)[j]? = some u → w.cell? ((⟨g, 0, none⟩ : Addr).add j) = some u := fun g hg => h.cells hg
  obtain ⟨_, h⟩ := h
  rcases h with ⟨rfl, h0⟩ | ⟨g, cap, cur, rfl, h1, h2, _⟩
  · have : ns = [] := List.eq_nil_of_length_eq_zero h0
    subst this
    exact ⟨none, 0, rfl, Or.inl rfl⟩
  · refine ⟨_, cap, rfl, Or.inr ⟨g, 0, rfl, nodes_of_cells (Array.getElem?_eq_some_iff.1 h2).1 fun j u hj => ?_⟩⟩
    have := hc g rfl j u hj
    have e : (⟨g, 0, none⟩ : Addr).add j = ⟨g, 0 + j, none⟩ := by cases j <;> simp [Addr.add]
    rw [e] at this; exact this

theorem owns_set {w : World} {base b o : Nat} {e t : TypeId} {size : Nat} {v u : Value} {n : Nat} {xs : List Value} {vs : Array Value} (h : w.ownsRow base e size v n xs) (hb : w.heap[b]? = some (.cells vs t (0, 0))) (hte : t ≠ e) : (w.setCell ⟨b, o, none⟩ u).ownsRow base e size v n xs := by
  have hne := owns_ne_ty h hb hte
  obtain ⟨hl, h3⟩ := h
  refine ⟨hl, ?_⟩
  rcases h3 with h3 | ⟨g', cap', cur', rfl, a1, a2, a3⟩
  · exact Or.inl h3
  · refine Or.inr ⟨g', cap', cur', rfl, a1, ?_, a3⟩
    rw [Below.heap_setCell _ _ _ g' (fun e => hne (by simp only [Value.ownBlock]; exact congrArg some e.symm))]
    exact a2

theorem boxed_ne {w : World} {b c : Nat} {t t' : TypeId} {vs vs' : Array Value} {fr fr' : Nat × Nat} (h : w.heap[b]? = some (.cells vs t fr)) (h' : w.heap[c]? = some (.cells vs' t' fr')) (hne : t ≠ t') : b ≠ c := by
  intro e; subst e
  rw [h] at h'; cases h'; exact hne rfl

theorem made_ints (n : Nat) : madeCells #[Value.int .i64 0] n = ((List.replicate n (0 : Int)).map (Value.int .i64)).toArray := by
  apply Array.ext'
  rw [toList_madeCells_one]
  simp

theorem owns_slice {w : World} {base : Nat} {e : TypeId} {size : Nat} {v : Value} {n : Nat} {xs : List Value} (h : w.ownsRow base e size v n xs) : ∃ a c, v = .slice a n c := by
  rcases h.2 with ⟨rfl, rfl⟩ | ⟨g, cap, _, rfl, _⟩
  · exact ⟨none, 0, rfl⟩
  · exact ⟨_, cap, rfl⟩

theorem flat_set {α β : Type} (k : Nat) (f : α → List β) (hf : ∀ x, (f x).length = k) : ∀ (l : List α) (j i : Nat) (x y : α) (u : β), l[j]? = some x → i < k → (f x).set i u = f y → (l.flatMap f).set (j * k + i) u = (l.set j y).flatMap f
  | [], j, i, x, y, u, h, _, _ => by simp at h
  | a :: l, 0, i, x, y, u, h, hi, he => by
    simp at h; subst h
    rw [List.flatMap_cons, List.set_cons_zero, List.flatMap_cons, Nat.zero_mul, Nat.zero_add, List.set_append_left _ _ (by rw [hf]; exact hi), he]
  | a :: l, j + 1, i, x, y, u, h, hi, he => by
    simp at h
    rw [List.flatMap_cons, List.set_cons_succ, List.flatMap_cons, List.set_append_right _ _ (by rw [hf, Nat.succ_mul]; omega), hf, show (j + 1) * k + i - k = j * k + i by rw [Nat.succ_mul]; omega, flat_set k f hf l j i x y u h hi he]

theorem owns_write {w : World} {base g cap : Nat} {e : TypeId} {size n i : Nat} {u : Value} {xs : List Value} (h : w.ownsRow base e size (.slice (some ⟨g, 0, none⟩) n cap) n xs) (hi : i < n * size) : (w.setCell ⟨g, i, none⟩ u).ownsRow base e size (.slice (some ⟨g, 0, none⟩) n cap) n (xs.set i u) := by
  obtain ⟨hl, h⟩ := h
  refine ⟨by simpa using hl, ?_⟩
  rcases h with ⟨h, _⟩ | ⟨g', cap', cur, q, a1, a2, a3, a4, a5, a6⟩
  · cases h
  · cases q
    refine Or.inr ⟨g, cap, _, rfl, a1, blk_set _ a2, a3, a4, by simpa using a5, ?_⟩
    rw [Array.toList_setIfInBounds, List.take_set, a6]

theorem info_node : (Tryz.prog.info? 66).map (fun i => (i.zero, i.size, i.bytes)) = some (some (.agg #[.int .i64 0, .int .i64 0, .int .i64 0, .int .i64 0, .int .i64 0, .int .i64 0]), 6, 48) := by kernel_rfl

end Go.Proofs.YtoikglgnmjjpcabGreat

namespace Go.Proofs.YtoikglgnmjjpcabGreat
open Go.RowKit Go.Shelf
set_option linter.unusedVariables false

set_option maxRecDepth 100000 in
set_option maxHeartbeats 1000000 in
theorem clone_in (n : Nat) (b off cap : Nat) (ns : List Nd) (w : World) (hN : NodesAt w b off ns) (hl : 1 ≤ ns.length ∧ ns.length ≤ 512) :
    CallsIn Fence.wide n Tryz.prog 33 #[.slice (some ⟨b, off, none⟩) ns.length cap] w fun e w' => ∃ v, e = .returned v ∧ w'.ownsRow w.heap.size 66 6 v ns.length (ns.flatMap encNd) ∧ Below w.heap.size w w' := by
  obtain ⟨i0, hi0, hz0, hz1, hz2⟩ := info_parts info_node
  have q22 : ∀ (w : World) (a : Option Addr) (n c n' c' : Nat), (binOp .eql 22 (.slice a n c) (.slice none n' c')).run Tryz.prog w = .ok (.bool a.isNone) w := fun w a n c n' c' => Lib.run_eql_slice_nil w _ _ a n c n' c' Tryz.underlying22
  refine callsIn_of_wp Tryz.func33 rfl trivial ?_ rfl
  simp only [Tryz.ntmps33, List.size_toArray, List.length_cons, List.length_nil, Nat.reduceAdd, Nat.reduceSub, Array.replicate_succ, Array.replicate_zero, List.push_toArray, List.append_toArray, List.nil_append, List.cons_append]
  have hbT : Below w.heap.size w (w.alloc (.cells #[] 66)) := (Below.refl _ w).alloc (Nat.le_refl _) _
  gi_wp2_with (gi_at_builtin; refine wpListIn_append_own _ rfl _ _ 22 rfl w.heap.size 66 i0 _ 6 48 Tryz.underlying22 hi0 hz0 hz1 hz2 rfl (by decide) (.slice (some ⟨w.heap.size, 0, none⟩) 0 0) 0 [] rfl ⟨rfl, Or.inr ⟨w.heap.size, 0, #[], rfl, Nat.le_refl _, World.alloc_heap_new w _, Nat.le_refl _, by decide, rfl, rfl⟩⟩ ⟨b, off, none⟩ ns.length cap (ns.flatMap encNd) rfl (flat_len 6 encNd encNd_len ns) (nodes_flat (hN.below hbT hN.lt)) (encNd_one ns) (by unfold maxLen; omega) (by omega) (by simp) ?_; intro v' w1 hown hgrow _)
  rw [Nat.zero_add, List.nil_append] at hown
  go_ret
  exact ⟨v', rfl, hown, hbT.grown hgrow hbT.size (fun k e => by simp [Value.ownBlock] at e; omega)⟩

set_option maxHeartbeats 1000000 in
theorem turn_at (x : Nd) (fr to : Int) (w : World) :
    Calls Tryz.prog 61 #[.agg #[.int .i64 x.op, .int .i64 x.d, .int .i64 x.a, .int .i64 x.b, .int .i64 x.t, .int .i64 x.e], .int .i64 fr, .int .i64 to] w fun e w' => e = .returned (.agg #[.int .i64 (trn x fr to).op, .int .i64 (trn x fr to).d, .int .i64 (trn x fr to).a, .int .i64 (trn x fr to).b, .int .i64 (trn x fr to).t, .int .i64 (trn x fr to).e]) ∧ w' = (w.alloc (.cells (encNd (trn x fr to)).toArray 66)).alloc (.cells (encNd (trn x fr to)).toArray 66) := by
  obtain ⟨op, d, a, b, t, e⟩ := x
  go_enter Tryz.func61, Tryz.ntmps61
  go_wp2
  all_goals refine bodyPost_ret (v := .agg #[.int .i64 (trn ⟨op, d, a, b, t, e⟩ fr to).op, .int .i64 (trn ⟨op, d, a, b, t, e⟩ fr to).d, .int .i64 (trn ⟨op, d, a, b, t, e⟩ fr to).a, .int .i64 (trn ⟨op, d, a, b, t, e⟩ fr to).b, .int .i64 (trn ⟨op, d, a, b, t, e⟩ fr to).t, .int .i64 (trn ⟨op, d, a, b, t, e⟩ fr to).e]) ?_ rfl ⟨rfl, ?_⟩
  all_goals (rename_i h1 h2; simp only [beq_iff_eq, beq_eq_false_iff_ne, ne_eq] at h1 h2; simp [results, Tryz.results61, go_sem, trn, encNd, h1, h2])
end Go.Proofs.YtoikglgnmjjpcabGreat

namespace Go.Proofs.YtoikglgnmjjpcabGreat

theorem abv_irrefl (t : Tm) : abv t t = false := by simp [abv]

theorem abv_trans {a b c : Tm} (h1 : abv a b = true) (h2 : abv b c = true) : abv a c = true := by
  obtain ⟨a1, a2, a3⟩ := a
  obtain ⟨b1, b2, b3⟩ := b
  obtain ⟨c1, c2, c3⟩ := c
  simp only [abv] at *
  repeat' split at h1
  all_goals repeat' split at h2
  all_goals repeat' split
  all_goals simp only [decide_eq_true_eq] at *
  all_goals omega

theorem abv_total {a b : Tm} (h : abv a b = false) (hne : a ≠ b) : abv b a = true := by
  obtain ⟨a1, a2, a3⟩ := a
  obtain ⟨b1, b2, b3⟩ := b
  simp only [abv] at *
  have hne' : ¬ (a1 = b1 ∧ a2 = b2 ∧ a3 = b3) := fun ⟨e1, e2, e3⟩ => hne (by rw [e1, e2, e3])
  repeat' split at h
  all_goals repeat' split
  all_goals simp only [decide_eq_true_eq, decide_eq_false_iff_not] at *
  all_goals omega

def Srt (l : List Ct) : Prop := l.Pairwise (fun a b => abv b.t a.t = true)

def ctOf (l : List Ct) (t : Tm) : Option Int := (l.find? (fun c => decide (c.t = t))).map (·.n)

theorem ctOf_cons (c : Ct) (l : List Ct) (t : Tm) : ctOf (c :: l) t = if c.t = t then some c.n else ctOf l t := by
  unfold ctOf
  rw [List.find?_cons]
  by_cases h : c.t = t <;> simp [h]

theorem ctOf_none {l : List Ct} {t : Tm} (h : ∀ c ∈ l, abv c.t t = true) : ctOf l t = none := by
  induction l with
  | nil => rfl
  | cons c l ih =>
    rw [ctOf_cons, if_neg, ih (fun c hc => h c (List.mem_cons_of_mem _ hc))]
    intro e
    have := h c (List.mem_cons_self ..)
    rw [e, abv_irrefl] at this
    cases this

theorem omore_mem {l : List Ct} {t : Tm} {c : Ct} (h : c ∈ omore l t) : c ∈ l ∨ c.t = t := by
  induction l with
  | nil => simp [omore] at h; right; rw [h]
  | cons d l ih =>
    unfold omore at h
    split at h
    · rcases List.mem_cons.1 h with h | h
      · left; rw [h]; exact List.mem_cons_self ..
      · rcases ih h with h | h
        · left; exact List.mem_cons_of_mem _ h
        · right; exact h
    · split at h
      · rcases List.mem_cons.1 h with h | h
        · right; rw [h]
        · left; exact List.mem_cons_of_mem _ h
      · rcases List.mem_cons.1 h with h | h
        · right; rw [h]
        · left; exact h

theorem omore_srt {l : List Ct} (h : Srt l) (t : Tm) : Srt (omore l t) := by
  induction l with
  | nil => exact List.pairwise_singleton _ _
  | cons c l ih =>
    unfold Srt at h
    rw [List.pairwise_cons] at h
    unfold omore
    split
    · rename_i h1
      refine List.pairwise_cons.2 ⟨fun d hd => ?_, ih h.2⟩
      rcases omore_mem hd with hd | hd
      · exact h.1 d hd
      · rw [hd]; exact h1
    · rename_i h1
      split
      · rename_i h2
        refine List.pairwise_cons.2 ⟨fun d hd => ?_, h.2⟩
        have := h.1 d hd
        rw [h2] at this; exact this
      · rename_i h2
        have h1' : abv t c.t = false := by simpa using h1
        have h3 : abv c.t t = true := abv_total h1' (fun e => h2 e.symm)
        refine List.pairwise_cons.2 ⟨fun d hd => ?_, List.pairwise_cons.2 h⟩
        rcases List.mem_cons.1 hd with hd | hd
        · rw [hd]; exact h3
        · exact abv_trans (h.1 d hd) h3

theorem omore_ct {l : List Ct} (h : Srt l) (t u : Tm) : ctOf (omore l t) u = if u = t then some ((ctOf l t).getD 0 + 1) else ctOf l u := by
  induction l with
  | nil =>
    unfold omore
    rw [ctOf_cons]
    by_cases e : u = t
    · subst e; simp [ctOf]
    · rw [if_neg (fun e' => e e'.symm), if_neg e]
  | cons c l ih =>
    unfold Srt at h
    rw [List.pairwise_cons] at h
    unfold omore
    split
    · rename_i h1
      have hct : c.t ≠ t := fun e => by rw [e, abv_irrefl] at h1; cases h1
      rw [ctOf_cons, ctOf_cons, ctOf_cons, ih h.2, if_neg hct]
      by_cases e : u = t
      · subst e; rw [if_neg hct, if_pos rfl, if_pos rfl]
      · rw [if_neg e, if_neg e]
    · rename_i h1
      split
      · rename_i h2
        rw [ctOf_cons, ctOf_cons, ctOf_cons, if_pos h2]
        by_cases e : u = t
        · subst e; simp
        · rw [if_neg (fun e' => e e'.symm), if_neg e, h2, if_neg (fun e' => e e'.symm)]
      · rename_i h2
        have h1' : abv t c.t = false := by simpa using h1
        have h3 : abv c.t t = true := abv_total h1' (fun e => h2 e.symm)
        have hn : ctOf (c :: l) t = none := ctOf_none (fun d hd => by
          rcases List.mem_cons.1 hd with hd | hd
          · rw [hd]; exact h3
          · exact abv_trans (h.1 d hd) h3)
        rw [ctOf_cons]
        by_cases e : u = t
        · subst e; rw [if_pos rfl, if_pos rfl, hn]; rfl
        · rw [if_neg (fun e' => e e'.symm), if_neg e]

theorem ctOf_mem {l : List Ct} {t : Tm} {n : Int} (h : ctOf l t = some n) : ⟨t, n⟩ ∈ l := by
  unfold ctOf at h
  rw [Option.map_eq_some_iff] at h
  obtain ⟨c, hc, rfl⟩ := h
  have h1 := List.find?_some hc
  have h2 := List.mem_of_find?_eq_some hc
  simp at h1
  subst h1
  exact h2

theorem omore_le {l : List Ct} {t : Tm} {k : Int} (hk : 0 ≤ k) (h : ∀ c ∈ l, 0 ≤ c.n ∧ c.n ≤ k) : ∀ c ∈ omore l t, 0 ≤ c.n ∧ c.n ≤ k + 1 := by
  induction l with
  | nil => intro c hc; simp [omore] at hc; subst hc; simp; omega
  | cons d l ih =>
    intro c hc
    have hd := h d (List.mem_cons_self ..)
    have hl : ∀ c ∈ l, 0 ≤ c.n ∧ c.n ≤ k := fun c hc => h c (List.mem_cons_of_mem _ hc)
    unfold omore at hc
    split at hc
    · rcases List.mem_cons.1 hc with hc | hc
      · subst hc; omega
      · exact ih hl c hc
    · split at hc
      · rcases List.mem_cons.1 hc with hc | hc
        · subst hc; simp; omega
        · have := hl c hc; omega
      · rcases List.mem_cons.1 hc with hc | hc
        · subst hc; simp; omega
        · have := h c hc; omega

theorem omore_len (l : List Ct) (t : Tm) : (omore l t).length ≤ l.length + 1 := by
  induction l with
  | nil => simp [omore]
  | cons c l ih =>
    unfold omore
    split
    · simp; omega
    · split <;> simp

end Go.Proofs.YtoikglgnmjjpcabGreat

namespace Go.Proofs.YtoikglgnmjjpcabGreat
open Go.RowKit Go.Shelf
set_option linter.unusedVariables false

attribute [local go_sem] Oper.semAt_some

theorem exo_lt {r : Int} {ns : List Nd} (hc : chk r ns = 0) {x : Nd} (hx : x ∈ ns) {m : Int} (hm : m ∈ exo x) : 0 ≤ m ∧ m < ns.length := by
  unfold exo at hm
  have hk := wi_iff.1 ((chk_zero hc).2.2.1 x hx)
  split at hm
  · rename_i h11
    have a := then_ok hc hx (by omega)
    have b := else_ok hc hx h11
    split at hm
    · simp at hm; omega
    · simp at hm; omega
  · split at hm
    · rename_i h11 hw
      have := wi_iff.1 hw
      have a := then_ok hc hx (by omega)
      simp at hm; omega
    · simp at hm

theorem info_ints : (Tryz.prog.info? 40).map (fun i => (i.zero, i.size, i.bytes)) = some (some (.slice none 0 0), 1, 24) := by kernel_rfl

theorem rowsAt_more (ns : List Nd) (k : Nat) (l : List Int) (m : Nat) : rowsAt ns k (l ++ [(m : Int)]) m = rowsAt ns k l m ++ [(k : Int)] := by
  simp [rowsAt, List.count_append, List.replicate_succ']
theorem rowsAt_else (ns : List Nd) (k : Nat) (l : List Int) {m j : Nat} (h : j ≠ m) : rowsAt ns k (l ++ [(m : Int)]) j = rowsAt ns k l j := by
  have : List.count (j : Int) [(m : Int)] = 0 := by
    rw [List.count_eq_zero]; simp; omega
  simp only [rowsAt, List.count_append, this, Nat.add_zero]

theorem made_rows (n : Nat) : madeCells #[Value.slice none 0 0] n = (List.replicate n (Value.slice none 0 0)).toArray := by
  apply Array.ext'
  rw [toList_madeCells_one]

theorem rows_new {w : World} {base rb L : Nat} {ns : List Nd} (h : w.heap[rb]? = some (.cells (madeCells #[Value.slice none 0 0] L) 40 (0, 0))) : RowsAt w base rb L (List.replicate L (.slice none 0 0)) (fun m => pick (ahB ns m) 0) := by
  refine ⟨by rw [h, made_rows], by simp, fun m v hv => ?_, fun m1 m2 v1 v2 g h1 h2 e1 e2 => ?_⟩
  · obtain rfl := List.eq_of_mem_replicate (List.mem_of_getElem? hv)
    exact World.ownsRow_nil _ _ _ _
  · obtain rfl := List.eq_of_mem_replicate (List.mem_of_getElem? h1)
    simp [Value.ownBlock] at e1

set_option maxRecDepth 100000 in
set_option maxHeartbeats 2000000 in
theorem linksAhead_in (n : Nat) (hn : 4 ≤ n) (r : Int) (b off cap : Nat) (ns : List Nd) (w : World) (hN : NodesAt w b off ns) (hc : chk r ns = 0) :
    CallsIn Fence.wide n Tryz.prog 59 #[.agg #[.int .i64 r, .slice (some ⟨b, off, none⟩) ns.length cap]] w fun e w' => ∃ rb vs, e = .returned (.slice (some ⟨rb, 0, none⟩) ns.length ns.length) ∧ RowsAt w' w.heap.size rb ns.length vs (fun m => pick (ahB ns m) ns.length) ∧ Below w.heap.size w w' := by
  have h1 : 1 ≤ n := by omega
  have h2 : 1 ≤ n - 1 - 1 := by omega
  have hl := (chk_zero hc).1
  obtain ⟨i0, hi, hz0, hz1, hz2⟩ := info_parts info_int
  refine callsIn_of_wp_marks Tryz.func59 rfl trivial ?_ rfl
  simp only [Tryz.ntmps59, List.size_toArray, List.length_cons, List.length_nil, Nat.reduceAdd, Nat.reduceSub, Array.replicate_succ, Array.replicate_zero, List.push_toArray, List.append_toArray, List.nil_append, List.cons_append]
  have hms : ∀ W : World, Sem.run Tryz.prog (Instr.makeSlice 91 (.int .i64 (ns.length : Int)) (.int .i64 (ns.length : Int))) W = .ok (.slice (some ⟨W.heap.size, 0, none⟩) ns.length ns.length) (W.alloc (.cells (madeCells #[.slice none 0 0] ns.length) 40)) := fun W => run_make_row' 91 40 _ 24 Tryz.underlying91 info_ints rfl .i64 .i64 ns.length (by omega) (by omega) W
  gi_wp2
  have hB0 : Below w.heap.size w (((w.alloc (.cells #[.int .i64 r, .slice (some ⟨b, off, none⟩) ns.length cap] 24)).alloc (.cells (madeCells #[.slice none 0 0] ns.length) 40)).alloc (.cells #[.slice (some ⟨w.heap.size + 1, 0, none⟩) ns.length ns.length] 91)) := (((Below.refl _ w).alloc (Nat.le_refl _) _).alloc (by simp) _).alloc (by simp; omega) _
  have hbx0 : Boxed (((w.alloc (.cells #[.int .i64 r, .slice (some ⟨b, off, none⟩) ns.length cap] 24)).alloc (.cells (madeCells #[.slice none 0 0] ns.length) 40)).alloc (.cells #[.slice (some ⟨w.heap.size + 1, 0, none⟩) ns.length ns.length] 91)) (w.heap.size + 1 + 1) 91 (.slice (some ⟨w.heap.size + 1, 0, none⟩) ns.length ns.length) := by
    have := Boxed.new ((w.alloc (.cells #[.int .i64 r, .slice (some ⟨b, off, none⟩) ns.length cap] 24)).alloc (.cells (madeCells #[.slice none 0 0] ns.length) 40)) 91 (.slice (some ⟨w.heap.size + 1, 0, none⟩) ns.length ns.length)
    simpa only [World.size_alloc] using this
  have hR0 : RowsAt (((w.alloc (.cells #[.int .i64 r, .slice (some ⟨b, off, none⟩) ns.length cap] 24)).alloc (.cells (madeCells #[.slice none 0 0] ns.length) 40)).alloc (.cells #[.slice (some ⟨w.heap.size + 1, 0, none⟩) ns.length ns.length] 91)) w.heap.size (w.heap.size + 1) ns.length (List.replicate ns.length (.slice none 0 0)) (fun m => pick (ahB ns m) 0) := by
    refine rows_new ((Below.heap_alloc _ _ _ (by simp)).trans ?_)
    have := World.alloc_heap_new (w.alloc (.cells #[.int .i64 r, .slice (some ⟨b, off, none⟩) ns.length cap] 24)) (.cells (madeCells #[.slice none 0 0] ns.length) 40)
    simpa only [World.size_alloc] using this
  generalize (((w.alloc (.cells #[.int .i64 r, .slice (some ⟨b, off, none⟩) ns.length cap] 24)).alloc (.cells (madeCells #[.slice none 0 0] ns.length) 40)).alloc (.cells #[.slice (some ⟨w.heap.size + 1, 0, none⟩) ns.length ns.length] 91)) = W0 at hB0 hbx0 hR0 ⊢
  refine wpIn_loop (fun a W => ∃ (k : Nat) (u4 u5 u15 u16 u17 u18 u19 u20 u32 : Value) (ds : List Nat), k ≤ ns.length ∧ (∃ vs, RowsAt W w.heap.size (w.heap.size + 1) ns.length vs (fun m => pick (ahB ns m) k)) ∧ Boxed W (w.heap.size + 1 + 1) 91 (.slice (some ⟨w.heap.size + 1, 0, none⟩) ns.length ns.length) ∧ Below w.heap.size w W ∧ Marks ds W ∧ (∀ D ∈ ds, w.heap.size ≤ D) ∧
      a = { tmps := #[.agg #[.int .i64 r, .slice (some ⟨b, off, none⟩) ns.length cap], .pointer (some ⟨w.heap.size, 0, none⟩), .slice none 0 0, .pointer (some ⟨w.heap.size + 1 + 1, 0, none⟩), u4, u5, undef, .pointer (some ⟨w.heap.size, 1, none⟩), .slice (some ⟨b, off, none⟩) ns.length cap, .int .i64 ns.length, .slice (some ⟨w.heap.size + 1, 0, none⟩) ns.length ns.length, .pointer (some ⟨w.heap.size, 1, none⟩), .slice (some ⟨b, off, none⟩) ns.length cap, .int .i64 ns.length, .int .i64 k, u15, u16, u17, u18, u19, u20, undef, undef, undef, undef, undef, undef, undef, undef, undef, undef, undef, u32, undef], defers := ds.map markD })
    (fun a _ => ns.length - (intOf (a.tmps.getD 14 undef)).toNat) ?atStart ?round
  case atStart => exact ⟨0, _, _, _, _, _, _, _, _, _, [], Nat.zero_le _, ⟨_, hR0⟩, hbx0, hB0, Marks.nil _, by simp, rfl⟩
  case round =>
    rintro _ wr ⟨k, u4, u5, u15, u16, u17, u18, u19, u20, u32, ds, hk, ⟨vs, hR⟩, hbx, hB, hM, hD', rfl⟩
    have hcb := hbx.cell
    have hblx := hbx.lt
    by_cases hlt : k < ns.length
    · obtain ⟨x, hx⟩ := get_lt hlt
      have hN1 := hN.below hB hN.lt
      have c0 := hN1.c0 k x hx
      have c1 := hN1.c1 k x hx
      have c2 := hN1.c2 k x hx
      have c3 := hN1.c3 k x hx
      have c4 := hN1.c4 k x hx
      have c5 := hN1.c5 k x hx
      have hblt := hN1.lt
      have HX := hide' hx
      have HN := hide' hN1
      have HR := hide' hR
      clear hx hN1 hR
      gi_wp2_with (refine ⟨trivial, ?_⟩; gi_at_call 60; refine (exits_in _ _ _ _ _ _ _ _).mono ?_; rintro e w' ⟨rfl, rfl⟩)
      have hBL : Below wr.heap.size wr (((wr.alloc (.cells #[.int .i64 k] 3)).alloc (.cells #[.int .i64 x.op, .int .i64 x.d, .int .i64 x.a, .int .i64 x.b, .int .i64 x.t, .int .i64 x.e] 66)).alloc (.cells #[.int .i64 x.op, .int .i64 x.d, .int .i64 x.a, .int .i64 x.b, .int .i64 x.t, .int .i64 x.e] 66)) := (((Below.refl _ wr).alloc (Nat.le_refl _) _).alloc (by simp) _).alloc (by simp; omega) _
      have hn4 : Boxed (((wr.alloc (.cells #[.int .i64 k] 3)).alloc (.cells #[.int .i64 x.op, .int .i64 x.d, .int .i64 x.a, .int .i64 x.b, .int .i64 x.t, .int .i64 x.e] 66)).alloc (.cells #[.int .i64 x.op, .int .i64 x.d, .int .i64 x.a, .int .i64 x.b, .int .i64 x.t, .int .i64 x.e] 66)) wr.heap.size 3 (.int .i64 k) := ((Boxed.new wr 3 (.int .i64 k)).alloc _).alloc _
      have hnb : NodeBox (((wr.alloc (.cells #[.int .i64 k] 3)).alloc (.cells #[.int .i64 x.op, .int .i64 x.d, .int .i64 x.a, .int .i64 x.b, .int .i64 x.t, .int .i64 x.e] 66)).alloc (.cells #[.int .i64 x.op, .int .i64 x.d, .int .i64 x.a, .int .i64 x.b, .int .i64 x.t, .int .i64 x.e] 66)) (wr.heap.size + 1 + 1) x := by
        have := nodeBox_new ((wr.alloc (.cells #[.int .i64 k] 3)).alloc (.cells #[.int .i64 x.op, .int .i64 x.d, .int .i64 x.a, .int .i64 x.b, .int .i64 x.t, .int .i64 x.e] 66)) x
        simpa only [World.size_alloc] using this
      generalize (((wr.alloc (.cells #[.int .i64 k] 3)).alloc (.cells #[.int .i64 x.op, .int .i64 x.d, .int .i64 x.a, .int .i64 x.b, .int .i64 x.t, .int .i64 x.e] 66)).alloc (.cells #[.int .i64 x.op, .int .i64 x.d, .int .i64 x.a, .int .i64 x.b, .int .i64 x.t, .int .i64 x.e] 66)) = WL at hBL hn4 hnb ⊢
      have hbxL : Boxed WL (w.heap.size + 1 + 1) 91 _ := (hBL.block _ hbx.lt).trans hbx
      have hBL' := hB.trans (hBL.mono hB.size)
      have hsL := hBL.size
      have hsz := hB.size
      have hltB := hnb.lt
      have hmk := chk_zero hc
      have hkx := hmk.2.2.1 x (List.mem_of_getElem? HX.out)
      have hmx : ∀ y : Ex x, 0 ≤ y.1 ∧ y.1 < ns.length := fun y => exo_lt hc (List.mem_of_getElem? HX.out) y.2
      clear hmk c0 c1 c2 c3 c4 c5 hcb
      refine wpIn_rangeFunc_ownG rfl h1 (gf := 99) (lb := #[.pointer (some ⟨wr.heap.size + 1 + 1, 0, none⟩)]) rfl trivial (enters_of Tryz.func99 (by kernel_rfl) rfl)
        (exits_stops (n - 1) (by omega) (wr.heap.size + 1 + 1) x _ hnb) KT.trans (KT.putObj hltB) (Below.refl _ _) (fun _ => rfl)
        (fun pre W => ((∃ vs, RowsAt W w.heap.size (w.heap.size + 1) ns.length vs (rowsAt ns k (pre.map (·.1))) ∧ ∀ (j : Nat) (v : Value), vs[j]? = some v → v.ownBlock ≠ some wr.heap.size) ∧ Boxed W (w.heap.size + 1 + 1) 91 (.slice (some ⟨w.heap.size + 1, 0, none⟩) ns.length ns.length) ∧ Boxed W wr.heap.size 3 (.int .i64 k) ∧ NodeBox W (wr.heap.size + 1 + 1) x ∧ Marks ds W) ∧ Below w.heap.size w W)
        (fun _ _ _ => False)
        (OwnFrom.and ?own (ownFrom_below (by omega) (by omega)))
        (fun _ _ _ _ _ hs _ _ => hs)
        ⟨⟨⟨vs, by rw [show rowsAt ns k (([] : List (Ex x)).map (·.1)) = fun m => pick (ahB ns m) k from rowsAt_nil ns k]; exact HR.out.below hBL, fun j v hj e => by have := ((HR.out.own j v hj).lt _ e).2; omega⟩, hbxL, hn4, hnb, hM.below hBL⟩, hBL'⟩
        (fun y => { tmps := #[.agg #[.int .i64 r, .slice (some ⟨b, off, none⟩) ns.length cap], .pointer (some ⟨w.heap.size, 0, none⟩), .slice none 0 0, .pointer (some ⟨w.heap.size + 1 + 1, 0, none⟩), .pointer (some ⟨wr.heap.size, 0, none⟩), .pointer (some ⟨wr.heap.size + 1, 0, none⟩), .int .i64 y.1, .pointer (some ⟨w.heap.size, 1, none⟩), .slice (some ⟨b, off, none⟩) ns.length cap, .int .i64 ns.length, .slice (some ⟨w.heap.size + 1, 0, none⟩) ns.length ns.length, .pointer (some ⟨w.heap.size, 1, none⟩), .slice (some ⟨b, off, none⟩) ns.length cap, .int .i64 ns.length, .int .i64 k, .bool true, .int .i64 k, .pointer (some ⟨b, off + k * 6, none⟩), .agg #[.int .i64 x.op, .int .i64 x.d, .int .i64 x.a, .int .i64 x.b, .int .i64 x.t, .int .i64 x.e], .agg #[.int .i64 x.op, .int .i64 x.d, .int .i64 x.a, .int .i64 x.b, .int .i64 x.t, .int .i64 x.e], .func (.func 99) #[] #[.pointer (some ⟨wr.heap.size + 1 + 1, 0, none⟩)], .int .i64 y.1, undef, undef, undef, undef, undef, undef, undef, undef, undef, undef, u32, undef], defers := [] }) ?assign ?body ?done ?stop
      case own =>
        rintro pre A C row ⟨⟨vs, hvs, hno⟩, hb1, hb2, hb3, hm1⟩ hg hr
        have hcl : ∀ (b : Nat) (o : Obj), A.heap[b]? = some o → o.isCells = true → some b ≠ row := fun b o h1 h2 e => by
          obtain ⟨_, o', h3, h4⟩ := hr b e.symm
          rw [h1] at h3; cases h3; rw [h2] at h4; cases h4
        exact ⟨⟨vs, hvs.kept hg (fun r e => (hr r e).2), hno⟩, hb1.kept hg (hcl _ _ hb1 rfl), hb2.kept hg (hcl _ _ hb2 rfl), (hg.block _ hb3.lt (hcl _ _ hb3 rfl)).trans hb3, hm1.grown hg fun q e hq => by
          have h1 := (hr q e).1
          have h2 := hM.lt hq
          omega⟩
      case assign =>
        intro l y W K hK
        gi_wp2
        exact hK
      case body =>
        rintro l pre y W ⟨⟨⟨vs, hvs, hno⟩, hb1, hb2, hb3, hm1⟩, hB1⟩ hpl
        obtain ⟨hm0, hm2⟩ := hmx y
        obtain ⟨m, hmy⟩ := Int.eq_ofNat_of_zero_le hm0
        have hml : m < ns.length := by omega
        have hml' : m < vs.length := by rw [hvs.len]; exact hml
        obtain ⟨v, hv⟩ := get_lt hml'
        have hown := hvs.own m v hv
        have hcb := hb1.cell
        have hck := hb2.cell
        have hrc : W.cell? ⟨w.heap.size + 1, m, none⟩ = some v := by rw [blk_cell hvs.blk]; simpa using hv
        have hpl2 : pre.length < 2 := Nat.lt_of_lt_of_le hpl (exo_len x)
        have hrl := rowsAt_len ns k (pre.map (·.1)) m
        rw [List.length_map] at hrl
        obtain ⟨g, cap1, w1, hrun, hown1, hgrow, hat, hgl⟩ := run_append_lies (P := Tryz.prog) (W.drew.alloc (.cells #[.int .i64 k] 3)) 40 40 w.heap.size 3 i0 (.int .i64 0) 1 8 Tryz.underlying40 hi hz0 hz1 hz2 rfl (by decide) v _ _ (World.ownsRow.alloc (show W.drew.ownsRow _ _ _ _ _ _ from hown) _) ⟨W.heap.size, 0, none⟩ 1 1 [.int .i64 k] rfl (cell_one_new _ _ _) (by simp [Value.oneCell']) (by decide) (by unfold maxLen; omega) (by omega) (by have := hB1.size; simp; omega) _ rfl
        have HO := hide' hown1
        have HG := hide' hgrow
        have HA := hide' hat
        have HV := hide' hvs
        have HM := hide' hm1
        have HH := hide' hv
        have HW := hide' hown
        have HNO := hide' hno
        have HB3 := hide' hb3
        clear hno hb3
        have hb1' : Boxed w1 (w.heap.size + 1 + 1) 91 (.slice (some ⟨w.heap.size + 1, 0, none⟩) ns.length ns.length) := Boxed.kept (Boxed.alloc (show Boxed W.drew _ _ _ from hb1) _) hgrow (owns_ne_ty hown hb1 (by decide))
        have hr1' : w1.heap[w.heap.size + 1]? = some (.cells vs.toArray 40 (0, 0)) := (hgrow.block _ (by have := (Array.getElem?_eq_some_iff.1 hvs.blk).1; simp; omega) (owns_ne_ty hown hvs.blk (by decide))).trans ((Below.heap_alloc W.drew _ _ (Array.getElem?_eq_some_iff.1 hvs.blk).1).trans hvs.blk)
        have q1 := hb1'.cell
        have q2 := blk_frozen hr1' m
        have q3 := blk_cell hr1' m
        have q3' : vs.toArray[m]? = some v := by simpa using hv
        rw [q3'] at q3
        rw [hmy]
        have HR1 := hide' hr1'
        have HB1 := hide' hb1'
        clear hown1 hgrow hat hvs hm1 hv hown hr1' q3'
        have hlt1 : (m : Int) < (ns.length : Int) := by omega
        have z1 := hb1.lt
        have z2 := hb2.lt
        have z3 : w.heap.size + 1 < W.heap.size := by omega
        generalize hN0 : (rowsAt ns k (List.map (fun x => x.val) pre) m).length = N0 at hrun HO HW hrl
        have HN0 := hide' hN0
        clear hN0
        simp [go_sem] at hrun
        gi_wp2
        refine region_inv (by kernel_rfl) (fun listed a w' => ∃ u22 u23 u24 u25 u26 u27 u28 u29 u30 u31 : Value, listed.size = 11 ∧ a = { tmps := #[.agg #[.int .i64 r, .slice (some ⟨b, off, none⟩) ns.length cap], .pointer (some ⟨w.heap.size, 0, none⟩), .slice none 0 0, .pointer (some ⟨w.heap.size + 1 + 1, 0, none⟩), .pointer (some ⟨wr.heap.size, 0, none⟩), .pointer (some ⟨wr.heap.size + 1, 0, none⟩), .int .i64 (m : Int), .pointer (some ⟨w.heap.size, 1, none⟩), .slice (some ⟨b, off, none⟩) ns.length cap, .int .i64 ns.length, .slice (some ⟨w.heap.size + 1, 0, none⟩) ns.length ns.length, .pointer (some ⟨w.heap.size, 1, none⟩), .slice (some ⟨b, off, none⟩) ns.length cap, .int .i64 ns.length, .int .i64 k, .bool true, .int .i64 k, .pointer (some ⟨b, off + k * 6, none⟩), .agg #[.int .i64 x.op, .int .i64 x.d, .int .i64 x.a, .int .i64 x.b, .int .i64 x.t, .int .i64 x.e], .agg #[.int .i64 x.op, .int .i64 x.d, .int .i64 x.a, .int .i64 x.b, .int .i64 x.t, .int .i64 x.e], .func (.func 99) #[] #[.pointer (some ⟨wr.heap.size + 1 + 1, 0, none⟩)], .int .i64 (m : Int), u22, u23, u24, u25, u26, u27, u28, u29, u30, u31, u32, undef], defers := [] } ∧ (listed.getD 0 false = true → u22 = .slice (some ⟨w.heap.size + 1, 0, none⟩) ns.length ns.length) ∧ (listed.getD 1 false = true → u23 = .int .i64 (m : Int)) ∧ (listed.getD 2 false = true → u24 = .slice (some ⟨w.heap.size + 1, 0, none⟩) ns.length ns.length) ∧ (listed.getD 3 false = true → u25 = .int .i64 (m : Int)) ∧ (listed.getD 4 false = true → u26 = .pointer (some ⟨w.heap.size + 1, m, none⟩)) ∧ (listed.getD 5 false = true → u27 = v) ∧ (listed.getD 6 false = true → u28 = .int .i64 (k : Int)) ∧ (listed.getD 7 false = true → u29 = .slice (some ⟨W.heap.size, 0, none⟩) 1 1) ∧ (listed.getD 8 false = true → u30 = .slice (some ⟨g, 0, none⟩) (N0 + 1) cap1) ∧ (listed.getD 9 false = true → u31 = .pointer (some ⟨w.heap.size + 1, m, none⟩)) ∧ ((listed.getD 7 false = false ∧ listed.getD 8 false = false ∧ listed.getD 10 false = false ∧ w' = W.drew) ∨ (listed.getD 6 false = true ∧ listed.getD 7 false = true ∧ listed.getD 8 false = false ∧ listed.getD 10 false = false ∧ w' = W.drew.alloc (.cells #[.int .i64 k] 3)) ∨ (listed.getD 5 false = true ∧ listed.getD 6 false = true ∧ listed.getD 7 false = true ∧ listed.getD 8 false = true ∧ listed.getD 10 false = false ∧ w' = w1) ∨ ((∀ j, j < 11 → listed.getD j false = true) ∧ w' = w1.setCell ⟨w.heap.size + 1, m, none⟩ (.slice (some ⟨g, 0, none⟩) (N0 + 1) cap1)))) ?hg ?hsz ?h0 ?hs ?h1
        case hg =>
          intro i o ho
          match i, ho with
          | 0, ho | 1, ho | 2, ho | 3, ho | 4, ho | 5, ho | 6, ho | 7, ho | 8, ho | 9, ho | 10, ho => simp at ho; subst ho; simp [Region.binds]
          | i + 11, ho => simp at ho
        case hsz => rintro listed a w' ⟨_, _, _, _, _, _, _, _, _, _, h, _⟩; simpa using h
        case h0 =>
          refine ⟨_, _, _, _, _, _, _, _, _, _, by simp, rfl, by simp, by simp, by simp, by simp, by simp, by simp, by simp, by simp, by simp, by simp, Or.inl ⟨by simp, by simp, by simp, rfl⟩⟩
        case hs =>
          rintro listed a w' i o ⟨u22, u23, u24, u25, u26, u27, u28, u29, u30, u31, hsz, rfl, e0, e1, e2, e3, e4, e5, e6, e7, e8, e9, hw⟩ hC ho hl hd
          have hlt11 : i < 11 := (Array.getElem?_eq_some_iff.1 ho).1
          have hl' : listed.getD i false = false := by
            simp only [Array.getD] at hl ⊢
            rw [dif_pos (by omega)] at hl ⊢; exact hl
          have keep : ∀ j, j ≠ i → (listed.setIfInBounds i true).getD j false = listed.getD j false := fun j hj => getD_set_ne false (fun e => hj e.symm)
          have sett : (listed.setIfInBounds i true).getD i false = true := by simp [hsz, hlt11]
          have hsz' : (listed.setIfInBounds i true).size = 11 := by simp [hsz]
          clear hl
          match i, hlt11 with
          | 0, _ =>
            simp at ho; subst ho
            clear hd
            rcases hw with ⟨h7, h8, h10, rfl⟩ | ⟨h6, h7, h8, h10, rfl⟩ | ⟨h5, h6, h7, h8, h10, hwe⟩ | ⟨hall, rfl⟩
            · refine Oper.wpIn_mono (K := fun a' w'' => a' = { tmps := #[.agg #[.int .i64 r, .slice (some ⟨b, off, none⟩) ns.length cap], .pointer (some ⟨w.heap.size, 0, none⟩), .slice none 0 0, .pointer (some ⟨w.heap.size + 1 + 1, 0, none⟩), .pointer (some ⟨wr.heap.size, 0, none⟩), .pointer (some ⟨wr.heap.size + 1, 0, none⟩), .int .i64 (m : Int), .pointer (some ⟨w.heap.size, 1, none⟩), .slice (some ⟨b, off, none⟩) ns.length cap, .int .i64 ns.length, .slice (some ⟨w.heap.size + 1, 0, none⟩) ns.length ns.length, .pointer (some ⟨w.heap.size, 1, none⟩), .slice (some ⟨b, off, none⟩) ns.length cap, .int .i64 ns.length, .int .i64 k, .bool true, .int .i64 k, .pointer (some ⟨b, off + k * 6, none⟩), .agg #[.int .i64 x.op, .int .i64 x.d, .int .i64 x.a, .int .i64 x.b, .int .i64 x.t, .int .i64 x.e], .agg #[.int .i64 x.op, .int .i64 x.d, .int .i64 x.a, .int .i64 x.b, .int .i64 x.t, .int .i64 x.e], .func (.func 99) #[] #[.pointer (some ⟨wr.heap.size + 1 + 1, 0, none⟩)], .int .i64 (m : Int), .slice (some ⟨w.heap.size + 1, 0, none⟩) ns.length ns.length, u23, u24, u25, u26, u27, u28, u29, u30, u31, u32, undef], defers := [] } ∧ w'' = W.drew) (fun a' w'' h => ?_) ?_
              · obtain ⟨rfl, rfl⟩ := h
                exact ⟨_, _, _, _, _, _, _, _, _, _, hsz', rfl, fun _ => rfl, fun h => e1 (by rwa [keep 1 (by omega)] at h), fun h => e2 (by rwa [keep 2 (by omega)] at h), fun h => e3 (by rwa [keep 3 (by omega)] at h), fun h => e4 (by rwa [keep 4 (by omega)] at h), fun h => e5 (by rwa [keep 5 (by omega)] at h), fun h => e6 (by rwa [keep 6 (by omega)] at h), fun h => e7 (by rwa [keep 7 (by omega)] at h), fun h => e8 (by rwa [keep 8 (by omega)] at h), fun h => e9 (by rwa [keep 9 (by omega)] at h), Or.inl ⟨(keep 7 (by omega)).trans h7, (keep 8 (by omega)).trans h8, (keep 10 (by omega)).trans h10, rfl⟩⟩
              · go_simp
            · refine Oper.wpIn_mono (K := fun a' w'' => a' = { tmps := #[.agg #[.int .i64 r, .slice (some ⟨b, off, none⟩) ns.length cap], .pointer (some ⟨w.heap.size, 0, none⟩), .slice none 0 0, .pointer (some ⟨w.heap.size + 1 + 1, 0, none⟩), .pointer (some ⟨wr.heap.size, 0, none⟩), .pointer (some ⟨wr.heap.size + 1, 0, none⟩), .int .i64 (m : Int), .pointer (some ⟨w.heap.size, 1, none⟩), .slice (some ⟨b, off, none⟩) ns.length cap, .int .i64 ns.length, .slice (some ⟨w.heap.size + 1, 0, none⟩) ns.length ns.length, .pointer (some ⟨w.heap.size, 1, none⟩), .slice (some ⟨b, off, none⟩) ns.length cap, .int .i64 ns.length, .int .i64 k, .bool true, .int .i64 k, .pointer (some ⟨b, off + k * 6, none⟩), .agg #[.int .i64 x.op, .int .i64 x.d, .int .i64 x.a, .int .i64 x.b, .int .i64 x.t, .int .i64 x.e], .agg #[.int .i64 x.op, .int .i64 x.d, .int .i64 x.a, .int .i64 x.b, .int .i64 x.t, .int .i64 x.e], .func (.func 99) #[] #[.pointer (some ⟨wr.heap.size + 1 + 1, 0, none⟩)], .int .i64 (m : Int), .slice (some ⟨w.heap.size + 1, 0, none⟩) ns.length ns.length, u23, u24, u25, u26, u27, u28, u29, u30, u31, u32, undef], defers := [] } ∧ w'' = W.drew.alloc (.cells #[.int .i64 k] 3)) (fun a' w'' h => ?_) ?_
              · obtain ⟨rfl, rfl⟩ := h
                exact ⟨_, _, _, _, _, _, _, _, _, _, hsz', rfl, fun _ => rfl, fun h => e1 (by rwa [keep 1 (by omega)] at h), fun h => e2 (by rwa [keep 2 (by omega)] at h), fun h => e3 (by rwa [keep 3 (by omega)] at h), fun h => e4 (by rwa [keep 4 (by omega)] at h), fun h => e5 (by rwa [keep 5 (by omega)] at h), fun h => e6 (by rwa [keep 6 (by omega)] at h), fun h => e7 (by rwa [keep 7 (by omega)] at h), fun h => e8 (by rwa [keep 8 (by omega)] at h), fun h => e9 (by rwa [keep 9 (by omega)] at h), Or.inr (Or.inl ⟨(keep 6 (by omega)).trans h6, (keep 7 (by omega)).trans h7, (keep 8 (by omega)).trans h8, (keep 10 (by omega)).trans h10, rfl⟩)⟩
              · go_simp
            · obtain rfl := hwe.symm
              refine Oper.wpIn_mono (K := fun a' w'' => a' = { tmps := #[.agg #[.int .i64 r, .slice (some ⟨b, off, none⟩) ns.length cap], .pointer (some ⟨w.heap.size, 0, none⟩), .slice none 0 0, .pointer (some ⟨w.heap.size + 1 + 1, 0, none⟩), .pointer (some ⟨wr.heap.size, 0, none⟩), .pointer (some ⟨wr.heap.size + 1, 0, none⟩), .int .i64 (m : Int), .pointer (some ⟨w.heap.size, 1, none⟩), .slice (some ⟨b, off, none⟩) ns.length cap, .int .i64 ns.length, .slice (some ⟨w.heap.size + 1, 0, none⟩) ns.length ns.length, .pointer (some ⟨w.heap.size, 1, none⟩), .slice (some ⟨b, off, none⟩) ns.length cap, .int .i64 ns.length, .int .i64 k, .bool true, .int .i64 k, .pointer (some ⟨b, off + k * 6, none⟩), .agg #[.int .i64 x.op, .int .i64 x.d, .int .i64 x.a, .int .i64 x.b, .int .i64 x.t, .int .i64 x.e], .agg #[.int .i64 x.op, .int .i64 x.d, .int .i64 x.a, .int .i64 x.b, .int .i64 x.t, .int .i64 x.e], .func (.func 99) #[] #[.pointer (some ⟨wr.heap.size + 1 + 1, 0, none⟩)], .int .i64 (m : Int), .slice (some ⟨w.heap.size + 1, 0, none⟩) ns.length ns.length, u23, u24, u25, u26, u27, u28, u29, u30, u31, u32, undef], defers := [] } ∧ w'' = w1) (fun a' w'' h => ?_) ?_
              · obtain ⟨rfl, rfl⟩ := h
                exact ⟨_, _, _, _, _, _, _, _, _, _, hsz', rfl, fun _ => rfl, fun h => e1 (by rwa [keep 1 (by omega)] at h), fun h => e2 (by rwa [keep 2 (by omega)] at h), fun h => e3 (by rwa [keep 3 (by omega)] at h), fun h => e4 (by rwa [keep 4 (by omega)] at h), fun h => e5 (by rwa [keep 5 (by omega)] at h), fun h => e6 (by rwa [keep 6 (by omega)] at h), fun h => e7 (by rwa [keep 7 (by omega)] at h), fun h => e8 (by rwa [keep 8 (by omega)] at h), fun h => e9 (by rwa [keep 9 (by omega)] at h), Or.inr (Or.inr (Or.inl ⟨(keep 5 (by omega)).trans h5, (keep 6 (by omega)).trans h6, (keep 7 (by omega)).trans h7, (keep 8 (by omega)).trans h8, (keep 10 (by omega)).trans h10, rfl⟩))⟩
              · go_simp
            · rw [hall 0 (by omega)] at hl'; cases hl'
          | 1, _ =>
            simp at ho; subst ho
            clear hd
            rcases hw with ⟨h7, h8, h10, rfl⟩ | ⟨h6, h7, h8, h10, rfl⟩ | ⟨h5, h6, h7, h8, h10, hwe⟩ | ⟨hall, rfl⟩
            · refine Oper.wpIn_mono (K := fun a' w'' => a' = { tmps := #[.agg #[.int .i64 r, .slice (some ⟨b, off, none⟩) ns.length cap], .pointer (some ⟨w.heap.size, 0, none⟩), .slice none 0 0, .pointer (some ⟨w.heap.size + 1 + 1, 0, none⟩), .pointer (some ⟨wr.heap.size, 0, none⟩), .pointer (some ⟨wr.heap.size + 1, 0, none⟩), .int .i64 (m : Int), .pointer (some ⟨w.heap.size, 1, none⟩), .slice (some ⟨b, off, none⟩) ns.length cap, .int .i64 ns.length, .slice (some ⟨w.heap.size + 1, 0, none⟩) ns.length ns.length, .pointer (some ⟨w.heap.size, 1, none⟩), .slice (some ⟨b, off, none⟩) ns.length cap, .int .i64 ns.length, .int .i64 k, .bool true, .int .i64 k, .pointer (some ⟨b, off + k * 6, none⟩), .agg #[.int .i64 x.op, .int .i64 x.d, .int .i64 x.a, .int .i64 x.b, .int .i64 x.t, .int .i64 x.e], .agg #[.int .i64 x.op, .int .i64 x.d, .int .i64 x.a, .int .i64 x.b, .int .i64 x.t, .int .i64 x.e], .func (.func 99) #[] #[.pointer (some ⟨wr.heap.size + 1 + 1, 0, none⟩)], .int .i64 (m : Int), u22, .int .i64 (m : Int), u24, u25, u26, u27, u28, u29, u30, u31, u32, undef], defers := [] } ∧ w'' = W.drew) (fun a' w'' h => ?_) ?_
              · obtain ⟨rfl, rfl⟩ := h
                exact ⟨_, _, _, _, _, _, _, _, _, _, hsz', rfl, fun h => e0 (by rwa [keep 0 (by omega)] at h), fun _ => rfl, fun h => e2 (by rwa [keep 2 (by omega)] at h), fun h => e3 (by rwa [keep 3 (by omega)] at h), fun h => e4 (by rwa [keep 4 (by omega)] at h), fun h => e5 (by rwa [keep 5 (by omega)] at h), fun h => e6 (by rwa [keep 6 (by omega)] at h), fun h => e7 (by rwa [keep 7 (by omega)] at h), fun h => e8 (by rwa [keep 8 (by omega)] at h), fun h => e9 (by rwa [keep 9 (by omega)] at h), Or.inl ⟨(keep 7 (by omega)).trans h7, (keep 8 (by omega)).trans h8, (keep 10 (by omega)).trans h10, rfl⟩⟩
              · go_simp
            · refine Oper.wpIn_mono (K := fun a' w'' => a' = { tmps := #[.agg #[.int .i64 r, .slice (some ⟨b, off, none⟩) ns.length cap], .pointer (some ⟨w.heap.size, 0, none⟩), .slice none 0 0, .pointer (some ⟨w.heap.size + 1 + 1, 0, none⟩), .pointer (some ⟨wr.heap.size, 0, none⟩), .pointer (some ⟨wr.heap.size + 1, 0, none⟩), .int .i64 (m : Int), .pointer (some ⟨w.heap.size, 1, none⟩), .slice (some ⟨b, off, none⟩) ns.length cap, .int .i64 ns.length, .slice (some ⟨w.heap.size + 1, 0, none⟩) ns.length ns.length, .pointer (some ⟨w.heap.size, 1, none⟩), .slice (some ⟨b, off, none⟩) ns.length cap, .int .i64 ns.length, .int .i64 k, .bool true, .int .i64 k, .pointer (some ⟨b, off + k * 6, none⟩), .agg #[.int .i64 x.op, .int .i64 x.d, .int .i64 x.a, .int .i64 x.b, .int .i64 x.t, .int .i64 x.e], .agg #[.int .i64 x.op, .int .i64 x.d, .int .i64 x.a, .int .i64 x.b, .int .i64 x.t, .int .i64 x.e], .func (.func 99) #[] #[.pointer (some ⟨wr.heap.size + 1 + 1, 0, none⟩)], .int .i64 (m : Int), u22, .int .i64 (m : Int), u24, u25, u26, u27, u28, u29, u30, u31, u32, undef], defers := [] } ∧ w'' = W.drew.alloc (.cells #[.int .i64 k] 3)) (fun a' w'' h => ?_) ?_
              · obtain ⟨rfl, rfl⟩ := h
                exact ⟨_, _, _, _, _, _, _, _, _, _, hsz', rfl, fun h => e0 (by rwa [keep 0 (by omega)] at h), fun _ => rfl, fun h => e2 (by rwa [keep 2 (by omega)] at h), fun h => e3 (by rwa [keep 3 (by omega)] at h), fun h => e4 (by rwa [keep 4 (by omega)] at h), fun h => e5 (by rwa [keep 5 (by omega)] at h), fun h => e6 (by rwa [keep 6 (by omega)] at h), fun h => e7 (by rwa [keep 7 (by omega)] at h), fun h => e8 (by rwa [keep 8 (by omega)] at h), fun h => e9 (by rwa [keep 9 (by omega)] at h), Or.inr (Or.inl ⟨(keep 6 (by omega)).trans h6, (keep 7 (by omega)).trans h7, (keep 8 (by omega)).trans h8, (keep 10 (by omega)).trans h10, rfl⟩)⟩
              · go_simp
            · obtain rfl := hwe.symm
              refine Oper.wpIn_mono (K := fun a' w'' => a' = { tmps := #[.agg #[.int .i64 r, .slice (some ⟨b, off, none⟩) ns.length cap], .pointer (some ⟨w.heap.size, 0, none⟩), .slice none 0 0, .pointer (some ⟨w.heap.size + 1 + 1, 0, none⟩), .pointer (some ⟨wr.heap.size, 0, none⟩), .pointer (some ⟨wr.heap.size + 1, 0, none⟩), .int .i64 (m : Int), .pointer (some ⟨w.heap.size, 1, none⟩), .slice (some ⟨b, off, none⟩) ns.length cap, .int .i64 ns.length, .slice (some ⟨w.heap.size + 1, 0, none⟩) ns.length ns.length, .pointer (some ⟨w.heap.size, 1, none⟩), .slice (some ⟨b, off, none⟩) ns.length cap, .int .i64 ns.length, .int .i64 k, .bool true, .int .i64 k, .pointer (some ⟨b, off + k * 6, none⟩), .agg #[.int .i64 x.op, .int .i64 x.d, .int .i64 x.a, .int .i64 x.b, .int .i64 x.t, .int .i64 x.e], .agg #[.int .i64 x.op, .int .i64 x.d, .int .i64 x.a, .int .i64 x.b, .int .i64 x.t, .int .i64 x.e], .func (.func 99) #[] #[.pointer (some ⟨wr.heap.size + 1 + 1, 0, none⟩)], .int .i64 (m : Int), u22, .int .i64 (m : Int), u24, u25, u26, u27, u28, u29, u30, u31, u32, undef], defers := [] } ∧ w'' = w1) (fun a' w'' h => ?_) ?_
              · obtain ⟨rfl, rfl⟩ := h
                exact ⟨_, _, _, _, _, _, _, _, _, _, hsz', rfl, fun h => e0 (by rwa [keep 0 (by omega)] at h), fun _ => rfl, fun h => e2 (by rwa [keep 2 (by omega)] at h), fun h => e3 (by rwa [keep 3 (by omega)] at h), fun h => e4 (by rwa [keep 4 (by omega)] at h), fun h => e5 (by rwa [keep 5 (by omega)] at h), fun h => e6 (by rwa [keep 6 (by omega)] at h), fun h => e7 (by rwa [keep 7 (by omega)] at h), fun h => e8 (by rwa [keep 8 (by omega)] at h), fun h => e9 (by rwa [keep 9 (by omega)] at h), Or.inr (Or.inr (Or.inl ⟨(keep 5 (by omega)).trans h5, (keep 6 (by omega)).trans h6, (keep 7 (by omega)).trans h7, (keep 8 (by omega)).trans h8, (keep 10 (by omega)).trans h10, rfl⟩))⟩
              · go_simp
            · rw [hall 1 (by omega)] at hl'; cases hl'
          | 2, _ =>
            simp at ho; subst ho
            clear hd
            rcases hw with ⟨h7, h8, h10, rfl⟩ | ⟨h6, h7, h8, h10, rfl⟩ | ⟨h5, h6, h7, h8, h10, hwe⟩ | ⟨hall, rfl⟩
            · refine Oper.wpIn_mono (K := fun a' w'' => a' = { tmps := #[.agg #[.int .i64 r, .slice (some ⟨b, off, none⟩) ns.length cap], .pointer (some ⟨w.heap.size, 0, none⟩), .slice none 0 0, .pointer (some ⟨w.heap.size + 1 + 1, 0, none⟩), .pointer (some ⟨wr.heap.size, 0, none⟩), .pointer (some ⟨wr.heap.size + 1, 0, none⟩), .int .i64 (m : Int), .pointer (some ⟨w.heap.size, 1, none⟩), .slice (some ⟨b, off, none⟩) ns.length cap, .int .i64 ns.length, .slice (some ⟨w.heap.size + 1, 0, none⟩) ns.length ns.length, .pointer (some ⟨w.heap.size, 1, none⟩), .slice (some ⟨b, off, none⟩) ns.length cap, .int .i64 ns.length, .int .i64 k, .bool true, .int .i64 k, .pointer (some ⟨b, off + k * 6, none⟩), .agg #[.int .i64 x.op, .int .i64 x.d, .int .i64 x.a, .int .i64 x.b, .int .i64 x.t, .int .i64 x.e], .agg #[.int .i64 x.op, .int .i64 x.d, .int .i64 x.a, .int .i64 x.b, .int .i64 x.t, .int .i64 x.e], .func (.func 99) #[] #[.pointer (some ⟨wr.heap.size + 1 + 1, 0, none⟩)], .int .i64 (m : Int), u22, u23, .slice (some ⟨w.heap.size + 1, 0, none⟩) ns.length ns.length, u25, u26, u27, u28, u29, u30, u31, u32, undef], defers := [] } ∧ w'' = W.drew) (fun a' w'' h => ?_) ?_
              · obtain ⟨rfl, rfl⟩ := h
                exact ⟨_, _, _, _, _, _, _, _, _, _, hsz', rfl, fun h => e0 (by rwa [keep 0 (by omega)] at h), fun h => e1 (by rwa [keep 1 (by omega)] at h), fun _ => rfl, fun h => e3 (by rwa [keep 3 (by omega)] at h), fun h => e4 (by rwa [keep 4 (by omega)] at h), fun h => e5 (by rwa [keep 5 (by omega)] at h), fun h => e6 (by rwa [keep 6 (by omega)] at h), fun h => e7 (by rwa [keep 7 (by omega)] at h), fun h => e8 (by rwa [keep 8 (by omega)] at h), fun h => e9 (by rwa [keep 9 (by omega)] at h), Or.inl ⟨(keep 7 (by omega)).trans h7, (keep 8 (by omega)).trans h8, (keep 10 (by omega)).trans h10, rfl⟩⟩
              · go_simp
            · refine Oper.wpIn_mono (K := fun a' w'' => a' = { tmps := #[.agg #[.int .i64 r, .slice (some ⟨b, off, none⟩) ns.length cap], .pointer (some ⟨w.heap.size, 0, none⟩), .slice none 0 0, .pointer (some ⟨w.heap.size + 1 + 1, 0, none⟩), .pointer (some ⟨wr.heap.size, 0, none⟩), .pointer (some ⟨wr.heap.size + 1, 0, none⟩), .int .i64 (m : Int), .pointer (some ⟨w.heap.size, 1, none⟩), .slice (some ⟨b, off, none⟩) ns.length cap, .int .i64 ns.length, .slice (some ⟨w.heap.size + 1, 0, none⟩) ns.length ns.length, .pointer (some ⟨w.heap.size, 1, none⟩), .slice (some ⟨b, off, none⟩) ns.length cap, .int .i64 ns.length, .int .i64 k, .bool true, .int .i64 k, .pointer (some ⟨b, off + k * 6, none⟩), .agg #[.int .i64 x.op, .int .i64 x.d, .int .i64 x.a, .int .i64 x.b, .int .i64 x.t, .int .i64 x.e], .agg #[.int .i64 x.op, .int .i64 x.d, .int .i64 x.a, .int .i64 x.b, .int .i64 x.t, .int .i64 x.e], .func (.func 99) #[] #[.pointer (some ⟨wr.heap.size + 1 + 1, 0, none⟩)], .int .i64 (m : Int), u22, u23, .slice (some ⟨w.heap.size + 1, 0, none⟩) ns.length ns.length, u25, u26, u27, u28, u29, u30, u31, u32, undef], defers := [] } ∧ w'' = W.drew.alloc (.cells #[.int .i64 k] 3)) (fun a' w'' h => ?_) ?_
              · obtain ⟨rfl, rfl⟩ := h
                exact ⟨_, _, _, _, _, _, _, _, _, _, hsz', rfl, fun h => e0 (by rwa [keep 0 (by omega)] at h), fun h => e1 (by rwa [keep 1 (by omega)] at h), fun _ => rfl, fun h => e3 (by rwa [keep 3 (by omega)] at h), fun h => e4 (by rwa [keep 4 (by omega)] at h), fun h => e5 (by rwa [keep 5 (by omega)] at h), fun h => e6 (by rwa [keep 6 (by omega)] at h), fun h => e7 (by rwa [keep 7 (by omega)] at h), fun h => e8 (by rwa [keep 8 (by omega)] at h), fun h => e9 (by rwa [keep 9 (by omega)] at h), Or.inr (Or.inl ⟨(keep 6 (by omega)).trans h6, (keep 7 (by omega)).trans h7, (keep 8 (by omega)).trans h8, (keep 10 (by omega)).trans h10, rfl⟩)⟩
              · go_simp
            · obtain rfl := hwe.symm
              refine Oper.wpIn_mono (K := fun a' w'' => a' = { tmps := #[.agg #[.int .i64 r, .slice (some ⟨b, off, none⟩) ns.length cap], .pointer (some ⟨w.heap.size, 0, none⟩), .slice none 0 0, .pointer (some ⟨w.heap.size + 1 + 1, 0, none⟩), .pointer (some ⟨wr.heap.size, 0, none⟩), .pointer (some ⟨wr.heap.size + 1, 0, none⟩), .int .i64 (m : Int), .pointer (some ⟨w.heap.size, 1, none⟩), .slice (some ⟨b, off, none⟩) ns.length cap, .int .i64 ns.length, .slice (some ⟨w.heap.size + 1, 0, none⟩) ns.length ns.length, .pointer (some ⟨w.heap.size, 1, none⟩), .slice (some ⟨b, off, none⟩) ns.length cap, .int .i64 ns.length, .int .i64 k, .bool true, .int .i64 k, .pointer (some ⟨b, off + k * 6, none⟩), .agg #[.int .i64 x.op, .int .i64 x.d, .int .i64 x.a, .int .i64 x.b, .int .i64 x.t, .int .i64 x.e], .agg #[.int .i64 x.op, .int .i64 x.d, .int .i64 x.a, .int .i64 x.b, .int .i64 x.t, .int .i64 x.e], .func (.func 99) #[] #[.pointer (some ⟨wr.heap.size + 1 + 1, 0, none⟩)], .int .i64 (m : Int), u22, u23, .slice (some ⟨w.heap.size + 1, 0, none⟩) ns.length ns.length, u25, u26, u27, u28, u29, u30, u31, u32, undef], defers := [] } ∧ w'' = w1) (fun a' w'' h => ?_) ?_
              · obtain ⟨rfl, rfl⟩ := h
                exact ⟨_, _, _, _, _, _, _, _, _, _, hsz', rfl, fun h => e0 (by rwa [keep 0 (by omega)] at h), fun h => e1 (by rwa [keep 1 (by omega)] at h), fun _ => rfl, fun h => e3 (by rwa [keep 3 (by omega)] at h), fun h => e4 (by rwa [keep 4 (by omega)] at h), fun h => e5 (by rwa [keep 5 (by omega)] at h), fun h => e6 (by rwa [keep 6 (by omega)] at h), fun h => e7 (by rwa [keep 7 (by omega)] at h), fun h => e8 (by rwa [keep 8 (by omega)] at h), fun h => e9 (by rwa [keep 9 (by omega)] at h), Or.inr (Or.inr (Or.inl ⟨(keep 5 (by omega)).trans h5, (keep 6 (by omega)).trans h6, (keep 7 (by omega)).trans h7, (keep 8 (by omega)).trans h8, (keep 10 (by omega)).trans h10, rfl⟩))⟩
              · go_simp
            · rw [hall 2 (by omega)] at hl'; cases hl'
          | 3, _ =>
            simp at ho; subst ho
            clear hd
            rcases hw with ⟨h7, h8, h10, rfl⟩ | ⟨h6, h7, h8, h10, rfl⟩ | ⟨h5, h6, h7, h8, h10, hwe⟩ | ⟨hall, rfl⟩
            · refine Oper.wpIn_mono (K := fun a' w'' => a' = { tmps := #[.agg #[.int .i64 r, .slice (some ⟨b, off, none⟩) ns.length cap], .pointer (some ⟨w.heap.size, 0, none⟩), .slice none 0 0, .pointer (some ⟨w.heap.size + 1 + 1, 0, none⟩), .pointer (some ⟨wr.heap.size, 0, none⟩), .pointer (some ⟨wr.heap.size + 1, 0, none⟩), .int .i64 (m : Int), .pointer (some ⟨w.heap.size, 1, none⟩), .slice (some ⟨b, off, none⟩) ns.length cap, .int .i64 ns.length, .slice (some ⟨w.heap.size + 1, 0, none⟩) ns.length ns.length, .pointer (some ⟨w.heap.size, 1, none⟩), .slice (some ⟨b, off, none⟩) ns.length cap, .int .i64 ns.length, .int .i64 k, .bool true, .int .i64 k, .pointer (some ⟨b, off + k * 6, none⟩), .agg #[.int .i64 x.op, .int .i64 x.d, .int .i64 x.a, .int .i64 x.b, .int .i64 x.t, .int .i64 x.e], .agg #[.int .i64 x.op, .int .i64 x.d, .int .i64 x.a, .int .i64 x.b, .int .i64 x.t, .int .i64 x.e], .func (.func 99) #[] #[.pointer (some ⟨wr.heap.size + 1 + 1, 0, none⟩)], .int .i64 (m : Int), u22, u23, u24, .int .i64 (m : Int), u26, u27, u28, u29, u30, u31, u32, undef], defers := [] } ∧ w'' = W.drew) (fun a' w'' h => ?_) ?_
              · obtain ⟨rfl, rfl⟩ := h
                exact ⟨_, _, _, _, _, _, _, _, _, _, hsz', rfl, fun h => e0 (by rwa [keep 0 (by omega)] at h), fun h => e1 (by rwa [keep 1 (by omega)] at h), fun h => e2 (by rwa [keep 2 (by omega)] at h), fun _ => rfl, fun h => e4 (by rwa [keep 4 (by omega)] at h), fun h => e5 (by rwa [keep 5 (by omega)] at h), fun h => e6 (by rwa [keep 6 (by omega)] at h), fun h => e7 (by rwa [keep 7 (by omega)] at h), fun h => e8 (by rwa [keep 8 (by omega)] at h), fun h => e9 (by rwa [keep 9 (by omega)] at h), Or.inl ⟨(keep 7 (by omega)).trans h7, (keep 8 (by omega)).trans h8, (keep 10 (by omega)).trans h10, rfl⟩⟩
              · go_simp
            · refine Oper.wpIn_mono (K := fun a' w'' => a' = { tmps := #[.agg #[.int .i64 r, .slice (some ⟨b, off, none⟩) ns.length cap], .pointer (some ⟨w.heap.size, 0, none⟩), .slice none 0 0, .pointer (some ⟨w.heap.size + 1 + 1, 0, none⟩), .pointer (some ⟨wr.heap.size, 0, none⟩), .pointer (some ⟨wr.heap.size + 1, 0, none⟩), .int .i64 (m : Int), .pointer (some ⟨w.heap.size, 1, none⟩), .slice (some ⟨b, off, none⟩) ns.length cap, .int .i64 ns.length, .slice (some ⟨w.heap.size + 1, 0, none⟩) ns.length ns.length, .pointer (some ⟨w.heap.size, 1, none⟩), .slice (some ⟨b, off, none⟩) ns.length cap, .int .i64 ns.length, .int .i64 k, .bool true, .int .i64 k, .pointer (some ⟨b, off + k * 6, none⟩), .agg #[.int .i64 x.op, .int .i64 x.d, .int .i64 x.a, .int .i64 x.b, .int .i64 x.t, .int .i64 x.e], .agg #[.int .i64 x.op, .int .i64 x.d, .int .i64 x.a, .int .i64 x.b, .int .i64 x.t, .int .i64 x.e], .func (.func 99) #[] #[.pointer (some ⟨wr.heap.size + 1 + 1, 0, none⟩)], .int .i64 (m : Int), u22, u23, u24, .int .i64 (m : Int), u26, u27, u28, u29, u30, u31, u32, undef], defers := [] } ∧ w'' = W.drew.alloc (.cells #[.int .i64 k] 3)) (fun a' w'' h => ?_) ?_
              · obtain ⟨rfl, rfl⟩ := h
                exact ⟨_, _, _, _, _, _, _, _, _, _, hsz', rfl, fun h => e0 (by rwa [keep 0 (by omega)] at h), fun h => e1 (by rwa [keep 1 (by omega)] at h), fun h => e2 (by rwa [keep 2 (by omega)] at h), fun _ => rfl, fun h => e4 (by rwa [keep 4 (by omega)] at h), fun h => e5 (by rwa [keep 5 (by omega)] at h), fun h => e6 (by rwa [keep 6 (by omega)] at h), fun h => e7 (by rwa [keep 7 (by omega)] at h), fun h => e8 (by rwa [keep 8 (by omega)] at h), fun h => e9 (by rwa [keep 9 (by omega)] at h), Or.inr (Or.inl ⟨(keep 6 (by omega)).trans h6, (keep 7 (by omega)).trans h7, (keep 8 (by omega)).trans h8, (keep 10 (by omega)).trans h10, rfl⟩)⟩
              · go_simp
            · obtain rfl := hwe.symm
              refine Oper.wpIn_mono (K := fun a' w'' => a' = { tmps := #[.agg #[.int .i64 r, .slice (some ⟨b, off, none⟩) ns.length cap], .pointer (some ⟨w.heap.size, 0, none⟩), .slice none 0 0, .pointer (some ⟨w.heap.size + 1 + 1, 0, none⟩), .pointer (some ⟨wr.heap.size, 0, none⟩), .pointer (some ⟨wr.heap.size + 1, 0, none⟩), .int .i64 (m : Int), .pointer (some ⟨w.heap.size, 1, none⟩), .slice (some ⟨b, off, none⟩) ns.length cap, .int .i64 ns.length, .slice (some ⟨w.heap.size + 1, 0, none⟩) ns.length ns.length, .pointer (some ⟨w.heap.size, 1, none⟩), .slice (some ⟨b, off, none⟩) ns.length cap, .int .i64 ns.length, .int .i64 k, .bool true, .int .i64 k, .pointer (some ⟨b, off + k * 6, none⟩), .agg #[.int .i64 x.op, .int .i64 x.d, .int .i64 x.a, .int .i64 x.b, .int .i64 x.t, .int .i64 x.e], .agg #[.int .i64 x.op, .int .i64 x.d, .int .i64 x.a, .int .i64 x.b, .int .i64 x.t, .int .i64 x.e], .func (.func 99) #[] #[.pointer (some ⟨wr.heap.size + 1 + 1, 0, none⟩)], .int .i64 (m : Int), u22, u23, u24, .int .i64 (m : Int), u26, u27, u28, u29, u30, u31, u32, undef], defers := [] } ∧ w'' = w1) (fun a' w'' h => ?_) ?_
              · obtain ⟨rfl, rfl⟩ := h
                exact ⟨_, _, _, _, _, _, _, _, _, _, hsz', rfl, fun h => e0 (by rwa [keep 0 (by omega)] at h), fun h => e1 (by rwa [keep 1 (by omega)] at h), fun h => e2 (by rwa [keep 2 (by omega)] at h), fun _ => rfl, fun h => e4 (by rwa [keep 4 (by omega)] at h), fun h => e5 (by rwa [keep 5 (by omega)] at h), fun h => e6 (by rwa [keep 6 (by omega)] at h), fun h => e7 (by rwa [keep 7 (by omega)] at h), fun h => e8 (by rwa [keep 8 (by omega)] at h), fun h => e9 (by rwa [keep 9 (by omega)] at h), Or.inr (Or.inr (Or.inl ⟨(keep 5 (by omega)).trans h5, (keep 6 (by omega)).trans h6, (keep 7 (by omega)).trans h7, (keep 8 (by omega)).trans h8, (keep 10 (by omega)).trans h10, rfl⟩))⟩
              · go_simp
            · rw [hall 3 (by omega)] at hl'; cases hl'
          | 4, _ =>
            simp at ho; subst ho
            have d2 : listed.getD 2 false = true := hd ⟨2, .data⟩ (by simp) rfl
            have d3 : listed.getD 3 false = true := hd ⟨3, .data⟩ (by simp) rfl
            obtain rfl := (e2 d2).symm
            obtain rfl := (e3 d3).symm
            clear hd
            rcases hw with ⟨h7, h8, h10, rfl⟩ | ⟨h6, h7, h8, h10, rfl⟩ | ⟨h5, h6, h7, h8, h10, hwe⟩ | ⟨hall, rfl⟩
            · refine Oper.wpIn_mono (K := fun a' w'' => a' = { tmps := #[.agg #[.int .i64 r, .slice (some ⟨b, off, none⟩) ns.length cap], .pointer (some ⟨w.heap.size, 0, none⟩), .slice none 0 0, .pointer (some ⟨w.heap.size + 1 + 1, 0, none⟩), .pointer (some ⟨wr.heap.size, 0, none⟩), .pointer (some ⟨wr.heap.size + 1, 0, none⟩), .int .i64 (m : Int), .pointer (some ⟨w.heap.size, 1, none⟩), .slice (some ⟨b, off, none⟩) ns.length cap, .int .i64 ns.length, .slice (some ⟨w.heap.size + 1, 0, none⟩) ns.length ns.length, .pointer (some ⟨w.heap.size, 1, none⟩), .slice (some ⟨b, off, none⟩) ns.length cap, .int .i64 ns.length, .int .i64 k, .bool true, .int .i64 k, .pointer (some ⟨b, off + k * 6, none⟩), .agg #[.int .i64 x.op, .int .i64 x.d, .int .i64 x.a, .int .i64 x.b, .int .i64 x.t, .int .i64 x.e], .agg #[.int .i64 x.op, .int .i64 x.d, .int .i64 x.a, .int .i64 x.b, .int .i64 x.t, .int .i64 x.e], .func (.func 99) #[] #[.pointer (some ⟨wr.heap.size + 1 + 1, 0, none⟩)], .int .i64 (m : Int), u22, u23, .slice (some ⟨w.heap.size + 1, 0, none⟩) ns.length ns.length, .int .i64 (m : Int), .pointer (some ⟨w.heap.size + 1, m, none⟩), u27, u28, u29, u30, u31, u32, undef], defers := [] } ∧ w'' = W.drew) (fun a' w'' h => ?_) ?_
              · obtain ⟨rfl, rfl⟩ := h
                exact ⟨_, _, _, _, _, _, _, _, _, _, hsz', rfl, fun h => e0 (by rwa [keep 0 (by omega)] at h), fun h => e1 (by rwa [keep 1 (by omega)] at h), fun _ => rfl, fun _ => rfl, fun _ => rfl, fun h => e5 (by rwa [keep 5 (by omega)] at h), fun h => e6 (by rwa [keep 6 (by omega)] at h), fun h => e7 (by rwa [keep 7 (by omega)] at h), fun h => e8 (by rwa [keep 8 (by omega)] at h), fun h => e9 (by rwa [keep 9 (by omega)] at h), Or.inl ⟨(keep 7 (by omega)).trans h7, (keep 8 (by omega)).trans h8, (keep 10 (by omega)).trans h10, rfl⟩⟩
              · go_simp
            · refine Oper.wpIn_mono (K := fun a' w'' => a' = { tmps := #[.agg #[.int .i64 r, .slice (some ⟨b, off, none⟩) ns.length cap], .pointer (some ⟨w.heap.size, 0, none⟩), .slice none 0 0, .pointer (some ⟨w.heap.size + 1 + 1, 0, none⟩), .pointer (some ⟨wr.heap.size, 0, none⟩), .pointer (some ⟨wr.heap.size + 1, 0, none⟩), .int .i64 (m : Int), .pointer (some ⟨w.heap.size, 1, none⟩), .slice (some ⟨b, off, none⟩) ns.length cap, .int .i64 ns.length, .slice (some ⟨w.heap.size + 1, 0, none⟩) ns.length ns.length, .pointer (some ⟨w.heap.size, 1, none⟩), .slice (some ⟨b, off, none⟩) ns.length cap, .int .i64 ns.length, .int .i64 k, .bool true, .int .i64 k, .pointer (some ⟨b, off + k * 6, none⟩), .agg #[.int .i64 x.op, .int .i64 x.d, .int .i64 x.a, .int .i64 x.b, .int .i64 x.t, .int .i64 x.e], .agg #[.int .i64 x.op, .int .i64 x.d, .int .i64 x.a, .int .i64 x.b, .int .i64 x.t, .int .i64 x.e], .func (.func 99) #[] #[.pointer (some ⟨wr.heap.size + 1 + 1, 0, none⟩)], .int .i64 (m : Int), u22, u23, .slice (some ⟨w.heap.size + 1, 0, none⟩) ns.length ns.length, .int .i64 (m : Int), .pointer (some ⟨w.heap.size + 1, m, none⟩), u27, u28, u29, u30, u31, u32, undef], defers := [] } ∧ w'' = W.drew.alloc (.cells #[.int .i64 k] 3)) (fun a' w'' h => ?_) ?_
              · obtain ⟨rfl, rfl⟩ := h
                exact ⟨_, _, _, _, _, _, _, _, _, _, hsz', rfl, fun h => e0 (by rwa [keep 0 (by omega)] at h), fun h => e1 (by rwa [keep 1 (by omega)] at h), fun _ => rfl, fun _ => rfl, fun _ => rfl, fun h => e5 (by rwa [keep 5 (by omega)] at h), fun h => e6 (by rwa [keep 6 (by omega)] at h), fun h => e7 (by rwa [keep 7 (by omega)] at h), fun h => e8 (by rwa [keep 8 (by omega)] at h), fun h => e9 (by rwa [keep 9 (by omega)] at h), Or.inr (Or.inl ⟨(keep 6 (by omega)).trans h6, (keep 7 (by omega)).trans h7, (keep 8 (by omega)).trans h8, (keep 10 (by omega)).trans h10, rfl⟩)⟩
              · go_simp
            · obtain rfl := hwe.symm
              refine Oper.wpIn_mono (K := fun a' w'' => a' = { tmps := #[.agg #[.int .i64 r, .slice (some ⟨b, off, none⟩) ns.length cap], .pointer (some ⟨w.heap.size, 0, none⟩), .slice none 0 0, .pointer (some ⟨w.heap.size + 1 + 1, 0, none⟩), .pointer (some ⟨wr.heap.size, 0, none⟩), .pointer (some ⟨wr.heap.size + 1, 0, none⟩), .int .i64 (m : Int), .pointer (some ⟨w.heap.size, 1, none⟩), .slice (some ⟨b, off, none⟩) ns.length cap, .int .i64 ns.length, .slice (some ⟨w.heap.size + 1, 0, none⟩) ns.length ns.length, .pointer (some ⟨w.heap.size, 1, none⟩), .slice (some ⟨b, off, none⟩) ns.length cap, .int .i64 ns.length, .int .i64 k, .bool true, .int .i64 k, .pointer (some ⟨b, off + k * 6, none⟩), .agg #[.int .i64 x.op, .int .i64 x.d, .int .i64 x.a, .int .i64 x.b, .int .i64 x.t, .int .i64 x.e], .agg #[.int .i64 x.op, .int .i64 x.d, .int .i64 x.a, .int .i64 x.b, .int .i64 x.t, .int .i64 x.e], .func (.func 99) #[] #[.pointer (some ⟨wr.heap.size + 1 + 1, 0, none⟩)], .int .i64 (m : Int), u22, u23, .slice (some ⟨w.heap.size + 1, 0, none⟩) ns.length ns.length, .int .i64 (m : Int), .pointer (some ⟨w.heap.size + 1, m, none⟩), u27, u28, u29, u30, u31, u32, undef], defers := [] } ∧ w'' = w1) (fun a' w'' h => ?_) ?_
              · obtain ⟨rfl, rfl⟩ := h
                exact ⟨_, _, _, _, _, _, _, _, _, _, hsz', rfl, fun h => e0 (by rwa [keep 0 (by omega)] at h), fun h => e1 (by rwa [keep 1 (by omega)] at h), fun _ => rfl, fun _ => rfl, fun _ => rfl, fun h => e5 (by rwa [keep 5 (by omega)] at h), fun h => e6 (by rwa [keep 6 (by omega)] at h), fun h => e7 (by rwa [keep 7 (by omega)] at h), fun h => e8 (by rwa [keep 8 (by omega)] at h), fun h => e9 (by rwa [keep 9 (by omega)] at h), Or.inr (Or.inr (Or.inl ⟨(keep 5 (by omega)).trans h5, (keep 6 (by omega)).trans h6, (keep 7 (by omega)).trans h7, (keep 8 (by omega)).trans h8, (keep 10 (by omega)).trans h10, rfl⟩))⟩
              · go_simp
            · rw [hall 4 (by omega)] at hl'; cases hl'
          | 5, _ =>
            simp at ho; subst ho
            have d4 : listed.getD 4 false = true := hd ⟨4, .data⟩ (by simp) rfl
            obtain rfl := (e4 d4).symm
            clear hd
            rcases hw with ⟨h7, h8, h10, rfl⟩ | ⟨h6, h7, h8, h10, rfl⟩ | ⟨h5, h6, h7, h8, h10, hwe⟩ | ⟨hall, rfl⟩
            · refine Oper.wpIn_mono (K := fun a' w'' => a' = { tmps := #[.agg #[.int .i64 r, .slice (some ⟨b, off, none⟩) ns.length cap], .pointer (some ⟨w.heap.size, 0, none⟩), .slice none 0 0, .pointer (some ⟨w.heap.size + 1 + 1, 0, none⟩), .pointer (some ⟨wr.heap.size, 0, none⟩), .pointer (some ⟨wr.heap.size + 1, 0, none⟩), .int .i64 (m : Int), .pointer (some ⟨w.heap.size, 1, none⟩), .slice (some ⟨b, off, none⟩) ns.length cap, .int .i64 ns.length, .slice (some ⟨w.heap.size + 1, 0, none⟩) ns.length ns.length, .pointer (some ⟨w.heap.size, 1, none⟩), .slice (some ⟨b, off, none⟩) ns.length cap, .int .i64 ns.length, .int .i64 k, .bool true, .int .i64 k, .pointer (some ⟨b, off + k * 6, none⟩), .agg #[.int .i64 x.op, .int .i64 x.d, .int .i64 x.a, .int .i64 x.b, .int .i64 x.t, .int .i64 x.e], .agg #[.int .i64 x.op, .int .i64 x.d, .int .i64 x.a, .int .i64 x.b, .int .i64 x.t, .int .i64 x.e], .func (.func 99) #[] #[.pointer (some ⟨wr.heap.size + 1 + 1, 0, none⟩)], .int .i64 (m : Int), u22, u23, u24, u25, .pointer (some ⟨w.heap.size + 1, m, none⟩), v, u28, u29, u30, u31, u32, undef], defers := [] } ∧ w'' = W.drew) (fun a' w'' h => ?_) ?_
              · obtain ⟨rfl, rfl⟩ := h
                exact ⟨_, _, _, _, _, _, _, _, _, _, hsz', rfl, fun h => e0 (by rwa [keep 0 (by omega)] at h), fun h => e1 (by rwa [keep 1 (by omega)] at h), fun h => e2 (by rwa [keep 2 (by omega)] at h), fun h => e3 (by rwa [keep 3 (by omega)] at h), fun _ => rfl, fun _ => rfl, fun h => e6 (by rwa [keep 6 (by omega)] at h), fun h => e7 (by rwa [keep 7 (by omega)] at h), fun h => e8 (by rwa [keep 8 (by omega)] at h), fun h => e9 (by rwa [keep 9 (by omega)] at h), Or.inl ⟨(keep 7 (by omega)).trans h7, (keep 8 (by omega)).trans h8, (keep 10 (by omega)).trans h10, rfl⟩⟩
              · go_simp
            · refine Oper.wpIn_mono (K := fun a' w'' => a' = { tmps := #[.agg #[.int .i64 r, .slice (some ⟨b, off, none⟩) ns.length cap], .pointer (some ⟨w.heap.size, 0, none⟩), .slice none 0 0, .pointer (some ⟨w.heap.size + 1 + 1, 0, none⟩), .pointer (some ⟨wr.heap.size, 0, none⟩), .pointer (some ⟨wr.heap.size + 1, 0, none⟩), .int .i64 (m : Int), .pointer (some ⟨w.heap.size, 1, none⟩), .slice (some ⟨b, off, none⟩) ns.length cap, .int .i64 ns.length, .slice (some ⟨w.heap.size + 1, 0, none⟩) ns.length ns.length, .pointer (some ⟨w.heap.size, 1, none⟩), .slice (some ⟨b, off, none⟩) ns.length cap, .int .i64 ns.length, .int .i64 k, .bool true, .int .i64 k, .pointer (some ⟨b, off + k * 6, none⟩), .agg #[.int .i64 x.op, .int .i64 x.d, .int .i64 x.a, .int .i64 x.b, .int .i64 x.t, .int .i64 x.e], .agg #[.int .i64 x.op, .int .i64 x.d, .int .i64 x.a, .int .i64 x.b, .int .i64 x.t, .int .i64 x.e], .func (.func 99) #[] #[.pointer (some ⟨wr.heap.size + 1 + 1, 0, none⟩)], .int .i64 (m : Int), u22, u23, u24, u25, .pointer (some ⟨w.heap.size + 1, m, none⟩), v, u28, u29, u30, u31, u32, undef], defers := [] } ∧ w'' = W.drew.alloc (.cells #[.int .i64 k] 3)) (fun a' w'' h => ?_) ?_
              · obtain ⟨rfl, rfl⟩ := h
                exact ⟨_, _, _, _, _, _, _, _, _, _, hsz', rfl, fun h => e0 (by rwa [keep 0 (by omega)] at h), fun h => e1 (by rwa [keep 1 (by omega)] at h), fun h => e2 (by rwa [keep 2 (by omega)] at h), fun h => e3 (by rwa [keep 3 (by omega)] at h), fun _ => rfl, fun _ => rfl, fun h => e6 (by rwa [keep 6 (by omega)] at h), fun h => e7 (by rwa [keep 7 (by omega)] at h), fun h => e8 (by rwa [keep 8 (by omega)] at h), fun h => e9 (by rwa [keep 9 (by omega)] at h), Or.inr (Or.inl ⟨(keep 6 (by omega)).trans h6, (keep 7 (by omega)).trans h7, (keep 8 (by omega)).trans h8, (keep 10 (by omega)).trans h10, rfl⟩)⟩
              · go_simp
            · rw [h5] at hl'; cases hl'
            · rw [hall 5 (by omega)] at hl'; cases hl'
          | 6, _ =>
            simp at ho; subst ho
            clear hd
            rcases hw with ⟨h7, h8, h10, rfl⟩ | ⟨h6, h7, h8, h10, rfl⟩ | ⟨h5, h6, h7, h8, h10, hwe⟩ | ⟨hall, rfl⟩
            · refine Oper.wpIn_mono (K := fun a' w'' => a' = { tmps := #[.agg #[.int .i64 r, .slice (some ⟨b, off, none⟩) ns.length cap], .pointer (some ⟨w.heap.size, 0, none⟩), .slice none 0 0, .pointer (some ⟨w.heap.size + 1 + 1, 0, none⟩), .pointer (some ⟨wr.heap.size, 0, none⟩), .pointer (some ⟨wr.heap.size + 1, 0, none⟩), .int .i64 (m : Int), .pointer (some ⟨w.heap.size, 1, none⟩), .slice (some ⟨b, off, none⟩) ns.length cap, .int .i64 ns.length, .slice (some ⟨w.heap.size + 1, 0, none⟩) ns.length ns.length, .pointer (some ⟨w.heap.size, 1, none⟩), .slice (some ⟨b, off, none⟩) ns.length cap, .int .i64 ns.length, .int .i64 k, .bool true, .int .i64 k, .pointer (some ⟨b, off + k * 6, none⟩), .agg #[.int .i64 x.op, .int .i64 x.d, .int .i64 x.a, .int .i64 x.b, .int .i64 x.t, .int .i64 x.e], .agg #[.int .i64 x.op, .int .i64 x.d, .int .i64 x.a, .int .i64 x.b, .int .i64 x.t, .int .i64 x.e], .func (.func 99) #[] #[.pointer (some ⟨wr.heap.size + 1 + 1, 0, none⟩)], .int .i64 (m : Int), u22, u23, u24, u25, u26, u27, .int .i64 (k : Int), u29, u30, u31, u32, undef], defers := [] } ∧ w'' = W.drew) (fun a' w'' h => ?_) ?_
              · obtain ⟨rfl, rfl⟩ := h
                exact ⟨_, _, _, _, _, _, _, _, _, _, hsz', rfl, fun h => e0 (by rwa [keep 0 (by omega)] at h), fun h => e1 (by rwa [keep 1 (by omega)] at h), fun h => e2 (by rwa [keep 2 (by omega)] at h), fun h => e3 (by rwa [keep 3 (by omega)] at h), fun h => e4 (by rwa [keep 4 (by omega)] at h), fun h => e5 (by rwa [keep 5 (by omega)] at h), fun _ => rfl, fun h => e7 (by rwa [keep 7 (by omega)] at h), fun h => e8 (by rwa [keep 8 (by omega)] at h), fun h => e9 (by rwa [keep 9 (by omega)] at h), Or.inl ⟨(keep 7 (by omega)).trans h7, (keep 8 (by omega)).trans h8, (keep 10 (by omega)).trans h10, rfl⟩⟩
              · go_simp
            · rw [h6] at hl'; cases hl'
            · rw [h6] at hl'; cases hl'
            · rw [hall 6 (by omega)] at hl'; cases hl'
          | 7, _ =>
            simp at ho; subst ho
            have d6 : listed.getD 6 false = true := hd ⟨6, .data⟩ (by simp) rfl
            obtain rfl := (e6 d6).symm
            clear hd
            rcases hw with ⟨h7, h8, h10, rfl⟩ | ⟨h6, h7, h8, h10, rfl⟩ | ⟨h5, h6, h7, h8, h10, hwe⟩ | ⟨hall, rfl⟩
            · refine Oper.wpIn_mono (K := fun a' w'' => a' = { tmps := #[.agg #[.int .i64 r, .slice (some ⟨b, off, none⟩) ns.length cap], .pointer (some ⟨w.heap.size, 0, none⟩), .slice none 0 0, .pointer (some ⟨w.heap.size + 1 + 1, 0, none⟩), .pointer (some ⟨wr.heap.size, 0, none⟩), .pointer (some ⟨wr.heap.size + 1, 0, none⟩), .int .i64 (m : Int), .pointer (some ⟨w.heap.size, 1, none⟩), .slice (some ⟨b, off, none⟩) ns.length cap, .int .i64 ns.length, .slice (some ⟨w.heap.size + 1, 0, none⟩) ns.length ns.length, .pointer (some ⟨w.heap.size, 1, none⟩), .slice (some ⟨b, off, none⟩) ns.length cap, .int .i64 ns.length, .int .i64 k, .bool true, .int .i64 k, .pointer (some ⟨b, off + k * 6, none⟩), .agg #[.int .i64 x.op, .int .i64 x.d, .int .i64 x.a, .int .i64 x.b, .int .i64 x.t, .int .i64 x.e], .agg #[.int .i64 x.op, .int .i64 x.d, .int .i64 x.a, .int .i64 x.b, .int .i64 x.t, .int .i64 x.e], .func (.func 99) #[] #[.pointer (some ⟨wr.heap.size + 1 + 1, 0, none⟩)], .int .i64 (m : Int), u22, u23, u24, u25, u26, u27, .int .i64 (k : Int), .slice (some ⟨W.heap.size, 0, none⟩) 1 1, u30, u31, u32, undef], defers := [] } ∧ w'' = W.drew.alloc (.cells #[.int .i64 k] 3)) (fun a' w'' h => ?_) ?_
              · obtain ⟨rfl, rfl⟩ := h
                exact ⟨_, _, _, _, _, _, _, _, _, _, hsz', rfl, fun h => e0 (by rwa [keep 0 (by omega)] at h), fun h => e1 (by rwa [keep 1 (by omega)] at h), fun h => e2 (by rwa [keep 2 (by omega)] at h), fun h => e3 (by rwa [keep 3 (by omega)] at h), fun h => e4 (by rwa [keep 4 (by omega)] at h), fun h => e5 (by rwa [keep 5 (by omega)] at h), fun _ => rfl, fun _ => rfl, fun h => e8 (by rwa [keep 8 (by omega)] at h), fun h => e9 (by rwa [keep 9 (by omega)] at h), Or.inr (Or.inl ⟨(keep 6 (by omega)).trans d6, sett, (keep 8 (by omega)).trans h8, (keep 10 (by omega)).trans h10, rfl⟩)⟩
              · go_simp
            · rw [h7] at hl'; cases hl'
            · rw [h7] at hl'; cases hl'
            · rw [hall 7 (by omega)] at hl'; cases hl'
          | 8, _ =>
            simp at ho; subst ho
            have d5 : listed.getD 5 false = true := hd ⟨5, .data⟩ (by simp) rfl
            have d7 : listed.getD 7 false = true := hd ⟨7, .data⟩ (by simp) rfl
            obtain rfl := (e5 d5).symm
            obtain rfl := (e7 d7).symm
            clear hd
            rcases hw with ⟨h7, h8, h10, rfl⟩ | ⟨h6, h7, h8, h10, rfl⟩ | ⟨h5, h6, h7, h8, h10, hwe⟩ | ⟨hall, rfl⟩
            · rw [d7] at h7; cases h7
            · refine Oper.wpIn_mono (K := fun a' w'' => a' = { tmps := #[.agg #[.int .i64 r, .slice (some ⟨b, off, none⟩) ns.length cap], .pointer (some ⟨w.heap.size, 0, none⟩), .slice none 0 0, .pointer (some ⟨w.heap.size + 1 + 1, 0, none⟩), .pointer (some ⟨wr.heap.size, 0, none⟩), .pointer (some ⟨wr.heap.size + 1, 0, none⟩), .int .i64 (m : Int), .pointer (some ⟨w.heap.size, 1, none⟩), .slice (some ⟨b, off, none⟩) ns.length cap, .int .i64 ns.length, .slice (some ⟨w.heap.size + 1, 0, none⟩) ns.length ns.length, .pointer (some ⟨w.heap.size, 1, none⟩), .slice (some ⟨b, off, none⟩) ns.length cap, .int .i64 ns.length, .int .i64 k, .bool true, .int .i64 k, .pointer (some ⟨b, off + k * 6, none⟩), .agg #[.int .i64 x.op, .int .i64 x.d, .int .i64 x.a, .int .i64 x.b, .int .i64 x.t, .int .i64 x.e], .agg #[.int .i64 x.op, .int .i64 x.d, .int .i64 x.a, .int .i64 x.b, .int .i64 x.t, .int .i64 x.e], .func (.func 99) #[] #[.pointer (some ⟨wr.heap.size + 1 + 1, 0, none⟩)], .int .i64 (m : Int), u22, u23, u24, u25, u26, v, u28, .slice (some ⟨W.heap.size, 0, none⟩) 1 1, .slice (some ⟨g, 0, none⟩) (N0 + 1) cap1, u31, u32, undef], defers := [] } ∧ w'' = w1) (fun a' w'' h => ?_) ?_
              · obtain ⟨rfl, rfl⟩ := h
                exact ⟨_, _, _, _, _, _, _, _, _, _, hsz', rfl, fun h => e0 (by rwa [keep 0 (by omega)] at h), fun h => e1 (by rwa [keep 1 (by omega)] at h), fun h => e2 (by rwa [keep 2 (by omega)] at h), fun h => e3 (by rwa [keep 3 (by omega)] at h), fun h => e4 (by rwa [keep 4 (by omega)] at h), fun _ => rfl, fun h => e6 (by rwa [keep 6 (by omega)] at h), fun _ => rfl, fun _ => rfl, fun h => e9 (by rwa [keep 9 (by omega)] at h), Or.inr (Or.inr (Or.inl ⟨(keep 5 (by omega)).trans d5, (keep 6 (by omega)).trans h6, (keep 7 (by omega)).trans h7, sett, (keep 10 (by omega)).trans h10, rfl⟩))⟩
              · go_simp
            · rw [h8] at hl'; cases hl'
            · rw [hall 8 (by omega)] at hl'; cases hl'
          | 9, _ =>
            simp at ho; subst ho
            have d0 : listed.getD 0 false = true := hd ⟨0, .phase⟩ (by simp) rfl
            have d1 : listed.getD 1 false = true := hd ⟨1, .phase⟩ (by simp) rfl
            have d2 : listed.getD 2 false = true := hd ⟨2, .phase⟩ (by simp) rfl
            have d3 : listed.getD 3 false = true := hd ⟨3, .phase⟩ (by simp) rfl
            have d4 : listed.getD 4 false = true := hd ⟨4, .phase⟩ (by simp) rfl
            have d5 : listed.getD 5 false = true := hd ⟨5, .phase⟩ (by simp) rfl
            have d6 : listed.getD 6 false = true := hd ⟨6, .phase⟩ (by simp) rfl
            have d7 : listed.getD 7 false = true := hd ⟨7, .phase⟩ (by simp) rfl
            have d8 : listed.getD 8 false = true := hd ⟨8, .phase⟩ (by simp) rfl
            obtain rfl := (e0 d0).symm
            obtain rfl := (e1 d1).symm
            obtain rfl := (e2 d2).symm
            obtain rfl := (e3 d3).symm
            obtain rfl := (e4 d4).symm
            obtain rfl := (e5 d5).symm
            obtain rfl := (e6 d6).symm
            obtain rfl := (e7 d7).symm
            obtain rfl := (e8 d8).symm
            clear hd
            rcases hw with ⟨h7, h8, h10, rfl⟩ | ⟨h6, h7, h8, h10, rfl⟩ | ⟨h5, h6, h7, h8, h10, hwe⟩ | ⟨hall, rfl⟩
            · rw [d8] at h8; cases h8
            · rw [d8] at h8; cases h8
            · obtain rfl := hwe.symm
              refine Oper.wpIn_mono (K := fun a' w'' => a' = { tmps := #[.agg #[.int .i64 r, .slice (some ⟨b, off, none⟩) ns.length cap], .pointer (some ⟨w.heap.size, 0, none⟩), .slice none 0 0, .pointer (some ⟨w.heap.size + 1 + 1, 0, none⟩), .pointer (some ⟨wr.heap.size, 0, none⟩), .pointer (some ⟨wr.heap.size + 1, 0, none⟩), .int .i64 (m : Int), .pointer (some ⟨w.heap.size, 1, none⟩), .slice (some ⟨b, off, none⟩) ns.length cap, .int .i64 ns.length, .slice (some ⟨w.heap.size + 1, 0, none⟩) ns.length ns.length, .pointer (some ⟨w.heap.size, 1, none⟩), .slice (some ⟨b, off, none⟩) ns.length cap, .int .i64 ns.length, .int .i64 k, .bool true, .int .i64 k, .pointer (some ⟨b, off + k * 6, none⟩), .agg #[.int .i64 x.op, .int .i64 x.d, .int .i64 x.a, .int .i64 x.b, .int .i64 x.t, .int .i64 x.e], .agg #[.int .i64 x.op, .int .i64 x.d, .int .i64 x.a, .int .i64 x.b, .int .i64 x.t, .int .i64 x.e], .func (.func 99) #[] #[.pointer (some ⟨wr.heap.size + 1 + 1, 0, none⟩)], .int .i64 (m : Int), .slice (some ⟨w.heap.size + 1, 0, none⟩) ns.length ns.length, .int .i64 (m : Int), .slice (some ⟨w.heap.size + 1, 0, none⟩) ns.length ns.length, .int .i64 (m : Int), .pointer (some ⟨w.heap.size + 1, m, none⟩), v, .int .i64 (k : Int), .slice (some ⟨W.heap.size, 0, none⟩) 1 1, .slice (some ⟨g, 0, none⟩) (N0 + 1) cap1, .pointer (some ⟨w.heap.size + 1, m, none⟩), u32, undef], defers := [] } ∧ w'' = w1) (fun a' w'' h => ?_) ?_
              · obtain ⟨rfl, rfl⟩ := h
                exact ⟨_, _, _, _, _, _, _, _, _, _, hsz', rfl, fun _ => rfl, fun _ => rfl, fun _ => rfl, fun _ => rfl, fun _ => rfl, fun _ => rfl, fun _ => rfl, fun _ => rfl, fun _ => rfl, fun _ => rfl, Or.inr (Or.inr (Or.inl ⟨(keep 5 (by omega)).trans h5, (keep 6 (by omega)).trans h6, (keep 7 (by omega)).trans h7, (keep 8 (by omega)).trans h8, (keep 10 (by omega)).trans h10, rfl⟩))⟩
              · go_simp
            · rw [hall 9 (by omega)] at hl'; cases hl'
          | 10, _ =>
            simp at ho; subst ho
            have d0 : listed.getD 0 false = true := hd ⟨0, .phase⟩ (by simp) rfl
            have d1 : listed.getD 1 false = true := hd ⟨1, .phase⟩ (by simp) rfl
            have d2 : listed.getD 2 false = true := hd ⟨2, .phase⟩ (by simp) rfl
            have d3 : listed.getD 3 false = true := hd ⟨3, .phase⟩ (by simp) rfl
            have d4 : listed.getD 4 false = true := hd ⟨4, .phase⟩ (by simp) rfl
            have d5 : listed.getD 5 false = true := hd ⟨5, .phase⟩ (by simp) rfl
            have d6 : listed.getD 6 false = true := hd ⟨6, .phase⟩ (by simp) rfl
            have d7 : listed.getD 7 false = true := hd ⟨7, .phase⟩ (by simp) rfl
            have d8 : listed.getD 8 false = true := hd ⟨8, .phase⟩ (by simp) rfl
            have d9 : listed.getD 9 false = true := hd ⟨9, .data⟩ (by simp) rfl
            obtain rfl := (e0 d0).symm
            obtain rfl := (e1 d1).symm
            obtain rfl := (e2 d2).symm
            obtain rfl := (e3 d3).symm
            obtain rfl := (e4 d4).symm
            obtain rfl := (e5 d5).symm
            obtain rfl := (e6 d6).symm
            obtain rfl := (e7 d7).symm
            obtain rfl := (e8 d8).symm
            obtain rfl := (e9 d9).symm
            clear hd
            rcases hw with ⟨h7, h8, h10, rfl⟩ | ⟨h6, h7, h8, h10, rfl⟩ | ⟨h5, h6, h7, h8, h10, hwe⟩ | ⟨hall, rfl⟩
            · rw [d8] at h8; cases h8
            · rw [d8] at h8; cases h8
            · obtain rfl := hwe.symm
              refine Oper.wpIn_mono (K := fun a' w'' => a' = { tmps := #[.agg #[.int .i64 r, .slice (some ⟨b, off, none⟩) ns.length cap], .pointer (some ⟨w.heap.size, 0, none⟩), .slice none 0 0, .pointer (some ⟨w.heap.size + 1 + 1, 0, none⟩), .pointer (some ⟨wr.heap.size, 0, none⟩), .pointer (some ⟨wr.heap.size + 1, 0, none⟩), .int .i64 (m : Int), .pointer (some ⟨w.heap.size, 1, none⟩), .slice (some ⟨b, off, none⟩) ns.length cap, .int .i64 ns.length, .slice (some ⟨w.heap.size + 1, 0, none⟩) ns.length ns.length, .pointer (some ⟨w.heap.size, 1, none⟩), .slice (some ⟨b, off, none⟩) ns.length cap, .int .i64 ns.length, .int .i64 k, .bool true, .int .i64 k, .pointer (some ⟨b, off + k * 6, none⟩), .agg #[.int .i64 x.op, .int .i64 x.d, .int .i64 x.a, .int .i64 x.b, .int .i64 x.t, .int .i64 x.e], .agg #[.int .i64 x.op, .int .i64 x.d, .int .i64 x.a, .int .i64 x.b, .int .i64 x.t, .int .i64 x.e], .func (.func 99) #[] #[.pointer (some ⟨wr.heap.size + 1 + 1, 0, none⟩)], .int .i64 (m : Int), .slice (some ⟨w.heap.size + 1, 0, none⟩) ns.length ns.length, .int .i64 (m : Int), .slice (some ⟨w.heap.size + 1, 0, none⟩) ns.length ns.length, .int .i64 (m : Int), .pointer (some ⟨w.heap.size + 1, m, none⟩), v, .int .i64 (k : Int), .slice (some ⟨W.heap.size, 0, none⟩) 1 1, .slice (some ⟨g, 0, none⟩) (N0 + 1) cap1, .pointer (some ⟨w.heap.size + 1, m, none⟩), u32, undef], defers := [] } ∧ w'' = w1.setCell ⟨w.heap.size + 1, m, none⟩ (.slice (some ⟨g, 0, none⟩) (N0 + 1) cap1)) (fun a' w'' h => ?_) ?_
              · obtain ⟨rfl, rfl⟩ := h
                refine ⟨_, _, _, _, _, _, _, _, _, _, hsz', rfl, fun _ => rfl, fun _ => rfl, fun _ => rfl, fun _ => rfl, fun _ => rfl, fun _ => rfl, fun _ => rfl, fun _ => rfl, fun _ => rfl, fun _ => rfl, Or.inr (Or.inr (Or.inr ⟨fun j hj => ?_, rfl⟩))⟩
                match j, hj with
                | 0, _ => exact (keep 0 (by omega)).trans d0
                | 1, _ => exact (keep 1 (by omega)).trans d1
                | 2, _ => exact (keep 2 (by omega)).trans d2
                | 3, _ => exact (keep 3 (by omega)).trans d3
                | 4, _ => exact (keep 4 (by omega)).trans d4
                | 5, _ => exact (keep 5 (by omega)).trans d5
                | 6, _ => exact (keep 6 (by omega)).trans d6
                | 7, _ => exact (keep 7 (by omega)).trans d7
                | 8, _ => exact (keep 8 (by omega)).trans d8
                | 9, _ => exact (keep 9 (by omega)).trans d9
                | 10, _ => exact sett
              · go_simp
            · rw [hall 10 (by omega)] at hl'; cases hl'
        case h1 =>
          rintro listed a w' ⟨_, _, _, _, _, _, _, _, _, _, hsz, rfl, _, _, _, _, _, _, _, _, _, _, hw⟩ hall
          rcases hw with ⟨h7, _⟩ | ⟨_, _, h8, _⟩ | ⟨_, _, _, _, h10, _⟩ | ⟨_, rfl⟩
          · rw [hall 7 (by decide)] at h7; cases h7
          · rw [hall 8 (by decide)] at h8; cases h8
          · rw [hall 10 (by decide)] at h10; cases h10
          have hown := HW.out
          have hgrow := HG.out
          have hvs := HV.out
          have hv := HH.out
          have hrowc : ∀ (j : Nat) (o : Obj), v.ownBlock = some j → (W.drew.alloc (.cells #[.int .i64 k] 3)).heap[j]? = some o → w.heap.size ≤ j ∧ ∃ cur, o = .cells cur 3 (0, 0) := by
            intro j o ej hj
            rcases hown.2 with ⟨rfl, _⟩ | ⟨g', cap', cur', rfl, hb', hgb, _⟩
            · simp [Value.ownBlock] at ej
            · obtain rfl : g' = j := by simpa [Value.ownBlock] using ej
              rw [Below.heap_alloc W.drew _ _ (Array.getElem?_eq_some_iff.1 hgb).1] at hj
              rw [show W.drew.heap[g']? = W.heap[g']? from rfl, hgb] at hj
              cases hj
              exact ⟨hb', _, rfl⟩
          have hbA : Below W.heap.size W (W.drew.alloc (.cells #[.int .i64 k] 3)) := (Below.refl _ W).drew.alloc (Nat.le_refl _) _
          have hsA : W.heap.size ≤ (W.drew.alloc (.cells #[.int .i64 k] 3)).heap.size := hbA.size
          have hlive : ∀ j, v.ownBlock = some j → ∃ o, (W.drew.alloc (.cells #[.int .i64 k] 3)).heap[j]? = some o := fun j ej => by
            have := (hown.lt j ej).2
            exact ⟨_, Array.getElem?_eq_getElem (by omega)⟩
          have hKO : KeepsOthers W (w1.setCell ⟨w.heap.size + 1, m, none⟩ (.slice (some ⟨g, 0, none⟩) (N0 + 1) cap1)) := by
            refine ((KeepsOthers.drew W).trans (KeepsOthers.alloc W.drew _)).trans ((KeepsOthers.of_grownBy hgrow fun j o ej hj => ?_).trans (KeepsOthers.setCell _ _ _))
            obtain ⟨_, cur, rfl⟩ := hrowc j o ej hj
            rfl
          have hgB : ∀ j, v.ownBlock = some j → w.heap.size ≤ j := fun j ej => by
            obtain ⟨o, ho⟩ := hlive j ej
            exact (hrowc j o ej ho).1
          have hBf : Below w.heap.size W (w1.setCell ⟨w.heap.size + 1, m, none⟩ (.slice (some ⟨g, 0, none⟩) (N0 + 1) cap1)) :=
            ((hbA.mono (by omega)).grown hgrow (by omega) hgB).setCell (p := ⟨w.heap.size + 1, m, none⟩) (by simp) _
          have hKT : KT (wr.heap.size + 1 + 1) W (w1.setCell ⟨w.heap.size + 1, m, none⟩ (.slice (some ⟨g, 0, none⟩) (N0 + 1) cap1)) := by
            refine ((KT.of_below hbA HB3.out.lt).trans (KT.grown hgrow (by have := HB3.out.lt; omega) fun j ej => ?_)).trans (KT.setCell HR1.out (by decide) (by omega) _)
            obtain ⟨o, ho⟩ := hlive j ej
            obtain ⟨_, cur, rfl⟩ := hrowc j o ej ho
            exact ⟨fun e => owns_ne_ty hown HB3.out (by decide) (by rw [ej, e]), _, _, _, ho, by decide⟩
          have hrw : RowsAt (w1.setCell ⟨w.heap.size + 1, m, none⟩ (.slice (some ⟨g, 0, none⟩) (N0 + 1) cap1)) w.heap.size (w.heap.size + 1) ns.length (vs.set m (.slice (some ⟨g, 0, none⟩) (N0 + 1) cap1)) (rowsAt ns k ((pre ++ [y]).map (·.1))) := by
            have e1 : rowsAt ns k ((pre ++ [y]).map (·.1)) = rowsAt ns k (pre.map (·.1) ++ [(m : Int)]) := by rw [List.map_append]; simp [hmy]
            have e2 : (rowsAt ns k (pre.map (·.1) ++ [(m : Int)]) m).length = N0 + 1 := by rw [rowsAt_more, List.length_append, HN0.out]; rfl
            rw [e1, ← e2]
            refine RowsAt.grow (hvs.below hbA) hv hgrow ?_ ?_ fun j hj => rowsAt_else ns k _ hj
            · rcases HA.out with h | h
              · exact Or.inl h
              · right; rw [h]; exact Nat.le_refl _
            · have := HO.out
              rw [e2]
              rw [rowsAt_more, List.map_append]
              exact this
          refine ⟨hKO.from _, hKT, ⟨⟨_, hrw, fun j u hj e => ?_⟩, ?_, ?_, hKT.node HB3.out, HM.out.others hKO⟩, hB1.trans hBf⟩
          · rw [List.getElem?_set] at hj
            split at hj
            · cases hj
              simp only [Value.ownBlock, Option.some.injEq] at e
              rcases HA.out with h | h
              · exact HNO.out m v hv (by rw [h, e])
              · have := hb2.lt; omega
            · exact HNO.out j u hj e
          · exact (Below.heap_setCell _ _ _ _ (by simp)).trans HB1.out
          · refine (Below.heap_setCell _ _ _ _ (by simp; omega)).trans ?_
            exact Boxed.kept (Boxed.alloc (show Boxed W.drew _ _ _ from hb2) _) hgrow (fun e => HNO.out m v hv e.symm)
      case done =>
        rintro D ys W hD rfl ⟨⟨⟨vs, hvs, hno⟩, hb1, hb2, hb3, hm1⟩, hB1⟩ hK
        have hrow := hvs
        rw [exoA_map, rowsAt_done ns k HX.out hkx] at hrow
        have HRR := hide' hrow
        have HM1 := hide' (hm1.cons hK fun E hE => by have := hM.lt hE; omega)
        clear hvs hrow hm1
        gi_wp2
        refine ⟨⟨k + 1, _, _, _, _, _, _, _, _, _, D :: ds, by omega, ⟨vs, HRR.out⟩, hb1, hB1, HM1.out, fun E hE => ?_, rfl⟩, ?_⟩
        · rcases List.mem_cons.1 hE with rfl | hE
          · omega
          · exact hD' E hE
        · simp [intOf]; omega
      case stop =>
        rintro D c pre W _ _ h _
        exact h.elim
    · have ek : k = ns.length := by omega
      have HK := hide' ek
      clear ek
      gi_wp2
      refine leaves_marks ds _ hM hD' fun W' hS => ?_
      refine ⟨_, results_tmp rfl _ _ _, w.heap.size + 1, vs, rfl, ?_, hB.trans hS.below⟩
      have := hS.rows hR
      rw [HK.out] at this
      exact this
end Go.Proofs.YtoikglgnmjjpcabGreat
