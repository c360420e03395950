/-
  slices.SortFunc at counts: they come sorted.
-/
import Derived.Test.YtoikglgnmjjpcaaRN
import Derived.Test.YtoikglgnmjjpcaaSf
namespace Go.Proofs.Ytoikglgnmjjpcaa
open Go.RowKit Go.Maps Go.ChangeMaps
set_option linter.unusedVariables false

theorem flat4 : ∀ (L : List Ct) (j i : Nat) (c : Ct), L[j]? = some c → i < 4 → (L.flatMap encCt)[j * 4 + i]? = (encCt c)[i]?
  | [], j, i, c, h, _ => by simp at h
  | d :: L, 0, i, c, h, hi => by
    simp at h; subst h
    rw [List.flatMap_cons, List.getElem?_append_left (by simp [encCt]; omega)]; simp
  | d :: L, j + 1, i, c, h, hi => by
    simp at h
    rw [List.flatMap_cons, List.getElem?_append_right (by simp [encCt]; omega), show (j + 1) * 4 + i - (encCt d).length = j * 4 + i by simp [encCt]; omega]
    exact flat4 L j i c h hi

theorem flatCt_len (L : List Ct) : (L.flatMap encCt).length = L.length * 4 := by
  induction L with
  | nil => rfl
  | cons c L ih => rw [List.flatMap_cons, List.length_append, ih]; simp [encCt]; omega

open Go.Sort in
theorem flatCt (L : List Ct) : (flatK encCt 4 L.toArray).toList = L.flatMap encCt := by
  apply List.ext_getElem?
  intro t
  by_cases h : t < L.length * 4
  · have hi : t / 4 < L.length := by omega
    have h1 := flat4 L (t / 4) (t % 4) L[t / 4] (List.getElem?_eq_getElem hi) (by omega)
    rw [show t / 4 * 4 + t % 4 = t by omega] at h1
    rw [h1]
    have hz : t % 4 < (encCt L[t / 4]).length := by simp [encCt]; omega
    rw [List.getElem?_eq_getElem hz]
    simp [flatK, h, hi]
    rw [List.getElem?_eq_getElem hz]; rfl
  · rw [List.getElem?_eq_none (by simp; omega), List.getElem?_eq_none (by rw [flatCt_len]; omega)]

open Go.Sort Go.Lib in
theorem swoC : SWO (ltOf cpC) where
  irrefl x := by show decide (cpC x x < 0) = false; rw [cpC_lt, abv_irrefl]
  trans x y z h1 h2 := by
    have h1' : decide (cpC x y < 0) = true := h1
    have h2' : decide (cpC y z < 0) = true := h2
    show decide (cpC x z < 0) = true
    rw [cpC_lt] at *
    exact abv_trans h2' h1'
  ntrans x y z h1 h2 := by
    have h1' : decide (cpC x y < 0) = false := h1
    have h2' : decide (cpC y z < 0) = false := h2
    show decide (cpC x z < 0) = false
    rw [cpC_lt] at *
    cases q : abv z.t x.t
    · rfl
    · exfalso
      by_cases e : y.t = x.t
      · rw [e] at h2'; rw [q] at h2'; cases h2'
      · have := abv_total h1' e
        rw [abv_trans q this] at h2'; cases h2'

open Go.Sort Go.Lib in
theorem heap_sortedV {w : World} {g n : Nat} {os : Array Obj} {cur : Array Value} {e : TypeId} {fr : Nat × Nat} (d : Array Value) (hb : w.heap[g]? = some (.cells cur e fr)) :
    (grow (putRow id (Sort.ahead w n) g 0 d) os).heap[g]? = some (.cells (putCells id 0 d cur) e fr) := by
  have hg : g < w.heap.size := (Array.getElem?_eq_some_iff.1 hb).1
  rw [heap_grow_old _ _ (by simpa using hg)]
  simp [putRow, mapBlock, Sort.ahead, Array.getElem?_modify, hb, onCells]

open Go.Sort Go.Lib in
theorem below_sortedV {w : World} {g n base : Nat} {os : Array Obj} (d : Array Value) (hg : base ≤ g) (hs : base ≤ w.heap.size) : Below base w (grow (putRow id (Sort.ahead w n) g 0 d) os) := by
  refine ⟨rfl, rfl, rfl, by simp, fun k hk => ?_⟩
  rw [heap_grow_old _ _ (by simp; omega)]
  have : g ≠ k := by omega
  simp [putRow, mapBlock, Sort.ahead, Array.getElem?_modify, this]

open Go.Sort Go.Lib in
theorem take_putCellsV (cur : Array Value) (d : Array Value) (h : d.size ≤ cur.size) : (putCells id 0 d cur).toList.take d.size = d.toList := by
  apply List.ext_getElem?
  intro j
  by_cases hj : j < d.size
  · rw [List.getElem?_take_of_lt hj, Array.getElem?_toList]
    simp [putCells, hj, show j < cur.size by omega]
  · rw [List.getElem?_take_eq_none (by omega), List.getElem?_eq_none (by simp; omega)]

open Go.Sort Go.Lib in
set_option maxHeartbeats 1000000 in
theorem sorts_ct : SortsCt := by
  intro v L W base hb ho hnd hlen
  obtain ⟨hxl, ho⟩ := ho
  rcases ho with ⟨rfl, h0⟩ | ⟨g, cap, cur, rfl, hg, hblk, h1, h2, h3, h4⟩
  · have : L = [] := List.length_eq_zero_iff.1 h0
    subst this
    refine (AnyF.slices_SortFunc_none Try.sortCt none 0 _ W).mono ?_
    rintro e w' ⟨rfl, rfl⟩
    exact ⟨rfl, [], .refl _, List.Pairwise.nil, World.ownsRow_nil _ _ _ _, Below.refl _ _⟩
  · have eg : ∀ args w, (callFunc 104 args).run Try.prog w = .ok (.enter 104 args) w := enters_of Try.func104 (by kernel_rfl) rfl
    have hH : HoldsK encCt 4 W g 0 L.toArray := by
      intro j hj
      refine ⟨?_, by rw [Nat.zero_add]; exact blk_frozen hblk j⟩
      rw [Nat.zero_add, blk_cell hblk]
      have hj' : j < L.length * 4 := by simpa using hj
      have q : (cur.toList.take (L.length * 4))[j]? = (flatK encCt 4 L.toArray).toList[j]? := by rw [h4, flatCt]
      rw [List.getElem?_take_of_lt hj', Array.getElem?_toList, Array.getElem?_toList, Array.getElem?_eq_getElem hj] at q
      rw [q, getElem!_pos (flatK encCt 4 L.toArray) j hj]; rfl
    refine (AnyQ.slices_SortFunc Try.sortCt 4 Try.isAgg111 Try.sizeOf111 encCt (fun _ => rfl) (fun x u hu => by simp [encCt] at hu; rcases hu with rfl | rfl | rfl | rfl <;> rfl) cpC swoC 104 #[] g 0 cap L.toArray W eg (fun _ _ _ _ x y => closure_any x y _) hH (blk_lt hblk) (by simp; omega)).mono ?_
    rintro e w' ⟨rfl, d', n, os, hp, hs, rfl⟩
    obtain ⟨hp1, hp2, hp3⟩ := hp
    have hsz : d'.size = L.length := by simpa using hp1
    have hperm : d'.toList.Perm L := by
      have : (L.toArray.extract 0 L.toArray.size).toList = L := by simp
      rw [this] at hp3
      have q : (d'.extract 0 L.toArray.size) = d' := by rw [← hp1]; simp
      rw [q] at hp3
      exact hp3
    have hd : d' = d'.toList.toArray := by simp
    refine ⟨rfl, d'.toList, hperm, ?_, ⟨by rw [flatCt_len], Or.inr ⟨g, cap, putCells id 0 (flatK encCt 4 d') cur, ?_, hg, heap_sortedV _ hblk, ?_, h2, ?_, ?_⟩⟩, below_sortedV _ hg hb⟩
    · have hnd' : (d'.toList.map (·.t)).Nodup := (hperm.map _).nodup_iff.2 hnd
      unfold Srt
      rw [List.pairwise_iff_getElem]
      intro i j hi hj hij
      have q := hs i j (by omega) hij (by simp at hj; omega)
      simp at hi hj
      rw [getElem!_pos d' j hj, getElem!_pos d' i hi] at q
      have q' : decide (cpC d'[j] d'[i] < 0) = false := q
      rw [cpC_lt] at q'
      refine abv_total q' fun e => ?_
      have := (List.pairwise_iff_getElem.1 hnd') i j (by simpa using hi) (by simpa using hj) hij
      simp at this
      exact this e
    · simp [hsz]
    · simp [hsz, h1]
    · simp [putCells, h3]
    · have q := take_putCellsV cur (flatK encCt 4 d') (by simp [h3, hsz]; omega)
      rw [size_flatK] at q
      have q2 := flatCt d'.toList
      rw [← hd] at q2
      rw [← q2, ← q]
      simp
end Go.Proofs.Ytoikglgnmjjpcaa
