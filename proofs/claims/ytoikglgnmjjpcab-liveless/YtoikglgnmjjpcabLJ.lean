/-
  hoistwayref.OwnProg, walked: a program of its own.
-/
import Derived.Test.YtoikglgnmjjpcabLI
import Derived.Sort.CutIn
namespace Go.Proofs.Ytoikglgnmjjpcab
open Go.RowKit Go.Shelf
set_option linter.unusedVariables false

set_option maxRecDepth 100000 in
set_option maxHeartbeats 2000000 in
theorem ownProg_in (r : Int) (b off cap : Nat) (ns : List Nd) (w : World) (hN : NodesAt w b off ns) (hl : 1 ≤ ns.length ∧ ns.length ≤ 512) :
    CallsIn Fence.wide 1 Try.prog 18 #[.agg #[.int .i64 r, .slice (some ⟨b, off, none⟩) ns.length cap]] w fun e w' => ∃ v, e = .returned (.agg #[.int .i64 r, v]) ∧ w'.ownsRow w.heap.size 53 6 v ns.length (ns.flatMap encNd) ∧ Below w.heap.size w w' := by
  obtain ⟨i0, hi0, hz0, hz1, hz2⟩ := info_parts info_node
  refine callsIn_of_wp Try.func18 rfl trivial ?_ rfl
  simp only [Try.ntmps18, List.size_toArray, List.length_cons, List.length_nil, Nat.reduceAdd, Nat.reduceSub, Array.replicate_succ, Array.replicate_zero, List.push_toArray, List.append_toArray, List.nil_append, List.cons_append]
  gi_upto_region 1 with fail
  have hB0 : Below w.heap.size w ((w.alloc (.cells #[.int .i64 r, .slice (some ⟨b, off, none⟩) ns.length cap] 24)).alloc (.cells #[.int .i64 0, .slice none 0 0] 24)) := ((Below.refl _ w).alloc (Nat.le_refl _) _).alloc (by simp) _
  have p0 : ((w.alloc (.cells #[.int .i64 r, .slice (some ⟨b, off, none⟩) ns.length cap] 24)).alloc (.cells #[.int .i64 0, .slice none 0 0] 24)).heap[w.heap.size]? = some (.cells #[.int .i64 r, .slice (some ⟨b, off, none⟩) ns.length cap] 24 (0, 0)) := (Below.heap_alloc _ _ _ (by simp)).trans (World.alloc_heap_new w _)
  have p1 : ((w.alloc (.cells #[.int .i64 r, .slice (some ⟨b, off, none⟩) ns.length cap] 24)).alloc (.cells #[.int .i64 0, .slice none 0 0] 24)).heap[w.heap.size + 1]? = some (.cells #[.int .i64 0, .slice none 0 0] 24 (0, 0)) := by
    have := World.alloc_heap_new (w.alloc (.cells #[.int .i64 r, .slice (some ⟨b, off, none⟩) ns.length cap] 24)) (.cells #[.int .i64 0, .slice none 0 0] 24)
    rwa [World.size_alloc] at this
  generalize ((w.alloc (.cells #[.int .i64 r, .slice (some ⟨b, off, none⟩) ns.length cap] 24)).alloc (.cells #[.int .i64 0, .slice none 0 0] 24)) = W at hB0 p0 p1 ⊢
  have hNW := hN.below hB0 hN.lt
  have hsW := hB0.size
  have hsW1 := blk_lt p1
  have hbT : Below W.heap.size W (W.drew.alloc (.cells #[] 53)) := (Below.refl _ W).drew.alloc (Nat.le_refl _) _
  have hlt0 : w.heap.size < W.heap.size := by omega
  obtain ⟨g, cap1, w1, hrun, hown1, hgrow, hat, hgl⟩ := run_append_lies (P := Try.prog) (W.drew.alloc (.cells #[] 53)) 22 22 w.heap.size 53 i0 _ 6 48 Try.underlying22 hi0 hz0 hz1 hz2 rfl (by decide) (.slice (some ⟨W.heap.size, 0, none⟩) 0 0) 0 [] ⟨rfl, Or.inr ⟨W.heap.size, 0, #[], rfl, by omega, World.alloc_heap_new W.drew _, Nat.le_refl _, by decide, rfl, rfl⟩⟩ ⟨b, off, none⟩ ns.length cap (ns.flatMap encNd) (flat_len 6 encNd encNd_len ns) (nodes_flat (hNW.below hbT hNW.lt)) (encNd_one ns) (by omega) (by unfold maxLen; omega) (by omega) (by have := hbT.size; omega) _ rfl
  rw [Nat.zero_add] at hrun hown1
  rw [List.nil_append] at hown1
  have hgB : Below W.heap.size W w1 := hbT.grown hgrow hbT.size (fun k e => by simp [Value.ownBlock] at e; omega)
  have q0 := blk_cell p0 0
  have q1 := blk_cell p0 1
  have r1 := (hgB.block _ hsW1).trans p1
  have rc0 := blk_cell r1 0
  have rc1 := blk_cell r1 1
  have rf0 := blk_frozen r1 0
  have rf1 := blk_frozen r1 1
  have qw0 := (hgB.cell (p := ⟨w.heap.size, 0, none⟩) hlt0).trans q0
  have qw1 := (hgB.cell (p := ⟨w.heap.size, 1, none⟩) hlt0).trans q1
  simp at q0 q1 rc0 rc1 qw0 qw1
  have HO := hide' hown1
  have HG := hide' hgB
  have HR := hide' r1
  have HB := hide' hB0
  clear hown1 hgrow hat hgB r1 p0 p1 hNW hbT hB0
  simp [go_sem] at hrun
  refine region_inv (by kernel_rfl) (fun listed a w' => ∃ u3 u4 u5 u6 u7 u8 u9 : Value, listed.size = 8 ∧ a = { tmps := #[.agg #[.int .i64 r, .slice (some ⟨b, off, none⟩) ns.length cap], .pointer (some ⟨w.heap.size, 0, none⟩), .pointer (some ⟨w.heap.size + 1, 0, none⟩), u3, u4, u5, u6, u7, u8, u9], defers := [] } ∧ (listed.getD 0 false = true → u3 = .pointer (some ⟨w.heap.size, 0, none⟩)) ∧ (listed.getD 1 false = true → u4 = .int .i64 r) ∧ (listed.getD 2 false = true → u5 = .slice (some ⟨W.heap.size, 0, none⟩) 0 0) ∧ (listed.getD 3 false = true → u6 = .pointer (some ⟨w.heap.size, 1, none⟩)) ∧ (listed.getD 4 false = true → u7 = .slice (some ⟨b, off, none⟩) ns.length cap) ∧ (listed.getD 5 false = true → u8 = .slice (some ⟨g, 0, none⟩) ns.length cap1) ∧ (listed.getD 6 false = true → u9 = .agg #[.int .i64 r, .slice (some ⟨g, 0, none⟩) ns.length cap1]) ∧ ((listed.getD 2 false = false ∧ listed.getD 5 false = false ∧ listed.getD 7 false = false ∧ w' = W.drew) ∨ (listed.getD 2 false = true ∧ listed.getD 5 false = false ∧ listed.getD 7 false = false ∧ w' = W.drew.alloc (.cells #[] 53)) ∨ (listed.getD 2 false = true ∧ listed.getD 5 false = true ∧ listed.getD 7 false = false ∧ w' = w1) ∨ ((∀ j, j < 8 → listed.getD j false = true) ∧ w' = (w1.setCell ⟨w.heap.size + 1, 0, none⟩ (.int .i64 r)).setCell ⟨w.heap.size + 1, 1, none⟩ (.slice (some ⟨g, 0, none⟩) ns.length cap1)))) ?hg ?hsz ?h0 ?hs ?h1
  case hg =>
    intro ix o ho
    match ix, ho with
    | 0, ho | 1, ho | 2, ho | 3, ho | 4, ho | 5, ho | 6, ho | 7, ho => simp at ho; subst ho; simp [Region.binds]
    | ix + 8, ho => simp at ho
  case hsz => rintro listed a w' ⟨_, _, _, _, _, _, _, h, _⟩; simpa using h
  case h0 =>
    refine ⟨_, _, _, _, _, _, _, by simp, rfl, by simp, by simp, by simp, by simp, by simp, by simp, by simp, Or.inl ⟨by simp, by simp, by simp, rfl⟩⟩
  case hs =>
    rintro listed a w' ix o ⟨u3, u4, u5, u6, u7, u8, u9, hsz, rfl, e0, e1, e2, e3, e4, e5, e6, hw⟩ hC ho hl hd
    have hltn : ix < 8 := (Array.getElem?_eq_some_iff.1 ho).1
    have hl' : listed.getD ix false = false := by
      simp only [Array.getD] at hl ⊢
      rw [dif_pos (by omega)] at hl ⊢; exact hl
    have keep : ∀ j, j ≠ ix → (listed.setIfInBounds ix true).getD j false = listed.getD j false := fun j hj => getD_set_ne false (fun e => hj e.symm)
    have sett : (listed.setIfInBounds ix true).getD ix false = true := by simp [hsz, hltn]
    have hsz' : (listed.setIfInBounds ix true).size = 8 := by simp [hsz]
    clear hl
    match ix, hltn with
    | 0, _ =>
      simp at ho; subst ho
      clear hd
      rcases hw with ⟨g2, g5, g7, hwe⟩ | ⟨g2, g5, g7, hwe⟩ | ⟨g2, g5, g7, hwe⟩ | ⟨hall, hwe⟩
      · obtain rfl := hwe.symm
        refine Oper.wpIn_mono (K := fun a' w'' => a' = { tmps := #[.agg #[.int .i64 r, .slice (some ⟨b, off, none⟩) ns.length cap], .pointer (some ⟨w.heap.size, 0, none⟩), .pointer (some ⟨w.heap.size + 1, 0, none⟩), .pointer (some ⟨w.heap.size, 0, none⟩), u4, u5, u6, u7, u8, u9], defers := [] } ∧ w'' = W.drew) (fun a' w'' h => ?_) ?_
        · obtain ⟨rfl, rfl⟩ := h
          exact ⟨_, _, _, _, _, _, _, hsz', rfl, fun _ => rfl, fun h => e1 (by rwa [keep 1 (by omega)] at h), fun h => e2 (by rwa [keep 2 (by omega)] at h), fun h => e3 (by rwa [keep 3 (by omega)] at h), fun h => e4 (by rwa [keep 4 (by omega)] at h), fun h => e5 (by rwa [keep 5 (by omega)] at h), fun h => e6 (by rwa [keep 6 (by omega)] at h), Or.inl ⟨(keep 2 (by omega)).trans g2, (keep 5 (by omega)).trans g5, (keep 7 (by omega)).trans g7, rfl⟩⟩
        · go_simp
      · obtain rfl := hwe.symm
        refine Oper.wpIn_mono (K := fun a' w'' => a' = { tmps := #[.agg #[.int .i64 r, .slice (some ⟨b, off, none⟩) ns.length cap], .pointer (some ⟨w.heap.size, 0, none⟩), .pointer (some ⟨w.heap.size + 1, 0, none⟩), .pointer (some ⟨w.heap.size, 0, none⟩), u4, u5, u6, u7, u8, u9], defers := [] } ∧ w'' = W.drew.alloc (.cells #[] 53)) (fun a' w'' h => ?_) ?_
        · obtain ⟨rfl, rfl⟩ := h
          exact ⟨_, _, _, _, _, _, _, hsz', rfl, fun _ => rfl, fun h => e1 (by rwa [keep 1 (by omega)] at h), fun h => e2 (by rwa [keep 2 (by omega)] at h), fun h => e3 (by rwa [keep 3 (by omega)] at h), fun h => e4 (by rwa [keep 4 (by omega)] at h), fun h => e5 (by rwa [keep 5 (by omega)] at h), fun h => e6 (by rwa [keep 6 (by omega)] at h), Or.inr (Or.inl ⟨(keep 2 (by omega)).trans g2, (keep 5 (by omega)).trans g5, (keep 7 (by omega)).trans g7, rfl⟩)⟩
        · go_simp
      · obtain rfl := hwe.symm
        refine Oper.wpIn_mono (K := fun a' w'' => a' = { tmps := #[.agg #[.int .i64 r, .slice (some ⟨b, off, none⟩) ns.length cap], .pointer (some ⟨w.heap.size, 0, none⟩), .pointer (some ⟨w.heap.size + 1, 0, none⟩), .pointer (some ⟨w.heap.size, 0, none⟩), u4, u5, u6, u7, u8, u9], defers := [] } ∧ w'' = w1) (fun a' w'' h => ?_) ?_
        · obtain ⟨rfl, rfl⟩ := h
          exact ⟨_, _, _, _, _, _, _, hsz', rfl, fun _ => rfl, fun h => e1 (by rwa [keep 1 (by omega)] at h), fun h => e2 (by rwa [keep 2 (by omega)] at h), fun h => e3 (by rwa [keep 3 (by omega)] at h), fun h => e4 (by rwa [keep 4 (by omega)] at h), fun h => e5 (by rwa [keep 5 (by omega)] at h), fun h => e6 (by rwa [keep 6 (by omega)] at h), Or.inr (Or.inr (Or.inl ⟨(keep 2 (by omega)).trans g2, (keep 5 (by omega)).trans g5, (keep 7 (by omega)).trans g7, rfl⟩))⟩
        · go_simp
      · rw [hall 0 (by omega)] at hl'; cases hl'
    | 1, _ =>
      simp at ho; subst ho
      have d0 : listed.getD 0 false = true := hd ⟨0, .data⟩ (by simp) rfl
      obtain rfl := (e0 d0).symm
      clear hd
      rcases hw with ⟨g2, g5, g7, hwe⟩ | ⟨g2, g5, g7, hwe⟩ | ⟨g2, g5, g7, hwe⟩ | ⟨hall, hwe⟩
      · obtain rfl := hwe.symm
        refine Oper.wpIn_mono (K := fun a' w'' => a' = { tmps := #[.agg #[.int .i64 r, .slice (some ⟨b, off, none⟩) ns.length cap], .pointer (some ⟨w.heap.size, 0, none⟩), .pointer (some ⟨w.heap.size + 1, 0, none⟩), .pointer (some ⟨w.heap.size, 0, none⟩), .int .i64 r, u5, u6, u7, u8, u9], defers := [] } ∧ w'' = W.drew) (fun a' w'' h => ?_) ?_
        · obtain ⟨rfl, rfl⟩ := h
          exact ⟨_, _, _, _, _, _, _, hsz', rfl, fun _ => rfl, fun _ => rfl, fun h => e2 (by rwa [keep 2 (by omega)] at h), fun h => e3 (by rwa [keep 3 (by omega)] at h), fun h => e4 (by rwa [keep 4 (by omega)] at h), fun h => e5 (by rwa [keep 5 (by omega)] at h), fun h => e6 (by rwa [keep 6 (by omega)] at h), Or.inl ⟨(keep 2 (by omega)).trans g2, (keep 5 (by omega)).trans g5, (keep 7 (by omega)).trans g7, rfl⟩⟩
        · go_simp
      · obtain rfl := hwe.symm
        refine Oper.wpIn_mono (K := fun a' w'' => a' = { tmps := #[.agg #[.int .i64 r, .slice (some ⟨b, off, none⟩) ns.length cap], .pointer (some ⟨w.heap.size, 0, none⟩), .pointer (some ⟨w.heap.size + 1, 0, none⟩), .pointer (some ⟨w.heap.size, 0, none⟩), .int .i64 r, u5, u6, u7, u8, u9], defers := [] } ∧ w'' = W.drew.alloc (.cells #[] 53)) (fun a' w'' h => ?_) ?_
        · obtain ⟨rfl, rfl⟩ := h
          exact ⟨_, _, _, _, _, _, _, hsz', rfl, fun _ => rfl, fun _ => rfl, fun h => e2 (by rwa [keep 2 (by omega)] at h), fun h => e3 (by rwa [keep 3 (by omega)] at h), fun h => e4 (by rwa [keep 4 (by omega)] at h), fun h => e5 (by rwa [keep 5 (by omega)] at h), fun h => e6 (by rwa [keep 6 (by omega)] at h), Or.inr (Or.inl ⟨(keep 2 (by omega)).trans g2, (keep 5 (by omega)).trans g5, (keep 7 (by omega)).trans g7, rfl⟩)⟩
        · go_simp
      · obtain rfl := hwe.symm
        refine Oper.wpIn_mono (K := fun a' w'' => a' = { tmps := #[.agg #[.int .i64 r, .slice (some ⟨b, off, none⟩) ns.length cap], .pointer (some ⟨w.heap.size, 0, none⟩), .pointer (some ⟨w.heap.size + 1, 0, none⟩), .pointer (some ⟨w.heap.size, 0, none⟩), .int .i64 r, u5, u6, u7, u8, u9], defers := [] } ∧ w'' = w1) (fun a' w'' h => ?_) ?_
        · obtain ⟨rfl, rfl⟩ := h
          exact ⟨_, _, _, _, _, _, _, hsz', rfl, fun _ => rfl, fun _ => rfl, fun h => e2 (by rwa [keep 2 (by omega)] at h), fun h => e3 (by rwa [keep 3 (by omega)] at h), fun h => e4 (by rwa [keep 4 (by omega)] at h), fun h => e5 (by rwa [keep 5 (by omega)] at h), fun h => e6 (by rwa [keep 6 (by omega)] at h), Or.inr (Or.inr (Or.inl ⟨(keep 2 (by omega)).trans g2, (keep 5 (by omega)).trans g5, (keep 7 (by omega)).trans g7, rfl⟩))⟩
        · go_simp
      · rw [hall 1 (by omega)] at hl'; cases hl'
    | 2, _ =>
      simp at ho; subst ho
      clear hd
      rcases hw with ⟨g2, g5, g7, hwe⟩ | ⟨g2, g5, g7, hwe⟩ | ⟨g2, g5, g7, hwe⟩ | ⟨hall, hwe⟩
      · obtain rfl := hwe.symm
        refine Oper.wpIn_mono (K := fun a' w'' => a' = { tmps := #[.agg #[.int .i64 r, .slice (some ⟨b, off, none⟩) ns.length cap], .pointer (some ⟨w.heap.size, 0, none⟩), .pointer (some ⟨w.heap.size + 1, 0, none⟩), u3, u4, .slice (some ⟨W.heap.size, 0, none⟩) 0 0, u6, u7, u8, u9], defers := [] } ∧ w'' = W.drew.alloc (.cells #[] 53)) (fun a' w'' h => ?_) ?_
        · obtain ⟨rfl, rfl⟩ := h
          exact ⟨_, _, _, _, _, _, _, hsz', rfl, fun h => e0 (by rwa [keep 0 (by omega)] at h), fun h => e1 (by rwa [keep 1 (by omega)] at h), fun _ => rfl, fun h => e3 (by rwa [keep 3 (by omega)] at h), fun h => e4 (by rwa [keep 4 (by omega)] at h), fun h => e5 (by rwa [keep 5 (by omega)] at h), fun h => e6 (by rwa [keep 6 (by omega)] at h), Or.inr (Or.inl ⟨sett, (keep 5 (by omega)).trans g5, (keep 7 (by omega)).trans g7, rfl⟩)⟩
        · go_simp
      · rw [g2] at hl'; cases hl'
      · rw [g2] at hl'; cases hl'
      · rw [hall 2 (by omega)] at hl'; cases hl'
    | 3, _ =>
      simp at ho; subst ho
      clear hd
      rcases hw with ⟨g2, g5, g7, hwe⟩ | ⟨g2, g5, g7, hwe⟩ | ⟨g2, g5, g7, hwe⟩ | ⟨hall, hwe⟩
      · obtain rfl := hwe.symm
        refine Oper.wpIn_mono (K := fun a' w'' => a' = { tmps := #[.agg #[.int .i64 r, .slice (some ⟨b, off, none⟩) ns.length cap], .pointer (some ⟨w.heap.size, 0, none⟩), .pointer (some ⟨w.heap.size + 1, 0, none⟩), u3, u4, u5, .pointer (some ⟨w.heap.size, 1, none⟩), u7, u8, u9], defers := [] } ∧ w'' = W.drew) (fun a' w'' h => ?_) ?_
        · obtain ⟨rfl, rfl⟩ := h
          exact ⟨_, _, _, _, _, _, _, hsz', rfl, fun h => e0 (by rwa [keep 0 (by omega)] at h), fun h => e1 (by rwa [keep 1 (by omega)] at h), fun h => e2 (by rwa [keep 2 (by omega)] at h), fun _ => rfl, fun h => e4 (by rwa [keep 4 (by omega)] at h), fun h => e5 (by rwa [keep 5 (by omega)] at h), fun h => e6 (by rwa [keep 6 (by omega)] at h), Or.inl ⟨(keep 2 (by omega)).trans g2, (keep 5 (by omega)).trans g5, (keep 7 (by omega)).trans g7, rfl⟩⟩
        · go_simp
      · obtain rfl := hwe.symm
        refine Oper.wpIn_mono (K := fun a' w'' => a' = { tmps := #[.agg #[.int .i64 r, .slice (some ⟨b, off, none⟩) ns.length cap], .pointer (some ⟨w.heap.size, 0, none⟩), .pointer (some ⟨w.heap.size + 1, 0, none⟩), u3, u4, u5, .pointer (some ⟨w.heap.size, 1, none⟩), u7, u8, u9], defers := [] } ∧ w'' = W.drew.alloc (.cells #[] 53)) (fun a' w'' h => ?_) ?_
        · obtain ⟨rfl, rfl⟩ := h
          exact ⟨_, _, _, _, _, _, _, hsz', rfl, fun h => e0 (by rwa [keep 0 (by omega)] at h), fun h => e1 (by rwa [keep 1 (by omega)] at h), fun h => e2 (by rwa [keep 2 (by omega)] at h), fun _ => rfl, fun h => e4 (by rwa [keep 4 (by omega)] at h), fun h => e5 (by rwa [keep 5 (by omega)] at h), fun h => e6 (by rwa [keep 6 (by omega)] at h), Or.inr (Or.inl ⟨(keep 2 (by omega)).trans g2, (keep 5 (by omega)).trans g5, (keep 7 (by omega)).trans g7, rfl⟩)⟩
        · go_simp
      · rw [(hC 4 _ rfl (hC 5 _ rfl g5 ⟨4, .data⟩ (by simp) rfl) ⟨3, .data⟩ (by simp) rfl)] at hl'; cases hl'
      · rw [hall 3 (by omega)] at hl'; cases hl'
    | 4, _ =>
      simp at ho; subst ho
      have d3 : listed.getD 3 false = true := hd ⟨3, .data⟩ (by simp) rfl
      obtain rfl := (e3 d3).symm
      clear hd
      rcases hw with ⟨g2, g5, g7, hwe⟩ | ⟨g2, g5, g7, hwe⟩ | ⟨g2, g5, g7, hwe⟩ | ⟨hall, hwe⟩
      · obtain rfl := hwe.symm
        refine Oper.wpIn_mono (K := fun a' w'' => a' = { tmps := #[.agg #[.int .i64 r, .slice (some ⟨b, off, none⟩) ns.length cap], .pointer (some ⟨w.heap.size, 0, none⟩), .pointer (some ⟨w.heap.size + 1, 0, none⟩), u3, u4, u5, .pointer (some ⟨w.heap.size, 1, none⟩), .slice (some ⟨b, off, none⟩) ns.length cap, u8, u9], defers := [] } ∧ w'' = W.drew) (fun a' w'' h => ?_) ?_
        · obtain ⟨rfl, rfl⟩ := h
          exact ⟨_, _, _, _, _, _, _, hsz', rfl, fun h => e0 (by rwa [keep 0 (by omega)] at h), fun h => e1 (by rwa [keep 1 (by omega)] at h), fun h => e2 (by rwa [keep 2 (by omega)] at h), fun _ => rfl, fun _ => rfl, fun h => e5 (by rwa [keep 5 (by omega)] at h), fun h => e6 (by rwa [keep 6 (by omega)] at h), Or.inl ⟨(keep 2 (by omega)).trans g2, (keep 5 (by omega)).trans g5, (keep 7 (by omega)).trans g7, rfl⟩⟩
        · go_simp
      · obtain rfl := hwe.symm
        refine Oper.wpIn_mono (K := fun a' w'' => a' = { tmps := #[.agg #[.int .i64 r, .slice (some ⟨b, off, none⟩) ns.length cap], .pointer (some ⟨w.heap.size, 0, none⟩), .pointer (some ⟨w.heap.size + 1, 0, none⟩), u3, u4, u5, .pointer (some ⟨w.heap.size, 1, none⟩), .slice (some ⟨b, off, none⟩) ns.length cap, u8, u9], defers := [] } ∧ w'' = W.drew.alloc (.cells #[] 53)) (fun a' w'' h => ?_) ?_
        · obtain ⟨rfl, rfl⟩ := h
          exact ⟨_, _, _, _, _, _, _, hsz', rfl, fun h => e0 (by rwa [keep 0 (by omega)] at h), fun h => e1 (by rwa [keep 1 (by omega)] at h), fun h => e2 (by rwa [keep 2 (by omega)] at h), fun _ => rfl, fun _ => rfl, fun h => e5 (by rwa [keep 5 (by omega)] at h), fun h => e6 (by rwa [keep 6 (by omega)] at h), Or.inr (Or.inl ⟨(keep 2 (by omega)).trans g2, (keep 5 (by omega)).trans g5, (keep 7 (by omega)).trans g7, rfl⟩)⟩
        · go_simp
      · rw [(hC 5 _ rfl g5 ⟨4, .data⟩ (by simp) rfl)] at hl'; cases hl'
      · rw [hall 4 (by omega)] at hl'; cases hl'
    | 5, _ =>
      simp at ho; subst ho
      have d2 : listed.getD 2 false = true := hd ⟨2, .data⟩ (by simp) rfl
      have d4 : listed.getD 4 false = true := hd ⟨4, .data⟩ (by simp) rfl
      have d3 : listed.getD 3 false = true := hC 4 _ rfl d4 ⟨3, .data⟩ (by simp) rfl
      obtain rfl := (e2 d2).symm
      obtain rfl := (e4 d4).symm
      obtain rfl := (e3 d3).symm
      clear hd
      rcases hw with ⟨g2, g5, g7, hwe⟩ | ⟨g2, g5, g7, hwe⟩ | ⟨g2, g5, g7, hwe⟩ | ⟨hall, hwe⟩
      · rw [d2] at g2; cases g2
      · obtain rfl := hwe.symm
        refine Oper.wpIn_mono (K := fun a' w'' => a' = { tmps := #[.agg #[.int .i64 r, .slice (some ⟨b, off, none⟩) ns.length cap], .pointer (some ⟨w.heap.size, 0, none⟩), .pointer (some ⟨w.heap.size + 1, 0, none⟩), u3, u4, .slice (some ⟨W.heap.size, 0, none⟩) 0 0, .pointer (some ⟨w.heap.size, 1, none⟩), .slice (some ⟨b, off, none⟩) ns.length cap, .slice (some ⟨g, 0, none⟩) ns.length cap1, u9], defers := [] } ∧ w'' = w1) (fun a' w'' h => ?_) ?_
        · obtain ⟨rfl, rfl⟩ := h
          exact ⟨_, _, _, _, _, _, _, hsz', rfl, fun h => e0 (by rwa [keep 0 (by omega)] at h), fun h => e1 (by rwa [keep 1 (by omega)] at h), fun _ => rfl, fun _ => rfl, fun _ => rfl, fun _ => rfl, fun h => e6 (by rwa [keep 6 (by omega)] at h), Or.inr (Or.inr (Or.inl ⟨(keep 2 (by omega)).trans g2, sett, (keep 7 (by omega)).trans g7, rfl⟩))⟩
        · go_simp
      · rw [g5] at hl'; cases hl'
      · rw [hall 5 (by omega)] at hl'; cases hl'
    | 6, _ =>
      simp at ho; subst ho
      have d1 : listed.getD 1 false = true := hd ⟨1, .data⟩ (by simp) rfl
      have d5 : listed.getD 5 false = true := hd ⟨5, .data⟩ (by simp) rfl
      have d0 : listed.getD 0 false = true := hC 1 _ rfl d1 ⟨0, .data⟩ (by simp) rfl
      have d2 : listed.getD 2 false = true := hC 5 _ rfl d5 ⟨2, .data⟩ (by simp) rfl
      have d4 : listed.getD 4 false = true := hC 5 _ rfl d5 ⟨4, .data⟩ (by simp) rfl
      have d3 : listed.getD 3 false = true := hC 4 _ rfl d4 ⟨3, .data⟩ (by simp) rfl
      obtain rfl := (e1 d1).symm
      obtain rfl := (e5 d5).symm
      obtain rfl := (e0 d0).symm
      obtain rfl := (e2 d2).symm
      obtain rfl := (e4 d4).symm
      obtain rfl := (e3 d3).symm
      clear hd
      rcases hw with ⟨g2, g5, g7, hwe⟩ | ⟨g2, g5, g7, hwe⟩ | ⟨g2, g5, g7, hwe⟩ | ⟨hall, hwe⟩
      · rw [d5] at g5; cases g5
      · rw [d5] at g5; cases g5
      · obtain rfl := hwe.symm
        refine Oper.wpIn_mono (K := fun a' w'' => a' = { tmps := #[.agg #[.int .i64 r, .slice (some ⟨b, off, none⟩) ns.length cap], .pointer (some ⟨w.heap.size, 0, none⟩), .pointer (some ⟨w.heap.size + 1, 0, none⟩), .pointer (some ⟨w.heap.size, 0, none⟩), .int .i64 r, .slice (some ⟨W.heap.size, 0, none⟩) 0 0, .pointer (some ⟨w.heap.size, 1, none⟩), .slice (some ⟨b, off, none⟩) ns.length cap, .slice (some ⟨g, 0, none⟩) ns.length cap1, .agg #[.int .i64 r, .slice (some ⟨g, 0, none⟩) ns.length cap1]], defers := [] } ∧ w'' = w1) (fun a' w'' h => ?_) ?_
        · obtain ⟨rfl, rfl⟩ := h
          exact ⟨_, _, _, _, _, _, _, hsz', rfl, fun _ => rfl, fun _ => rfl, fun _ => rfl, fun _ => rfl, fun _ => rfl, fun _ => rfl, fun _ => rfl, Or.inr (Or.inr (Or.inl ⟨(keep 2 (by omega)).trans g2, (keep 5 (by omega)).trans g5, (keep 7 (by omega)).trans g7, rfl⟩))⟩
        · go_simp
      · rw [hall 6 (by omega)] at hl'; cases hl'
    | 7, _ =>
      simp at ho; subst ho
      have d6 : listed.getD 6 false = true := hd ⟨6, .data⟩ (by simp) rfl
      have d0 : listed.getD 0 false = true := hd ⟨0, .phase⟩ (by simp) rfl
      have d1 : listed.getD 1 false = true := hd ⟨1, .phase⟩ (by simp) rfl
      have d2 : listed.getD 2 false = true := hd ⟨2, .phase⟩ (by simp) rfl
      have d3 : listed.getD 3 false = true := hd ⟨3, .phase⟩ (by simp) rfl
      have d4 : listed.getD 4 false = true := hd ⟨4, .phase⟩ (by simp) rfl
      have d5 : listed.getD 5 false = true := hd ⟨5, .phase⟩ (by simp) rfl
      obtain rfl := (e6 d6).symm
      obtain rfl := (e0 d0).symm
      obtain rfl := (e1 d1).symm
      obtain rfl := (e2 d2).symm
      obtain rfl := (e3 d3).symm
      obtain rfl := (e4 d4).symm
      obtain rfl := (e5 d5).symm
      clear hd
      rcases hw with ⟨g2, g5, g7, hwe⟩ | ⟨g2, g5, g7, hwe⟩ | ⟨g2, g5, g7, hwe⟩ | ⟨hall, hwe⟩
      · rw [d5] at g5; cases g5
      · rw [d5] at g5; cases g5
      · obtain rfl := hwe.symm
        refine Oper.wpIn_mono (K := fun a' w'' => a' = { tmps := #[.agg #[.int .i64 r, .slice (some ⟨b, off, none⟩) ns.length cap], .pointer (some ⟨w.heap.size, 0, none⟩), .pointer (some ⟨w.heap.size + 1, 0, none⟩), .pointer (some ⟨w.heap.size, 0, none⟩), .int .i64 r, .slice (some ⟨W.heap.size, 0, none⟩) 0 0, .pointer (some ⟨w.heap.size, 1, none⟩), .slice (some ⟨b, off, none⟩) ns.length cap, .slice (some ⟨g, 0, none⟩) ns.length cap1, .agg #[.int .i64 r, .slice (some ⟨g, 0, none⟩) ns.length cap1]], defers := [] } ∧ w'' = (w1.setCell ⟨w.heap.size + 1, 0, none⟩ (.int .i64 r)).setCell ⟨w.heap.size + 1, 1, none⟩ (.slice (some ⟨g, 0, none⟩) ns.length cap1)) (fun a' w'' h => ?_) ?_
        · obtain ⟨rfl, rfl⟩ := h
          refine ⟨_, _, _, _, _, _, _, hsz', rfl, fun _ => rfl, fun _ => rfl, fun _ => rfl, fun _ => rfl, fun _ => rfl, fun _ => rfl, fun _ => rfl, Or.inr (Or.inr (Or.inr (⟨fun j hj => ?_, rfl⟩)))⟩
          match j, hj with
          | 0, _ => exact (keep 0 (by omega)).trans d0
          | 1, _ => exact (keep 1 (by omega)).trans d1
          | 2, _ => exact (keep 2 (by omega)).trans d2
          | 3, _ => exact (keep 3 (by omega)).trans d3
          | 4, _ => exact (keep 4 (by omega)).trans d4
          | 5, _ => exact (keep 5 (by omega)).trans d5
          | 6, _ => exact (keep 6 (by omega)).trans d6
          | 7, _ => exact sett
        · go_simp
      · rw [hall 7 (by omega)] at hl'; cases hl'
  case h1 =>
    rintro listed a w' ⟨_, _, _, _, _, _, _, hsz, rfl, e0, e1, e2, e3, e4, e5, e6, hw⟩ hall
    obtain rfl := (e0 (hall 0 (by decide))).symm
    obtain rfl := (e1 (hall 1 (by decide))).symm
    obtain rfl := (e2 (hall 2 (by decide))).symm
    obtain rfl := (e3 (hall 3 (by decide))).symm
    obtain rfl := (e4 (hall 4 (by decide))).symm
    obtain rfl := (e5 (hall 5 (by decide))).symm
    obtain rfl := (e6 (hall 6 (by decide))).symm
    rcases hw with ⟨g2, _, _, _⟩ | ⟨_, g5, _, _⟩ | ⟨_, _, g7, _⟩ | ⟨_, hwe⟩
    · rw [hall 2 (by decide)] at g2; cases g2
    · rw [hall 5 (by decide)] at g5; cases g5
    · rw [hall 7 (by decide)] at g7; cases g7
    obtain rfl := hwe.symm
    have hk : (((w1.setCell ⟨w.heap.size + 1, 0, none⟩ (.int .i64 r)).setCell ⟨w.heap.size + 1, 1, none⟩ (.slice (some ⟨g, 0, none⟩) ns.length cap1))).heap[w.heap.size + 1]? = some (.cells #[.int .i64 r, .slice (some ⟨g, 0, none⟩) ns.length cap1] 24 (0, 0)) := by
      rw [blk_set _ (blk_set _ HR.out)]; simp
    have hBf : Below w.heap.size w ((w1.setCell ⟨w.heap.size + 1, 0, none⟩ (.int .i64 r)).setCell ⟨w.heap.size + 1, 1, none⟩ (.slice (some ⟨g, 0, none⟩) ns.length cap1)) := ((HB.out.trans (HG.out.mono hsW)).setCell (p := ⟨w.heap.size + 1, 0, none⟩) (by simp) _).setCell (p := ⟨w.heap.size + 1, 1, none⟩) (by simp) _
    have hOf : ((w1.setCell ⟨w.heap.size + 1, 0, none⟩ (.int .i64 r)).setCell ⟨w.heap.size + 1, 1, none⟩ (.slice (some ⟨g, 0, none⟩) ns.length cap1)).ownsRow w.heap.size 53 6 (.slice (some ⟨g, 0, none⟩) ns.length cap1) ns.length (ns.flatMap encNd) := owns_set (owns_set HO.out HR.out (by decide)) (blk_set _ HR.out) (by decide)
    clear hrun rc0 rc1 rf0 rf1 qw0 qw1 q0 q1
    generalize (w1.setCell ⟨w.heap.size + 1, 0, none⟩ (.int .i64 r)).setCell ⟨w.heap.size + 1, 1, none⟩ (.slice (some ⟨g, 0, none⟩) ns.length cap1) = Wf at hk hBf hOf ⊢
    have z0 := blk_cell hk 0
    have z1 := blk_cell hk 1
    simp at z0 z1
    gi_wp2
    refine bodyPost_ret (v := .agg #[.int .i64 r, .slice (some ⟨g, 0, none⟩) ns.length cap1]) (by simp [results, Try.results18, go_sem, z0, z1]) rfl ⟨_, rfl, hOf, hBf⟩

end Go.Proofs.Ytoikglgnmjjpcab
