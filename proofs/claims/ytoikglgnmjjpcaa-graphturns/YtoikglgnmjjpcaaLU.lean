/-
  hoistwaylaw.graphBegun, walked.
-/
import Derived.Test.YtoikglgnmjjpcaaLV
namespace Go.Proofs.Ytoikglgnmjjpcaa
open Go.RowKit Go.Shelf
set_option linter.unusedVariables false

set_option maxRecDepth 100000 in
set_option maxHeartbeats 4000000 in
theorem graphBegun_any (w : World) :
    Calls Try.prog 37 #[] w fun e w' => e = .returned (.bool true) ∧ Below w.heap.size w w' := by
  obtain ⟨i0, hi0, hz0, hz1, hz2⟩ := info_parts info_node
  go_enter Try.func37, Try.ntmps37
  go_upto_region 2 with (go_at_call 64; refine (small_own _).mono ?_; rintro e w1 ⟨v0, rfl, hV0, hB0⟩; obtain ⟨g, vc, rfl⟩ := ownsRow_succ hV0)
  have hs0 := hB0.size
  have p0 : (w1.alloc (.cells #[.int .i64 3, .slice (some ⟨g, 0, none⟩) 7 vc] 24)).heap[w1.heap.size]? = some (.cells #[.int .i64 3, .slice (some ⟨g, 0, none⟩) 7 vc] 24 (0, 0)) := World.alloc_heap_new w1 _
  have hB1 : Below w.heap.size w (w1.alloc (.cells #[.int .i64 3, .slice (some ⟨g, 0, none⟩) 7 vc] 24)) := hB0.alloc (by omega) _
  have hV1 := hV0.alloc (.cells #[.int .i64 3, .slice (some ⟨g, 0, none⟩) 7 vc] 24)
  generalize w1.alloc (.cells #[.int .i64 3, .slice (some ⟨g, 0, none⟩) 7 vc] 24) = W1 at p0 hB1 hV1 ⊢
  clear hV0 hB0
  generalize w1.heap.size = A at p0 hs0 ⊢
  have q1 := blk_cell p0 1
  have hAl := blk_lt p0
  simp at q1
  have HB1 := hide hB1
  have HV1 := hide hV1
  have HP0 := hide p0
  have hs1 := hB1.size
  clear hB1 hV1 p0
  go_upto_region 3 with (at_builtin; refine wpList_append_own _ rfl _ _ 22 rfl w.heap.size 87 i0 _ 6 48 Try.underlying22 hi0 hz0 hz1 hz2 rfl (by decide) _ _ _ rfl (HV1.out.alloc _) ⟨W1.heap.size, 0, none⟩ 1 1 (encNd ⟨0, 0, 0, 0, 6, 0⟩) rfl rfl ?cells (by simp [encNd, Value.oneCell']) (by decide) (by decide) (by simp; omega) ?_)
  case cells =>
    intro j u hj
    rw [show (⟨W1.heap.size, 0, none⟩ : Addr).add j = ⟨W1.heap.size, j, none⟩ by cases j <;> simp [Addr.add], World.cell?_alloc_at _ _ _ _ rfl]
    simpa [encNd] using hj
  intro v' w2 hown hgrow _
  obtain ⟨g2, c2, rfl⟩ := ownsRow_succ hown
  have hgrow' : (W1.alloc (.cells #[.int .i64 0, .int .i64 0, .int .i64 0, .int .i64 0, .int .i64 6, .int .i64 0] 87)).grownBy w2 (some g) := hgrow
  have hp2 : w2.heap[A]? = some (.cells #[.int .i64 3, .slice (some ⟨g, 0, none⟩) 7 vc] 24 (0, 0)) := (hgrow'.block _ (by simp; omega) (fun e => owns_ne_ty HV1.out HP0.out (by decide) e)).trans ((Below.heap_alloc _ _ _ hAl).trans HP0.out)
  have hB2 : Below w.heap.size w w2 := (HB1.out.alloc (by omega) _).grown hgrow' (by simp; omega) (fun j ej => by cases ej; exact (HV1.out.lt g rfl).1)
  have hB2' := hB2.setCell (p := ⟨A, 1, none⟩) (by simpa using hs0) (.slice (some ⟨g2, 0, none⟩) 8 c2)
  have hp3 : (w2.setCell ⟨A, 1, none⟩ (.slice (some ⟨g2, 0, none⟩) 8 c2)).heap[A]? = some (.cells #[.int .i64 3, .slice (some ⟨g2, 0, none⟩) 8 c2] 24 (0, 0)) := by
    rw [blk_set _ hp2]; simp
  have hV3 : (w2.setCell ⟨A, 1, none⟩ (.slice (some ⟨g2, 0, none⟩) 8 c2)).ownsRow w.heap.size 87 6 (.slice (some ⟨g2, 0, none⟩) 8 c2) smallP.length (smallP.flatMap encNd) := owns_set hown hp2 (by decide)
  have m0 := blk_cell hp2 1
  have m1 := blk_frozen hp2 1
  have m2 := blk_lt hp2
  simp at m0
  have HB := hide hB2'
  have HP := hide hp3
  have HV := hide hV3
  clear hp2 hB2 hB2' hp3 hV3 hown hgrow hgrow' HV1 HP0 HB1 hs1 q1 hAl
  go_upto_region 3 with fail
  clear m0 m1 m2
  generalize w2.setCell ⟨A, 1, none⟩ (.slice (some ⟨g2, 0, none⟩) 8 c2) = W3 at HB HP HV ⊢
  have hN3 : NodesAt W3 g2 0 smallP := by
    obtain ⟨a, cap, e, hS⟩ := nodes_of_owns HV.out
    cases e
    obtain ⟨b, off, e, h⟩ := hS.some (by decide)
    cases e
    exact h
  have r0 := blk_cell HP.out 0
  have r1 := blk_cell HP.out 1
  have rl := blk_lt HP.out
  simp at r0 r1
  have hre : Calls Try.prog 31 #[.agg #[.int .i64 3, .slice (some ⟨g2, 0, none⟩) 8 c2]] W3 fun e w' => ∃ v, e = .returned (.tuple #[v, .int .i64 0]) ∧ w'.ownsRow W3.heap.size 4 1 v 8 ([true, true, true, true, true, true, true, false].map Value.bool) ∧ Below W3.heap.size W3 w' := by
    have := reach_any 3 g2 0 c2 smallP W3 hN3 smallP_chk
    rw [smallP_reach] at this
    exact this
  have HRE := hide hre
  have HN3 := hide hN3
  clear hre hN3
  go_upto_region 4 with (go_at_call 31; refine HRE.out.mono ?_; rintro e w4 ⟨v4, rfl, hv4, hb4⟩; obtain ⟨rb, rc, rfl⟩ := ownsRow_succ hv4)
  have HN4 := hide (HN3.out.below hb4 HN3.out.lt)
  have hs4 := hb4.size
  have HB4 := hide (HB.out.trans (hb4.mono HB.out.size))
  have t0 := (hb4.cell (p := ⟨A, 0, none⟩) rl).trans r0
  have t1 := (hb4.cell (p := ⟨A, 1, none⟩) rl).trans r1
  have HV4 := hide hv4
  have tl : A < w4.heap.size := by omega
  clear r0 r1 rl hb4 hv4 HN3 HRE
  have htr : Calls Try.prog 32 #[.agg #[.int .i64 3, .slice (some ⟨g2, 0, none⟩) 8 c2]] w4 fun e w' => ∃ v, e = .returned (.tuple #[.agg #[.int .i64 3, v], .int .i64 0]) ∧ w'.ownsRow w4.heap.size 87 6 v 7 (smallN.flatMap encNd) ∧ Below w4.heap.size w4 w' := by
    have := callsIn_wide.1 (trim_ok 3 g2 0 c2 smallP w4 HN4.out smallP_chk)
    rw [smallP_trim] at this
    exact this
  have HTR := hide htr
  clear htr
  go_upto_region 5 with (go_at_call 32; refine HTR.out.mono ?_; rintro e w5 ⟨v5, rfl, hv5, hb5⟩; obtain ⟨tb, tc, rfl⟩ := ownsRow_succ hv5)
  have hs5 := hb5.size
  have hrl := (HV4.out.lt rb rfl).2
  have hrb := (HV4.out.lt rb rfl).1
  have HV5 := hide (hv5.alloc (.cells #[.int .i64 3, .slice (some ⟨tb, 0, none⟩) 7 tc] 24))
  have HR5 := hide ((ownsRow_below HV4.out hb5 (Nat.le_refl _)).alloc (.cells #[.int .i64 3, .slice (some ⟨tb, 0, none⟩) 7 tc] 24))
  have HT5 : Hid ((w5.alloc (.cells #[.int .i64 3, .slice (some ⟨tb, 0, none⟩) 7 tc] 24)).heap[w5.heap.size]? = some (.cells #[.int .i64 3, .slice (some ⟨tb, 0, none⟩) 7 tc] 24 (0, 0))) := World.alloc_heap_new w5 _
  have HB5 := hide ((HB4.out.trans (hb5.mono HB4.out.size)).alloc (Nat.le_trans HB4.out.size hb5.size) (.cells #[.int .i64 3, .slice (some ⟨tb, 0, none⟩) 7 tc] 24))
  clear hb5 hv5 HTR HV4 HN4 HB4 HB HP HV t0 t1 tl
  generalize w5.alloc (.cells #[.int .i64 3, .slice (some ⟨tb, 0, none⟩) 7 tc] 24) = W5 at HV5 HR5 HT5 HB5 ⊢
  generalize w5.heap.size = T at HT5 hs5 hrl ⊢
  have hsp : ∀ (b : Nat) (W : World), NodesAt W b 0 smallN → Calls Try.prog 33 #[.agg #[.int .i64 3, .slice (some ⟨b, 0, none⟩) 7 7]] W fun e w' => ∃ v, e = .returned (.tuple #[.agg #[.int .i64 3, v], .int .i64 0]) ∧ w'.ownsRow W.heap.size 87 6 v 9 (smallQ.flatMap encNd) ∧ Below W.heap.size W w' := fun b W h => by
    refine (callsIn_wide.1 (split_ok 3 b 0 7 smallN W h smallN_chk)).mono ?_
    rintro e w' ⟨v1, v2, er, rfl, h, hB⟩
    rw [smallN_split] at h
    rcases h with ⟨_, rfl, rfl, h⟩ | ⟨h, _⟩
    · exact ⟨v2, rfl, h, hB⟩
    · exact absurd h (by decide)
  have HSP := hide hsp
  clear hsp
  go_upto_region 6 with (first
    | (go_at_call 64; refine (small_any _).mono ?_; rintro e w6 ⟨rfl, hn6, hb6⟩)
    | (go_at_call 33; refine (HSP.out _ _ hn6).mono ?_; rintro e w7 ⟨v7, rfl, hv7, hb7⟩; obtain ⟨qb, qc, rfl⟩ := ownsRow_succ hv7))
  have hs6 := hb6.size
  have hs7 := hb7.size
  have hB7 : Below W5.heap.size W5 w7 := hb6.trans (hb7.mono (by omega))
  have hBQ : Below W5.heap.size W5 (w7.alloc (.cells #[.int .i64 3, .slice (some ⟨qb, 0, none⟩) 9 qc] 24)) := hB7.alloc hB7.size _
  have hQb : (w7.alloc (.cells #[.int .i64 3, .slice (some ⟨qb, 0, none⟩) 9 qc] 24)).heap[w7.heap.size]? = some (.cells #[.int .i64 3, .slice (some ⟨qb, 0, none⟩) 9 qc] 24 (0, 0)) := World.alloc_heap_new w7 _
  have hvQ := hv7.alloc (.cells #[.int .i64 3, .slice (some ⟨qb, 0, none⟩) 9 qc] 24)
  generalize w7.alloc (.cells #[.int .i64 3, .slice (some ⟨qb, 0, none⟩) 9 qc] 24) = WQ at hBQ hQb hvQ ⊢
  generalize w7.heap.size = Q at hQb ⊢
  clear hv7 hb6 hb7 hB7 hn6 HSP
  have hQl := blk_lt hQb
  have hTb := (hBQ.block _ (blk_lt HT5.out)).trans HT5.out
  have hRQ := ownsRow_below HR5.out hBQ (Nat.le_refl _)
  have hTQ := ownsRow_below HV5.out hBQ (Nat.le_refl _)
  have hadd : ∀ (g j : Nat), (⟨g, 0, none⟩ : Addr).add j = ⟨g, j, none⟩ := fun g j => by cases j <;> simp [Addr.add]
  have hrc : ∀ (j : Nat) (u : Value), ([true, true, true, true, true, true, true, false].map Value.bool)[j]? = some u → WQ.cell? ⟨rb, j, none⟩ = some u := fun j u h => by rw [← hadd]; exact hRQ.cells (g := rb) rfl j u h
  have hqc : ∀ (j : Nat) (u : Value), (smallQ.flatMap encNd)[j]? = some u → WQ.cell? ⟨qb, j, none⟩ = some u := fun j u h => by rw [← hadd]; exact hvQ.cells (g := qb) rfl j u h
  have hrl2 := (hRQ.lt rb rfl).2
  have hql2 := (hvQ.lt qb rfl).2
  have hTl := blk_lt hTb
  have held : ∀ W : World, Below WQ.heap.size WQ W → W.cell? ⟨rb, 6, none⟩ = some (.bool true) ∧ W.cell? ⟨rb, 7, none⟩ = some (.bool false) ∧ W.cell? ⟨T, 0, none⟩ = some (.int .i64 3) ∧ W.cell? ⟨T, 1, none⟩ = some (.slice (some ⟨tb, 0, none⟩) 7 tc) ∧ W.cell? ⟨Q, 1, none⟩ = some (.slice (some ⟨qb, 0, none⟩) 9 qc) ∧ W.cell? ⟨qb, 17, none⟩ = some (.int .i64 7) ∧ W.cell? ⟨qb, 28, none⟩ = some (.int .i64 8) ∧ W.cell? ⟨qb, 42, none⟩ = some (.int .i64 0) ∧ W.cell? ⟨qb, 43, none⟩ = some (.int .i64 0) ∧ W.cell? ⟨qb, 44, none⟩ = some (.int .i64 0) ∧ W.cell? ⟨qb, 45, none⟩ = some (.int .i64 0) ∧ W.cell? ⟨qb, 46, none⟩ = some (.int .i64 5) ∧ W.cell? ⟨qb, 47, none⟩ = some (.int .i64 0) ∧ W.cell? ⟨qb, 48, none⟩ = some (.int .i64 0) ∧ W.cell? ⟨qb, 49, none⟩ = some (.int .i64 0) ∧ W.cell? ⟨qb, 50, none⟩ = some (.int .i64 0) ∧ W.cell? ⟨qb, 51, none⟩ = some (.int .i64 0) ∧ W.cell? ⟨qb, 52, none⟩ = some (.int .i64 5) ∧ W.cell? ⟨qb, 53, none⟩ = some (.int .i64 0) := fun W h => by
    have k1 : ∀ (b j : Nat) (u : Value), b < WQ.heap.size → WQ.cell? ⟨b, j, none⟩ = some u → W.cell? ⟨b, j, none⟩ = some u := fun b j u hb hc => (h.cell (p := ⟨b, j, none⟩) hb).trans hc
    refine ⟨k1 _ _ _ hrl2 (hrc _ _ rfl), k1 _ _ _ hrl2 (hrc _ _ rfl), k1 _ _ _ hTl (by rw [blk_cell hTb]; rfl), k1 _ _ _ hTl (by rw [blk_cell hTb]; rfl), k1 _ _ _ hQl (by rw [blk_cell hQb]; rfl), k1 _ _ _ hql2 (hqc _ _ rfl), k1 _ _ _ hql2 (hqc _ _ rfl), k1 _ _ _ hql2 (hqc _ _ rfl), k1 _ _ _ hql2 (hqc _ _ rfl), k1 _ _ _ hql2 (hqc _ _ rfl), k1 _ _ _ hql2 (hqc _ _ rfl), k1 _ _ _ hql2 (hqc _ _ rfl), k1 _ _ _ hql2 (hqc _ _ rfl), k1 _ _ _ hql2 (hqc _ _ rfl), k1 _ _ _ hql2 (hqc _ _ rfl), k1 _ _ _ hql2 (hqc _ _ rfl), k1 _ _ _ hql2 (hqc _ _ rfl), k1 _ _ _ hql2 (hqc _ _ rfl), k1 _ _ _ hql2 (hqc _ _ rfl)⟩
  have hsl : SlN WQ (some ⟨tb, 0, none⟩) smallN := by
    obtain ⟨a, cap, e, h⟩ := nodes_of_owns (ns := smallN) hTQ
    cases e; exact h
  have HSL := hide hsl
  have HELD := hide held
  have HBw := hide (HB5.out.trans (hBQ.mono HB5.out.size))
  have heq := eq_skp5
  clear hsl held hrc hqc hadd hRQ hTQ hTb hQb hvQ hBQ HB5 HR5 HV5 HT5
  simp only [List.append_eq, List.cons_append, List.nil_append]
  go_region_held3 (fun W => W.cell? ⟨rb, 6, none⟩ = some (.bool true) ∧ W.cell? ⟨rb, 7, none⟩ = some (.bool false) ∧ W.cell? ⟨T, 0, none⟩ = some (.int .i64 3) ∧ W.cell? ⟨T, 1, none⟩ = some (.slice (some ⟨tb, 0, none⟩) 7 tc) ∧ W.cell? ⟨Q, 1, none⟩ = some (.slice (some ⟨qb, 0, none⟩) 9 qc) ∧ W.cell? ⟨qb, 17, none⟩ = some (.int .i64 7) ∧ W.cell? ⟨qb, 28, none⟩ = some (.int .i64 8) ∧ W.cell? ⟨qb, 42, none⟩ = some (.int .i64 0) ∧ W.cell? ⟨qb, 43, none⟩ = some (.int .i64 0) ∧ W.cell? ⟨qb, 44, none⟩ = some (.int .i64 0) ∧ W.cell? ⟨qb, 45, none⟩ = some (.int .i64 0) ∧ W.cell? ⟨qb, 46, none⟩ = some (.int .i64 5) ∧ W.cell? ⟨qb, 47, none⟩ = some (.int .i64 0) ∧ W.cell? ⟨qb, 48, none⟩ = some (.int .i64 0) ∧ W.cell? ⟨qb, 49, none⟩ = some (.int .i64 0) ∧ W.cell? ⟨qb, 50, none⟩ = some (.int .i64 0) ∧ W.cell? ⟨qb, 51, none⟩ = some (.int .i64 0) ∧ W.cell? ⟨qb, 52, none⟩ = some (.int .i64 5) ∧ W.cell? ⟨qb, 53, none⟩ = some (.int .i64 0)) (first
    | exact HELD.out _ hB9
    | exact HELD.out _ hB8
    | exact HELD.out _ (Below.refl _ WQ).drew
    | exact HELD.out _ (Below.refl _ WQ)) (first
    | (go_at_call 64; refine (small_any _).mono ?_; rintro e w8 ⟨rfl, hN8, hb8⟩; have hB8 : Below WQ.heap.size WQ w8 := (Below.refl _ WQ).drew.trans hb8)
    | (go_at_call 39; refine (sameProgs_same 3 _ _ _ _ smallN _ (HSL.out.below hB8) (Or.inr ⟨_, _, rfl, hN8⟩) (by decide)).mono ?_; rintro e w9 ⟨rfl, hb9⟩; have hB9 : Below WQ.heap.size WQ w9 := hB8.trans (hb9.mono hB8.size)))
  all_goals go_wp2
  all_goals go_ret
  all_goals exact ⟨rfl, HBw.out.trans (hB9.mono HBw.out.size)⟩
end Go.Proofs.Ytoikglgnmjjpcaa
