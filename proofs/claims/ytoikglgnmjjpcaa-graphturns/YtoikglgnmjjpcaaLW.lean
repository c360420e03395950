/-
  hoistwaylaw.GraphTurns, walked: the program is wrong.
-/
import Derived.Test.YtoikglgnmjjpcaaLU
import Derived.Test.YtoikglgnmjjpcaaE
namespace Go.Proofs.Ytoikglgnmjjpcaa
open Go.RowKit Go.Shelf
set_option linter.unusedVariables false

set_option maxRecDepth 100000 in
set_option maxHeartbeats 4000000 in
theorem graphTurns_wrong (r : Int) (a : Option Addr) (cap : Nat) (ns : List Nd) (w : World) (hN : SlN w a ns) (hc : chk r ns ≠ 0) :
    Calls Try.prog 7 #[.agg #[.int .i64 r, .slice a ns.length cap]] w fun e w' => e = .returned (.bool true) ∧ Below w.heap.size w w' := by
  have hcb : (chk r ns == 0) = false := by simp [hc]
  have HC := hide hc
  clear hc
  go_enter Try.func7, Try.ntmps7
  go_upto_region 1 with fail
  have hb0 : Below w.heap.size w (w.alloc (.cells #[.int .i64 r, .slice a ns.length cap] 24)) := (Below.refl _ w).alloc (Nat.le_refl _) _
  have hp0 : (w.alloc (.cells #[.int .i64 r, .slice a ns.length cap] 24)).heap[w.heap.size]? = some (.cells #[.int .i64 r, .slice a ns.length cap] 24 (0, 0)) := World.alloc_heap_new w _
  generalize w.alloc (.cells #[.int .i64 r, .slice a ns.length cap] 24) = W0 at hb0 hp0 ⊢
  have p0 := blk_cell hp0 0
  have p1 := blk_cell hp0 1
  have pl := blk_lt hp0
  simp at p0 p1
  have HB0 := hide hb0
  clear hb0 hp0
  go_upto_region 2 with (go_at_call 31; refine (reach_err r a cap ns _ (hN.below HB0.out) HC.out).mono ?_; rintro e w1 ⟨rfl, hb1⟩)
  have HB1 := hide (HB0.out.trans (hb1.mono HB0.out.size))
  replace p0 := (hb1.cell (p := ⟨w.heap.size, 0, none⟩) pl).trans p0
  replace p1 := (hb1.cell (p := ⟨w.heap.size, 1, none⟩) pl).trans p1
  replace pl := Nat.lt_of_lt_of_le pl hb1.size
  clear hb1 HB0
  go_upto_region 3 with (go_at_call 32; refine (trim_err r a cap ns _ (hN.below HB1.out) HC.out).mono ?_; rintro e w2 ⟨rfl, hb2⟩)
  have HB2 := hide ((HB1.out.trans (hb2.mono HB1.out.size)).alloc (Nat.le_trans HB1.out.size hb2.size) (.cells #[.int .i64 0, .slice none 0 0] 24))
  have hT2 : (w2.alloc (.cells #[.int .i64 0, .slice none 0 0] 24)).heap[w2.heap.size]? = some (.cells #[.int .i64 0, .slice none 0 0] 24 (0, 0)) := World.alloc_heap_new w2 _
  have hb2' := hb2.alloc hb2.size (.cells #[.int .i64 0, .slice none 0 0] 24)
  replace p0 := (hb2'.cell (p := ⟨w.heap.size, 0, none⟩) pl).trans p0
  replace p1 := (hb2'.cell (p := ⟨w.heap.size, 1, none⟩) pl).trans p1
  replace pl := Nat.lt_of_lt_of_le pl hb2'.size
  clear hb2 hb2' HB1
  generalize w2.alloc (.cells #[.int .i64 0, .slice none 0 0] 24) = W2 at HB2 hT2 p0 p1 pl ⊢
  generalize w2.heap.size = T at hT2 ⊢
  go_upto_region 4 with (go_at_call 33; refine (split_err r a cap ns _ (hN.below HB2.out) HC.out).mono ?_; rintro e w3 ⟨rfl, hb3⟩)
  have HB3 := hide ((HB2.out.trans (hb3.mono HB2.out.size)).alloc (Nat.le_trans HB2.out.size hb3.size) (.cells #[.int .i64 0, .slice none 0 0] 24))
  have hQ3 : (w3.alloc (.cells #[.int .i64 0, .slice none 0 0] 24)).heap[w3.heap.size]? = some (.cells #[.int .i64 0, .slice none 0 0] 24 (0, 0)) := World.alloc_heap_new w3 _
  have hb3' := hb3.alloc hb3.size (.cells #[.int .i64 0, .slice none 0 0] 24)
  replace p0 := (hb3'.cell (p := ⟨w.heap.size, 0, none⟩) pl).trans p0
  replace p1 := (hb3'.cell (p := ⟨w.heap.size, 1, none⟩) pl).trans p1
  replace pl := Nat.lt_of_lt_of_le pl hb3'.size
  have hT3 := (hb3'.block _ (blk_lt hT2)).trans hT2
  clear hb3 hb3' HB2 hT2
  generalize w3.alloc (.cells #[.int .i64 0, .slice none 0 0] 24) = W3 at HB3 hQ3 hT3 p0 p1 pl ⊢
  generalize w3.heap.size = Q at hQ3 ⊢
  go_upto_region 5 with (go_at_call 15; refine (checkProg_any r a cap ns _ (hN.below HB3.out)).mono ?_; rintro e w4 ⟨rfl, hb4⟩)
  have HB4 := hide (HB3.out.trans (hb4.mono HB3.out.size))
  have hT4 := (hb4.block _ (blk_lt hT3)).trans hT3
  have hQ4 := (hb4.block _ (blk_lt hQ3)).trans hQ3
  clear hT3 hQ3 hb4 HB3 p0 p1 pl
  clear HC
  generalize chk r ns = c at *
  have hb5 : Below w4.heap.size w4 ((w4.alloc (.cells #[.int .i64 0, .slice none 0 0] 24)).alloc (.cells #[.int .i64 0, .slice none 0 0] 24)) := ((Below.refl _ w4).alloc (Nat.le_refl _) _).alloc (by simp) _
  have hX5 : ((w4.alloc (.cells #[.int .i64 0, .slice none 0 0] 24)).alloc (.cells #[.int .i64 0, .slice none 0 0] 24)).heap[w4.heap.size]? = some (.cells #[.int .i64 0, .slice none 0 0] 24 (0, 0)) := (Below.heap_alloc _ _ _ (by simp)).trans (World.alloc_heap_new w4 _)
  have hY5 : ((w4.alloc (.cells #[.int .i64 0, .slice none 0 0] 24)).alloc (.cells #[.int .i64 0, .slice none 0 0] 24)).heap[w4.heap.size + 1]? = some (.cells #[.int .i64 0, .slice none 0 0] 24 (0, 0)) := by
    have := World.alloc_heap_new (w4.alloc (.cells #[.int .i64 0, .slice none 0 0] 24)) (.cells #[.int .i64 0, .slice none 0 0] 24)
    rwa [World.size_alloc] at this
  have hT5 := (hb5.block _ (blk_lt hT4)).trans hT4
  have hQ5 := (hb5.block _ (blk_lt hQ4)).trans hQ4
  have HB5 := hide (HB4.out.trans (hb5.mono HB4.out.size))
  have H5 := hide (And.intro hT5 (And.intro hQ5 (And.intro hX5 hY5)))
  clear hT4 hQ4 hT5 hQ5 hX5 hY5 hb5 HB4
  go_upto_region 11 with fail
  generalize ((w4.alloc (.cells #[.int .i64 0, .slice none 0 0] 24)).alloc (.cells #[.int .i64 0, .slice none 0 0] 24)) = W5 at H5 HB5 ⊢
  go_wp2_with fail
  refine (graphBegun_any _).mono ?_
  rintro e w6 ⟨rfl, hb6⟩
  go_wp2_with fail
  refine (sameBools_same none none 0 0 [] _ (Or.inl rfl) (Or.inl rfl) (by decide)).mono ?_
  rintro e w7 ⟨rfl, hb7⟩
  have hB7 : Below W5.heap.size W5 w7 := hb6.trans (hb7.mono hb6.size)
  obtain ⟨hT, hQ, hX, hY⟩ := H5.out
  have hT7 := (hB7.block _ (blk_lt hT)).trans hT
  have hX7 := (hB7.block _ (blk_lt hX)).trans hX
  have t0 := blk_cell hT7 0
  have t1 := blk_cell hT7 1
  have x0 := blk_cell hX7 0
  have x1 := blk_cell hX7 1
  simp at t0 t1 x0 x1
  have tl := blk_lt hT7
  have xl := blk_lt hX7
  clear hT hX hT7 hX7 hb6 hb7
  go_wp2_with fail
  refine (sameProgs_same 0 none none 0 0 [] _ (Or.inl rfl) (Or.inl rfl) (by decide)).mono ?_
  rintro e w8 ⟨rfl, hb8⟩
  have hB8 : Below W5.heap.size W5 w8 := hB7.trans (hb8.mono hB7.size)
  have hQ8 := (hB8.block _ (blk_lt hQ)).trans hQ
  have hY8 := (hB8.block _ (blk_lt hY)).trans hY
  have q0 := blk_cell hQ8 0
  have q1 := blk_cell hQ8 1
  have y0 := blk_cell hY8 0
  have y1 := blk_cell hY8 1
  simp at q0 q1 y0 y1
  have ql := blk_lt hQ8
  have yl := blk_lt hY8
  clear t0 t1 x0 x1 tl xl hQ hY hQ8 hY8
  go_wp2_with fail
  refine (sameProgs_same 0 none none 0 0 [] _ (Or.inl rfl) (Or.inl rfl) (by decide)).mono ?_
  rintro e w9 ⟨rfl, hb9⟩
  have hB9 : Below W5.heap.size W5 w9 := hB8.trans (hb9.mono hB8.size)
  go_wp2
  go_ret
  exact ⟨rfl, HB5.out.trans (hB9.mono HB5.out.size)⟩
end Go.Proofs.Ytoikglgnmjjpcaa
