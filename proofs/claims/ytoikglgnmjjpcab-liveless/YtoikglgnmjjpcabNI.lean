/-
  hoistwaylaw.liveBegun, walked.
-/
import Derived.Test.YtoikglgnmjjpcabNE
import Derived.Test.YtoikglgnmjjpcabLK
namespace Go.Proofs.Ytoikglgnmjjpcab
open Go.RowKit Go.Shelf
set_option linter.unusedVariables false
set_option linter.unusedSimpArgs false

def smallL : List Nd := smallN.set 4 (skp 5)
def smallD : List Nd := smallL.set 3 (skp 4)
theorem smallL_chk : chk 3 smallL = 0 := by kernel_rfl
theorem smallL_dead : deadN smallL = smallD := by kernel_rfl
theorem smallL_two : lvL smallL 64 2 = [0, 1] := by rw [lvL_all smallL_chk (by decide)]; kernel_rfl
theorem smallL_six : lvL smallL 64 6 = [2] := by rw [lvL_all smallL_chk (by decide)]; kernel_rfl

set_option maxHeartbeats 1000000 in
theorem small_ownN (w : World) :
    Calls Try.prog 29 #[] w fun r w' => ∃ g, r = .returned (.agg #[.int .i64 3, .slice (some ⟨g, 0, none⟩) 7 7]) ∧ w'.ownsRow w.heap.size 53 6 (.slice (some ⟨g, 0, none⟩) 7 7) 7 (smallN.flatMap encNd) ∧ Below w.heap.size w w' := by
  go_enter Try.func29, Try.ntmps29
  go_wp2
  refine bodyPost_ret (v := .agg #[.int .i64 3, .slice (some ⟨w.heap.size + 1, 0, none⟩) 7 7]) (by simp [results, Try.results29, go_sem]) rfl ⟨_, rfl, ⟨rfl, Or.inr ⟨w.heap.size + 1, 7, ((smallN.flatMap encNd)).toArray, rfl, by omega, ?_, by decide, by decide, rfl, rfl⟩⟩, ((Below.refl _ _).alloc (Nat.le_refl _) _).alloc (by simp) _⟩
  have h := World.alloc_heap_new (w.alloc (.cells #[.int .i64 3, .slice (some ⟨w.heap.size + 1, 0, none⟩) 7 7] 24)) (.cells (smallN.flatMap encNd).toArray 53)
  rw [World.size_alloc] at h
  exact h

theorem eq_skp4 (w : World) : Sem.run Try.prog (binOp .eql 53 (.agg #[.int .i64 0, .int .i64 0, .int .i64 0, .int .i64 0, .int .i64 4, .int .i64 0]) (.agg #[.int .i64 0, .int .i64 0, .int .i64 0, .int .i64 0, .int .i64 4, .int .i64 0])) w = .ok (.bool true) w := by
  have u3 := Try.underlying3
  have a3 := Try.isAgg3
  have z3 := Try.sizeOf3
  have hS : Try.prog.underlying 53 = some (.struct (Try.prog.fieldsOf 53)) := by kernel_rfl
  have hp : Try.prog.stoodInHeld 53 = false := by kernel_rfl
  rw [run_eql_struct, show (10000 : Nat) = 9999 + 1 from rfl, run_equalIn_agg w 9999 53 _ _ hS hp]
  simp only [Program.fieldsOf, Try.underlying53]
  go_simp

/-- A list of numbers is the one that is written out. -/
theorem same_lit {w0 : World} (a : Option Addr) (ca : Nat) (xs : List Int) (W : World) (hx : IntsAt w0 a xs) (hB : Below w0.heap.size w0 W) (hl : xs.length ≤ 64) :
    Calls Try.prog 12 #[.slice a xs.length ca, .slice (some ⟨W.heap.size, 0, none⟩) xs.length xs.length] (W.alloc (.cells (xs.map (Value.int .i64)).toArray 3)) fun e w' => e = .returned (.bool true) ∧ Below w0.heap.size w0 w' := by
  have hB1 : Below w0.heap.size w0 (W.alloc (.cells (xs.map (Value.int .i64)).toArray 3)) := hB.alloc hB.size _
  have hy : IntsAt (W.alloc (.cells (xs.map (Value.int .i64)).toArray 3)) (some ⟨W.heap.size, 0, none⟩) xs := Or.inr ⟨W.heap.size, 0, rfl, by simp, fun j z hz => by
    rw [Nat.zero_add, blk_cell (World.alloc_heap_new W _), List.getElem?_toArray, List.getElem?_map, hz]; rfl⟩
  refine (sameInts_any a _ ca _ xs xs _ (hx.below hB1) hy (by omega) (by omega)).mono ?_
  rintro e w' ⟨rfl, n, rfl⟩
  exact ⟨by simp, below_drewN hB1 n⟩

set_option maxHeartbeats 8000000 in
set_option maxRecDepth 100000 in
theorem liveBegun_any (w : World) :
    Calls Try.prog 9 #[] w fun e w' => e = .returned (.bool true) ∧ Below w.heap.size w w' := by
  go_enter Try.func9, Try.ntmps9
  go_upto_region 2 with (go_at_call 29; refine (small_ownN _).mono ?_; rintro e w1 ⟨g, rfl, hV, hb1⟩)
  have hx : Below w1.heap.size w1 (w1.alloc (.cells #[.int .i64 3, .slice (some ⟨g, 0, none⟩) 7 7] 24)) := (Below.refl _ w1).alloc (Nat.le_refl _) _
  have hp1 : (w1.alloc (.cells #[.int .i64 3, .slice (some ⟨g, 0, none⟩) 7 7] 24)).heap[w1.heap.size]? = some (.cells #[.int .i64 3, .slice (some ⟨g, 0, none⟩) 7 7] 24 (0, 0)) := World.alloc_heap_new w1 _
  have hV1 := ownsRow_below hV hx (Nat.le_refl _)
  have hB1 := hb1.trans (hx.mono hb1.size)
  generalize (w1.alloc (.cells #[.int .i64 3, .slice (some ⟨g, 0, none⟩) 7 7] 24)) = W1 at hp1 hV1 hB1 ⊢
  generalize w1.heap.size = PB at hp1 ⊢
  clear hV hb1 hx
  obtain ⟨cur, hcur, hge⟩ : ∃ cur, W1.heap[g]? = some (.cells cur 53 (0, 0)) ∧ w.heap.size ≤ g := by
    rcases hV1.2 with ⟨q, _⟩ | ⟨g', c, cur, q, a1, a2, _⟩
    · cases q
    · cases q; exact ⟨cur, a2, a1⟩
  have hN1 : NodesAt W1 g 0 smallN := nodes_own (ns := smallN) hV1 (by decide)
  have d0 := hN1.c0 4 _ rfl
  have d1 := hN1.c1 4 _ rfl
  have d2 := hN1.c2 4 _ rfl
  have d3 := hN1.c3 4 _ rfl
  have d4 := hN1.c4 4 _ rfl
  have d5 := hN1.c5 4 _ rfl
  simp only [Nat.zero_add, Nat.reduceMul, Nat.reduceAdd] at d0 d1 d2 d3 d4 d5
  have g0 := blk_frozen hcur 24
  have g1 := blk_frozen hcur 25
  have g2 := blk_frozen hcur 26
  have g3 := blk_frozen hcur 27
  have g4 := blk_frozen hcur 28
  have g5 := blk_frozen hcur 29
  have dl := hN1.lt
  have p1 := blk_cell hp1 1
  simp at p1
  have pl := blk_lt hp1
  have hV2 := owns_node (l := smallN) (y := skp 5) hV1 (j := 4) (by decide)
  have hN2 : NodesAt (six W1 g 4 (skp 5)) g 0 smallL := nodes_own (ns := smallL) hV2 (by decide)
  have hp2 := (six_other (y := skp 5) (j := 4) (blk_neN hp1 hcur (by decide))).trans hp1
  have hB2 := hB1.trans (six_below W1 4 (skp 5) hge)
  have HN2 := hide hN2
  have HP2 := hide hp2
  have HB2 := hide hB2
  clear hV1 hN1 hp1 hB1 hcur hV2 hN2 hp2 hB2
  go_upto_region 3 with fail
  change Code.wp _ _ _ _ (six W1 g 4 (skp 5))
  generalize six W1 g 4 (skp 5) = W2 at HN2 HP2 HB2 ⊢
  clear d0 d1 d2 d3 d4 d5 g0 g1 g2 g3 g4 g5 dl p1 pl hge
  have p0 := blk_cell HP2.out 0
  have p1 := blk_cell HP2.out 1
  simp at p0 p1
  have pl := blk_lt HP2.out
  have hlv := live_right 3 g 0 7 smallL W2 HN2.out smallL_chk
  rw [show smallL.length = 7 from rfl] at hlv
  have HLV := hide hlv
  clear hlv
  go_upto_region 4 with (go_at_call 6; refine HLV.out.mono ?_; rintro e w3 ⟨rb, rfl, hR3, hb3⟩)
  have HB3 := hide (HB2.out.trans (hb3.mono HB2.out.size))
  have HN3 := hide (HN2.out.below hb3 HN2.out.lt)
  have hp3 := (hb3.block _ pl).trans HP2.out
  have HR3 := hide hR3
  clear p0 p1 pl hb3 hR3 HLV
  have p0 := blk_cell hp3 0
  have p1 := blk_cell hp3 1
  simp at p0 p1
  have pl := blk_lt hp3
  clear hp3
  have hdd := dead_right 3 g 0 7 smallL w3 HN3.out smallL_chk
  rw [show smallL.length = 7 from rfl, smallL_dead] at hdd
  have HDD := hide hdd
  clear hdd
  go_upto_region 5 with (go_at_call 7; refine HDD.out.mono ?_; rintro e w4 ⟨cb, cc, rfl, hV4, hb4⟩)
  have hx4 : Below w4.heap.size w4 (w4.alloc (.cells #[.int .i64 3, .slice (some ⟨cb, 0, none⟩) 7 cc] 24)) := (Below.refl _ w4).alloc (Nat.le_refl _) _
  have hB4 := hb4.trans (hx4.mono hb4.size)
  have hq4 : (w4.alloc (.cells #[.int .i64 3, .slice (some ⟨cb, 0, none⟩) 7 cc] 24)).heap[w4.heap.size]? = some (.cells #[.int .i64 3, .slice (some ⟨cb, 0, none⟩) 7 cc] 24 (0, 0)) := World.alloc_heap_new w4 _
  have hN4 := (nodes_own (ns := smallD) hV4 (by decide)).below hx4 (nodes_own (ns := smallD) hV4 (by decide)).lt
  have hR4 := (HR3.out.below hB4).read
  have HB4 := hide (HB3.out.trans (hB4.mono HB3.out.size))
  generalize (w4.alloc (.cells #[.int .i64 3, .slice (some ⟨cb, 0, none⟩) 7 cc] 24)) = W4 at hq4 hN4 hR4 HB4 ⊢
  generalize w4.heap.size = QB at hq4 ⊢
  clear p0 p1 pl hV4 hb4 hx4 hB4 HDD HB3 HN3 HR3 HN2 HP2 HB2
  obtain ⟨a2, c2, r2, i2⟩ := hR4.row 2 (by decide)
  obtain ⟨a6, c6, r6, i6⟩ := hR4.row 6 (by decide)
  rw [smallL_two] at r2 i2
  rw [smallL_six] at r6 i6
  have rl := hR4.lt
  simp only [List.length_cons, List.length_nil, Nat.zero_add, Nat.reduceAdd] at r2 r6
  have HI2 := hide i2
  have HI6 := hide i6
  have HN4 := hide hN4
  have HQ4 := hide hq4
  have HRC := hide (And.intro r2 (And.intro r6 rl))
  clear hR4 i2 i6 hN4 hq4
  have heq := eq_skp4
  go_wp2_with fail
  have s2 := same_lit a2 c2 [0, 1] W4 HI2.out (Below.refl _ _) (by decide)
  refine s2.mono ?_
  rintro e w5 ⟨rfl, hb5⟩
  clear s2 r2 r6 rl
  have r6 := (hb5.cell (p := ⟨rb, 6, none⟩) HRC.out.2.2).trans HRC.out.2.1
  have rl := Nat.lt_of_lt_of_le HRC.out.2.2 hb5.size
  go_wp2_with fail
  have s6 := same_lit a6 c6 [2] w5 HI6.out hb5 (by decide)
  refine s6.mono ?_
  rintro e w6 ⟨rfl, hb6⟩
  clear s6 r6 rl
  have hq6 := (hb6.block _ (blk_lt HQ4.out)).trans HQ4.out
  have q1 := blk_cell hq6 1
  simp at q1
  have ql := blk_lt hq6
  have hN6 := HN4.out.below hb6 HN4.out.lt
  have e0 := hN6.c0 3 _ rfl
  have e1 := hN6.c1 3 _ rfl
  have e2 := hN6.c2 3 _ rfl
  have e3 := hN6.c3 3 _ rfl
  have e4 := hN6.c4 3 _ rfl
  have e5 := hN6.c5 3 _ rfl
  have f0 := hN6.c0 5 _ rfl
  simp only [Nat.zero_add, Nat.reduceMul, Nat.reduceAdd] at e0 e1 e2 e3 e4 e5 f0
  have nl := hN6.lt
  clear hq6 hN6
  go_wp2
  go_ret
  exact ⟨by simp, HB4.out.trans (hb6.mono HB4.out.size)⟩
end Go.Proofs.Ytoikglgnmjjpcab
