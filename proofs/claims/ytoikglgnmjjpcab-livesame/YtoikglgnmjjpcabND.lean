/-
  live.layOut and live.Live, walked.
-/
import Derived.Test.YtoikglgnmjjpcabNC
import Derived.Test.YtoikglgnmjjpcabLO
namespace Go.Proofs.Ytoikglgnmjjpcab
open Go.RowKit Go.Shelf
set_option linter.unusedVariables false
set_option linter.unusedSimpArgs false

theorem cells_setN {w : World} {b k : Nat} (h : k ≠ b) (o : Nat) (v : Value) : (w.setCell ⟨b, o, none⟩ v).heap[k]? = w.heap[k]? := Below.heap_setCell _ _ _ _ h

theorem clone_fit (b off cap : Nat) (ns : List Nd) (w : World) (hN : NodesAt w b off ns) (hl : 1 ≤ ns.length ∧ ns.length ≤ 512) :
    Calls Try.prog 38 #[.slice (some ⟨b, off, none⟩) ns.length cap] w fun e w' => ∃ cb cc, e = .returned (.slice (some ⟨cb, 0, none⟩) ns.length cc) ∧ w'.ownsRow w.heap.size 53 6 (.slice (some ⟨cb, 0, none⟩) ns.length cc) ns.length (ns.flatMap encNd) ∧ Below w.heap.size w w' := by
  refine (callsIn_wide.1 (clone_in 1 b off cap ns w hN hl)).mono ?_
  rintro e w' ⟨v, rfl, hv, hB⟩
  rcases hv.2 with ⟨_, q⟩ | ⟨g, vc, cur, rfl, _⟩
  · omega
  · exact ⟨g, vc, rfl, hv, hB⟩

theorem nodes_own {w : World} {base cb cc : Nat} {e : TypeId} {ns : List Nd} (h : w.ownsRow base e 6 (.slice (some ⟨cb, 0, none⟩) ns.length cc) ns.length (ns.flatMap encNd)) (hl : 1 ≤ ns.length) : NodesAt w cb 0 ns := by
  obtain ⟨a, c, e, hs⟩ := nodes_of_owns h
  cases e
  obtain ⟨b', o', e, hn⟩ := hs.some hl
  cases e
  exact hn

set_option maxHeartbeats 4000000 in
set_option maxRecDepth 100000 in
theorem layOut_any (r : Int) (b off cap : Nat) (ns : List Nd) (w : World) (hN : NodesAt w b off ns) (hc : chk r ns = 0) :
    Calls Try.prog 21 #[.agg #[.int .i64 r, .slice (some ⟨b, off, none⟩) ns.length cap]] w fun e w' => ∃ cb cc rb ab, e = .returned (.agg #[.slice (some ⟨cb, 0, none⟩) ns.length cc, .slice (some ⟨rb, 0, none⟩) ns.length ns.length, .slice (some ⟨ab, 0, none⟩) ns.length ns.length]) ∧ w'.ownsRow w.heap.size 53 6 (.slice (some ⟨cb, 0, none⟩) ns.length cc) ns.length (ns.flatMap encNd) ∧ RowsT w' rb ns.length (nxl ns) ∧ RowsT w' ab ns.length (ahl ns) ∧ Below w.heap.size w w' := by
  have HC := hide hc
  have HN := hide hN
  have hl := (chk_full hc).1
  clear hc hN
  have hbA : Below w.heap.size w ((w.alloc (.cells #[.int .i64 r, .slice (some ⟨b, off, none⟩) ns.length cap] 24)).alloc (.cells #[.slice none 0 0, .slice none 0 0, .slice none 0 0] 58)) := ((Below.refl _ w).alloc (Nat.le_refl _) _).alloc (by simp) _
  have hp : ((w.alloc (.cells #[.int .i64 r, .slice (some ⟨b, off, none⟩) ns.length cap] 24)).alloc (.cells #[.slice none 0 0, .slice none 0 0, .slice none 0 0] 58)).heap[w.heap.size]? = some (.cells #[.int .i64 r, .slice (some ⟨b, off, none⟩) ns.length cap] 24 (0, 0)) := (Below.heap_alloc _ _ _ (by simp)).trans (World.alloc_heap_new w _)
  have hq : ((w.alloc (.cells #[.int .i64 r, .slice (some ⟨b, off, none⟩) ns.length cap] 24)).alloc (.cells #[.slice none 0 0, .slice none 0 0, .slice none 0 0] 58)).heap[w.heap.size + 1]? = some (.cells #[.slice none 0 0, .slice none 0 0, .slice none 0 0] 58 (0, 0)) := by
    have := World.alloc_heap_new (w.alloc (.cells #[.int .i64 r, .slice (some ⟨b, off, none⟩) ns.length cap] 24)) (.cells #[.slice none 0 0, .slice none 0 0, .slice none 0 0] 58)
    rwa [World.size_alloc] at this
  go_enter Try.func21, Try.ntmps21
  go_upto_region 1 with fail
  generalize ((w.alloc (.cells #[.int .i64 r, .slice (some ⟨b, off, none⟩) ns.length cap] 24)).alloc (.cells #[.slice none 0 0, .slice none 0 0, .slice none 0 0] 58)) = W at hbA hp hq ⊢
  have HH : Hid (∀ u : World, Below W.heap.size W u → u.heap[w.heap.size]? = some (.cells #[.int .i64 r, .slice (some ⟨b, off, none⟩) ns.length cap] 24 (0, 0)) ∧ u.heap[w.heap.size + 1]? = some (.cells #[.slice none 0 0, .slice none 0 0, .slice none 0 0] 58 (0, 0))) := fun u h => ⟨(h.block _ (blk_lt hp)).trans hp, (h.block _ (blk_lt hq)).trans hq⟩
  have HS : Hid (∀ u : World, Below W.heap.size W u → u.cell? ⟨w.heap.size, 0, none⟩ = some (.int .i64 r) ∧ u.cell? ⟨w.heap.size, 1, none⟩ = some (.slice (some ⟨b, off, none⟩) ns.length cap)) := fun u h => by
    obtain ⟨k1, _⟩ := HH.out u h
    refine ⟨?_, ?_⟩
    · rw [blk_cell k1]; rfl
    · rw [blk_cell k1]; rfl
  have HNN : Hid (∀ u : World, Below W.heap.size W u → NodesAt u b off ns) := fun u h => HN.out.below (hbA.trans (h.mono hbA.size)) HN.out.lt
  have HW := hide hbA
  have hCC := HC.out
  clear hp hq hbA
  have XF : Hid (∀ u : World, Below W.heap.size W u → ∀ k, k < 3 → u.cell? ⟨w.heap.size + 1, k, none⟩ = #[.slice none 0 0, .slice none 0 0, .slice none 0 0][k]? ∧ u.frozen? ⟨w.heap.size + 1, k, none⟩ = false) := fun u h k _ => ⟨blk_cell (HH.out u h).2 k, blk_frozen (HH.out u h).2 k⟩
  have HSet : Hid (∀ (u : World) (v0 v1 v2 : Value), (u.cell? ⟨w.heap.size, 0, none⟩ = some (.int .i64 r) ∧ u.cell? ⟨w.heap.size, 1, none⟩ = some (.slice (some ⟨b, off, none⟩) ns.length cap)) → (((u.setCell ⟨w.heap.size + 1, 0, none⟩ v0).setCell ⟨w.heap.size + 1, 1, none⟩ v1).setCell ⟨w.heap.size + 1, 2, none⟩ v2).cell? ⟨w.heap.size, 0, none⟩ = some (.int .i64 r) ∧ (((u.setCell ⟨w.heap.size + 1, 0, none⟩ v0).setCell ⟨w.heap.size + 1, 1, none⟩ v1).setCell ⟨w.heap.size + 1, 2, none⟩ v2).cell? ⟨w.heap.size, 1, none⟩ = some (.slice (some ⟨b, off, none⟩) ns.length cap)) := fun u v0 v1 v2 h => by
    have e : ∀ (B k : Nat), B ≠ w.heap.size + 1 → (((u.setCell ⟨w.heap.size + 1, 0, none⟩ v0).setCell ⟨w.heap.size + 1, 1, none⟩ v1).setCell ⟨w.heap.size + 1, 2, none⟩ v2).cell? ⟨B, k, none⟩ = u.cell? ⟨B, k, none⟩ := fun B k h => World.cell?_of_block (by
      show (((u.setCell ⟨w.heap.size + 1, 0, none⟩ v0).setCell ⟨w.heap.size + 1, 1, none⟩ v1).setCell ⟨w.heap.size + 1, 2, none⟩ v2).heap[B]? = u.heap[B]?
      simp only [cells_setN h])
    simp only [e w.heap.size _ (by omega)]
    exact h
  go_region_held3 (fun u => u.cell? ⟨w.heap.size, 0, none⟩ = some (.int .i64 r) ∧ u.cell? ⟨w.heap.size, 1, none⟩ = some (.slice (some ⟨b, off, none⟩) ns.length cap)) (first
    | (with_reducible refine HSet.out _ _ _ _ ?_; exact HS.out _ hB3)
    | (with_reducible refine HS.out _ ?_; first | with_reducible exact hB3 | with_reducible exact hB2 | with_reducible exact hB1 | with_reducible exact (Below.refl _ W).drew | with_reducible exact (Below.refl _ W))) (first
    | (go_at_call 38; refine (clone_fit b off cap ns _ (by first | exact HNN.out _ (Below.refl _ W).drew | exact HNN.out _ (Below.refl _ W)) (by omega)).mono ?_; rintro e wa ⟨cb, cc, rfl, hV1, hba⟩; have hB1 : Below W.heap.size W wa := (by first | exact (Below.refl _ W).drew.trans hba | exact hba); have hsb : W.heap.size ≤ wa.heap.size := hB1.size)
    | (go_at_call 39; refine (linksNext_rows r b off cap ns _ (HNN.out _ hB1) hCC).mono ?_; rintro e wb ⟨rb, rfl, hR1, hbb⟩; have hB2 : Below W.heap.size W wb := hB1.trans (hbb.mono hB1.size))
    | (go_at_call 40; refine (linksAhead_rows r b off cap ns _ (HNN.out _ hB2) hCC).mono ?_; rintro e wcc ⟨ab, rfl, hR2, hbc⟩; have hB3 : Below W.heap.size W wcc := hB2.trans (hbc.mono hB2.size); have x0 := XF.out _ hB3 0 (by decide); have x1 := XF.out _ hB3 1 (by decide); have x2 := XF.out _ hB3 2 (by decide); simp at x0 x1 x2; have xl := blk_lt (HH.out _ hB3).2; obtain ⟨x00, x01⟩ := x0; obtain ⟨x10, x11⟩ := x1; obtain ⟨x20, x21⟩ := x2))
  all_goals have HV := hide (ownsRow_base (ownsRow_below (ownsRow_below hV1 hbb (Nat.le_refl _)) hbc (Nat.le_refl _)) (base' := w.heap.size) (by have := HW.out.size; simp; omega))
  all_goals have k0 := blk_set (i := 0) (.slice (some ⟨cb, 0, none⟩) ns.length cc) (HH.out _ hB3).2
  all_goals have k1 := blk_set (i := 1) (.slice (some ⟨rb, 0, none⟩) ns.length ns.length) k0
  all_goals have k2 := blk_set (i := 2) (.slice (some ⟨ab, 0, none⟩) ns.length ns.length) k1
  all_goals have T0 := owns_set (o := 2) (u := .slice (some ⟨ab, 0, none⟩) ns.length ns.length) (owns_set (o := 1) (u := .slice (some ⟨rb, 0, none⟩) ns.length ns.length) (owns_set (o := 0) (u := .slice (some ⟨cb, 0, none⟩) ns.length cc) HV.out (HH.out _ hB3).2 (by decide)) k0 (by decide)) k1 (by decide)
  all_goals have T1 := (((hR1.below hbc).set (o := 0) (u := .slice (some ⟨cb, 0, none⟩) ns.length cc) (HH.out _ hB3).2 (by decide) (by decide)).set (o := 1) (u := .slice (some ⟨rb, 0, none⟩) ns.length ns.length) k0 (by decide) (by decide)).set (o := 2) (u := .slice (some ⟨ab, 0, none⟩) ns.length ns.length) k1 (by decide) (by decide)
  all_goals have T2 := ((hR2.set (o := 0) (u := .slice (some ⟨cb, 0, none⟩) ns.length cc) (HH.out _ hB3).2 (by decide) (by decide)).set (o := 1) (u := .slice (some ⟨rb, 0, none⟩) ns.length ns.length) k0 (by decide) (by decide)).set (o := 2) (u := .slice (some ⟨ab, 0, none⟩) ns.length ns.length) k1 (by decide) (by decide)
  all_goals have hBf := (((HW.out.trans (hB3.mono HW.out.size)).setCell (p := ⟨w.heap.size + 1, 0, none⟩) (by simp) (.slice (some ⟨cb, 0, none⟩) ns.length cc)).setCell (p := ⟨w.heap.size + 1, 1, none⟩) (by simp) (.slice (some ⟨rb, 0, none⟩) ns.length ns.length)).setCell (p := ⟨w.heap.size + 1, 2, none⟩) (by simp) (.slice (some ⟨ab, 0, none⟩) ns.length ns.length)
  all_goals clear k0 k1 hR1 hR2 hV1 x00 x01 x10 x11 x20 x21
  all_goals simp only [List.setIfInBounds_toArray, List.set_cons_zero, List.set_cons_succ] at k2
  all_goals go_wp2_with fail
  all_goals generalize (((wcc.setCell ⟨w.heap.size + 1, 0, none⟩ (.slice (some ⟨cb, 0, none⟩) ns.length cc)).setCell ⟨w.heap.size + 1, 1, none⟩ (.slice (some ⟨rb, 0, none⟩) ns.length ns.length)).setCell ⟨w.heap.size + 1, 2, none⟩ (.slice (some ⟨ab, 0, none⟩) ns.length ns.length)) = Wf at k2 T0 T1 T2 hBf ⊢
  all_goals have y0 := blk_cell k2 0
  all_goals have y1 := blk_cell k2 1
  all_goals have y2 := blk_cell k2 2
  all_goals simp at y0 y1 y2
  all_goals exact bodyPost_ret (v := (.agg #[.slice (some ⟨cb, 0, none⟩) ns.length cc, .slice (some ⟨rb, 0, none⟩) ns.length ns.length, .slice (some ⟨ab, 0, none⟩) ns.length ns.length])) (by simp [results, Try.results21, go_sem, y0, y1, y2]) rfl ⟨cb, cc, rb, ab, rfl, T0, T1, T2, hBf⟩

theorem bitL_live {ns : List Nd} {L : List (BitVec 64)} (h : IsL ns L) {m : Nat} (hm : m < ns.length) : bitL (L.getD m 0#64) 64 = lvL ns 64 m := by
  unfold bitL lvL
  refine List.filter_congr fun j hj => ?_
  exact h.bit m j hm (List.mem_range.1 hj)

set_option maxHeartbeats 2000000 in
theorem live_wrong (r : Int) (a : Option Addr) (cap : Nat) (ns : List Nd) (w : World) (hN : SlN w a ns) (hc : chk r ns ≠ 0) :
    Calls Try.prog 6 #[.agg #[.int .i64 r, .slice a ns.length cap]] w fun e w' => e = .returned (.tuple #[.slice none 0 0, .int .i64 (chk r ns)]) ∧ Below w.heap.size w w' := by
  have hcb : (chk r ns == 0) = false := by simp [hc]
  have hcn : (chk r ns != 0) = true := by simp [hc]
  have hb0 : Below w.heap.size w (w.alloc (.cells #[.int .i64 r, .slice a ns.length cap] 24)) := (Below.refl _ w).alloc (Nat.le_refl _) _
  have HCK := hide (fun W (h : Below w.heap.size w W) => check_any r a cap ns W (hN.below h))
  clear hc hN
  generalize chk r ns = C at *
  go_enter Try.func6, Try.ntmps6
  go_wp2_with fail
  generalize (w.alloc (.cells #[.int .i64 r, .slice a ns.length cap] 24)) = W at hb0 ⊢
  refine (HCK.out _ hb0).mono ?_
  rintro e w1 ⟨rfl, hb1⟩
  go_wp2
  go_ret2
  exact ⟨rfl, hb0.trans (hb1.mono hb0.size)⟩

set_option maxHeartbeats 8000000 in
set_option maxRecDepth 100000 in
theorem live_right (r : Int) (b off cap : Nat) (ns : List Nd) (w : World) (hN : NodesAt w b off ns) (hc : chk r ns = 0) :
    Calls Try.prog 6 #[.agg #[.int .i64 r, .slice (some ⟨b, off, none⟩) ns.length cap]] w fun e w' => ∃ rb, e = .returned (.tuple #[.slice (some ⟨rb, 0, none⟩) ns.length ns.length, .int .i64 0]) ∧ RowsT w' rb ns.length (lvL ns 64) ∧ Below w.heap.size w w' := by
  have hl := (chk_full hc).1
  have hck := fun W (h : Below w.heap.size w W) => check_any r (some ⟨b, off, none⟩) cap ns W (Or.inr ⟨b, off, rfl, hN.below h hN.lt⟩)
  rw [hc] at hck
  have HCK := hide hck
  have HLO := hide (fun W (h : Below w.heap.size w W) => layOut_any r b off cap ns W (hN.below h hN.lt) hc)
  have HLV := hide (fun cb cc rb ab W (h1 : NodesAt W cb 0 ns) (h2 : RowsR W rb ns.length (nxl ns)) (h3 : RowsR W ab ns.length (ahl ns)) => live_any r ns cb 0 cc rb ab W h1 hc h2 h3)
  have hms : ∀ W : World, Sem.run Try.prog (Instr.makeSlice 25 (.int .i64 (ns.length : Int)) (.int .i64 (ns.length : Int))) W = .ok (.slice (some ⟨W.heap.size, 0, none⟩) ns.length ns.length) (W.alloc (.cells (madeCells #[.slice none 0 0] ns.length) 36)) := fun W => run_make_row' 25 36 _ 24 Try.underlying25 info_ints rfl .i64 .i64 ns.length (by omega) (by omega) W
  have hb0 : Below w.heap.size w (w.alloc (.cells #[.int .i64 r, .slice (some ⟨b, off, none⟩) ns.length cap] 24)) := (Below.refl _ w).alloc (Nat.le_refl _) _
  have hp0 : (w.alloc (.cells #[.int .i64 r, .slice (some ⟨b, off, none⟩) ns.length cap] 24)).heap[w.heap.size]? = some (.cells #[.int .i64 r, .slice (some ⟨b, off, none⟩) ns.length cap] 24 (0, 0)) := World.alloc_heap_new w _
  clear hc hck hN
  go_enter Try.func6, Try.ntmps6
  go_upto_region 1 with fail
  generalize (w.alloc (.cells #[.int .i64 r, .slice (some ⟨b, off, none⟩) ns.length cap] 24)) = W at hb0 hp0 ⊢
  have p0 := blk_cell hp0 0
  have p1 := blk_cell hp0 1
  simp at p0 p1
  have pl := blk_lt hp0
  have HB0 := hide hb0
  have HP0 := hide hp0
  clear hb0 hp0
  go_upto_region 2 with (go_at_call 20; refine (HCK.out _ HB0.out).mono ?_; rintro e w1 ⟨rfl, hb1⟩)
  have HB1 := hide (HB0.out.trans (hb1.mono HB0.out.size))
  have hp1 := (hb1.block _ pl).trans HP0.out
  clear p0 p1 pl hb1 HB0 HP0
  have p0 := blk_cell hp1 0
  have p1 := blk_cell hp1 1
  simp at p0 p1
  have pl := blk_lt hp1
  have HP1 := hide hp1
  clear hp1
  go_upto_region 5 with fail
  have hB2 : Below w1.heap.size w1 (w1.alloc (.cells (madeCells #[.slice none 0 0] ns.length) 36)) := (Below.refl _ w1).alloc (Nat.le_refl _) _
  have hR2 : (w1.alloc (.cells (madeCells #[.slice none 0 0] ns.length) 36)).heap[w1.heap.size]? = some (.cells (List.replicate ns.length (Value.slice none 0 0)).toArray 36 (0, 0)) := by
    have := World.alloc_heap_new w1 (.cells (madeCells #[.slice none 0 0] ns.length) 36)
    rw [made_rows] at this ⊢; exact this
  have hp2 := (hB2.block _ pl).trans HP1.out
  have HB2 := hide (HB1.out.trans (hB2.mono HB1.out.size))
  have hs2 : (w1.alloc (.cells (madeCells #[.slice none 0 0] ns.length) 36)).heap.size = w1.heap.size + 1 := by simp
  generalize (w1.alloc (.cells (madeCells #[.slice none 0 0] ns.length) 36)) = Wb at hB2 hR2 hp2 HB2 hs2 ⊢
  have hws := HB1.out.size
  generalize w1.heap.size = RB at hR2 hs2 hws ⊢
  clear p0 p1 pl HP1 HB1 hB2 hms
  have p0 := blk_cell hp2 0
  have p1 := blk_cell hp2 1
  simp at p0 p1
  have pl := blk_lt hp2
  have HR2 := hide hR2
  have HS2 := hide hs2
  clear hp2 hR2 hs2
  go_wp2_with fail
  refine (HLO.out _ HB2.out).mono ?_
  rintro e w3 ⟨cb, cc, rb, ab, rfl, hV3, hR3, hA3, hb3⟩
  have HB3 := hide (HB2.out.trans (hb3.mono HB2.out.size))
  have HR3 := hide ((hb3.block _ (blk_lt HR2.out)).trans HR2.out)
  have hs3 := hb3.size
  clear p0 p1 pl
  go_wp2_with fail
  refine (HLV.out cb cc rb ab w3 (nodes_own hV3 hl.1) hR3.read hA3.read).mono ?_
  rintro e w4 ⟨lb, L, rfl, hlb, hIL, hM4, hb4⟩
  have HR4 := hide ((hb4.block _ (blk_lt HR3.out)).trans HR3.out)
  have HB4 := hide (HB3.out.trans (hb4.mono HB3.out.size))
  have HM4 := hide hM4
  have HIL := hide hIL
  have hne : lb ≠ RB := by have := HS2.out; omega
  have hLl := hIL.len
  have HLL := hide hLl
  have hwb : w.heap.size ≤ RB := hws
  clear hV3 hR3 hA3 hb3 hb4 hM4 hIL HB3 HR3 hs3 hLl hlb
  go_wp2_with fail
  go_loopw [21] (fun i wr => ∃ k : Nat, k ≤ ns.length ∧ i = .int .i64 k ∧ (∃ vs : List Value, wr.heap[RB]? = some (.cells vs.toArray 36 (0, 0)) ∧ vs.length = ns.length ∧ ∀ m, m < k → ∃ v, vs[m]? = some v ∧ wr.ownsRow 0 3 1 v (lvL ns 64 m).length ((ints (lvL ns 64 m)).map (Value.int .i64))) ∧ wr.heap[lb]? = some (.cells (maskC L) 62 (0, 0)) ∧ Below w.heap.size w wr) (fun i _ => ns.length - (intOf i).toNat)
  case atStart => exact ⟨0, Nat.zero_le _, rfl, ⟨_, HR4.out, by simp, fun m hm => absurd hm (by omega)⟩, HM4.out, HB4.out⟩
  case round =>
    obtain ⟨k, hk, rfl, ⟨vs, hR, hvl, hrow⟩, hM, hb⟩ := hrel
    have hsz := hb.size
    have hRl := blk_lt hR
    have hMl := blk_lt hM
    by_cases hlt : k < ns.length
    · have hmc : wr.cell? ⟨lb, k, none⟩ = some (.int .u64 ((L.getD k 0#64).toNat : Int)) := by rw [blk_cell hM, maskC_get (by rw [HLL.out]; exact hlt)]
      have HR := hide hR
      have HV := hide hrow
      have HM := hide hM
      have HBL := hide (bitL_live HIL.out hlt)
      have hli : (k : Int) < (ns.length : Int) := by omega
      have hvk : k < vs.length := by omega
      have HVL := hide hvl
      have HB := hide hb
      clear hR hrow hM hvl hb
      generalize L.getD k 0#64 = M at hmc HBL
      go_wp2_with fail
      refine (rising_any M wr).mono ?_
      rintro e w5 ⟨v, rfl, hown, hb5⟩
      rw [HBL.out] at hown
      obtain ⟨va, vc, rfl⟩ := owns_slice hown
      have hR5 := (hb5.block _ hRl).trans HR.out
      have hR5l := blk_lt hR5
      have hRc : w5.cell? ⟨RB, k, none⟩ = some (vs[k]'hvk) := by
        rw [blk_cell hR5, List.getElem?_toArray]; exact List.getElem?_eq_getElem _
      have hRf := blk_frozen hR5 k
      have HO := hide hown
      have HR5 := hide hR5
      have HB5 := hide hb5
      have HM5 := hide ((hb5.block _ hMl).trans HM.out)
      have HVK := hide hvk
      generalize vs[k]'hvk = vk at hRc
      clear hown hR5 hb5 hmc hvk
      go_wp2_with fail
      go_roundw
      case rel =>
        refine ⟨k + 1, by omega, by go_num, ⟨vs.set k (.slice va (lvL ns 64 k).length vc), ?_, by simp [HVL.out], fun m hm => ?_⟩, ?_, (HB.out.trans (HB5.out.mono hsz)).setCell (p := ⟨RB, k, none⟩) hwb _⟩
        · rw [blk_set _ HR5.out]; simp
        · by_cases e : m = k
          · subst e
            exact ⟨_, by rw [List.getElem?_set_self HVK.out], owns_set (ownsRow_base HO.out (Nat.zero_le _)) HR5.out (by decide)⟩
          · obtain ⟨u, h1, h2⟩ := HV.out m (by omega)
            exact ⟨u, by rw [List.getElem?_set_ne (fun q => e q.symm)]; exact h1, owns_set (ownsRow_below h2 HB5.out (Nat.le_refl _)) HR5.out (by decide)⟩
        · exact (Below.heap_setCell _ _ _ _ hne).trans HM5.out
      case measure => simp [intOf]; omega
    · have ek : k = ns.length := by omega
      subst ek
      have HR := hide hR
      have HV := hide hrow
      have HVL := hide hvl
      have HB := hide hb
      clear hR hrow hM hvl hb
      go_wp2
      go_ret2
      refine ⟨RB, rfl, ⟨vs, HR.out, HVL.out, fun m v hv => ?_⟩, HB.out⟩
      have hm : m < ns.length := by rw [← HVL.out]; exact (List.getElem?_eq_some_iff.1 hv).1
      obtain ⟨u, h1, h2⟩ := HV.out m hm
      rw [hv] at h1
      cases h1
      rw [ints_len]; exact h2

end Go.Proofs.Ytoikglgnmjjpcab
