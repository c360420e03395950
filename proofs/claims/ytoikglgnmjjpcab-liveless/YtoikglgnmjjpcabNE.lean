/-
  live.Dead, walked.
  live.layOut and live.Live, walked.
-/
import Derived.Test.YtoikglgnmjjpcabNC
import Derived.Test.YtoikglgnmjjpcabLO
import Derived.Test.YtoikglgnmjjpcabLP
import Derived.ScopeJumps
import Derived.WalkMore
namespace Go.Proofs.Ytoikglgnmjjpcab
open Go.RowKit Go.Shelf
set_option linter.unusedVariables false
set_option linter.unusedSimpArgs false

theorem cells_setN {w : World} {b k : Nat} (h : k ≠ b) (o : Nat) (v : Value) : (w.setCell ⟨b, o, none⟩ v).heap[k]? = w.heap[k]? := Below.heap_setCell _ _ _ _ h

theorem clone_fit (b off cap : Nat) (ns : List Nd) (w : World) (hN : NodesAt w b off ns) (hl : 1 ≤ ns.length ∧ ns.length ≤ 512) :
    Calls Try.prog 38 #[.slice (some ⟨b, off, none⟩) ns.length cap] w fun e w' => ∃ cb cc, e = .returned (.slice (some ⟨cb, 0, none⟩) ns.length cc) ∧ w'.ownsRow w.heap.size 53 6 (.slice (some ⟨cb, 0, none⟩) ns.length cc) ns.length (ns.flatMap encNd) ∧ Below w.heap.size w w' := by
  refine (callsIn_wide.1 (clone_in 1 b off cap ns w hN hl)).mono ?_
  rintro e w' ⟨v, rfl, hv, hB⟩
  rcases hv.2 with ⟨_, q⟩ | ⟨g, vc, cur, rfl, _⟩
  · omega
  · exact ⟨g, vc, rfl, hv, hB⟩

theorem nodes_own {w : World} {base cb cc : Nat} {e : TypeId} {ns : List Nd} (h : w.ownsRow base e 6 (.slice (some ⟨cb, 0, none⟩) ns.length cc) ns.length (ns.flatMap encNd)) (hl : 1 ≤ ns.length) : NodesAt w cb 0 ns := by
  obtain ⟨a, c, e, hs⟩ := nodes_of_owns h
  cases e
  obtain ⟨b', o', e, hn⟩ := hs.some hl
  cases e
  exact hn

set_option maxHeartbeats 4000000 in
set_option maxRecDepth 100000 in
theorem layOut_any (r : Int) (b off cap : Nat) (ns : List Nd) (w : World) (hN : NodesAt w b off ns) (hc : chk r ns = 0) :
    Calls Try.prog 21 #[.agg #[.int .i64 r, .slice (some ⟨b, off, none⟩) ns.length cap]] w fun e w' => ∃ cb cc rb ab, e = .returned (.agg #[.slice (some ⟨cb, 0, none⟩) ns.length cc, .slice (some ⟨rb, 0, none⟩) ns.length ns.length, .slice (some ⟨ab, 0, none⟩) ns.length ns.length]) ∧ w'.ownsRow w.heap.size 53 6 (.slice (some ⟨cb, 0, none⟩) ns.length cc) ns.length (ns.flatMap encNd) ∧ RowsT w' rb ns.length (nxl ns) ∧ RowsT w' ab ns.length (ahl ns) ∧ Below w.heap.size w w' := by
  have HC := hide hc
  have HN := hide hN
  have hl := (chk_full hc).1
  clear hc hN
  have hbA : Below w.heap.size w ((w.alloc (.cells #[.int .i64 r, .slice (some ⟨b, off, none⟩) ns.length cap] 24)).alloc (.cells #[.slice none 0 0, .slice none 0 0, .slice none 0 0] 58)) := ((Below.refl _ w).alloc (Nat.le_refl _) _).alloc (by simp) _
  have hp : ((w.alloc (.cells #[.int .i64 r, .slice (some ⟨b, off, none⟩) ns.length cap] 24)).alloc (.cells #[.slice none 0 0, .slice none 0 0, .slice none 0 0] 58)).heap[w.heap.size]? = some (.cells #[.int .i64 r, .slice (some ⟨b, off, none⟩) ns.length cap] 24 (0, 0)) := (Below.heap_alloc _ _ _ (by simp)).trans (World.alloc_heap_new w _)
  have hq : ((w.alloc (.cells #[.int .i64 r, .slice (some ⟨b, off, none⟩) ns.length cap] 24)).alloc (.cells #[.slice none 0 0, .slice none 0 0, .slice none 0 0] 58)).heap[w.heap.size + 1]? = some (.cells #[.slice none 0 0, .slice none 0 0, .slice none 0 0] 58 (0, 0)) := by
    have := World.alloc_heap_new (w.alloc (.cells #[.int .i64 r, .slice (some ⟨b, off, none⟩) ns.length cap] 24)) (.cells #[.slice none 0 0, .slice none 0 0, .slice none 0 0] 58)
    rwa [World.size_alloc] at this
  go_enter Try.func21, Try.ntmps21
  go_upto_region 1 with fail
  generalize ((w.alloc (.cells #[.int .i64 r, .slice (some ⟨b, off, none⟩) ns.length cap] 24)).alloc (.cells #[.slice none 0 0, .slice none 0 0, .slice none 0 0] 58)) = W at hbA hp hq ⊢
  have HH : Hid (∀ u : World, Below W.heap.size W u → u.heap[w.heap.size]? = some (.cells #[.int .i64 r, .slice (some ⟨b, off, none⟩) ns.length cap] 24 (0, 0)) ∧ u.heap[w.heap.size + 1]? = some (.cells #[.slice none 0 0, .slice none 0 0, .slice none 0 0] 58 (0, 0))) := fun u h => ⟨(h.block _ (blk_lt hp)).trans hp, (h.block _ (blk_lt hq)).trans hq⟩
  have HS : Hid (∀ u : World, Below W.heap.size W u → u.cell? ⟨w.heap.size, 0, none⟩ = some (.int .i64 r) ∧ u.cell? ⟨w.heap.size, 1, none⟩ = some (.slice (some ⟨b, off, none⟩) ns.length cap)) := fun u h => by
    obtain ⟨k1, _⟩ := HH.out u h
    refine ⟨?_, ?_⟩
    · rw [blk_cell k1]; rfl
    · rw [blk_cell k1]; rfl
  have HNN : Hid (∀ u : World, Below W.heap.size W u → NodesAt u b off ns) := fun u h => HN.out.below (hbA.trans (h.mono hbA.size)) HN.out.lt
  have HW := hide hbA
  have hCC := HC.out
  clear hp hq hbA
  have XF : Hid (∀ u : World, Below W.heap.size W u → ∀ k, k < 3 → u.cell? ⟨w.heap.size + 1, k, none⟩ = #[.slice none 0 0, .slice none 0 0, .slice none 0 0][k]? ∧ u.frozen? ⟨w.heap.size + 1, k, none⟩ = false) := fun u h k _ => ⟨blk_cell (HH.out u h).2 k, blk_frozen (HH.out u h).2 k⟩
  have HSet : Hid (∀ (u : World) (v0 v1 v2 : Value), (u.cell? ⟨w.heap.size, 0, none⟩ = some (.int .i64 r) ∧ u.cell? ⟨w.heap.size, 1, none⟩ = some (.slice (some ⟨b, off, none⟩) ns.length cap)) → (((u.setCell ⟨w.heap.size + 1, 0, none⟩ v0).setCell ⟨w.heap.size + 1, 1, none⟩ v1).setCell ⟨w.heap.size + 1, 2, none⟩ v2).cell? ⟨w.heap.size, 0, none⟩ = some (.int .i64 r) ∧ (((u.setCell ⟨w.heap.size + 1, 0, none⟩ v0).setCell ⟨w.heap.size + 1, 1, none⟩ v1).setCell ⟨w.heap.size + 1, 2, none⟩ v2).cell? ⟨w.heap.size, 1, none⟩ = some (.slice (some ⟨b, off, none⟩) ns.length cap)) := fun u v0 v1 v2 h => by
    have e : ∀ (B k : Nat), B ≠ w.heap.size + 1 → (((u.setCell ⟨w.heap.size + 1, 0, none⟩ v0).setCell ⟨w.heap.size + 1, 1, none⟩ v1).setCell ⟨w.heap.size + 1, 2, none⟩ v2).cell? ⟨B, k, none⟩ = u.cell? ⟨B, k, none⟩ := fun B k h => World.cell?_of_block (by
      show (((u.setCell ⟨w.heap.size + 1, 0, none⟩ v0).setCell ⟨w.heap.size + 1, 1, none⟩ v1).setCell ⟨w.heap.size + 1, 2, none⟩ v2).heap[B]? = u.heap[B]?
      simp only [cells_setN h])
    simp only [e w.heap.size _ (by omega)]
    exact h
  go_region_held3 (fun u => u.cell? ⟨w.heap.size, 0, none⟩ = some (.int .i64 r) ∧ u.cell? ⟨w.heap.size, 1, none⟩ = some (.slice (some ⟨b, off, none⟩) ns.length cap)) (first
    | (with_reducible refine HSet.out _ _ _ _ ?_; exact HS.out _ hB3)
    | (with_reducible refine HS.out _ ?_; first | with_reducible exact hB3 | with_reducible exact hB2 | with_reducible exact hB1 | with_reducible exact (Below.refl _ W).drew | with_reducible exact (Below.refl _ W))) (first
    | (go_at_call 38; refine (clone_fit b off cap ns _ (by first | exact HNN.out _ (Below.refl _ W).drew | exact HNN.out _ (Below.refl _ W)) (by omega)).mono ?_; rintro e wa ⟨cb, cc, rfl, hV1, hba⟩; have hB1 : Below W.heap.size W wa := (by first | exact (Below.refl _ W).drew.trans hba | exact hba); have hsb : W.heap.size ≤ wa.heap.size := hB1.size)
    | (go_at_call 39; refine (linksNext_rows r b off cap ns _ (HNN.out _ hB1) hCC).mono ?_; rintro e wb ⟨rb, rfl, hR1, hbb⟩; have hB2 : Below W.heap.size W wb := hB1.trans (hbb.mono hB1.size))
    | (go_at_call 40; refine (linksAhead_rows r b off cap ns _ (HNN.out _ hB2) hCC).mono ?_; rintro e wcc ⟨ab, rfl, hR2, hbc⟩; have hB3 : Below W.heap.size W wcc := hB2.trans (hbc.mono hB2.size); have x0 := XF.out _ hB3 0 (by decide); have x1 := XF.out _ hB3 1 (by decide); have x2 := XF.out _ hB3 2 (by decide); simp at x0 x1 x2; have xl := blk_lt (HH.out _ hB3).2; obtain ⟨x00, x01⟩ := x0; obtain ⟨x10, x11⟩ := x1; obtain ⟨x20, x21⟩ := x2))
  all_goals have HV := hide (ownsRow_base (ownsRow_below (ownsRow_below hV1 hbb (Nat.le_refl _)) hbc (Nat.le_refl _)) (base' := w.heap.size) (by have := HW.out.size; simp; omega))
  all_goals have k0 := blk_set (i := 0) (.slice (some ⟨cb, 0, none⟩) ns.length cc) (HH.out _ hB3).2
  all_goals have k1 := blk_set (i := 1) (.slice (some ⟨rb, 0, none⟩) ns.length ns.length) k0
  all_goals have k2 := blk_set (i := 2) (.slice (some ⟨ab, 0, none⟩) ns.length ns.length) k1
  all_goals have T0 := owns_set (o := 2) (u := .slice (some ⟨ab, 0, none⟩) ns.length ns.length) (owns_set (o := 1) (u := .slice (some ⟨rb, 0, none⟩) ns.length ns.length) (owns_set (o := 0) (u := .slice (some ⟨cb, 0, none⟩) ns.length cc) HV.out (HH.out _ hB3).2 (by decide)) k0 (by decide)) k1 (by decide)
  all_goals have T1 := (((hR1.below hbc).set (o := 0) (u := .slice (some ⟨cb, 0, none⟩) ns.length cc) (HH.out _ hB3).2 (by decide) (by decide)).set (o := 1) (u := .slice (some ⟨rb, 0, none⟩) ns.length ns.length) k0 (by decide) (by decide)).set (o := 2) (u := .slice (some ⟨ab, 0, none⟩) ns.length ns.length) k1 (by decide) (by decide)
  all_goals have T2 := ((hR2.set (o := 0) (u := .slice (some ⟨cb, 0, none⟩) ns.length cc) (HH.out _ hB3).2 (by decide) (by decide)).set (o := 1) (u := .slice (some ⟨rb, 0, none⟩) ns.length ns.length) k0 (by decide) (by decide)).set (o := 2) (u := .slice (some ⟨ab, 0, none⟩) ns.length ns.length) k1 (by decide) (by decide)
  all_goals have hBf := (((HW.out.trans (hB3.mono HW.out.size)).setCell (p := ⟨w.heap.size + 1, 0, none⟩) (by simp) (.slice (some ⟨cb, 0, none⟩) ns.length cc)).setCell (p := ⟨w.heap.size + 1, 1, none⟩) (by simp) (.slice (some ⟨rb, 0, none⟩) ns.length ns.length)).setCell (p := ⟨w.heap.size + 1, 2, none⟩) (by simp) (.slice (some ⟨ab, 0, none⟩) ns.length ns.length)
  all_goals clear k0 k1 hR1 hR2 hV1 x00 x01 x10 x11 x20 x21
  all_goals simp only [List.setIfInBounds_toArray, List.set_cons_zero, List.set_cons_succ] at k2
  all_goals go_wp2_with fail
  all_goals generalize (((wcc.setCell ⟨w.heap.size + 1, 0, none⟩ (.slice (some ⟨cb, 0, none⟩) ns.length cc)).setCell ⟨w.heap.size + 1, 1, none⟩ (.slice (some ⟨rb, 0, none⟩) ns.length ns.length)).setCell ⟨w.heap.size + 1, 2, none⟩ (.slice (some ⟨ab, 0, none⟩) ns.length ns.length)) = Wf at k2 T0 T1 T2 hBf ⊢
  all_goals have y0 := blk_cell k2 0
  all_goals have y1 := blk_cell k2 1
  all_goals have y2 := blk_cell k2 2
  all_goals simp at y0 y1 y2
  all_goals exact bodyPost_ret (v := (.agg #[.slice (some ⟨cb, 0, none⟩) ns.length cc, .slice (some ⟨rb, 0, none⟩) ns.length ns.length, .slice (some ⟨ab, 0, none⟩) ns.length ns.length])) (by simp [results, Try.results21, go_sem, y0, y1, y2]) rfl ⟨cb, cc, rb, ab, rfl, T0, T1, T2, hBf⟩

theorem bitL_live {ns : List Nd} {L : List (BitVec 64)} (h : IsL ns L) {m : Nat} (hm : m < ns.length) : bitL (L.getD m 0#64) 64 = lvL ns 64 m := by
  unfold bitL lvL
  refine List.filter_congr fun j hj => ?_
  exact h.bit m j hm (List.mem_range.1 hj)

set_option maxHeartbeats 2000000 in
theorem live_wrong (r : Int) (a : Option Addr) (cap : Nat) (ns : List Nd) (w : World) (hN : SlN w a ns) (hc : chk r ns ≠ 0) :
    Calls Try.prog 6 #[.agg #[.int .i64 r, .slice a ns.length cap]] w fun e w' => e = .returned (.tuple #[.slice none 0 0, .int .i64 (chk r ns)]) ∧ Below w.heap.size w w' := by
  have hcb : (chk r ns == 0) = false := by simp [hc]
  have hcn : (chk r ns != 0) = true := by simp [hc]
  have hb0 : Below w.heap.size w (w.alloc (.cells #[.int .i64 r, .slice a ns.length cap] 24)) := (Below.refl _ w).alloc (Nat.le_refl _) _
  have HCK := hide (fun W (h : Below w.heap.size w W) => check_any r a cap ns W (hN.below h))
  clear hc hN
  generalize chk r ns = C at *
  go_enter Try.func6, Try.ntmps6
  go_wp2_with fail
  generalize (w.alloc (.cells #[.int .i64 r, .slice a ns.length cap] 24)) = W at hb0 ⊢
  refine (HCK.out _ hb0).mono ?_
  rintro e w1 ⟨rfl, hb1⟩
  go_wp2
  go_ret2
  exact ⟨rfl, hb0.trans (hb1.mono hb0.size)⟩

set_option maxHeartbeats 8000000 in
set_option maxRecDepth 100000 in
theorem live_right (r : Int) (b off cap : Nat) (ns : List Nd) (w : World) (hN : NodesAt w b off ns) (hc : chk r ns = 0) :
    Calls Try.prog 6 #[.agg #[.int .i64 r, .slice (some ⟨b, off, none⟩) ns.length cap]] w fun e w' => ∃ rb, e = .returned (.tuple #[.slice (some ⟨rb, 0, none⟩) ns.length ns.length, .int .i64 0]) ∧ RowsT w' rb ns.length (lvL ns 64) ∧ Below w.heap.size w w' := by
  have hl := (chk_full hc).1
  have hck := fun W (h : Below w.heap.size w W) => check_any r (some ⟨b, off, none⟩) cap ns W (Or.inr ⟨b, off, rfl, hN.below h hN.lt⟩)
  rw [hc] at hck
  have HCK := hide hck
  have HLO := hide (fun W (h : Below w.heap.size w W) => layOut_any r b off cap ns W (hN.below h hN.lt) hc)
  have HLV := hide (fun cb cc rb ab W (h1 : NodesAt W cb 0 ns) (h2 : RowsR W rb ns.length (nxl ns)) (h3 : RowsR W ab ns.length (ahl ns)) => live_any r ns cb 0 cc rb ab W h1 hc h2 h3)
  have hms : ∀ W : World, Sem.run Try.prog (Instr.makeSlice 25 (.int .i64 (ns.length : Int)) (.int .i64 (ns.length : Int))) W = .ok (.slice (some ⟨W.heap.size, 0, none⟩) ns.length ns.length) (W.alloc (.cells (madeCells #[.slice none 0 0] ns.length) 36)) := fun W => run_make_row' 25 36 _ 24 Try.underlying25 info_ints rfl .i64 .i64 ns.length (by omega) (by omega) W
  have hb0 : Below w.heap.size w (w.alloc (.cells #[.int .i64 r, .slice (some ⟨b, off, none⟩) ns.length cap] 24)) := (Below.refl _ w).alloc (Nat.le_refl _) _
  have hp0 : (w.alloc (.cells #[.int .i64 r, .slice (some ⟨b, off, none⟩) ns.length cap] 24)).heap[w.heap.size]? = some (.cells #[.int .i64 r, .slice (some ⟨b, off, none⟩) ns.length cap] 24 (0, 0)) := World.alloc_heap_new w _
  clear hc hck hN
  go_enter Try.func6, Try.ntmps6
  go_upto_region 1 with fail
  generalize (w.alloc (.cells #[.int .i64 r, .slice (some ⟨b, off, none⟩) ns.length cap] 24)) = W at hb0 hp0 ⊢
  have p0 := blk_cell hp0 0
  have p1 := blk_cell hp0 1
  simp at p0 p1
  have pl := blk_lt hp0
  have HB0 := hide hb0
  have HP0 := hide hp0
  clear hb0 hp0
  go_upto_region 2 with (go_at_call 20; refine (HCK.out _ HB0.out).mono ?_; rintro e w1 ⟨rfl, hb1⟩)
  have HB1 := hide (HB0.out.trans (hb1.mono HB0.out.size))
  have hp1 := (hb1.block _ pl).trans HP0.out
  clear p0 p1 pl hb1 HB0 HP0
  have p0 := blk_cell hp1 0
  have p1 := blk_cell hp1 1
  simp at p0 p1
  have pl := blk_lt hp1
  have HP1 := hide hp1
  clear hp1
  go_upto_region 5 with fail
  have hB2 : Below w1.heap.size w1 (w1.alloc (.cells (madeCells #[.slice none 0 0] ns.length) 36)) := (Below.refl _ w1).alloc (Nat.le_refl _) _
  have hR2 : (w1.alloc (.cells (madeCells #[.slice none 0 0] ns.length) 36)).heap[w1.heap.size]? = some (.cells (List.replicate ns.length (Value.slice none 0 0)).toArray 36 (0, 0)) := by
    have := World.alloc_heap_new w1 (.cells (madeCells #[.slice none 0 0] ns.length) 36)
    rw [made_rows] at this ⊢; exact this
  have hp2 := (hB2.block _ pl).trans HP1.out
  have HB2 := hide (HB1.out.trans (hB2.mono HB1.out.size))
  have hs2 : (w1.alloc (.cells (madeCells #[.slice none 0 0] ns.length) 36)).heap.size = w1.heap.size + 1 := by simp
  generalize (w1.alloc (.cells (madeCells #[.slice none 0 0] ns.length) 36)) = Wb at hB2 hR2 hp2 HB2 hs2 ⊢
  have hws := HB1.out.size
  generalize w1.heap.size = RB at hR2 hs2 hws ⊢
  clear p0 p1 pl HP1 HB1 hB2 hms
  have p0 := blk_cell hp2 0
  have p1 := blk_cell hp2 1
  simp at p0 p1
  have pl := blk_lt hp2
  have HR2 := hide hR2
  have HS2 := hide hs2
  clear hp2 hR2 hs2
  go_wp2_with fail
  refine (HLO.out _ HB2.out).mono ?_
  rintro e w3 ⟨cb, cc, rb, ab, rfl, hV3, hR3, hA3, hb3⟩
  have HB3 := hide (HB2.out.trans (hb3.mono HB2.out.size))
  have HR3 := hide ((hb3.block _ (blk_lt HR2.out)).trans HR2.out)
  have hs3 := hb3.size
  clear p0 p1 pl
  go_wp2_with fail
  refine (HLV.out cb cc rb ab w3 (nodes_own hV3 hl.1) hR3.read hA3.read).mono ?_
  rintro e w4 ⟨lb, L, rfl, hlb, hIL, hM4, hb4⟩
  have HR4 := hide ((hb4.block _ (blk_lt HR3.out)).trans HR3.out)
  have HB4 := hide (HB3.out.trans (hb4.mono HB3.out.size))
  have HM4 := hide hM4
  have HIL := hide hIL
  have hne : lb ≠ RB := by have := HS2.out; omega
  have hLl := hIL.len
  have HLL := hide hLl
  have hwb : w.heap.size ≤ RB := hws
  clear hV3 hR3 hA3 hb3 hb4 hM4 hIL HB3 HR3 hs3 hLl hlb
  go_wp2_with fail
  go_loopw [21] (fun i wr => ∃ k : Nat, k ≤ ns.length ∧ i = .int .i64 k ∧ (∃ vs : List Value, wr.heap[RB]? = some (.cells vs.toArray 36 (0, 0)) ∧ vs.length = ns.length ∧ ∀ m, m < k → ∃ v, vs[m]? = some v ∧ wr.ownsRow 0 3 1 v (lvL ns 64 m).length ((ints (lvL ns 64 m)).map (Value.int .i64))) ∧ wr.heap[lb]? = some (.cells (maskC L) 62 (0, 0)) ∧ Below w.heap.size w wr) (fun i _ => ns.length - (intOf i).toNat)
  case atStart => exact ⟨0, Nat.zero_le _, rfl, ⟨_, HR4.out, by simp, fun m hm => absurd hm (by omega)⟩, HM4.out, HB4.out⟩
  case round =>
    obtain ⟨k, hk, rfl, ⟨vs, hR, hvl, hrow⟩, hM, hb⟩ := hrel
    have hsz := hb.size
    have hRl := blk_lt hR
    have hMl := blk_lt hM
    by_cases hlt : k < ns.length
    · have hmc : wr.cell? ⟨lb, k, none⟩ = some (.int .u64 ((L.getD k 0#64).toNat : Int)) := by rw [blk_cell hM, maskC_get (by rw [HLL.out]; exact hlt)]
      have HR := hide hR
      have HV := hide hrow
      have HM := hide hM
      have HBL := hide (bitL_live HIL.out hlt)
      have hli : (k : Int) < (ns.length : Int) := by omega
      have hvk : k < vs.length := by omega
      have HVL := hide hvl
      have HB := hide hb
      clear hR hrow hM hvl hb
      generalize L.getD k 0#64 = M at hmc HBL
      go_wp2_with fail
      refine (rising_any M wr).mono ?_
      rintro e w5 ⟨v, rfl, hown, hb5⟩
      rw [HBL.out] at hown
      obtain ⟨va, vc, rfl⟩ := owns_slice hown
      have hR5 := (hb5.block _ hRl).trans HR.out
      have hR5l := blk_lt hR5
      have hRc : w5.cell? ⟨RB, k, none⟩ = some (vs[k]'hvk) := by
        rw [blk_cell hR5, List.getElem?_toArray]; exact List.getElem?_eq_getElem _
      have hRf := blk_frozen hR5 k
      have HO := hide hown
      have HR5 := hide hR5
      have HB5 := hide hb5
      have HM5 := hide ((hb5.block _ hMl).trans HM.out)
      have HVK := hide hvk
      generalize vs[k]'hvk = vk at hRc
      clear hown hR5 hb5 hmc hvk
      go_wp2_with fail
      go_roundw
      case rel =>
        refine ⟨k + 1, by omega, by go_num, ⟨vs.set k (.slice va (lvL ns 64 k).length vc), ?_, by simp [HVL.out], fun m hm => ?_⟩, ?_, (HB.out.trans (HB5.out.mono hsz)).setCell (p := ⟨RB, k, none⟩) hwb _⟩
        · rw [blk_set _ HR5.out]; simp
        · by_cases e : m = k
          · subst e
            exact ⟨_, by rw [List.getElem?_set_self HVK.out], owns_set (ownsRow_base HO.out (Nat.zero_le _)) HR5.out (by decide)⟩
          · obtain ⟨u, h1, h2⟩ := HV.out m (by omega)
            exact ⟨u, by rw [List.getElem?_set_ne (fun q => e q.symm)]; exact h1, owns_set (ownsRow_below h2 HB5.out (Nat.le_refl _)) HR5.out (by decide)⟩
        · exact (Below.heap_setCell _ _ _ _ hne).trans HM5.out
      case measure => simp [intOf]; omega
    · have ek : k = ns.length := by omega
      subst ek
      have HR := hide hR
      have HV := hide hrow
      have HVL := hide hvl
      have HB := hide hb
      clear hR hrow hM hvl hb
      go_wp2
      go_ret2
      refine ⟨RB, rfl, ⟨vs, HR.out, HVL.out, fun m v hv => ?_⟩, HB.out⟩
      have hm : m < ns.length := by rw [← HVL.out]; exact (List.getElem?_eq_some_iff.1 hv).1
      obtain ⟨u, h1, h2⟩ := HV.out m hm
      rw [hv] at h1
      cases h1
      rw [ints_len]; exact h2

end Go.Proofs.Ytoikglgnmjjpcab

namespace Go.Proofs.Ytoikglgnmjjpcab
open Go.RowKit Go.Shelf
set_option linter.unusedVariables false
set_option linter.unusedSimpArgs false

theorem PN1 {α : Type} (l : List α) (i : Nat) (a : α) : l.toArray.setIfInBounds i a = (l.set i a).toArray := List.setIfInBounds_toArray l i a
theorem PN2 {α : Type} {x a : α} {xs : List α} : (x :: xs).set 0 a = a :: xs := rfl
theorem PN3 {α : Type} {x a : α} {i : Nat} {xs : List α} : (x :: xs).set (i + 1) a = x :: xs.set i a := rfl

theorem beh_one (L : List (BitVec 64)) (t : Nat) : behM L [t] = L.getD t 0#64 := by simp [behM]
/-- What is set is in no way live: the two rows of bits have nothing in common. -/
theorem die_bits {ns : List Nd} {L : List (BitVec 64)} (h : IsL ns L) {x : Nd} (hd : 0 ≤ x.d ∧ x.d < 64) (hw : wi x.op 1 9 = true) {t : Nat} (ht : t < ns.length) :
    (((setM x &&& L.getD t 0#64).toNat : Int) == 0) = !liveB ns x.d.toNat t := by
  have hj : x.d.toNat < 64 := by omega
  have hb := h.bit t x.d.toNat ht hj
  have hx : ∀ j, j < 64 → (setM x &&& L.getD t 0#64).getLsbD j = (decide (j = x.d.toNat) && liveB ns x.d.toNat t) := fun j hj' => by
    rw [BitVec.getLsbD_and, setM, hw, if_pos rfl, bit_bitM hd hj']
    by_cases e : j = x.d.toNat
    · subst e; rw [hb]; simp; omega
    · have : (x.d == (j : Int)) = false := by simp; omega
      rw [this]; simp [e]
  cases hl : liveB ns x.d.toNat t
  · have : setM x &&& L.getD t 0#64 = 0#64 := by
      apply BitVec.eq_of_getLsbD_eq
      intro j hj'
      rw [hx j hj', hl]; simp
    rw [this]; rfl
  · have : setM x &&& L.getD t 0#64 ≠ 0#64 := fun q => by
      have := hx x.d.toNat hj
      rw [q, hl] at this
      simp at this
    have hn : (setM x &&& L.getD t 0#64).toNat ≠ 0 := fun q => this (BitVec.eq_of_toNat_eq q)
    rw [Bool.not_true, beq_eq_false_iff_ne]
    omega

/-- How many nodes in memory are no Skips. -/
def opsAt (w : World) (b k : Nat) : Nat := (List.range k).countP fun i => match w.cell? ⟨b, i * 6, none⟩ with | some (.int _ v) => v != 0 | _ => false
theorem opsAt_of {w : World} {b : Nat} {ms : List Nd} (h : NodesAt w b 0 ms) : opsAt w b ms.length = doers ms := by
  have h0 : ∀ i, i < ms.length → w.cell? ⟨b, i * 6, none⟩ = some (.int .i64 (nd ms i).op) := fun i hi => by
    have := h.c0 i _ (get_nd hi); rwa [Nat.zero_add] at this
  have key : ∀ k, k ≤ ms.length → (List.range k).countP (fun i => match w.cell? ⟨b, i * 6, none⟩ with | some (.int _ v) => v != 0 | _ => false) = (ms.take k).countP fun x => x.op != 0 := by
    intro k
    induction k with
    | zero => intro _; rfl
    | succ k ih =>
      intro hk
      rw [List.range_succ, List.countP_append, ih (by omega), List.take_add_one, get_nd (show k < ms.length by omega), List.countP_append]
      congr 1
      simp only [List.countP_singleton, Option.toList_some, h0 k (by omega)]
  have := key ms.length (Nat.le_refl _)
  rw [List.take_length] at this
  exact this

theorem blk_neN {w : World} {b b' : Nat} {cs cs' : Array Value} {t t' : TypeId} (h : w.heap[b]? = some (.cells cs t (0, 0))) (h' : w.heap[b']? = some (.cells cs' t' (0, 0))) (hne : t ≠ t') : b ≠ b' := by
  rintro rfl
  rw [h] at h'
  cases h'
  exact hne rfl

/-- What lies in memory while nodes die. -/
structure DM (w : World) (r : Int) (b off cap : Nat) (ns : List Nd) (cb cc rb ab WB : Nat) (ms : List Nd) (wr : World) : Prop where
  pb : wr.heap[w.heap.size]? = some (.cells #[.int .i64 r, .slice (some ⟨b, off, none⟩) ns.length cap] 24 (0, 0))
  res : wr.heap[w.heap.size + 1]? = some (.cells #[.int .i64 0, .slice none 0 0] 24 (0, 0))
  wb : wr.heap[WB]? = some (.cells #[.slice (some ⟨cb, 0, none⟩) ns.length cc, .slice (some ⟨rb, 0, none⟩) ns.length ns.length, .slice (some ⟨ab, 0, none⟩) ns.length ns.length] 58 (0, 0))
  own : wr.ownsRow w.heap.size 53 6 (.slice (some ⟨cb, 0, none⟩) ns.length cc) ns.length (ms.flatMap encNd)
  rn : RowsT wr rb ns.length (nxl ns)
  ra : RowsT wr ab ns.length (ahl ns)
  bel : Below w.heap.size w wr

theorem DM.below {w : World} {r : Int} {b off cap : Nat} {ns : List Nd} {cb cc rb ab WB : Nat} {ms : List Nd} {wr wx : World} (h : DM w r b off cap ns cb cc rb ab WB ms wr) (hB : Below wr.heap.size wr wx) : DM w r b off cap ns cb cc rb ab WB ms wx :=
  ⟨(hB.block _ (blk_lt h.pb)).trans h.pb, (hB.block _ (blk_lt h.res)).trans h.res, (hB.block _ (blk_lt h.wb)).trans h.wb, ownsRow_below h.own hB (Nat.le_refl _), h.rn.below hB, h.ra.below hB, h.bel.trans (hB.mono h.bel.size)⟩

theorem DM.nodes {w : World} {r : Int} {b off cap : Nat} {ns : List Nd} {cb cc rb ab WB : Nat} {ms : List Nd} {wr : World} (h : DM w r b off cap ns cb cc rb ab WB ms wr) (hl : ms.length = ns.length) (h1 : 1 ≤ ns.length) : NodesAt wr cb 0 ms := by
  have ho := h.own
  rw [← hl] at ho
  exact nodes_own ho (by omega)

theorem DM.cur {w : World} {r : Int} {b off cap : Nat} {ns : List Nd} {cb cc rb ab WB : Nat} {ms : List Nd} {wr : World} (h : DM w r b off cap ns cb cc rb ab WB ms wr) : ∃ cur, wr.heap[cb]? = some (.cells cur 53 (0, 0)) ∧ w.heap.size ≤ cb := by
  rcases h.own.2 with ⟨q, _⟩ | ⟨g, c, cur, q, a1, a2, _⟩
  · cases q
  · cases q; exact ⟨cur, a2, a1⟩

theorem RowsT.six {w : World} {rb L cb k : Nat} {F : Nat → List Nat} {cur : Array Value} {y : Nd} (h : RowsT w rb L F) (hb : w.heap[cb]? = some (.cells cur 53 (0, 0))) : RowsT (six w cb k y) rb L F := by
  unfold Go.Proofs.Ytoikglgnmjjpcab.six
  have b1 := blk_set (i := k * 6) (.int .i64 y.op) hb
  have b2 := blk_set (i := k * 6 + 1) (.int .i64 y.d) b1
  have b3 := blk_set (i := k * 6 + 2) (.int .i64 y.a) b2
  have b4 := blk_set (i := k * 6 + 3) (.int .i64 y.b) b3
  have b5 := blk_set (i := k * 6 + 4) (.int .i64 y.t) b4
  exact (((((h.set hb (by decide) (by decide)).set b1 (by decide) (by decide)).set b2 (by decide) (by decide)).set b3 (by decide) (by decide)).set b4 (by decide) (by decide)).set b5 (by decide) (by decide)

theorem DM.write {w : World} {r : Int} {b off cap : Nat} {ns : List Nd} {cb cc rb ab WB : Nat} {ms : List Nd} {wr : World} (h : DM w r b off cap ns cb cc rb ab WB ms wr) (hl : ms.length = ns.length) {k : Nat} (hk : k < ns.length) (y : Nd) : DM w r b off cap ns cb cc rb ab WB (ms.set k y) (six wr cb k y) := by
  obtain ⟨cur, hcur, hge⟩ := h.cur
  have n1 : w.heap.size ≠ cb := blk_neN h.pb hcur (by decide)
  have n2 : w.heap.size + 1 ≠ cb := blk_neN h.res hcur (by decide)
  have n3 : WB ≠ cb := blk_neN h.wb hcur (by decide)
  have ho := h.own
  rw [← hl] at ho
  have hw := owns_node (y := y) ho (j := k) (by omega)
  rw [List.length_set, hl] at hw
  exact ⟨(six_other n1).trans h.pb, (six_other n2).trans h.res, (six_other n3).trans h.wb, hw, h.rn.six hcur, h.ra.six hcur, h.bel.trans (six_below wr k y hge)⟩

/-- How much is left to die, told by the frame. -/
def dieMu (a : Act) (w : World) : Nat := match a.tmps.getD 5 undef with
  | .pointer (some p) => match w.cell? ⟨p.block, 0, none⟩ with
    | some (.slice (some q) n _) => opsAt w q.block n
    | _ => 0
  | _ => 0

set_option maxHeartbeats 2000000 in
theorem dead_wrong (r : Int) (a : Option Addr) (cap : Nat) (ns : List Nd) (w : World) (hN : SlN w a ns) (hc : chk r ns ≠ 0) :
    Calls Try.prog 7 #[.agg #[.int .i64 r, .slice a ns.length cap]] w fun e w' => e = .returned (.tuple #[.agg #[.int .i64 0, .slice none 0 0], .int .i64 (chk r ns)]) ∧ Below w.heap.size w w' := by
  have hcb : (chk r ns == 0) = false := by simp [hc]
  have hcn : (chk r ns != 0) = true := by simp [hc]
  have HCK := hide (fun W (h : Below w.heap.size w W) => check_any r a cap ns W (hN.below h))
  clear hc hN
  generalize chk r ns = C at *
  have hb0 : Below w.heap.size w ((w.alloc (.cells #[.int .i64 r, .slice a ns.length cap] 24)).alloc (.cells #[.int .i64 0, .slice none 0 0] 24)) := ((Below.refl _ w).alloc (Nat.le_refl _) _).alloc (by simp) _
  have hz0 : ((w.alloc (.cells #[.int .i64 r, .slice a ns.length cap] 24)).alloc (.cells #[.int .i64 0, .slice none 0 0] 24)).heap[w.heap.size + 1]? = some (.cells #[.int .i64 0, .slice none 0 0] 24 (0, 0)) := by
    have := World.alloc_heap_new (w.alloc (.cells #[.int .i64 r, .slice a ns.length cap] 24)) (.cells #[.int .i64 0, .slice none 0 0] 24)
    rwa [World.size_alloc] at this
  have hp0 : ((w.alloc (.cells #[.int .i64 r, .slice a ns.length cap] 24)).alloc (.cells #[.int .i64 0, .slice none 0 0] 24)).heap[w.heap.size]? = some (.cells #[.int .i64 r, .slice a ns.length cap] 24 (0, 0)) := (Below.heap_alloc _ _ _ (by simp)).trans (World.alloc_heap_new w _)
  go_enter Try.func7, Try.ntmps7
  go_wp2_with fail
  go_step3
  generalize ((w.alloc (.cells #[.int .i64 r, .slice a ns.length cap] 24)).alloc (.cells #[.int .i64 0, .slice none 0 0] 24)) = W0 at hb0 hz0 hp0 ⊢
  have p0 := blk_cell hp0 0
  have p1 := blk_cell hp0 1
  simp at p0 p1
  have pl := blk_lt hp0
  go_upto_region 2 with (go_at_call 20; refine (HCK.out _ hb0).mono ?_; rintro e w1 ⟨rfl, hb1⟩)
  have hz1 := (hb1.block _ (blk_lt hz0)).trans hz0
  have hB1 := hb0.trans (hb1.mono hb0.size)
  clear p0 p1 pl hp0 hz0 hb0 hb1
  have z0 := blk_cell hz1 0
  have z1 := blk_cell hz1 1
  simp at z0 z1
  have zl := blk_lt hz1
  have zf0 := blk_frozen hz1 0
  have zf1 := blk_frozen hz1 1
  have HZ := hide hz1
  have HB := hide hB1
  clear hz1 hB1
  go_wp2_with fail
  rw [Exit.noGoto_ret]
  have k0 := blk_set (i := 0) (.int .i64 0) HZ.out
  have k1 := blk_set (i := 1) (.slice none 0 0) k0
  have hBf := (HB.out.setCell (p := ⟨w.heap.size + 1, 0, none⟩) (by simp) (.int .i64 0)).setCell (p := ⟨w.heap.size + 1, 1, none⟩) (by simp) (.slice none 0 0)
  simp only [List.setIfInBounds_toArray, List.set_cons_zero, List.set_cons_succ] at k1
  generalize ((w1.setCell ⟨w.heap.size + 1, 0, none⟩ (.int .i64 0)).setCell ⟨w.heap.size + 1, 1, none⟩ (.slice none 0 0)) = Wf at k1 hBf ⊢
  have y0 := blk_cell k1 0
  have y1 := blk_cell k1 1
  simp at y0 y1
  exact bodyPost_ret (v := .tuple #[.agg #[.int .i64 0, .slice none 0 0], .int .i64 C]) (by simp [results, Try.results7, go_sem, y0, y1]) rfl ⟨rfl, hBf⟩

/-- At the label: some nodes have died. -/
def AtL (w : World) (r : Int) (b off cap : Nat) (ns : List Nd) (a : Act) (wr : World) : Prop :=
  ∃ (cb cc rb ab WB : Nat) (ms : List Nd) (u6 u7 u8 u9 u10 u11 u12 u13 u14 u15 u16 u17 u18 u19 u20 u21 u22 u23 u24 u25 u26 u27 u28 u29 u30 u31 u32 u33 u34 u35 u36 u37 u38 u39 u40 u41 u42 u43 u44 u45 u46 u47 u48 u49 u50 u51 u52 u53 : Value), a = ⟨#[.agg #[.int .i64 r, .slice (some ⟨b, off, none⟩) ns.length cap], .pointer (some ⟨w.heap.size, 0, none⟩), .pointer (some ⟨w.heap.size + 1, 0, none⟩), .int .i64 0, .int .i64 0, .pointer (some ⟨WB, 0, none⟩), u6, u7, u8, u9, u10, u11, u12, u13, u14, u15, u16, u17, u18, u19, u20, u21, u22, u23, u24, u25, u26, u27, u28, u29, u30, u31, u32, u33, u34, u35, u36, u37, u38, u39, u40, u41, u42, u43, u44, u45, u46, u47, u48, u49, u50, u51, u52, u53], []⟩ ∧ DeadOf ns ms ∧ deadN ms = deadN ns ∧ DM w r b off cap ns cb cc rb ab WB ms wr

set_option maxHeartbeats 16000000 in
set_option maxRecDepth 100000 in
theorem dead_right (r : Int) (b off cap : Nat) (ns : List Nd) (w : World) (hN : NodesAt w b off ns) (hc : chk r ns = 0) :
    Calls Try.prog 7 #[.agg #[.int .i64 r, .slice (some ⟨b, off, none⟩) ns.length cap]] w fun e w' => ∃ cb cc, e = .returned (.tuple #[.agg #[.int .i64 r, .slice (some ⟨cb, 0, none⟩) ns.length cc], .int .i64 0]) ∧ w'.ownsRow w.heap.size 53 6 (.slice (some ⟨cb, 0, none⟩) ns.length cc) ns.length ((deadN ns).flatMap encNd) ∧ Below w.heap.size w w' := by
  have hl := (chk_full hc).1
  have HN := hide hN
  have HC := hide hc
  have hck := fun W (h : Below w.heap.size w W) => check_any r (some ⟨b, off, none⟩) cap ns W (Or.inr ⟨b, off, rfl, hN.below h hN.lt⟩)
  rw [hc] at hck
  have HCK := hide hck
  have HLO := hide (fun W (h : Below w.heap.size w W) => layOut_any r b off cap ns W (hN.below h hN.lt) hc)
  have hb0 : Below w.heap.size w ((w.alloc (.cells #[.int .i64 r, .slice (some ⟨b, off, none⟩) ns.length cap] 24)).alloc (.cells #[.int .i64 0, .slice none 0 0] 24)) := ((Below.refl _ w).alloc (Nat.le_refl _) _).alloc (by simp) _
  have hp0 : ((w.alloc (.cells #[.int .i64 r, .slice (some ⟨b, off, none⟩) ns.length cap] 24)).alloc (.cells #[.int .i64 0, .slice none 0 0] 24)).heap[w.heap.size]? = some (.cells #[.int .i64 r, .slice (some ⟨b, off, none⟩) ns.length cap] 24 (0, 0)) := (Below.heap_alloc _ _ _ (by simp)).trans (World.alloc_heap_new w _)
  have hz0 : ((w.alloc (.cells #[.int .i64 r, .slice (some ⟨b, off, none⟩) ns.length cap] 24)).alloc (.cells #[.int .i64 0, .slice none 0 0] 24)).heap[w.heap.size + 1]? = some (.cells #[.int .i64 0, .slice none 0 0] 24 (0, 0)) := by
    have := World.alloc_heap_new (w.alloc (.cells #[.int .i64 r, .slice (some ⟨b, off, none⟩) ns.length cap] 24)) (.cells #[.int .i64 0, .slice none 0 0] 24)
    rwa [World.size_alloc] at this
  clear hN hc hck
  go_enter Try.func7, Try.ntmps7
  go_wp2_with fail
  generalize ((w.alloc (.cells #[.int .i64 r, .slice (some ⟨b, off, none⟩) ns.length cap] 24)).alloc (.cells #[.int .i64 0, .slice none 0 0] 24)) = W0 at hb0 hp0 hz0 ⊢
  have HB0 := hide hb0
  have HP0 := hide hp0
  have HZ0 := hide hz0
  clear hb0 hp0 hz0
  have key : ∀ {c X : Code} {a : Act} {w0 : World} {Q : Exit → Act → World → Prop}, findLabel c 0 = some (Code.skip.seq X) → (∀ a wr, AtL w r b off cap ns a wr → X.wp Try.prog (Exit.jump 0 (fun a' w' => AtL w r b off cap ns a' w' ∧ dieMu a' w' < dieMu a wr) Q) a wr) → ((∀ a wr, AtL w r b off cap ns a wr → X.wp Try.prog (Exit.jump 0 (AtL w r b off cap ns) Q) a wr) → c.wp Try.prog (Exit.jump 0 (AtL w r b off cap ns) Q) a w0) → (Code.scope c).wp Try.prog Q a w0 := fun hf pass first =>
    wp_scope_jumps 0 (AtL w r b off cap ns) dieMu hf (first fun a wr h => Code.wp_mono (fun e a w' q => by
      cases e <;> simp only [Exit.jump] at q ⊢ <;> first | exact q | exact ⟨q.1, q.2.1⟩) (pass a wr h)) (fun a wr h => wp_seq (wp_skip (pass a wr h)))
  refine key rfl ?pass ?first
  case first =>
    intro HP
    have p0 := blk_cell HP0.out 0
    have p1 := blk_cell HP0.out 1
    simp at p0 p1
    have pl := blk_lt HP0.out
    go_upto_region 2 with (go_at_call 20; refine (HCK.out _ HB0.out).mono ?_; rintro e w1 ⟨rfl, hb1⟩)
    have HB1 := hide (HB0.out.trans (hb1.mono HB0.out.size))
    have HP1 := hide ((hb1.block _ pl).trans HP0.out)
    have HZ1 := hide ((hb1.block _ (blk_lt HZ0.out)).trans HZ0.out)
    clear p0 p1 pl hb1
    have p0 := blk_cell HP1.out 0
    have p1 := blk_cell HP1.out 1
    simp at p0 p1
    have pl := blk_lt HP1.out
    go_upto_region 4 with fail
    go_wp2_with (go_at_call 21; refine (HLO.out _ HB1.out).mono ?_; rintro e w2 ⟨cb, cc, rb, ab, rfl, hV, hR, hA, hb2⟩)
    go_step3
    rename_i hK
    refine hK _ _ (HP _ _ ?_)
    have hx : Below w2.heap.size w2 (w2.alloc (.cells #[.slice (some ⟨cb, 0, none⟩) ns.length cc, .slice (some ⟨rb, 0, none⟩) ns.length ns.length, .slice (some ⟨ab, 0, none⟩) ns.length ns.length] 58)) := (Below.refl _ w2).alloc (Nat.le_refl _) _
    have hB3 := hb2.trans (hx.mono hb2.size)
    refine ⟨cb, cc, rb, ab, w2.heap.size, ns, _, _, _, _, _, _, _, _, _, _, _, _, _, _, _, _, _, _, _, _, _, _, _, _, _, _, _, _, _, _, _, _, _, _, _, _, _, _, _, _, _, _, _, _, _, _, _, _, rfl, DeadOf.refl ns, rfl, ⟨(hB3.block _ (blk_lt HP1.out)).trans HP1.out, (hB3.block _ (blk_lt HZ1.out)).trans HZ1.out, World.alloc_heap_new w2 _, (ownsRow_base hV HB1.out.size).alloc _, hR.below hx, hA.below hx, HB1.out.trans (hB3.mono HB1.out.size)⟩⟩
  case pass =>
    rintro a wo ⟨cb, cc, rb, ab, WB, ms, u6, u7, u8, u9, u10, u11, u12, u13, u14, u15, u16, u17, u18, u19, u20, u21, u22, u23, u24, u25, u26, u27, u28, u29, u30, u31, u32, u33, u34, u35, u36, u37, u38, u39, u40, u41, u42, u43, u44, u45, u46, u47, u48, u49, u50, u51, u52, u53, rfl, hD, hS, hM⟩
    clear key
    have hml := hD.len
    have hlv := live_any r ms cb 0 cc rb ab
    have hcm := hD.chk HC.out
    have e1 : nxl ms = nxl ns := funext hD.nxl
    have e2 : ahl ms = ahl ns := funext hD.ahl
    rw [hml, e1, e2] at hlv
    have HLV := hide (hlv wo (hM.nodes hml hl.1) hcm hM.rn.read hM.ra.read)
    have q0 := blk_cell hM.wb 0
    have q1 := blk_cell hM.wb 1
    have q2 := blk_cell hM.wb 2
    simp at q0 q1 q2
    have ql := blk_lt hM.wb
    have HM := hide hM
    have HD := hide hD
    have HS := hide hS
    have HCM := hide hcm
    have HML := hide hml
    have HE1 := hide e1
    clear hM hD hS hcm hml e1 e2 hlv
    go_upto_region 7 with (go_at_call 22; refine HLV.out.mono ?_; rintro e w2 ⟨lb, L, rfl, hlb, hIL, hM2, hb2⟩)
    have HM2 := hide (HM.out.below hb2)
    have HLB := hide hM2
    have HIL := hide hIL
    have HMU := hide (opsAt_of (HM.out.nodes HML.out hl.1))
    clear q0 q1 q2 ql hM2 hIL hb2 hlb HLV
    have q0 := blk_cell HM2.out.wb 0
    simp at q0
    have ql := blk_lt HM2.out.wb
    go_wp2_with fail
    go_loopw [6, 23] (fun c i wx => ∃ k : Nat, k ≤ ns.length ∧ i = .int .i64 k ∧ c = .bool (anyTo ms k) ∧ DM w r b off cap ns cb cc rb ab WB (deadTo ms k) wx ∧ wx.heap[lb]? = some (.cells (maskC L) 62 (0, 0))) (fun _ i _ => ns.length - (intOf i).toNat)
    case atStart => exact ⟨0, Nat.zero_le _, rfl, rfl, by rw [deadTo_zero]; exact HM2.out, HLB.out⟩
    case round =>
      obtain ⟨k, hk, rfl, rfl, hM3, hL3⟩ := hrel
      by_cases hlt : k < ns.length
      · obtain ⟨cur, hcur, hge⟩ := hM3.cur
        have hkm : k < ms.length := by rw [HML.out]; exact hlt
        have hNd := hM3.nodes (by rw [deadTo_len, HML.out]) hl.1
        have hgn : (deadTo ms k)[k]? = some (nd ms k) := by rw [get_nd (by rw [deadTo_len]; exact hkm), nd_deadTo_at hkm]
        have HF := hide (chk_at HCM.out hkm)
        have HT := hide (deadTo_succ hkm)
        have HA := hide (anyTo_succ ms k)
        have HDI : Hid (dies ms k = (wi (nd ms k).op 1 8 && !liveB ms (nd ms k).d.toNat (nd ms k).t.toNat)) := rfl
        have HNX := hide (fun h1 h2 => nxl_one HCM.out hkm h1 h2)
        rw [HE1.out] at HNX
        generalize hxx : nd ms k = x at hgn HF HT HDI HNX
        clear hxx
        have d0 := hNd.c0 k x hgn
        have d1 := hNd.c1 k x hgn
        have d2 := hNd.c2 k x hgn
        have d3 := hNd.c3 k x hgn
        have d4 := hNd.c4 k x hgn
        have d5 := hNd.c5 k x hgn
        simp only [Nat.zero_add] at d0 d1 d2 d3 d4 d5
        have dl := hNd.lt
        have hki : (k : Int) < (ns.length : Int) := by omega
        have q0 := blk_cell hM3.wb 0
        simp at q0
        have ql := blk_lt hM3.wb
        have hbX : Below wr.heap.size wr (wr.alloc (.cells #[.int .i64 x.op, .int .i64 x.d, .int .i64 x.a, .int .i64 x.b, .int .i64 x.t, .int .i64 x.e] 53)) := (Below.refl _ wr).alloc (Nat.le_refl _) _
        have hxn : (wr.alloc (.cells #[.int .i64 x.op, .int .i64 x.d, .int .i64 x.a, .int .i64 x.b, .int .i64 x.t, .int .i64 x.e] 53)).heap[wr.heap.size]? = some (.cells #[.int .i64 x.op, .int .i64 x.d, .int .i64 x.a, .int .i64 x.b, .int .i64 x.t, .int .i64 x.e] 53 (0, 0)) := World.alloc_heap_new wr _
        have HM3 := hide hM3
        have HL3 := hide hL3
        clear hM3 hL3 hNd hgn hcur
        go_upto_region 10 with fail
        have HM4 := hide (HM3.out.below hbX)
        have HL4 := hide ((hbX.block _ (blk_lt HL3.out)).trans HL3.out)
        generalize (wr.alloc (.cells #[.int .i64 x.op, .int .i64 x.d, .int .i64 x.a, .int .i64 x.b, .int .i64 x.t, .int .i64 x.e] 53)) = Wx at hxn HM4 HL4 ⊢
        generalize wr.heap.size = X at hxn ⊢
        have HNB := hide hxn
        have HXW := hide HM4.out.wb
        have HPS := hide (fun (u : World) (hB : Below Wx.heap.size Wx u) => (show u.cell? ⟨X, 0, none⟩ = some (.int .i64 x.op) ∧ u.cell? ⟨X, 1, none⟩ = some (.int .i64 x.d) ∧ u.cell? ⟨X, 2, none⟩ = some (.int .i64 x.a) ∧ u.cell? ⟨X, 3, none⟩ = some (.int .i64 x.b) ∧ u.cell? ⟨X, 4, none⟩ = some (.int .i64 x.t) ∧ u.cell? ⟨X, 5, none⟩ = some (.int .i64 x.e) ∧ u.cell? ⟨WB, 0, none⟩ = some (.slice (some ⟨cb, 0, none⟩) ns.length cc) ∧ u.cell? ⟨WB, 1, none⟩ = some (.slice (some ⟨rb, 0, none⟩) ns.length ns.length) ∧ u.cell? ⟨WB, 2, none⟩ = some (.slice (some ⟨ab, 0, none⟩) ns.length ns.length) from ⟨cell_ofN HNB.out hB 0 rfl, cell_ofN HNB.out hB 1 rfl, cell_ofN HNB.out hB 2 rfl, cell_ofN HNB.out hB 3 rfl, cell_ofN HNB.out hB 4 rfl, cell_ofN HNB.out hB 5 rfl, cell_ofN HXW.out hB 0 rfl, cell_ofN HXW.out hB 1 rfl, cell_ofN HXW.out hB 2 rfl⟩))
        clear hxn d0 d1 d2 d3 d4 d5 dl q0 ql hbX HM3 HL3
        go_cut [39] from 28 to 38 (fun v39 wy => v39 = .bool (dies ms k) ∧ Below Wx.heap.size Wx wy)
        case first =>
          cases hop : wi x.op 1 8
          · have HOP := hide hop
            clear hop
            refine wp_region_held_drew (S := (fun u => u.cell? ⟨X, 0, none⟩ = some (.int .i64 x.op) ∧ u.cell? ⟨X, 1, none⟩ = some (.int .i64 x.d) ∧ u.cell? ⟨X, 2, none⟩ = some (.int .i64 x.a) ∧ u.cell? ⟨X, 3, none⟩ = some (.int .i64 x.b) ∧ u.cell? ⟨X, 4, none⟩ = some (.int .i64 x.t) ∧ u.cell? ⟨X, 5, none⟩ = some (.int .i64 x.e) ∧ u.cell? ⟨WB, 0, none⟩ = some (.slice (some ⟨cb, 0, none⟩) ns.length cc) ∧ u.cell? ⟨WB, 1, none⟩ = some (.slice (some ⟨rb, 0, none⟩) ns.length ns.length) ∧ u.cell? ⟨WB, 2, none⟩ = some (.slice (some ⟨ab, 0, none⟩) ns.length ns.length))) (by as_aux_lemma => kernel_rfl) (by (try dsimp only); first | (with_reducible exact HPS.out _ hB3) | (with_reducible exact HPS.out _ hB2) | (with_reducible exact HPS.out _ hB1) | exact HPS.out _ (Below.refl _ Wx).drew | exact HPS.out _ (Below.refl _ Wx)) (fun hHeld => ?_)
            refine wpAnyH_take (i := 0) (oi := ⟨some 28, .load 53 (.tmp 9), 53, "live.go:35", #[], none⟩) (v := ?_) rfl (by as_aux_lemma => kernel_rfl) (by as_aux_lemma => kernel_rfl) (by as_aux_lemma => kernel_rfl) (fun _ _ _ h => h) (Or.inl ⟨by as_aux_lemma => rfl, ?_⟩) (by assumption) ?_
            rotate_left 1
            · intro w hSw; (try dsimp only at hSw); go_simp; all_goals with_reducible rfl
            (try simp only [Act.put, PN1, PN2, PN3])
            refine wpAnyH_ready (rs := [1]) (by as_aux_lemma => kernel_rfl) (by simp) (AllReadyH.cons (o := ⟨some 29, .call { callee := .value (.func 24), args := #[.tmp 28], argTypes := #[53] }, 4, "live.go:35", #[⟨0, .data⟩], none⟩) rfl (fun K hK => ?_) AllReadyH.nil)
            go_simp
            go_at_call 24; refine (mayDie_any x _).mono ?_; rintro e wa ⟨rfl, hba⟩; have hB1 : Below Wx.heap.size Wx wa := (by first | exact (Below.refl _ Wx).drew.trans hba | exact hba); rw [HOP.out]; (try go_wp2_with fail)
            refine hK.out _ _ (by (try dsimp only); first | (with_reducible exact HPS.out _ hB3) | (with_reducible exact HPS.out _ hB2) | (with_reducible exact HPS.out _ hB1) | exact HPS.out _ (Below.refl _ Wx).drew | exact HPS.out _ (Below.refl _ Wx)) (fun hHeld => ?_)
            clear hK K
            (try simp only [Act.put, PN1, PN2, PN3])
            refine wpAnyH_take (i := 2) (oi := ⟨some 30, .move (.tmp 29), 4, "live.go:35", #[⟨1, .data⟩, ⟨1, .chain⟩], none⟩) (v := ?_) rfl (by as_aux_lemma => kernel_rfl) (by as_aux_lemma => kernel_rfl) (by as_aux_lemma => kernel_rfl) (fun _ _ _ h => h) (Or.inl ⟨by as_aux_lemma => rfl, ?_⟩) (by assumption) ?_
            rotate_left 1
            · intro w hSw; (try dsimp only at hSw); go_simp; all_goals with_reducible rfl
            (try simp only [Act.put, PN1, PN2, PN3])
            refine wpAnyH_take (i := 3) (oi := ⟨some 31, .load 53 (.tmp 9), 53, "live.go:35", #[⟨2, .guard⟩], some (2, true)⟩) (v := undef) rfl (by as_aux_lemma => kernel_rfl) (by as_aux_lemma => kernel_rfl) (by as_aux_lemma => kernel_rfl) (fun _ _ _ h => h) (Or.inr ⟨by as_aux_lemma => rfl, rfl⟩) (by assumption) ?_
            (try simp only [Act.put, PN1, PN2, PN3])
            refine wpAnyH_take (i := 4) (oi := ⟨some 32, .call { callee := .value (.func 25), args := #[.tmp 31], argTypes := #[53] }, 62, "live.go:35", #[⟨3, .data⟩, ⟨2, .chain⟩, ⟨2, .guard⟩], some (2, true)⟩) (v := undef) rfl (by as_aux_lemma => kernel_rfl) (by as_aux_lemma => kernel_rfl) (by as_aux_lemma => kernel_rfl) (fun _ _ _ h => h) (Or.inr ⟨by as_aux_lemma => rfl, rfl⟩) (by assumption) ?_
            (try simp only [Act.put, PN1, PN2, PN3])
            refine wpAnyH_take (i := 5) (oi := ⟨some 33, .load 58 (.tmp 5), 58, "live.go:35", #[⟨2, .guard⟩], some (2, true)⟩) (v := undef) rfl (by as_aux_lemma => kernel_rfl) (by as_aux_lemma => kernel_rfl) (by as_aux_lemma => kernel_rfl) (fun _ _ _ h => h) (Or.inr ⟨by as_aux_lemma => rfl, rfl⟩) (by assumption) ?_
            (try simp only [Act.put, PN1, PN2, PN3])
            refine wpAnyH_take (i := 6) (oi := ⟨some 34, .move (.tmp 8), 3, "live.go:35", #[⟨2, .guard⟩], some (2, true)⟩) (v := undef) rfl (by as_aux_lemma => kernel_rfl) (by as_aux_lemma => kernel_rfl) (by as_aux_lemma => kernel_rfl) (fun _ _ _ h => h) (Or.inr ⟨by as_aux_lemma => rfl, rfl⟩) (by assumption) ?_
            (try simp only [Act.put, PN1, PN2, PN3])
            refine wpAnyH_take (i := 7) (oi := ⟨some 35, .move (.tmp 7), 56, "live.go:35", #[⟨2, .guard⟩], some (2, true)⟩) (v := undef) rfl (by as_aux_lemma => kernel_rfl) (by as_aux_lemma => kernel_rfl) (by as_aux_lemma => kernel_rfl) (fun _ _ _ h => h) (Or.inr ⟨by as_aux_lemma => rfl, rfl⟩) (by assumption) ?_
            (try simp only [Act.put, PN1, PN2, PN3])
            refine wpAnyH_take (i := 8) (oi := ⟨some 36, .call { callee := .value (.func 26), args := #[.tmp 33, .tmp 34, .tmp 35], argTypes := #[58, 3, 56] }, 62, "live.go:35", #[⟨5, .data⟩, ⟨6, .data⟩, ⟨7, .data⟩, ⟨4, .chain⟩, ⟨2, .guard⟩], some (2, true)⟩) (v := undef) rfl (by as_aux_lemma => kernel_rfl) (by as_aux_lemma => kernel_rfl) (by as_aux_lemma => kernel_rfl) (fun _ _ _ h => h) (Or.inr ⟨by as_aux_lemma => rfl, rfl⟩) (by assumption) ?_
            (try simp only [Act.put, PN1, PN2, PN3])
            refine wpAnyH_take (i := 9) (oi := ⟨some 37, .binOp Go.BinOp.and 62 (.tmp 32) (.tmp 36) 62, 62, "live.go:35", #[⟨4, .data⟩, ⟨8, .data⟩, ⟨2, .guard⟩], some (2, true)⟩) (v := undef) rfl (by as_aux_lemma => kernel_rfl) (by as_aux_lemma => kernel_rfl) (by as_aux_lemma => kernel_rfl) (fun _ _ _ h => h) (Or.inr ⟨by as_aux_lemma => rfl, rfl⟩) (by assumption) ?_
            (try simp only [Act.put, PN1, PN2, PN3])
            refine wpAnyH_take (i := 10) (oi := ⟨some 38, .binOp Go.BinOp.eql 62 (.tmp 37) (.const (Go.Value.int Go.IntKind.u64 0)) 62, 4, "live.go:35", #[⟨9, .data⟩, ⟨2, .guard⟩], some (2, true)⟩) (v := undef) rfl (by as_aux_lemma => kernel_rfl) (by as_aux_lemma => kernel_rfl) (by as_aux_lemma => kernel_rfl) (fun _ _ _ h => h) (Or.inr ⟨by as_aux_lemma => rfl, rfl⟩) (by assumption) ?_
            (try simp only [Act.put, PN1, PN2, PN3])
            refine wpAnyH_take (i := 11) (oi := ⟨some 39, .pick (.tmp 30) (.tmp 38) (.const (Go.Value.bool false)), 4, "live.go:35", #[⟨2, .data⟩, ⟨10, .data⟩], none⟩) (v := ?_) rfl (by as_aux_lemma => kernel_rfl) (by as_aux_lemma => kernel_rfl) (by as_aux_lemma => kernel_rfl) (fun _ _ _ h => h) (Or.inl ⟨by as_aux_lemma => rfl, ?_⟩) (by assumption) ?_
            rotate_left 1
            · intro w hSw; (try dsimp only at hSw); go_simp; all_goals with_reducible rfl
            (try simp only [Act.put, PN1, PN2, PN3])
            refine wpAnyH_done (by as_aux_lemma => kernel_rfl) ?_ _
            all_goals go_wp2
            all_goals go_meet
            all_goals exact ⟨by rw [HDI.out, HOP.out]; rfl, hB1⟩
          · have hop' := wi_iff.1 hop
            have hr := (chk_full HC.out).2.1.2
            have hn1 := HNX.out (by omega) (by omega)
            have ht := HF.out.t (by omega)
            rw [HML.out] at ht
            have hdb := die_bits HIL.out (x := x) (full_set HF.out hr (wi_iff.2 (by omega))) (wi_iff.2 (by omega)) (t := x.t.toNat) (by rw [HML.out]; omega)
            have hbb := bits_and (setM x) (behM L (nxl ns k))
            rw [hn1, beh_one] at hbb
            rw [← hbb] at hdb
            have e3 : (!liveB ms x.d.toNat x.t.toNat) = dies ms k := by rw [HDI.out, hop, Bool.true_and]
            rw [e3] at hdb
            have HDB := hide hdb
            have HOP := hide hop
            have HN1 := hide hn1
            have HLN := hide HIL.out.len
            rw [HML.out] at HLN
            clear hop hop' hn1 ht hdb hbb e3
            go_region_held3 (fun u => u.cell? ⟨X, 0, none⟩ = some (.int .i64 x.op) ∧ u.cell? ⟨X, 1, none⟩ = some (.int .i64 x.d) ∧ u.cell? ⟨X, 2, none⟩ = some (.int .i64 x.a) ∧ u.cell? ⟨X, 3, none⟩ = some (.int .i64 x.b) ∧ u.cell? ⟨X, 4, none⟩ = some (.int .i64 x.t) ∧ u.cell? ⟨X, 5, none⟩ = some (.int .i64 x.e) ∧ u.cell? ⟨WB, 0, none⟩ = some (.slice (some ⟨cb, 0, none⟩) ns.length cc) ∧ u.cell? ⟨WB, 1, none⟩ = some (.slice (some ⟨rb, 0, none⟩) ns.length ns.length) ∧ u.cell? ⟨WB, 2, none⟩ = some (.slice (some ⟨ab, 0, none⟩) ns.length ns.length)) (first | (with_reducible exact HPS.out _ hB3) | (with_reducible exact HPS.out _ hB2) | (with_reducible exact HPS.out _ hB1) | exact HPS.out _ (Below.refl _ Wx).drew | exact HPS.out _ (Below.refl _ Wx)) (first
              | (go_at_call 26; refine (behind_any ns L (some ⟨cb, 0, none⟩) ns.length cc ab k rb lb (nxl ns) _ ((HM4.out.rn.below hB2).read) ((masksAt_of HL4.out).below hB2) HLN.out hlt hl.2 (fun m hm => (mem_nxl.1 hm).1) (Nat.le_trans (nxl_few ns k) hl.2)).mono ?_; rintro e wcc ⟨rfl, hbc⟩; have hB3 : Below Wx.heap.size Wx wcc := hB2.trans (hbc.mono hB2.size); rw [HN1.out, beh_one])
              | (go_at_call 25; refine (lsets_any x _ (full_set HF.out hr)).mono ?_; rintro e wb ⟨rfl, hbb⟩; have hB2 : Below Wx.heap.size Wx wb := hB1.trans (hbb.mono hB1.size))
              | (go_at_call 24; refine (mayDie_any x _).mono ?_; rintro e wa ⟨rfl, hba⟩; have hB1 : Below Wx.heap.size Wx wa := (by first | exact (Below.refl _ Wx).drew.trans hba | exact hba); rw [HOP.out]))
            all_goals go_wp2
            all_goals go_meet
            all_goals exact ⟨by first | rw [HDB.out] | (rw [← HDB.out]; rfl), hB3⟩
        case rest =>
          obtain ⟨rfl, hBc⟩ := hcut
          have HM5 := hide (HM4.out.below hBc)
          have HL5 := hide ((hBc.block _ (blk_lt HL4.out)).trans HL4.out)
          have hx5 := (hBc.block _ (blk_lt HNB.out)).trans HNB.out
          clear HM4 HL4 HPS HNB HXW hBc
          cases hd : dies ms k
          · rw [hd] at HT HA
            have HT' := hide HT.out
            clear hd hx5
            go_wp2_with fail
            go_roundw
            case rel => exact ⟨k + 1, by omega, by go_num, by rw [HA.out]; simp, by rw [HT'.out]; exact HM5.out, HL5.out⟩
            case measure => simp [intOf]; omega
          · rw [hd] at HT HA
            have y4 := blk_cell hx5 4
            simp at y4
            have yl := blk_lt hx5
            have q0 := blk_cell HM5.out.wb 0
            simp at q0
            have ql := blk_lt HM5.out.wb
            obtain ⟨cur5, hcur5, hge5⟩ := HM5.out.cur
            have hNd := HM5.out.nodes (by rw [deadTo_len, HML.out]) hl.1
            have hgn := get_nd (ns := deadTo ms k) (n := k) (by rw [deadTo_len]; exact hkm)
            have d0 := hNd.c0 k _ hgn
            have d1 := hNd.c1 k _ hgn
            have d2 := hNd.c2 k _ hgn
            have d3 := hNd.c3 k _ hgn
            have d4 := hNd.c4 k _ hgn
            have d5 := hNd.c5 k _ hgn
            simp only [Nat.zero_add] at d0 d1 d2 d3 d4 d5
            have dl := hNd.lt
            have g0 := blk_frozen hcur5 (k * 6)
            have g1 := blk_frozen hcur5 (k * 6 + 1)
            have g2 := blk_frozen hcur5 (k * 6 + 2)
            have g3 := blk_frozen hcur5 (k * 6 + 3)
            have g4 := blk_frozen hcur5 (k * 6 + 4)
            have g5 := blk_frozen hcur5 (k * 6 + 5)
            generalize nd (deadTo ms k) k = z at d0 d1 d2 d3 d4 d5
            have HW := hide (HM5.out.write (by rw [deadTo_len, HML.out]) hlt (skp x.t))
            have HLW := hide ((six_other (y := skp x.t) (j := k) (blk_neN HL5.out hcur5 (by decide))).trans HL5.out)
            clear hd hx5 hNd hgn hcur5
            go_wp2_with fail
            go_roundw
            case rel => exact ⟨k + 1, by omega, by go_num, by rw [HA.out]; simp, by rw [HT.out]; exact HW.out, HLW.out⟩
            case measure => simp [intOf]; omega
      · have ek : k = ns.length := by omega
        subst ek
        have q0 := blk_cell hM3.wb 0
        simp at q0
        have ql := blk_lt hM3.wb
        have p0 := blk_cell hM3.pb 0
        simp at p0
        have pl := blk_lt hM3.pb
        have z0 := blk_cell hM3.res 0
        have z1 := blk_cell hM3.res 1
        simp at z0 z1
        have zl := blk_lt hM3.res
        have zf0 := blk_frozen hM3.res 0
        have zf1 := blk_frozen hM3.res 1
        have HM3 := hide hM3
        clear hM3 hL3
        cases ha : anyTo ms ns.length
        · have HAF := hide ha
          clear ha
          go_wp2_with fail
          simp only [Exit.jump]
          have k0 := blk_set (i := 0) (.int .i64 r) HM3.out.res
          have k1 := blk_set (i := 1) (.slice (some ⟨cb, 0, none⟩) ns.length cc) k0
          have T0 := owns_set (o := 1) (u := .slice (some ⟨cb, 0, none⟩) ns.length cc) (owns_set (o := 0) (u := .int .i64 r) HM3.out.own HM3.out.res (by decide)) k0 (by decide)
          have hBf := (HM3.out.bel.setCell (p := ⟨w.heap.size + 1, 0, none⟩) (by simp) (.int .i64 r)).setCell (p := ⟨w.heap.size + 1, 1, none⟩) (by simp) (.slice (some ⟨cb, 0, none⟩) ns.length cc)
          simp only [List.setIfInBounds_toArray, List.set_cons_zero, List.set_cons_succ] at k1
          generalize ((wr.setCell ⟨w.heap.size + 1, 0, none⟩ (.int .i64 r)).setCell ⟨w.heap.size + 1, 1, none⟩ (.slice (some ⟨cb, 0, none⟩) ns.length cc)) = Wf at k1 T0 hBf ⊢
          have y0 := blk_cell k1 0
          have y1 := blk_cell k1 1
          simp at y0 y1
          have hfix : deadTo ms ns.length = deadN ns := by
            have h1 := HAF.out
            rw [← HML.out] at h1 ⊢
            rw [← HS.out, deadN_fix h1]
            exact deadR_same h1
          rw [hfix] at T0
          exact bodyPost_ret (v := .tuple #[.agg #[.int .i64 r, .slice (some ⟨cb, 0, none⟩) ns.length cc], .int .i64 0]) (by simp [results, Try.results7, go_sem, y0, y1]) rfl ⟨cb, cc, rfl, T0, hBf⟩
        · have HAT := hide ha
          clear ha
          go_wp2_with fail
          go_step3
          refine ⟨rfl, ⟨cb, cc, rb, ab, WB, deadTo ms ns.length, _, _, _, _, _, _, _, _, _, _, _, _, _, _, _, _, _, _, _, _, _, _, _, _, _, _, _, _, _, _, _, _, _, _, _, _, _, _, _, _, _, _, _, _, _, _, _, _, rfl, HD.out.trans (DeadOf.to ms _), ?_, HM3.out⟩, ?_⟩
          · rw [← HS.out, ← HML.out]; exact deadN_round ms
          · have h1 := HAT.out
            rw [← HML.out] at h1
            have hlt := doers_less h1
            have e1 : deadTo ms ns.length = deadR ms := by rw [← HML.out]; rfl
            have e2 := opsAt_of (HM3.out.nodes (by rw [deadTo_len, HML.out]) hl.1)
            rw [deadTo_len, HML.out, e1] at e2
            have e3 := HMU.out
            rw [HML.out] at e3
            have c1 := blk_cell HM3.out.wb 0
            have c2 := blk_cell HM.out.wb 0
            simp at c1 c2
            simp only [dieMu]
            simp [c1, c2]
            omega
end Go.Proofs.Ytoikglgnmjjpcab

