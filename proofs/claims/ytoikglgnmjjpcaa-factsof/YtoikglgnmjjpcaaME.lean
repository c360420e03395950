/-
  flow.layOut, walked.
-/
import Derived.Test.YtoikglgnmjjpcaaMD
namespace Go.Proofs.Ytoikglgnmjjpcaa
open Go.RowKit Go.Shelf
set_option linter.unusedVariables false

theorem cells_set {w : World} {b k : Nat} (h : k ≠ b) (o : Nat) (v : Value) : (w.setCell ⟨b, o, none⟩ v).heap[k]? = w.heap[k]? := Below.heap_setCell _ _ _ _ h

/-- Two boxes, as they are held across a region. -/
def Held2 (P F : Nat) (ps fs : Array Value) (tp tf : TypeId) (u : World) : Prop := u.heap[P]? = some (.cells ps tp (0, 0)) ∧ u.heap[F]? = some (.cells fs tf (0, 0))

set_option maxHeartbeats 4000000 in
set_option maxRecDepth 100000 in
theorem layOut_any (r : Int) (b off cap : Nat) (ns : List Nd) (f : Flw) (a1 a2 a3 a4 : Option Addr) (c1 c2 c3 c4 : Nat) (w : World) (hN : NodesAt w b off ns) (hc : fchk r ns f = 0) (h1 : BoolsAt w a1 f.gen) (h2 : BoolsAt w a2 f.pass) (h3 : BoolsAt w a3 f.plus) (h4 : BoolsAt w a4 f.lets) :
    Calls Try.prog 79 #[.agg #[.int .i64 r, .slice (some ⟨b, off, none⟩) ns.length cap], .agg #[.bool f.back, .bool f.empty, .slice a1 f.gen.length c1, .slice a2 f.pass.length c2, .slice a3 f.plus.length c3, .slice a4 f.lets.length c4]] w fun e w' => ∃ rb1 rb2, e = .returned (.agg #[.bool f.back, .bool f.empty, .slice a1 f.gen.length c1, .slice a2 f.pass.length c2, .slice a3 f.plus.length c3, .slice a4 f.lets.length c4, .slice (some ⟨rb1, 0, none⟩) ns.length ns.length, .slice (some ⟨rb2, 0, none⟩) ns.length ns.length]) ∧ QM w' ns f a1 a2 a3 a4 rb1 rb2 ∧ Below w.heap.size w w' := by
  have HC := hide (fchk_zero hc)
  have HN := hide hN
  have HBO := hide (And.intro h1 (And.intro h2 (And.intro h3 h4)))
  clear hc hN h1 h2 h3 h4
  have hbA : Below w.heap.size w (((w.alloc (.cells #[.int .i64 r, .slice (some ⟨b, off, none⟩) ns.length cap] 24)).alloc (.cells #[.bool f.back, .bool f.empty, .slice a1 f.gen.length c1, .slice a2 f.pass.length c2, .slice a3 f.plus.length c3, .slice a4 f.lets.length c4] 66)).alloc (.cells #[.bool false, .bool false, .slice none 0 0, .slice none 0 0, .slice none 0 0, .slice none 0 0, .slice none 0 0, .slice none 0 0] 115)) := (((Below.refl _ w).alloc (Nat.le_refl _) _).alloc (by simp) _).alloc (by simp; omega) _
  have hp : (((w.alloc (.cells #[.int .i64 r, .slice (some ⟨b, off, none⟩) ns.length cap] 24)).alloc (.cells #[.bool f.back, .bool f.empty, .slice a1 f.gen.length c1, .slice a2 f.pass.length c2, .slice a3 f.plus.length c3, .slice a4 f.lets.length c4] 66)).alloc (.cells #[.bool false, .bool false, .slice none 0 0, .slice none 0 0, .slice none 0 0, .slice none 0 0, .slice none 0 0, .slice none 0 0] 115)).heap[w.heap.size]? = some (.cells #[.int .i64 r, .slice (some ⟨b, off, none⟩) ns.length cap] 24 (0, 0)) := (Below.heap_alloc _ _ _ (by simp; omega)).trans ((Below.heap_alloc _ _ _ (by simp)).trans (World.alloc_heap_new w _))
  have hf : (((w.alloc (.cells #[.int .i64 r, .slice (some ⟨b, off, none⟩) ns.length cap] 24)).alloc (.cells #[.bool f.back, .bool f.empty, .slice a1 f.gen.length c1, .slice a2 f.pass.length c2, .slice a3 f.plus.length c3, .slice a4 f.lets.length c4] 66)).alloc (.cells #[.bool false, .bool false, .slice none 0 0, .slice none 0 0, .slice none 0 0, .slice none 0 0, .slice none 0 0, .slice none 0 0] 115)).heap[w.heap.size + 1]? = some (.cells #[.bool f.back, .bool f.empty, .slice a1 f.gen.length c1, .slice a2 f.pass.length c2, .slice a3 f.plus.length c3, .slice a4 f.lets.length c4] 66 (0, 0)) := by
    have := World.alloc_heap_new (w.alloc (.cells #[.int .i64 r, .slice (some ⟨b, off, none⟩) ns.length cap] 24)) (.cells #[.bool f.back, .bool f.empty, .slice a1 f.gen.length c1, .slice a2 f.pass.length c2, .slice a3 f.plus.length c3, .slice a4 f.lets.length c4] 66)
    rw [World.size_alloc] at this
    exact (Below.heap_alloc _ _ _ (by simp)).trans this
  have hq : (((w.alloc (.cells #[.int .i64 r, .slice (some ⟨b, off, none⟩) ns.length cap] 24)).alloc (.cells #[.bool f.back, .bool f.empty, .slice a1 f.gen.length c1, .slice a2 f.pass.length c2, .slice a3 f.plus.length c3, .slice a4 f.lets.length c4] 66)).alloc (.cells #[.bool false, .bool false, .slice none 0 0, .slice none 0 0, .slice none 0 0, .slice none 0 0, .slice none 0 0, .slice none 0 0] 115)).heap[w.heap.size + 1 + 1]? = some (.cells #[.bool false, .bool false, .slice none 0 0, .slice none 0 0, .slice none 0 0, .slice none 0 0, .slice none 0 0, .slice none 0 0] 115 (0, 0)) := by
    have := World.alloc_heap_new ((w.alloc (.cells #[.int .i64 r, .slice (some ⟨b, off, none⟩) ns.length cap] 24)).alloc (.cells #[.bool f.back, .bool f.empty, .slice a1 f.gen.length c1, .slice a2 f.pass.length c2, .slice a3 f.plus.length c3, .slice a4 f.lets.length c4] 66)) (.cells #[.bool false, .bool false, .slice none 0 0, .slice none 0 0, .slice none 0 0, .slice none 0 0, .slice none 0 0, .slice none 0 0] 115)
    rwa [World.size_alloc, World.size_alloc] at this
  go_enter Try.func79, Try.ntmps79
  go_upto_region 1 with fail
  generalize (((w.alloc (.cells #[.int .i64 r, .slice (some ⟨b, off, none⟩) ns.length cap] 24)).alloc (.cells #[.bool f.back, .bool f.empty, .slice a1 f.gen.length c1, .slice a2 f.pass.length c2, .slice a3 f.plus.length c3, .slice a4 f.lets.length c4] 66)).alloc (.cells #[.bool false, .bool false, .slice none 0 0, .slice none 0 0, .slice none 0 0, .slice none 0 0, .slice none 0 0, .slice none 0 0] 115)) = W at hbA hp hf hq ⊢
  have y0 := blk_cell hf 0
  simp at y0
  have fl := blk_lt hf
  have HH : Hid (∀ u : World, Below W.heap.size W u → u.heap[w.heap.size]? = some (.cells #[.int .i64 r, .slice (some ⟨b, off, none⟩) ns.length cap] 24 (0, 0)) ∧ u.heap[w.heap.size + 1]? = some (.cells #[.bool f.back, .bool f.empty, .slice a1 f.gen.length c1, .slice a2 f.pass.length c2, .slice a3 f.plus.length c3, .slice a4 f.lets.length c4] 66 (0, 0)) ∧ u.heap[w.heap.size + 1 + 1]? = some (.cells #[.bool false, .bool false, .slice none 0 0, .slice none 0 0, .slice none 0 0, .slice none 0 0, .slice none 0 0, .slice none 0 0] 115 (0, 0))) := fun u h => ⟨(h.block _ (blk_lt hp)).trans hp, (h.block _ (blk_lt hf)).trans hf, (h.block _ (blk_lt hq)).trans hq⟩
  have HS : Hid (∀ u : World, Below W.heap.size W u → u.cell? ⟨w.heap.size, 0, none⟩ = some (.int .i64 r) ∧ u.cell? ⟨w.heap.size, 1, none⟩ = some (.slice (some ⟨b, off, none⟩) ns.length cap) ∧ u.cell? ⟨w.heap.size + 1, 0, none⟩ = some (.bool f.back) ∧ u.cell? ⟨w.heap.size + 1, 1, none⟩ = some (.bool f.empty) ∧ u.cell? ⟨w.heap.size + 1, 2, none⟩ = some (.slice a1 f.gen.length c1) ∧ u.cell? ⟨w.heap.size + 1, 3, none⟩ = some (.slice a2 f.pass.length c2) ∧ u.cell? ⟨w.heap.size + 1, 4, none⟩ = some (.slice a3 f.plus.length c3) ∧ u.cell? ⟨w.heap.size + 1, 5, none⟩ = some (.slice a4 f.lets.length c4)) := fun u h => by
    obtain ⟨k1, k2, _⟩ := HH.out u h
    refine ⟨?_, ?_, ?_, ?_, ?_, ?_, ?_, ?_⟩
    · rw [blk_cell k1]; rfl
    · rw [blk_cell k1]; rfl
    · rw [blk_cell k2]; rfl
    · rw [blk_cell k2]; rfl
    · rw [blk_cell k2]; rfl
    · rw [blk_cell k2]; rfl
    · rw [blk_cell k2]; rfl
    · rw [blk_cell k2]; rfl
  have HNN : Hid (∀ u : World, Below W.heap.size W u → NodesAt u b off ns) := fun u h => HN.out.below (hbA.trans (h.mono hbA.size)) HN.out.lt
  have HW := hide hbA
  have hCC := HC.out.1
  clear hp hf hq hbA
  have XF : Hid (∀ u : World, Below W.heap.size W u → ∀ k, k < 8 → u.cell? ⟨w.heap.size + 1 + 1, k, none⟩ = #[.bool false, .bool false, .slice none 0 0, .slice none 0 0, .slice none 0 0, .slice none 0 0, .slice none 0 0, .slice none 0 0][k]? ∧ u.frozen? ⟨w.heap.size + 1 + 1, k, none⟩ = false) := fun u h k _ => ⟨blk_cell (HH.out u h).2.2 k, blk_frozen (HH.out u h).2.2 k⟩
  have HSet : Hid (∀ (u : World) (v0 v1 v2 v3 v4 v5 v6 v7 : Value), (u.cell? ⟨w.heap.size, 0, none⟩ = some (.int .i64 r) ∧ u.cell? ⟨w.heap.size, 1, none⟩ = some (.slice (some ⟨b, off, none⟩) ns.length cap) ∧ u.cell? ⟨w.heap.size + 1, 0, none⟩ = some (.bool f.back) ∧ u.cell? ⟨w.heap.size + 1, 1, none⟩ = some (.bool f.empty) ∧ u.cell? ⟨w.heap.size + 1, 2, none⟩ = some (.slice a1 f.gen.length c1) ∧ u.cell? ⟨w.heap.size + 1, 3, none⟩ = some (.slice a2 f.pass.length c2) ∧ u.cell? ⟨w.heap.size + 1, 4, none⟩ = some (.slice a3 f.plus.length c3) ∧ u.cell? ⟨w.heap.size + 1, 5, none⟩ = some (.slice a4 f.lets.length c4)) → (((((((((u).setCell ⟨w.heap.size + 1 + 1, 0, none⟩ v0).setCell ⟨w.heap.size + 1 + 1, 1, none⟩ v1).setCell ⟨w.heap.size + 1 + 1, 2, none⟩ v2).setCell ⟨w.heap.size + 1 + 1, 3, none⟩ v3).setCell ⟨w.heap.size + 1 + 1, 4, none⟩ v4).setCell ⟨w.heap.size + 1 + 1, 5, none⟩ v5).setCell ⟨w.heap.size + 1 + 1, 6, none⟩ v6).setCell ⟨w.heap.size + 1 + 1, 7, none⟩ v7).cell? ⟨w.heap.size, 0, none⟩ = some (.int .i64 r) ∧ (((((((((u).setCell ⟨w.heap.size + 1 + 1, 0, none⟩ v0).setCell ⟨w.heap.size + 1 + 1, 1, none⟩ v1).setCell ⟨w.heap.size + 1 + 1, 2, none⟩ v2).setCell ⟨w.heap.size + 1 + 1, 3, none⟩ v3).setCell ⟨w.heap.size + 1 + 1, 4, none⟩ v4).setCell ⟨w.heap.size + 1 + 1, 5, none⟩ v5).setCell ⟨w.heap.size + 1 + 1, 6, none⟩ v6).setCell ⟨w.heap.size + 1 + 1, 7, none⟩ v7).cell? ⟨w.heap.size, 1, none⟩ = some (.slice (some ⟨b, off, none⟩) ns.length cap) ∧ (((((((((u).setCell ⟨w.heap.size + 1 + 1, 0, none⟩ v0).setCell ⟨w.heap.size + 1 + 1, 1, none⟩ v1).setCell ⟨w.heap.size + 1 + 1, 2, none⟩ v2).setCell ⟨w.heap.size + 1 + 1, 3, none⟩ v3).setCell ⟨w.heap.size + 1 + 1, 4, none⟩ v4).setCell ⟨w.heap.size + 1 + 1, 5, none⟩ v5).setCell ⟨w.heap.size + 1 + 1, 6, none⟩ v6).setCell ⟨w.heap.size + 1 + 1, 7, none⟩ v7).cell? ⟨w.heap.size + 1, 0, none⟩ = some (.bool f.back) ∧ (((((((((u).setCell ⟨w.heap.size + 1 + 1, 0, none⟩ v0).setCell ⟨w.heap.size + 1 + 1, 1, none⟩ v1).setCell ⟨w.heap.size + 1 + 1, 2, none⟩ v2).setCell ⟨w.heap.size + 1 + 1, 3, none⟩ v3).setCell ⟨w.heap.size + 1 + 1, 4, none⟩ v4).setCell ⟨w.heap.size + 1 + 1, 5, none⟩ v5).setCell ⟨w.heap.size + 1 + 1, 6, none⟩ v6).setCell ⟨w.heap.size + 1 + 1, 7, none⟩ v7).cell? ⟨w.heap.size + 1, 1, none⟩ = some (.bool f.empty) ∧ (((((((((u).setCell ⟨w.heap.size + 1 + 1, 0, none⟩ v0).setCell ⟨w.heap.size + 1 + 1, 1, none⟩ v1).setCell ⟨w.heap.size + 1 + 1, 2, none⟩ v2).setCell ⟨w.heap.size + 1 + 1, 3, none⟩ v3).setCell ⟨w.heap.size + 1 + 1, 4, none⟩ v4).setCell ⟨w.heap.size + 1 + 1, 5, none⟩ v5).setCell ⟨w.heap.size + 1 + 1, 6, none⟩ v6).setCell ⟨w.heap.size + 1 + 1, 7, none⟩ v7).cell? ⟨w.heap.size + 1, 2, none⟩ = some (.slice a1 f.gen.length c1) ∧ (((((((((u).setCell ⟨w.heap.size + 1 + 1, 0, none⟩ v0).setCell ⟨w.heap.size + 1 + 1, 1, none⟩ v1).setCell ⟨w.heap.size + 1 + 1, 2, none⟩ v2).setCell ⟨w.heap.size + 1 + 1, 3, none⟩ v3).setCell ⟨w.heap.size + 1 + 1, 4, none⟩ v4).setCell ⟨w.heap.size + 1 + 1, 5, none⟩ v5).setCell ⟨w.heap.size + 1 + 1, 6, none⟩ v6).setCell ⟨w.heap.size + 1 + 1, 7, none⟩ v7).cell? ⟨w.heap.size + 1, 3, none⟩ = some (.slice a2 f.pass.length c2) ∧ (((((((((u).setCell ⟨w.heap.size + 1 + 1, 0, none⟩ v0).setCell ⟨w.heap.size + 1 + 1, 1, none⟩ v1).setCell ⟨w.heap.size + 1 + 1, 2, none⟩ v2).setCell ⟨w.heap.size + 1 + 1, 3, none⟩ v3).setCell ⟨w.heap.size + 1 + 1, 4, none⟩ v4).setCell ⟨w.heap.size + 1 + 1, 5, none⟩ v5).setCell ⟨w.heap.size + 1 + 1, 6, none⟩ v6).setCell ⟨w.heap.size + 1 + 1, 7, none⟩ v7).cell? ⟨w.heap.size + 1, 4, none⟩ = some (.slice a3 f.plus.length c3) ∧ (((((((((u).setCell ⟨w.heap.size + 1 + 1, 0, none⟩ v0).setCell ⟨w.heap.size + 1 + 1, 1, none⟩ v1).setCell ⟨w.heap.size + 1 + 1, 2, none⟩ v2).setCell ⟨w.heap.size + 1 + 1, 3, none⟩ v3).setCell ⟨w.heap.size + 1 + 1, 4, none⟩ v4).setCell ⟨w.heap.size + 1 + 1, 5, none⟩ v5).setCell ⟨w.heap.size + 1 + 1, 6, none⟩ v6).setCell ⟨w.heap.size + 1 + 1, 7, none⟩ v7).cell? ⟨w.heap.size + 1, 5, none⟩ = some (.slice a4 f.lets.length c4)) := fun u v0 v1 v2 v3 v4 v5 v6 v7 h => by
    have e : ∀ (B k : Nat), B ≠ w.heap.size + 1 + 1 → (((((((((u).setCell ⟨w.heap.size + 1 + 1, 0, none⟩ v0).setCell ⟨w.heap.size + 1 + 1, 1, none⟩ v1).setCell ⟨w.heap.size + 1 + 1, 2, none⟩ v2).setCell ⟨w.heap.size + 1 + 1, 3, none⟩ v3).setCell ⟨w.heap.size + 1 + 1, 4, none⟩ v4).setCell ⟨w.heap.size + 1 + 1, 5, none⟩ v5).setCell ⟨w.heap.size + 1 + 1, 6, none⟩ v6).setCell ⟨w.heap.size + 1 + 1, 7, none⟩ v7).cell? ⟨B, k, none⟩ = u.cell? ⟨B, k, none⟩ := fun B k h => World.cell?_of_block (by
      show (((((((((u).setCell ⟨w.heap.size + 1 + 1, 0, none⟩ v0).setCell ⟨w.heap.size + 1 + 1, 1, none⟩ v1).setCell ⟨w.heap.size + 1 + 1, 2, none⟩ v2).setCell ⟨w.heap.size + 1 + 1, 3, none⟩ v3).setCell ⟨w.heap.size + 1 + 1, 4, none⟩ v4).setCell ⟨w.heap.size + 1 + 1, 5, none⟩ v5).setCell ⟨w.heap.size + 1 + 1, 6, none⟩ v6).setCell ⟨w.heap.size + 1 + 1, 7, none⟩ v7).heap[B]? = u.heap[B]?
      simp only [cells_set h])
    simp only [e w.heap.size _ (by omega), e (w.heap.size + 1) _ (by omega)]
    exact h
  have hor : f.back = false ∨ f.back = true := by cases f.back <;> simp
  rcases hor with hback | hback
  · rw [hback] at y0
    have HK := hide hback
    clear hback
    go_upto_region 3 with fail
    go_region_held3 (fun u => u.cell? ⟨w.heap.size, 0, none⟩ = some (.int .i64 r) ∧ u.cell? ⟨w.heap.size, 1, none⟩ = some (.slice (some ⟨b, off, none⟩) ns.length cap) ∧ u.cell? ⟨w.heap.size + 1, 0, none⟩ = some (.bool f.back) ∧ u.cell? ⟨w.heap.size + 1, 1, none⟩ = some (.bool f.empty) ∧ u.cell? ⟨w.heap.size + 1, 2, none⟩ = some (.slice a1 f.gen.length c1) ∧ u.cell? ⟨w.heap.size + 1, 3, none⟩ = some (.slice a2 f.pass.length c2) ∧ u.cell? ⟨w.heap.size + 1, 4, none⟩ = some (.slice a3 f.plus.length c3) ∧ u.cell? ⟨w.heap.size + 1, 5, none⟩ = some (.slice a4 f.lets.length c4)) (first
      | (with_reducible refine HSet.out _ _ _ _ _ _ _ _ _ ?_; exact HS.out _ hB2)
      | (with_reducible refine HS.out _ ?_; first | with_reducible exact hB2 | with_reducible exact hB1 | with_reducible exact (Below.refl _ W).drew | with_reducible exact (Below.refl _ W))) (first
      | (go_at_call 57; refine (linksAhead_rows r b off cap ns _ (by first | exact HNN.out _ (Below.refl _ W).drew | exact HNN.out _ (Below.refl _ W)) hCC).mono ?_; rintro e wa ⟨rb1, rfl, hR1, hba⟩; have hB1 : Below W.heap.size W wa := (by first | exact (Below.refl _ W).drew.trans hba | exact hba))
      | (go_at_call 108; refine (linksNext_rows r b off cap ns _ (HNN.out _ hB1) hCC).mono ?_; rintro e wb ⟨rb2, rfl, hR2, hbb⟩; have hB2 : Below W.heap.size W wb := hB1.trans (hbb.mono hB1.size); have x0 := XF.out _ hB2 0 (by decide); have x1 := XF.out _ hB2 1 (by decide); have x2 := XF.out _ hB2 2 (by decide); have x3 := XF.out _ hB2 3 (by decide); have x4 := XF.out _ hB2 4 (by decide); have x5 := XF.out _ hB2 5 (by decide); have x6 := XF.out _ hB2 6 (by decide); have x7 := XF.out _ hB2 7 (by decide); simp at x0 x1 x2 x3 x4 x5 x6 x7; have xl := blk_lt (HH.out _ hB2).2.2))
    have k0 := blk_set (i := 0) (.bool f.back) (HH.out _ hB2).2.2
    have k1 := blk_set (i := 1) (.bool f.empty) k0
    have k2 := blk_set (i := 2) (.slice a1 f.gen.length c1) k1
    have k3 := blk_set (i := 3) (.slice a2 f.pass.length c2) k2
    have k4 := blk_set (i := 4) (.slice a3 f.plus.length c3) k3
    have k5 := blk_set (i := 5) (.slice a4 f.lets.length c4) k4
    have k6 := blk_set (i := 6) (.slice (some ⟨rb1, 0, none⟩) ns.length ns.length) k5
    have k7 := blk_set (i := 7) (.slice (some ⟨rb2, 0, none⟩) ns.length ns.length) k6
    have T1 := (((((((((hR1.below hbb).set (o := 0) (u := .bool f.back) (HH.out _ hB2).2.2 (by decide) (by decide)).set (o := 1) (u := .bool f.empty) k0 (by decide) (by decide)).set (o := 2) (u := .slice a1 f.gen.length c1) k1 (by decide) (by decide)).set (o := 3) (u := .slice a2 f.pass.length c2) k2 (by decide) (by decide)).set (o := 4) (u := .slice a3 f.plus.length c3) k3 (by decide) (by decide)).set (o := 5) (u := .slice a4 f.lets.length c4) k4 (by decide) (by decide)).set (o := 6) (u := .slice (some ⟨rb1, 0, none⟩) ns.length ns.length) k5 (by decide) (by decide)).set (o := 7) (u := .slice (some ⟨rb2, 0, none⟩) ns.length ns.length) k6 (by decide) (by decide))
    have T2 := ((((((((hR2.set (o := 0) (u := .bool f.back) (HH.out _ hB2).2.2 (by decide) (by decide)).set (o := 1) (u := .bool f.empty) k0 (by decide) (by decide)).set (o := 2) (u := .slice a1 f.gen.length c1) k1 (by decide) (by decide)).set (o := 3) (u := .slice a2 f.pass.length c2) k2 (by decide) (by decide)).set (o := 4) (u := .slice a3 f.plus.length c3) k3 (by decide) (by decide)).set (o := 5) (u := .slice a4 f.lets.length c4) k4 (by decide) (by decide)).set (o := 6) (u := .slice (some ⟨rb1, 0, none⟩) ns.length ns.length) k5 (by decide) (by decide)).set (o := 7) (u := .slice (some ⟨rb2, 0, none⟩) ns.length ns.length) k6 (by decide) (by decide))
    have hBf := ((((((((HW.out.trans (hB2.mono HW.out.size)).setCell (p := ⟨w.heap.size + 1 + 1, 0, none⟩) (by simp; omega) (.bool f.back)).setCell (p := ⟨w.heap.size + 1 + 1, 1, none⟩) (by simp; omega) (.bool f.empty)).setCell (p := ⟨w.heap.size + 1 + 1, 2, none⟩) (by simp; omega) (.slice a1 f.gen.length c1)).setCell (p := ⟨w.heap.size + 1 + 1, 3, none⟩) (by simp; omega) (.slice a2 f.pass.length c2)).setCell (p := ⟨w.heap.size + 1 + 1, 4, none⟩) (by simp; omega) (.slice a3 f.plus.length c3)).setCell (p := ⟨w.heap.size + 1 + 1, 5, none⟩) (by simp; omega) (.slice a4 f.lets.length c4)).setCell (p := ⟨w.heap.size + 1 + 1, 6, none⟩) (by simp; omega) (.slice (some ⟨rb1, 0, none⟩) ns.length ns.length)).setCell (p := ⟨w.heap.size + 1 + 1, 7, none⟩) (by simp; omega) (.slice (some ⟨rb2, 0, none⟩) ns.length ns.length)
    clear k0 k1 k2 k3 k4 k5 k6 x0 x1 x2 x3 x4 x5 x6 x7 hR1 hR2
    simp only [List.setIfInBounds_toArray, List.set_cons_zero, List.set_cons_succ] at k7
    go_wp2_with fail
    generalize (((((((((wb).setCell ⟨w.heap.size + 1 + 1, 0, none⟩ (.bool f.back)).setCell ⟨w.heap.size + 1 + 1, 1, none⟩ (.bool f.empty)).setCell ⟨w.heap.size + 1 + 1, 2, none⟩ (.slice a1 f.gen.length c1)).setCell ⟨w.heap.size + 1 + 1, 3, none⟩ (.slice a2 f.pass.length c2)).setCell ⟨w.heap.size + 1 + 1, 4, none⟩ (.slice a3 f.plus.length c3)).setCell ⟨w.heap.size + 1 + 1, 5, none⟩ (.slice a4 f.lets.length c4)).setCell ⟨w.heap.size + 1 + 1, 6, none⟩ (.slice (some ⟨rb1, 0, none⟩) ns.length ns.length)).setCell ⟨w.heap.size + 1 + 1, 7, none⟩ (.slice (some ⟨rb2, 0, none⟩) ns.length ns.length)) = Wf at k7 T1 T2 hBf ⊢
    have y0 := blk_cell k7 0
    have y1 := blk_cell k7 1
    have y2 := blk_cell k7 2
    have y3 := blk_cell k7 3
    have y4 := blk_cell k7 4
    have y5 := blk_cell k7 5
    have y6 := blk_cell k7 6
    have y7 := blk_cell k7 7
    simp at y0 y1 y2 y3 y4 y5 y6 y7
    obtain ⟨h1, h2, h3, h4⟩ := HBO.out
    have hw : ∀ u, Below w.heap.size w u → BoolsAt u a1 f.gen ∧ BoolsAt u a2 f.pass ∧ BoolsAt u a3 f.plus ∧ BoolsAt u a4 f.lets := fun u h => ⟨h1.below h, h2.below h, h3.below h, h4.below h⟩
    obtain ⟨g1, g2, g3, g4⟩ := hw _ hBf
    refine bodyPost_ret (v := (.agg #[.bool f.back, .bool f.empty, .slice a1 f.gen.length c1, .slice a2 f.pass.length c2, .slice a3 f.plus.length c3, .slice a4 f.lets.length c4, .slice (some ⟨rb1, 0, none⟩) ns.length ns.length, .slice (some ⟨rb2, 0, none⟩) ns.length ns.length])) (by simp [results, Try.results79, go_sem, y0, y1, y2, y3, y4, y5, y6, y7]) rfl ⟨rb1, rb2, rfl, ⟨g1, g2, g3, g4, HC.out.2.1, HC.out.2.2.1, HC.out.2.2.2.1, HC.out.2.2.2.2, ?_, ?_⟩, hBf⟩
    · have e : nbs ns f = ahl ns := by funext n; simp [nbs, HK.out]
      rw [e]; exact T1.read
    · have e : ask ns f = nxl ns := by funext n; simp [ask, HK.out]
      rw [e]; exact T2.read
  · rw [hback] at y0
    have HK := hide hback
    clear hback
    go_upto_region 2 with fail
    go_region_held3 (fun u => u.cell? ⟨w.heap.size, 0, none⟩ = some (.int .i64 r) ∧ u.cell? ⟨w.heap.size, 1, none⟩ = some (.slice (some ⟨b, off, none⟩) ns.length cap) ∧ u.cell? ⟨w.heap.size + 1, 0, none⟩ = some (.bool f.back) ∧ u.cell? ⟨w.heap.size + 1, 1, none⟩ = some (.bool f.empty) ∧ u.cell? ⟨w.heap.size + 1, 2, none⟩ = some (.slice a1 f.gen.length c1) ∧ u.cell? ⟨w.heap.size + 1, 3, none⟩ = some (.slice a2 f.pass.length c2) ∧ u.cell? ⟨w.heap.size + 1, 4, none⟩ = some (.slice a3 f.plus.length c3) ∧ u.cell? ⟨w.heap.size + 1, 5, none⟩ = some (.slice a4 f.lets.length c4)) (first
      | (with_reducible refine HSet.out _ _ _ _ _ _ _ _ _ ?_; exact HS.out _ hB2)
      | (with_reducible refine HS.out _ ?_; first | with_reducible exact hB2 | with_reducible exact hB1 | with_reducible exact (Below.refl _ W).drew | with_reducible exact (Below.refl _ W))) (first
      | (go_at_call 108; refine (linksNext_rows r b off cap ns _ (by first | exact HNN.out _ (Below.refl _ W).drew | exact HNN.out _ (Below.refl _ W)) hCC).mono ?_; rintro e wa ⟨rb1, rfl, hR1, hba⟩; have hB1 : Below W.heap.size W wa := (by first | exact (Below.refl _ W).drew.trans hba | exact hba))
      | (go_at_call 57; refine (linksAhead_rows r b off cap ns _ (HNN.out _ hB1) hCC).mono ?_; rintro e wb ⟨rb2, rfl, hR2, hbb⟩; have hB2 : Below W.heap.size W wb := hB1.trans (hbb.mono hB1.size); have x0 := XF.out _ hB2 0 (by decide); have x1 := XF.out _ hB2 1 (by decide); have x2 := XF.out _ hB2 2 (by decide); have x3 := XF.out _ hB2 3 (by decide); have x4 := XF.out _ hB2 4 (by decide); have x5 := XF.out _ hB2 5 (by decide); have x6 := XF.out _ hB2 6 (by decide); have x7 := XF.out _ hB2 7 (by decide); simp at x0 x1 x2 x3 x4 x5 x6 x7; have xl := blk_lt (HH.out _ hB2).2.2))
    have k0 := blk_set (i := 0) (.bool f.back) (HH.out _ hB2).2.2
    have k1 := blk_set (i := 1) (.bool f.empty) k0
    have k2 := blk_set (i := 2) (.slice a1 f.gen.length c1) k1
    have k3 := blk_set (i := 3) (.slice a2 f.pass.length c2) k2
    have k4 := blk_set (i := 4) (.slice a3 f.plus.length c3) k3
    have k5 := blk_set (i := 5) (.slice a4 f.lets.length c4) k4
    have k6 := blk_set (i := 6) (.slice (some ⟨rb1, 0, none⟩) ns.length ns.length) k5
    have k7 := blk_set (i := 7) (.slice (some ⟨rb2, 0, none⟩) ns.length ns.length) k6
    have T1 := (((((((((hR1.below hbb).set (o := 0) (u := .bool f.back) (HH.out _ hB2).2.2 (by decide) (by decide)).set (o := 1) (u := .bool f.empty) k0 (by decide) (by decide)).set (o := 2) (u := .slice a1 f.gen.length c1) k1 (by decide) (by decide)).set (o := 3) (u := .slice a2 f.pass.length c2) k2 (by decide) (by decide)).set (o := 4) (u := .slice a3 f.plus.length c3) k3 (by decide) (by decide)).set (o := 5) (u := .slice a4 f.lets.length c4) k4 (by decide) (by decide)).set (o := 6) (u := .slice (some ⟨rb1, 0, none⟩) ns.length ns.length) k5 (by decide) (by decide)).set (o := 7) (u := .slice (some ⟨rb2, 0, none⟩) ns.length ns.length) k6 (by decide) (by decide))
    have T2 := ((((((((hR2.set (o := 0) (u := .bool f.back) (HH.out _ hB2).2.2 (by decide) (by decide)).set (o := 1) (u := .bool f.empty) k0 (by decide) (by decide)).set (o := 2) (u := .slice a1 f.gen.length c1) k1 (by decide) (by decide)).set (o := 3) (u := .slice a2 f.pass.length c2) k2 (by decide) (by decide)).set (o := 4) (u := .slice a3 f.plus.length c3) k3 (by decide) (by decide)).set (o := 5) (u := .slice a4 f.lets.length c4) k4 (by decide) (by decide)).set (o := 6) (u := .slice (some ⟨rb1, 0, none⟩) ns.length ns.length) k5 (by decide) (by decide)).set (o := 7) (u := .slice (some ⟨rb2, 0, none⟩) ns.length ns.length) k6 (by decide) (by decide))
    have hBf := ((((((((HW.out.trans (hB2.mono HW.out.size)).setCell (p := ⟨w.heap.size + 1 + 1, 0, none⟩) (by simp; omega) (.bool f.back)).setCell (p := ⟨w.heap.size + 1 + 1, 1, none⟩) (by simp; omega) (.bool f.empty)).setCell (p := ⟨w.heap.size + 1 + 1, 2, none⟩) (by simp; omega) (.slice a1 f.gen.length c1)).setCell (p := ⟨w.heap.size + 1 + 1, 3, none⟩) (by simp; omega) (.slice a2 f.pass.length c2)).setCell (p := ⟨w.heap.size + 1 + 1, 4, none⟩) (by simp; omega) (.slice a3 f.plus.length c3)).setCell (p := ⟨w.heap.size + 1 + 1, 5, none⟩) (by simp; omega) (.slice a4 f.lets.length c4)).setCell (p := ⟨w.heap.size + 1 + 1, 6, none⟩) (by simp; omega) (.slice (some ⟨rb1, 0, none⟩) ns.length ns.length)).setCell (p := ⟨w.heap.size + 1 + 1, 7, none⟩) (by simp; omega) (.slice (some ⟨rb2, 0, none⟩) ns.length ns.length)
    clear k0 k1 k2 k3 k4 k5 k6 x0 x1 x2 x3 x4 x5 x6 x7 hR1 hR2
    simp only [List.setIfInBounds_toArray, List.set_cons_zero, List.set_cons_succ] at k7
    go_wp2_with fail
    generalize (((((((((wb).setCell ⟨w.heap.size + 1 + 1, 0, none⟩ (.bool f.back)).setCell ⟨w.heap.size + 1 + 1, 1, none⟩ (.bool f.empty)).setCell ⟨w.heap.size + 1 + 1, 2, none⟩ (.slice a1 f.gen.length c1)).setCell ⟨w.heap.size + 1 + 1, 3, none⟩ (.slice a2 f.pass.length c2)).setCell ⟨w.heap.size + 1 + 1, 4, none⟩ (.slice a3 f.plus.length c3)).setCell ⟨w.heap.size + 1 + 1, 5, none⟩ (.slice a4 f.lets.length c4)).setCell ⟨w.heap.size + 1 + 1, 6, none⟩ (.slice (some ⟨rb1, 0, none⟩) ns.length ns.length)).setCell ⟨w.heap.size + 1 + 1, 7, none⟩ (.slice (some ⟨rb2, 0, none⟩) ns.length ns.length)) = Wf at k7 T1 T2 hBf ⊢
    have y0 := blk_cell k7 0
    have y1 := blk_cell k7 1
    have y2 := blk_cell k7 2
    have y3 := blk_cell k7 3
    have y4 := blk_cell k7 4
    have y5 := blk_cell k7 5
    have y6 := blk_cell k7 6
    have y7 := blk_cell k7 7
    simp at y0 y1 y2 y3 y4 y5 y6 y7
    obtain ⟨h1, h2, h3, h4⟩ := HBO.out
    have hw : ∀ u, Below w.heap.size w u → BoolsAt u a1 f.gen ∧ BoolsAt u a2 f.pass ∧ BoolsAt u a3 f.plus ∧ BoolsAt u a4 f.lets := fun u h => ⟨h1.below h, h2.below h, h3.below h, h4.below h⟩
    obtain ⟨g1, g2, g3, g4⟩ := hw _ hBf
    refine bodyPost_ret (v := (.agg #[.bool f.back, .bool f.empty, .slice a1 f.gen.length c1, .slice a2 f.pass.length c2, .slice a3 f.plus.length c3, .slice a4 f.lets.length c4, .slice (some ⟨rb1, 0, none⟩) ns.length ns.length, .slice (some ⟨rb2, 0, none⟩) ns.length ns.length])) (by simp [results, Try.results79, go_sem, y0, y1, y2, y3, y4, y5, y6, y7]) rfl ⟨rb1, rb2, rfl, ⟨g1, g2, g3, g4, HC.out.2.1, HC.out.2.2.1, HC.out.2.2.2.1, HC.out.2.2.2.2, ?_, ?_⟩, hBf⟩
    · have e : nbs ns f = nxl ns := by funext n; simp [nbs, HK.out]
      rw [e]; exact T1.read
    · have e : ask ns f = ahl ns := by funext n; simp [ask, HK.out]
      rw [e]; exact T2.read
end Go.Proofs.Ytoikglgnmjjpcaa
