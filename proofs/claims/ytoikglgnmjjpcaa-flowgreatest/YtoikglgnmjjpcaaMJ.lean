/-
  hoistwayref.HoldsOf, walked.
-/
import Derived.Test.YtoikglgnmjjpcaaMI
namespace Go.Proofs.Ytoikglgnmjjpcaa
open Go.RowKit Go.Shelf
set_option linter.unusedVariables false

set_option maxHeartbeats 8000000 in
set_option maxRecDepth 100000 in
theorem holdsOf_any (r : Int) (b off cap : Nat) (ns : List Nd) (f : Flw) (a1 a2 a3 a4 xa : Option Addr) (c1 c2 c3 c4 xc : Nat) (x : List Bool) (w : World) (hN : NodesAt w b off ns) (hc : fchk r ns f = 0) (h1 : BoolsAt w a1 f.gen) (h2 : BoolsAt w a2 f.pass) (h3 : BoolsAt w a3 f.plus) (h4 : BoolsAt w a4 f.lets) (hx : BoolsAt w xa x) (hxl : x.length = ns.length) :
    Calls Try.prog 46 #[.agg #[.int .i64 r, .slice (some ⟨b, off, none⟩) ns.length cap], .agg #[.bool f.back, .bool f.empty, .slice a1 f.gen.length c1, .slice a2 f.pass.length c2, .slice a3 f.plus.length c3, .slice a4 f.lets.length c4], .slice xa x.length xc] w fun e w' => e = .returned (.bool (hold ns f x)) ∧ Below w.heap.size w w' := by
  have hl := (chk_zero (fchk_zero hc).1).1
  have hsy := fun n (hn : n < ns.length) W (h : Below w.heap.size w W) => rsays_any r b off cap ns f a1 a2 a3 a4 xa c1 c2 c3 c4 xc n x W (hN.below h hN.lt) hc (h1.below h) (h2.below h) (h3.below h) (h4.below h) (hx.below h) hxl hn
  have hbA : Below w.heap.size w ((w.alloc (.cells #[.int .i64 r, .slice (some ⟨b, off, none⟩) ns.length cap] 24)).alloc (.cells #[.bool f.back, .bool f.empty, .slice a1 f.gen.length c1, .slice a2 f.pass.length c2, .slice a3 f.plus.length c3, .slice a4 f.lets.length c4] 66)) := ((Below.refl _ w).alloc (Nat.le_refl _) _).alloc (by simp) _
  have hpA : ((w.alloc (.cells #[.int .i64 r, .slice (some ⟨b, off, none⟩) ns.length cap] 24)).alloc (.cells #[.bool f.back, .bool f.empty, .slice a1 f.gen.length c1, .slice a2 f.pass.length c2, .slice a3 f.plus.length c3, .slice a4 f.lets.length c4] 66)).heap[w.heap.size]? = some (.cells #[.int .i64 r, .slice (some ⟨b, off, none⟩) ns.length cap] 24 (0, 0)) := (Below.heap_alloc _ _ _ (by simp)).trans (World.alloc_heap_new w _)
  have hfA : ((w.alloc (.cells #[.int .i64 r, .slice (some ⟨b, off, none⟩) ns.length cap] 24)).alloc (.cells #[.bool f.back, .bool f.empty, .slice a1 f.gen.length c1, .slice a2 f.pass.length c2, .slice a3 f.plus.length c3, .slice a4 f.lets.length c4] 66)).heap[w.heap.size + 1]? = some (.cells #[.bool f.back, .bool f.empty, .slice a1 f.gen.length c1, .slice a2 f.pass.length c2, .slice a3 f.plus.length c3, .slice a4 f.lets.length c4] 66 (0, 0)) := by
    have := World.alloc_heap_new (w.alloc (.cells #[.int .i64 r, .slice (some ⟨b, off, none⟩) ns.length cap] 24)) (.cells #[.bool f.back, .bool f.empty, .slice a1 f.gen.length c1, .slice a2 f.pass.length c2, .slice a3 f.plus.length c3, .slice a4 f.lets.length c4] 66)
    rwa [World.size_alloc] at this
  have HSY := hide hsy
  have HXX := hide hx
  have HXL := hide hxl
  clear hsy h1 h2 h3 h4 hx hc hN hxl
  go_enter Try.func46, Try.ntmps46
  go_wp2
  generalize ((w.alloc (.cells #[.int .i64 r, .slice (some ⟨b, off, none⟩) ns.length cap] 24)).alloc (.cells #[.bool f.back, .bool f.empty, .slice a1 f.gen.length c1, .slice a2 f.pass.length c2, .slice a3 f.plus.length c3, .slice a4 f.lets.length c4] 66)) = W at hbA hpA hfA ⊢
  have HP := hide hpA
  have HF := hide hfA
  have HW := hide hbA
  clear hbA hpA hfA
  go_loopw [7] (fun i wr => ∃ k : Nat, k ≤ ns.length ∧ i = .int .i64 k ∧ Hid (((List.range k).all fun n => bat x n == sayF ns f (bat x) n) = true) ∧ Below W.heap.size W wr) (fun i _ => ns.length - (intOf i).toNat)
  case atStart => exact ⟨0, Nat.zero_le _, rfl, rfl, Below.refl _ _⟩
  case round =>
    obtain ⟨k, hk, rfl, hA, hb⟩ := hrel
    have hp := (hb.block _ (blk_lt HP.out)).trans HP.out
    have p1 := blk_cell hp 1
    simp at p1
    have pl := blk_lt hp
    by_cases hlt : k < ns.length
    · have hki : (k : Int) < (ns.length : Int) := by omega
      have hxr := HXX.out.below (HW.out.trans (hb.mono HW.out.size))
      obtain ⟨bx, ox, rfl, lx, vx⟩ := bools_cell hxr (k := k) (by rw [HXL.out]; exact hlt)
      have hkx : (k : Int) < (x.length : Int) := by rw [HXL.out]; exact hki
      have HB := hide hb
      have HPr := hide hp
      have hsk := HSY.out k hlt
      generalize hZ : bat x k = Z at vx
      generalize hY : sayF ns f (bat x) k = Y at hsk
      have HSK := hide hsk
      have HZ := hide hZ
      have HY := hide hY
      have HVX := hide vx
      clear hsk hZ hY hxr hb hp vx
      have HS : Hid (∀ u : World, Below wr.heap.size wr u → u.cell? ⟨w.heap.size, 0, none⟩ = some (.int .i64 r) ∧ u.cell? ⟨w.heap.size, 1, none⟩ = some (.slice (some ⟨b, off, none⟩) ns.length cap) ∧ u.cell? ⟨w.heap.size + 1, 0, none⟩ = some (.bool f.back) ∧ u.cell? ⟨w.heap.size + 1, 1, none⟩ = some (.bool f.empty) ∧ u.cell? ⟨w.heap.size + 1, 2, none⟩ = some (.slice a1 f.gen.length c1) ∧ u.cell? ⟨w.heap.size + 1, 3, none⟩ = some (.slice a2 f.pass.length c2) ∧ u.cell? ⟨w.heap.size + 1, 4, none⟩ = some (.slice a3 f.plus.length c3) ∧ u.cell? ⟨w.heap.size + 1, 5, none⟩ = some (.slice a4 f.lets.length c4) ∧ u.cell? ⟨bx, ox + k, none⟩ = some (.bool Z)) := fun u h => by
        have hu := HB.out.trans (h.mono HB.out.size)
        have k1 := (hu.block _ (blk_lt HP.out)).trans HP.out
        have k2 := (hu.block _ (blk_lt HF.out)).trans HF.out
        refine ⟨?_, ?_, ?_, ?_, ?_, ?_, ?_, ?_, (h.cell (p := ⟨bx, ox + k, none⟩) lx).trans HVX.out⟩
        · rw [blk_cell k1]; rfl
        · rw [blk_cell k1]; rfl
        · rw [blk_cell k2]; rfl
        · rw [blk_cell k2]; rfl
        · rw [blk_cell k2]; rfl
        · rw [blk_cell k2]; rfl
        · rw [blk_cell k2]; rfl
        · rw [blk_cell k2]; rfl
      go_upto_region 4 with fail
      clear p1 pl
      go_region_held3 (fun u => u.cell? ⟨w.heap.size, 0, none⟩ = some (.int .i64 r) ∧ u.cell? ⟨w.heap.size, 1, none⟩ = some (.slice (some ⟨b, off, none⟩) ns.length cap) ∧ u.cell? ⟨w.heap.size + 1, 0, none⟩ = some (.bool f.back) ∧ u.cell? ⟨w.heap.size + 1, 1, none⟩ = some (.bool f.empty) ∧ u.cell? ⟨w.heap.size + 1, 2, none⟩ = some (.slice a1 f.gen.length c1) ∧ u.cell? ⟨w.heap.size + 1, 3, none⟩ = some (.slice a2 f.pass.length c2) ∧ u.cell? ⟨w.heap.size + 1, 4, none⟩ = some (.slice a3 f.plus.length c3) ∧ u.cell? ⟨w.heap.size + 1, 5, none⟩ = some (.slice a4 f.lets.length c4) ∧ u.cell? ⟨bx, ox + k, none⟩ = some (.bool Z)) (first
        | (with_reducible refine HS.out _ ?_; first | with_reducible exact hB2 | with_reducible exact (Below.refl _ wr).drew | with_reducible exact (Below.refl _ wr))) (first
        | (go_at_call 81; refine (HSK.out _ (by first | exact HW.out.trans ((HB.out.trans ((Below.refl _ wr).drew.mono HB.out.size)).mono HW.out.size) | exact HW.out.trans (HB.out.mono HW.out.size))).mono ?_; rintro e wa ⟨rfl, hba⟩; have hB2 : Below wr.heap.size wr wa := (by first | exact (Below.refl _ wr).drew.trans hba | exact hba)))
      have HB2 := hide (HB.out.trans (hB2.mono HB.out.size))
      clear hB2 hba
      cases Z <;> cases Y
      · go_wp2
        go_roundw
        case rel => exact ⟨k + 1, by omega, by go_num, (range_all_succ hA.out (by rw [HZ.out, HY.out]; simp)), HB2.out⟩
        case measure => simp [intOf]; omega
      · have hh : hold ns f x = false := range_all_false hlt (by rw [HZ.out, HY.out]; simp)
        have HH := hide hh
        clear hh
        go_wp2
        go_ret
        exact ⟨ret_bool HH.out.symm, HW.out.trans (HB2.out.mono HW.out.size)⟩
      · have hh : hold ns f x = false := range_all_false hlt (by rw [HZ.out, HY.out]; simp)
        have HH := hide hh
        clear hh
        go_wp2
        go_ret
        exact ⟨ret_bool HH.out.symm, HW.out.trans (HB2.out.mono HW.out.size)⟩
      · go_wp2
        go_roundw
        case rel => exact ⟨k + 1, by omega, by go_num, (range_all_succ hA.out (by rw [HZ.out, HY.out]; simp)), HB2.out⟩
        case measure => simp [intOf]; omega
    · have ek : k = ns.length := by omega
      subst ek
      have HB := hide hb
      clear hb hp
      go_wp2
      go_ret
      exact ⟨ret_bool (by have hh : hold ns f x = true := hA.out; rw [hh]), HW.out.trans (HB.out.mono HW.out.size)⟩
end Go.Proofs.Ytoikglgnmjjpcaa
