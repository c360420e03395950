/-
  hoistwaylaw.TextBack, walked.
-/
import Derived.Test.YtoikglgnmjjpcaaDoorTQ
namespace Go.Proofs.YtoikglgnmjjpcaaDoor
open Go.RowKit Go.Maps Go.ChangeMaps
set_option linter.unusedVariables false

set_option maxHeartbeats 8000000 in
set_option maxRecDepth 100000 in
theorem back_bn (r : Int) (a : Option Addr) (cap : Nat) (ns : List Nd) (l : List UInt8) (w : World) (hN : SlN w a ns) (hE : Env w) (hl : l.length ≤ 140737488355328) (hc : chk r ns ≠ 0) (hq : readB l = none) :
    Calls Tryd.prog 4 #[.agg #[.int .i64 r, .slice a ns.length cap], .string (ba l)] w fun e w' => e = .returned (.bool true) ∧ Below w.heap.size w w' := by
  have hre : ∀ u, Env u → Calls Tryd.prog 8 #[.string (ba l)] u fun e w' => e = .returned (.tuple #[.agg #[.int .i64 0, .slice none 0 0], .int .i64 1]) ∧ Below u.heap.size u w' := fun u hu => by
    have := read_any l u hu hl
    rw [hq] at this
    exact this
  have hsh := show_bad r a cap ns (w.alloc (.cells #[.int .i64 r, .slice a ns.length cap] 24)) (hN.below ((Below.refl _ _).alloc (Nat.le_refl _) _)) hc
  generalize chk r ns = C at hc hsh
  have hb0 : Below w.heap.size w (w.alloc (.cells #[.int .i64 r, .slice a ns.length cap] 24)) := (Below.refl _ _).alloc (Nat.le_refl _) _
  have hp0 : (w.alloc (.cells #[.int .i64 r, .slice a ns.length cap] 24)).heap[w.heap.size]? = some (.cells #[.int .i64 r, .slice a ns.length cap] 24 (0, 0)) := blkn rfl
  have hw0 : (w.alloc (.cells #[.int .i64 r, .slice a ns.length cap] 24)).heap.size = w.heap.size + 1 := by simp
  go_enter Tryd.func4, Tryd.ntmps4
  go_wp2_with fail
  refine hsh.mono ?_
  rintro e w1 ⟨rfl, hb1⟩
  have hB1 := hb0.trans (hb1.mono hb0.size)
  have hp1 := (hb1.block w.heap.size (by rw [hw0]; omega)).trans hp0
  have hs1 := hb1.size
  rw [hw0] at hs1
  clear hb1 hsh hb0 hp0 hw0
  go_wp2_with fail
  refine (hre _ (hE.below hB1)).mono ?_
  rintro e w6 ⟨rfl, hb6⟩
  have hB6 := (hB1.trans (hb6.mono hB1.size)).alloc (Nat.le_trans hB1.size hb6.size) (.cells #[.int .i64 0, .slice none 0 0] 24)
  clear hb6 hB1 hre
  go_wp2_with fail
  refine (textBegun_any _ (hE.below hB6)).mono ?_
  rintro e w7 ⟨rfl, hb7⟩
  have hB7 := hB6.trans (hb7.mono hB6.size)
  clear hb7 hB6
  go_wp2_with fail
  go_ret
  exact ⟨rfl, hB7⟩

set_option maxHeartbeats 8000000 in
set_option maxRecDepth 100000 in
theorem back_bs (r : Int) (a : Option Addr) (cap : Nat) (ns : List Nd) (l : List UInt8) (w : World) (hN : SlN w a ns) (hE : Env w) (hl : l.length ≤ 140737488355328) (hc : chk r ns ≠ 0) (r2 : Int) (ms : List Nd) (hq : readB l = some (r2, ms)) :
    Calls Tryd.prog 4 #[.agg #[.int .i64 r, .slice a ns.length cap], .string (ba l)] w fun e w' => e = .returned (.bool true) ∧ Below w.heap.size w w' := by
  obtain ⟨hc2, hs2, ha2⟩ := readB_inv hq
  have hre : ∀ u, Env u → Calls Tryd.prog 8 #[.string (ba l)] u fun e w' => (∃ a' cap', e = .returned (.tuple #[.agg #[.int .i64 r2, .slice a' ms.length cap'], .int .i64 0]) ∧ SlN w' a' ms) ∧ Below u.heap.size u w' := fun u hu => by
    have := read_any l u hu hl
    rw [hq] at this
    exact this
  have hsh2 : ∀ (u : World) (a' : Option Addr) (cap' : Nat), Env u → SlN u a' ms → Calls Tryd.prog 5 #[.agg #[.int .i64 r2, .slice a' ms.length cap']] u fun e w' => e = .returned (.tuple #[.string (ba l), .int .i64 0]) ∧ Below u.heap.size u w' := fun u a' cap' hu hm => by
    have := show_ok r2 a' cap' ms u hm hu ha2 hc2
    rw [hs2] at this
    exact this
  have hsh := show_bad r a cap ns (w.alloc (.cells #[.int .i64 r, .slice a ns.length cap] 24)) (hN.below ((Below.refl _ _).alloc (Nat.le_refl _) _)) hc
  generalize chk r ns = C at hc hsh
  have hb0 : Below w.heap.size w (w.alloc (.cells #[.int .i64 r, .slice a ns.length cap] 24)) := (Below.refl _ _).alloc (Nat.le_refl _) _
  have hp0 : (w.alloc (.cells #[.int .i64 r, .slice a ns.length cap] 24)).heap[w.heap.size]? = some (.cells #[.int .i64 r, .slice a ns.length cap] 24 (0, 0)) := blkn rfl
  have hw0 : (w.alloc (.cells #[.int .i64 r, .slice a ns.length cap] 24)).heap.size = w.heap.size + 1 := by simp
  go_enter Tryd.func4, Tryd.ntmps4
  go_wp2_with fail
  refine hsh.mono ?_
  rintro e w1 ⟨rfl, hb1⟩
  have hB1 := hb0.trans (hb1.mono hb0.size)
  have hp1 := (hb1.block w.heap.size (by rw [hw0]; omega)).trans hp0
  have hs1 := hb1.size
  rw [hw0] at hs1
  clear hb1 hsh hb0 hp0 hw0
  go_wp2_with fail
  refine (hre _ (hE.below hB1)).mono ?_
  rintro e w6 ⟨⟨a6, cap6, rfl, hN6⟩, hb6⟩
  have hB6 := (hB1.trans (hb6.mono hB1.size)).alloc (Nat.le_trans hB1.size hb6.size) (.cells #[.int .i64 r2, .slice a6 ms.length cap6] 24)
  have hM6 := hN6.below ((Below.refl w6.heap.size w6).alloc (Nat.le_refl _) (.cells #[.int .i64 r2, .slice a6 ms.length cap6] 24))
  clear hb6 hB1 hre
  go_wp2_with fail
  refine (hsh2 _ _ _ (hE.below hB6) hM6).mono ?_
  rintro e w7 ⟨rfl, hb7⟩
  have hB7 := hB6.trans (hb7.mono hB6.size)
  clear hb7 hB6 hM6 hsh2
  go_wp2_with fail
  refine (textBegun_any _ (hE.below hB7)).mono ?_
  rintro e w8 ⟨rfl, hb8⟩
  have hB8 := hB7.trans (hb8.mono hB7.size)
  clear hb8 hB7
  go_wp2_with fail
  go_ret
  exact ⟨rfl, hB8⟩

set_option maxHeartbeats 8000000 in
set_option maxRecDepth 100000 in
theorem back_on (r : Int) (a : Option Addr) (cap : Nat) (ns : List Nd) (l : List UInt8) (w : World) (hN : SlN w a ns) (hE : Env w) (hl : l.length ≤ 140737488355328) (hc : chk r ns = 0) (ha : ∀ x ∈ ns, -9223372036854775808 ≤ x.a ∧ x.a ≤ 9223372036854775807) (hq : readB l = none) :
    Calls Tryd.prog 4 #[.agg #[.int .i64 r, .slice a ns.length cap], .string (ba l)] w fun e w' => e = .returned (.bool true) ∧ Below w.heap.size w w' := by
  have hre : ∀ u, Env u → Calls Tryd.prog 8 #[.string (ba l)] u fun e w' => e = .returned (.tuple #[.agg #[.int .i64 0, .slice none 0 0], .int .i64 1]) ∧ Below u.heap.size u w' := fun u hu => by
    have := read_any l u hu hl
    rw [hq] at this
    exact this
  have hsh := show_ok r a cap ns (w.alloc (.cells #[.int .i64 r, .slice a ns.length cap] 24)) (hN.below ((Below.refl _ _).alloc (Nat.le_refl _) _)) (hE.below ((Below.refl _ _).alloc (Nat.le_refl _) _)) ha hc
  have hrd : ∀ u, Env u → Calls Tryd.prog 8 #[.string (ba (showB r ns))] u fun e w' => (∃ a' cap', e = .returned (.tuple #[.agg #[.int .i64 r, .slice a' ns.length cap'], .int .i64 0]) ∧ SlN w' a' ns) ∧ Below u.heap.size u w' := fun u hu => by
    have := read_any (showB r ns) u hu (show_size hc ha)
    rw [readB_show hc ha] at this
    exact this
  have hnl : ns.length ≤ 140737488351232 := by obtain ⟨h, _⟩ := chk_full hc; omega
  generalize ba (showB r ns) = A at hsh hrd
  have hb0 : Below w.heap.size w (w.alloc (.cells #[.int .i64 r, .slice a ns.length cap] 24)) := (Below.refl _ _).alloc (Nat.le_refl _) _
  have hp0 : (w.alloc (.cells #[.int .i64 r, .slice a ns.length cap] 24)).heap[w.heap.size]? = some (.cells #[.int .i64 r, .slice a ns.length cap] 24 (0, 0)) := blkn rfl
  have hw0 : (w.alloc (.cells #[.int .i64 r, .slice a ns.length cap] 24)).heap.size = w.heap.size + 1 := by simp
  go_enter Tryd.func4, Tryd.ntmps4
  go_wp2_with fail
  refine hsh.mono ?_
  rintro e w1 ⟨rfl, hb1⟩
  have hB1 := hb0.trans (hb1.mono hb0.size)
  have hp1 := (hb1.block w.heap.size (by rw [hw0]; omega)).trans hp0
  have hs1 := hb1.size
  rw [hw0] at hs1
  clear hb1 hsh hb0 hp0 hw0
  go_wp2_with fail
  refine (hrd _ (hE.below hB1)).mono ?_
  rintro e w2 ⟨⟨a2, cap2, rfl, hN2⟩, hb2⟩
  have hs2 := hb2.size
  have hb2a : Below w1.heap.size w1 (w2.alloc (.cells #[.int .i64 r, .slice a2 ns.length cap2] 24)) := hb2.alloc hs2 _
  have hB2 := hB1.trans (hb2a.mono hB1.size)
  have hp2 := (hb2a.block w.heap.size (by omega)).trans hp1
  have hq2 : (w2.alloc (.cells #[.int .i64 r, .slice a2 ns.length cap2] 24)).heap[w2.heap.size]? = some (.cells #[.int .i64 r, .slice a2 ns.length cap2] 24 (0, 0)) := blkn rfl
  have hM2 := hN2.below ((Below.refl w2.heap.size w2).alloc (Nat.le_refl _) (.cells #[.int .i64 r, .slice a2 ns.length cap2] 24))
  go_upto_region 4 with fail
  clear hb2 hb2a hp1 hN2 hB1 hrd
  have HM2 := hide hM2
  have HN2 := hide (hN.below hB2)
  have HB2 := hide hB2
  clear hM2 hB2
  generalize (w2.alloc (.cells #[.int .i64 r, .slice a2 ns.length cap2] 24)) = V at hp2 hq2 HM2 HN2 HB2 ⊢
  have HS : Hid (∀ u, Below V.heap.size V u → u.cell? ⟨w2.heap.size, 0, none⟩ = some (.int .i64 r) ∧ u.cell? ⟨w2.heap.size, 1, none⟩ = some (.slice a2 ns.length cap2) ∧ u.cell? ⟨w.heap.size, 0, none⟩ = some (.int .i64 r) ∧ u.cell? ⟨w.heap.size, 1, none⟩ = some (.slice a ns.length cap)) := fun u h => by
    have k1 := (h.block _ (blk_lt hq2)).trans hq2
    have k2 := (h.block _ (blk_lt hp2)).trans hp2
    exact ⟨by rw [blk_cell k1]; rfl, by rw [blk_cell k1]; rfl, by rw [blk_cell k2]; rfl, by rw [blk_cell k2]; rfl⟩
  clear hp2 hq2
  obtain ⟨c0, c1, c2, c3⟩ := HS.out V (Below.refl _ _)
  go_wp2_with fail
  refine (sameProgs_same r _ _ _ _ ns _ HM2.out HN2.out hnl).mono ?_
  rintro e V2 ⟨rfl, hbW⟩
  have hB3 := HB2.out.trans (hbW.mono HB2.out.size)
  clear hbW HS c0 c1 c2 c3
  go_wp2_with fail
  refine (hre _ (hE.below hB3)).mono ?_
  rintro e w6 ⟨rfl, hb6⟩
  have hB6 := (hB3.trans (hb6.mono hB3.size)).alloc (Nat.le_trans hB3.size hb6.size) (.cells #[.int .i64 0, .slice none 0 0] 24)
  clear hb6 hB3 hre
  go_wp2_with fail
  refine (textBegun_any _ (hE.below hB6)).mono ?_
  rintro e w7 ⟨rfl, hb7⟩
  have hB7 := hB6.trans (hb7.mono hB6.size)
  clear hb7 hB6
  go_wp2_with fail
  go_ret
  exact ⟨rfl, hB7⟩

set_option maxHeartbeats 8000000 in
set_option maxRecDepth 100000 in
theorem back_os (r : Int) (a : Option Addr) (cap : Nat) (ns : List Nd) (l : List UInt8) (w : World) (hN : SlN w a ns) (hE : Env w) (hl : l.length ≤ 140737488355328) (hc : chk r ns = 0) (ha : ∀ x ∈ ns, -9223372036854775808 ≤ x.a ∧ x.a ≤ 9223372036854775807) (r2 : Int) (ms : List Nd) (hq : readB l = some (r2, ms)) :
    Calls Tryd.prog 4 #[.agg #[.int .i64 r, .slice a ns.length cap], .string (ba l)] w fun e w' => e = .returned (.bool true) ∧ Below w.heap.size w w' := by
  obtain ⟨hc2, hs2, ha2⟩ := readB_inv hq
  have hre : ∀ u, Env u → Calls Tryd.prog 8 #[.string (ba l)] u fun e w' => (∃ a' cap', e = .returned (.tuple #[.agg #[.int .i64 r2, .slice a' ms.length cap'], .int .i64 0]) ∧ SlN w' a' ms) ∧ Below u.heap.size u w' := fun u hu => by
    have := read_any l u hu hl
    rw [hq] at this
    exact this
  have hsh2 : ∀ (u : World) (a' : Option Addr) (cap' : Nat), Env u → SlN u a' ms → Calls Tryd.prog 5 #[.agg #[.int .i64 r2, .slice a' ms.length cap']] u fun e w' => e = .returned (.tuple #[.string (ba l), .int .i64 0]) ∧ Below u.heap.size u w' := fun u a' cap' hu hm => by
    have := show_ok r2 a' cap' ms u hm hu ha2 hc2
    rw [hs2] at this
    exact this
  have hsh := show_ok r a cap ns (w.alloc (.cells #[.int .i64 r, .slice a ns.length cap] 24)) (hN.below ((Below.refl _ _).alloc (Nat.le_refl _) _)) (hE.below ((Below.refl _ _).alloc (Nat.le_refl _) _)) ha hc
  have hrd : ∀ u, Env u → Calls Tryd.prog 8 #[.string (ba (showB r ns))] u fun e w' => (∃ a' cap', e = .returned (.tuple #[.agg #[.int .i64 r, .slice a' ns.length cap'], .int .i64 0]) ∧ SlN w' a' ns) ∧ Below u.heap.size u w' := fun u hu => by
    have := read_any (showB r ns) u hu (show_size hc ha)
    rw [readB_show hc ha] at this
    exact this
  have hnl : ns.length ≤ 140737488351232 := by obtain ⟨h, _⟩ := chk_full hc; omega
  generalize ba (showB r ns) = A at hsh hrd
  have hb0 : Below w.heap.size w (w.alloc (.cells #[.int .i64 r, .slice a ns.length cap] 24)) := (Below.refl _ _).alloc (Nat.le_refl _) _
  have hp0 : (w.alloc (.cells #[.int .i64 r, .slice a ns.length cap] 24)).heap[w.heap.size]? = some (.cells #[.int .i64 r, .slice a ns.length cap] 24 (0, 0)) := blkn rfl
  have hw0 : (w.alloc (.cells #[.int .i64 r, .slice a ns.length cap] 24)).heap.size = w.heap.size + 1 := by simp
  go_enter Tryd.func4, Tryd.ntmps4
  go_wp2_with fail
  refine hsh.mono ?_
  rintro e w1 ⟨rfl, hb1⟩
  have hB1 := hb0.trans (hb1.mono hb0.size)
  have hp1 := (hb1.block w.heap.size (by rw [hw0]; omega)).trans hp0
  have hs1 := hb1.size
  rw [hw0] at hs1
  clear hb1 hsh hb0 hp0 hw0
  go_wp2_with fail
  refine (hrd _ (hE.below hB1)).mono ?_
  rintro e w2 ⟨⟨a2, cap2, rfl, hN2⟩, hb2⟩
  have hs2 := hb2.size
  have hb2a : Below w1.heap.size w1 (w2.alloc (.cells #[.int .i64 r, .slice a2 ns.length cap2] 24)) := hb2.alloc hs2 _
  have hB2 := hB1.trans (hb2a.mono hB1.size)
  have hp2 := (hb2a.block w.heap.size (by omega)).trans hp1
  have hq2 : (w2.alloc (.cells #[.int .i64 r, .slice a2 ns.length cap2] 24)).heap[w2.heap.size]? = some (.cells #[.int .i64 r, .slice a2 ns.length cap2] 24 (0, 0)) := blkn rfl
  have hM2 := hN2.below ((Below.refl w2.heap.size w2).alloc (Nat.le_refl _) (.cells #[.int .i64 r, .slice a2 ns.length cap2] 24))
  go_upto_region 4 with fail
  clear hb2 hb2a hp1 hN2 hB1 hrd
  have HM2 := hide hM2
  have HN2 := hide (hN.below hB2)
  have HB2 := hide hB2
  clear hM2 hB2
  generalize (w2.alloc (.cells #[.int .i64 r, .slice a2 ns.length cap2] 24)) = V at hp2 hq2 HM2 HN2 HB2 ⊢
  have HS : Hid (∀ u, Below V.heap.size V u → u.cell? ⟨w2.heap.size, 0, none⟩ = some (.int .i64 r) ∧ u.cell? ⟨w2.heap.size, 1, none⟩ = some (.slice a2 ns.length cap2) ∧ u.cell? ⟨w.heap.size, 0, none⟩ = some (.int .i64 r) ∧ u.cell? ⟨w.heap.size, 1, none⟩ = some (.slice a ns.length cap)) := fun u h => by
    have k1 := (h.block _ (blk_lt hq2)).trans hq2
    have k2 := (h.block _ (blk_lt hp2)).trans hp2
    exact ⟨by rw [blk_cell k1]; rfl, by rw [blk_cell k1]; rfl, by rw [blk_cell k2]; rfl, by rw [blk_cell k2]; rfl⟩
  clear hp2 hq2
  obtain ⟨c0, c1, c2, c3⟩ := HS.out V (Below.refl _ _)
  go_wp2_with fail
  refine (sameProgs_same r _ _ _ _ ns _ HM2.out HN2.out hnl).mono ?_
  rintro e V2 ⟨rfl, hbW⟩
  have hB3 := HB2.out.trans (hbW.mono HB2.out.size)
  clear hbW HS c0 c1 c2 c3
  go_wp2_with fail
  refine (hre _ (hE.below hB3)).mono ?_
  rintro e w6 ⟨⟨a6, cap6, rfl, hN6⟩, hb6⟩
  have hB6 := (hB3.trans (hb6.mono hB3.size)).alloc (Nat.le_trans hB3.size hb6.size) (.cells #[.int .i64 r2, .slice a6 ms.length cap6] 24)
  have hM6 := hN6.below ((Below.refl w6.heap.size w6).alloc (Nat.le_refl _) (.cells #[.int .i64 r2, .slice a6 ms.length cap6] 24))
  clear hb6 hB3 hre
  go_wp2_with fail
  refine (hsh2 _ _ _ (hE.below hB6) hM6).mono ?_
  rintro e w7 ⟨rfl, hb7⟩
  have hB7 := hB6.trans (hb7.mono hB6.size)
  clear hb7 hB6 hM6 hsh2
  go_wp2_with fail
  refine (textBegun_any _ (hE.below hB7)).mono ?_
  rintro e w8 ⟨rfl, hb8⟩
  have hB8 := hB7.trans (hb8.mono hB7.size)
  clear hb8 hB7
  go_wp2_with fail
  go_ret
  exact ⟨rfl, hB8⟩

theorem textBack_any (r : Int) (a : Option Addr) (cap : Nat) (ns : List Nd) (l : List UInt8) (w : World) (hN : SlN w a ns) (hE : Env w) (ha : ∀ x ∈ ns, -9223372036854775808 ≤ x.a ∧ x.a ≤ 9223372036854775807) (hl : l.length ≤ 140737488355328) :
    Calls Tryd.prog 4 #[.agg #[.int .i64 r, .slice a ns.length cap], .string (ba l)] w fun e w' => e = .returned (.bool true) ∧ Below w.heap.size w w' := by
  by_cases hc : chk r ns = 0
  · cases hq : readB l with
    | none => exact back_on r a cap ns l w hN hE hl hc ha hq
    | some p => exact back_os r a cap ns l w hN hE hl hc ha p.1 p.2 hq
  · cases hq : readB l with
    | none => exact back_bn r a cap ns l w hN hE hl hc hq
    | some p => exact back_bs r a cap ns l w hN hE hl hc p.1 p.2 hq

end Go.Proofs.YtoikglgnmjjpcaaDoor
