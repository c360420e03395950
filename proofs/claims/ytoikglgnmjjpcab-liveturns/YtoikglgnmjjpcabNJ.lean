/-
  hoistwaylaw.LiveTurns, walked.
-/
import Derived.Test.YtoikglgnmjjpcabNI
namespace Go.Proofs.Ytoikglgnmjjpcab
open Go.RowKit Go.Shelf
set_option linter.unusedVariables false
set_option linter.unusedSimpArgs false

set_option maxRecDepth 100000 in
set_option maxHeartbeats 4000000 in
theorem liveTurns_wrong (r : Int) (a : Option Addr) (cap : Nat) (ns : List Nd) (w : World) (hN : SlN w a ns) (hc : chk r ns ≠ 0) :
    Calls Try.prog 3 #[.agg #[.int .i64 r, .slice a ns.length cap]] w fun e w' => e = .returned (.bool true) ∧ Below w.heap.size w w' := by
  have hcb : (chk r ns == 0) = false := by simp [hc]
  have hcn : (chk r ns != 0) = true := by simp [hc]
  have HL := hide (fun W (h : Below w.heap.size w W) => live_wrong r a cap ns W (hN.below h) hc)
  have HD := hide (fun W (h : Below w.heap.size w W) => dead_wrong r a cap ns W (hN.below h) hc)
  have HK := hide (fun W (h : Below w.heap.size w W) => checkProg_any r a cap ns W (hN.below h))
  clear hc hN
  generalize chk r ns = C at *
  have hb0 : Below w.heap.size w (w.alloc (.cells #[.int .i64 r, .slice a ns.length cap] 24)) := (Below.refl _ w).alloc (Nat.le_refl _) _
  have hp0 : (w.alloc (.cells #[.int .i64 r, .slice a ns.length cap] 24)).heap[w.heap.size]? = some (.cells #[.int .i64 r, .slice a ns.length cap] 24 (0, 0)) := World.alloc_heap_new w _
  go_enter Try.func3, Try.ntmps3
  go_upto_region 1 with fail
  generalize (w.alloc (.cells #[.int .i64 r, .slice a ns.length cap] 24)) = W0 at hb0 hp0 ⊢
  have p0 := blk_cell hp0 0
  have p1 := blk_cell hp0 1
  simp at p0 p1
  have pl := blk_lt hp0
  have HB0 := hide hb0
  clear hb0 hp0
  go_upto_region 2 with (go_at_call 6; refine (HL.out _ HB0.out).mono ?_; rintro e w1 ⟨rfl, hb1⟩)
  have HB1 := hide (HB0.out.trans (hb1.mono HB0.out.size))
  replace p0 := (hb1.cell (p := ⟨w.heap.size, 0, none⟩) pl).trans p0
  replace p1 := (hb1.cell (p := ⟨w.heap.size, 1, none⟩) pl).trans p1
  replace pl := Nat.lt_of_lt_of_le pl hb1.size
  clear hb1 HB0
  go_upto_region 3 with (go_at_call 7; refine (HD.out _ HB1.out).mono ?_; rintro e w2 ⟨rfl, hb2⟩)
  have hb2' := hb2.alloc hb2.size (.cells #[.int .i64 0, .slice none 0 0] 24)
  have hq2 := World.alloc_heap_new w2 (.cells #[.int .i64 0, .slice none 0 0] 24)
  have HB2 := hide (HB1.out.trans (hb2'.mono HB1.out.size))
  replace p0 := (hb2'.cell (p := ⟨w.heap.size, 0, none⟩) pl).trans p0
  replace p1 := (hb2'.cell (p := ⟨w.heap.size, 1, none⟩) pl).trans p1
  replace pl := Nat.lt_of_lt_of_le pl hb2'.size
  generalize (w2.alloc (.cells #[.int .i64 0, .slice none 0 0] 24)) = W2 at hq2 HB2 p0 p1 pl hb2' ⊢
  generalize w2.heap.size = QB at hq2 ⊢
  clear hb2 hb2' HB1
  go_upto_region 4 with (go_at_call 8; refine (HK.out _ HB2.out).mono ?_; rintro e w3 ⟨rfl, hb3⟩)
  have HB3 := hide (HB2.out.trans (hb3.mono HB2.out.size))
  have hq3 := (hb3.block _ (blk_lt hq2)).trans hq2
  clear p0 p1 pl hb3 HB2 hq2
  have HQ3 := hide hq3
  clear hq3
  go_wp2_with fail
  refine (liveBegun_any _).mono ?_
  rintro e w4 ⟨rfl, hb4⟩
  have hq4 := (hb4.block _ (blk_lt HQ3.out)).trans HQ3.out
  have q0 := blk_cell hq4 0
  have q1 := blk_cell hq4 1
  simp at q0 q1
  have ql := blk_lt hq4
  have HB4 := hide (HB3.out.trans (hb4.mono HB3.out.size))
  clear hq4 hb4
  go_wp2_with fail
  refine (sameProgs_same 0 none none 0 0 [] _ (Or.inl rfl) (Or.inl rfl) (by simp)).mono ?_
  rintro e w5 ⟨rfl, hb5⟩
  go_wp2
  go_ret
  exact ⟨by simp, HB4.out.trans (hb5.mono HB4.out.size)⟩

theorem own_sl {w : World} {base cb cc n : Nat} {e : TypeId} {ms : List Nd} (h : w.ownsRow base e 6 (.slice (some ⟨cb, 0, none⟩) n cc) n (ms.flatMap encNd)) (hl : ms.length = n) : SlN w (some ⟨cb, 0, none⟩) ms := by
  subst hl
  obtain ⟨a, c, e, hs⟩ := nodes_of_owns h
  cases e
  exact hs

set_option maxRecDepth 100000 in
set_option maxHeartbeats 16000000 in
theorem liveTurns_right (r : Int) (b off cap : Nat) (ns : List Nd) (w : World) (hN : NodesAt w b off ns) (hc : chk r ns = 0) :
    Calls Try.prog 3 #[.agg #[.int .i64 r, .slice (some ⟨b, off, none⟩) ns.length cap]] w fun e w' => e = .returned (.bool true) ∧ Below w.heap.size w w' := by
  have hl := (chk_full hc).1
  have hr := (chk_full hc).2.1
  have HL := hide (fun W (h : Below w.heap.size w W) => live_right r b off cap ns W (hN.below h hN.lt) hc)
  have HD := hide (fun W (h : Below w.heap.size w W) => dead_right r b off cap ns W (hN.below h hN.lt) hc)
  have hk := fun W (h : Below w.heap.size w W) => checkProg_any r (some ⟨b, off, none⟩) cap ns W (Or.inr ⟨b, off, rfl, hN.below h hN.lt⟩)
  rw [hc] at hk
  have HK := hide hk
  have HLO := hide (fun W (h : Below w.heap.size w W) => liveOf_any r b off cap ns W (hN.below h hN.lt) hc)
  have HDO := hide (fun W (h : Below w.heap.size w W) => deadOf_any r b off cap ns W (hN.below h hN.lt) hc)
  have HLE := hide (fun n hn => lvL_all hc (n := n) hn)
  have HDL := hide (DeadOf.all ns).len
  clear hc hN hk
  have hb0 : Below w.heap.size w (w.alloc (.cells #[.int .i64 r, .slice (some ⟨b, off, none⟩) ns.length cap] 24)) := (Below.refl _ w).alloc (Nat.le_refl _) _
  have hp0 : (w.alloc (.cells #[.int .i64 r, .slice (some ⟨b, off, none⟩) ns.length cap] 24)).heap[w.heap.size]? = some (.cells #[.int .i64 r, .slice (some ⟨b, off, none⟩) ns.length cap] 24 (0, 0)) := World.alloc_heap_new w _
  go_enter Try.func3, Try.ntmps3
  go_upto_region 1 with fail
  generalize (w.alloc (.cells #[.int .i64 r, .slice (some ⟨b, off, none⟩) ns.length cap] 24)) = W0 at hb0 hp0 ⊢
  have p0 := blk_cell hp0 0
  have p1 := blk_cell hp0 1
  simp at p0 p1
  have pl := blk_lt hp0
  have HB0 := hide hb0
  have HP0 := hide hp0
  clear hb0 hp0
  go_upto_region 2 with (go_at_call 6; refine (HL.out _ HB0.out).mono ?_; rintro e w1 ⟨rb, rfl, hR1, hb1⟩)
  have HB1 := hide (HB0.out.trans (hb1.mono HB0.out.size))
  have HP1 := hide ((hb1.block _ pl).trans HP0.out)
  have HR1 := hide hR1
  replace p0 := (hb1.cell (p := ⟨w.heap.size, 0, none⟩) pl).trans p0
  replace p1 := (hb1.cell (p := ⟨w.heap.size, 1, none⟩) pl).trans p1
  replace pl := Nat.lt_of_lt_of_le pl hb1.size
  clear hb1 HB0 HP0 hR1
  go_upto_region 3 with (go_at_call 7; refine (HD.out _ HB1.out).mono ?_; rintro e w2 ⟨cb, cc, rfl, hV2, hb2⟩)
  have hx2 : Below w2.heap.size w2 (w2.alloc (.cells #[.int .i64 r, .slice (some ⟨cb, 0, none⟩) ns.length cc] 24)) := (Below.refl _ w2).alloc (Nat.le_refl _) _
  have hb2' := hb2.trans (hx2.mono hb2.size)
  have HQ2 := hide (World.alloc_heap_new w2 (.cells #[.int .i64 r, .slice (some ⟨cb, 0, none⟩) ns.length cc] 24))
  have HB2 := hide (HB1.out.trans (hb2'.mono HB1.out.size))
  have HP2 := hide ((hb2'.block _ pl).trans HP1.out)
  have HR2 := hide (HR1.out.below hb2')
  have hV2' := ownsRow_below hV2 hx2 (Nat.le_refl _)
  have HS2 := hide (own_sl hV2' HDL.out)
  replace p0 := (hb2'.cell (p := ⟨w.heap.size, 0, none⟩) pl).trans p0
  replace p1 := (hb2'.cell (p := ⟨w.heap.size, 1, none⟩) pl).trans p1
  replace pl := Nat.lt_of_lt_of_le pl hb2'.size
  clear hb2 hb2' hx2 hV2 hV2' HB1 HP1 HR1
  generalize (w2.alloc (.cells #[.int .i64 r, .slice (some ⟨cb, 0, none⟩) ns.length cc] 24)) = W2 at HQ2 HB2 HP2 HR2 HS2 p0 p1 pl ⊢
  generalize w2.heap.size = QB at HQ2 ⊢
  go_upto_region 4 with (go_at_call 8; refine (HK.out _ HB2.out).mono ?_; rintro e w3 ⟨rfl, hb3⟩)
  have HB3 := hide (HB2.out.trans (hb3.mono HB2.out.size))
  have HP3 := hide ((hb3.block _ pl).trans HP2.out)
  have HQ3 := hide ((hb3.block _ (blk_lt HQ2.out)).trans HQ2.out)
  have HR3 := hide (HR2.out.below hb3)
  have HS3 := hide (HS2.out.below hb3)
  replace p0 := (hb3.cell (p := ⟨w.heap.size, 0, none⟩) pl).trans p0
  replace p1 := (hb3.cell (p := ⟨w.heap.size, 1, none⟩) pl).trans p1
  replace pl := Nat.lt_of_lt_of_le pl hb3.size
  clear hb3 HB2 HP2 HQ2 HR2 HS2
  go_upto_region 7 with (go_at_call 11; refine (HLO.out _ HB3.out).mono ?_; rintro e w4 ⟨rb2, rfl, hR4, hb4⟩)
  have HB4 := hide (HB3.out.trans (hb4.mono HB3.out.size))
  have HP4 := hide ((hb4.block _ pl).trans HP3.out)
  have HQ4 := hide ((hb4.block _ (blk_lt HQ3.out)).trans HQ3.out)
  have HRa := hide (HR3.out.below hb4)
  have HRb := hide hR4
  have HS4 := hide (HS3.out.below hb4)
  clear hb4 hR4 HB3 HP3 HQ3 HR3 HS3 p0 p1 pl
  go_wp2_with fail
  go_loopw [9] (fun i wr => ∃ k : Nat, k ≤ ns.length ∧ i = .int .i64 k ∧ Below w4.heap.size w4 wr) (fun i _ => ns.length - (intOf i).toNat)
  case atStart => exact ⟨0, by omega, rfl, Below.refl _ _⟩
  case round =>
    obtain ⟨k, hk, rfl, hBk⟩ := hrel
    by_cases hlt : k < ns.length
    · obtain ⟨a1, c1, r1, i1⟩ := (HRa.out.below hBk).read.row k hlt
      obtain ⟨a2, c2, r2, i2⟩ := (HRb.out.below hBk).read.row k hlt
      have l1 := (HRa.out.below hBk).read.lt
      have l2 := (HRb.out.below hBk).read.lt
      have hfw := lvL_few ns 64 k
      rw [← HLE.out k hlt] at r2 i2
      have HI1 := hide i1
      have HI2 := hide i2
      have HIL := hide (ints_len (lvL ns 64 k))
      have hki : (k : Int) < (ns.length : Int) := by omega
      have HBk := hide hBk
      have HPS := hide (fun (u : World) (hB : Below wr.heap.size wr u) => (show u.cell? ⟨rb, k, none⟩ = some (.slice a1 (lvL ns 64 k).length c1) ∧ u.cell? ⟨rb2, k, none⟩ = some (.slice a2 (lvL ns 64 k).length c2) from ⟨(hB.cell (p := ⟨rb, k, none⟩) l1).trans r1, (hB.cell (p := ⟨rb2, k, none⟩) l2).trans r2⟩))
      have hsi := fun (u : World) (hB : Below wr.heap.size wr u) => sameInts_any a1 a2 c1 c2 _ _ u (HI1.out.below hB) (HI2.out.below hB) (by rw [HIL.out]; omega) (by rw [HIL.out]; omega)
      rw [HIL.out] at hsi
      have HSI := hide hsi
      clear i1 i2 hBk hsi r1 r2
      go_upto_region 12 with fail
      go_cut [67] from 58 to 66 (fun v wx => v = .bool false ∧ Below wr.heap.size wr wx)
      case first =>
        go_region_held3 (fun u => u.cell? ⟨rb, k, none⟩ = some (.slice a1 (lvL ns 64 k).length c1) ∧ u.cell? ⟨rb2, k, none⟩ = some (.slice a2 (lvL ns 64 k).length c2)) (first
          | (with_reducible exact HPS.out _ hB1)
          | exact HPS.out _ (Below.refl _ wr).drew
          | exact HPS.out _ (Below.refl _ wr)) (first | (go_at_call 12; refine (HSI.out _ (by first | exact (Below.refl _ wr).drew | exact Below.refl _ wr)).mono ?_; rintro e w' ⟨rfl, n, hw'⟩; have hB1 : Below wr.heap.size wr w' := (by rw [hw']; first | exact below_drewN (Below.refl _ wr).drew n | exact below_drewN (Below.refl _ wr) n); clear hw'; simp only [beq_self_eq_true]))
        all_goals go_wp2
        all_goals go_meet
        all_goals exact ⟨by simp, hB1⟩
      case rest =>
        obtain ⟨rfl, hBc⟩ := hcut
        have HBc := hide (HBk.out.trans (hBc.mono HBk.out.size))
        clear hBc HPS HSI HI1 HI2
        go_wp2_with fail
        go_roundw
        case rel => exact ⟨k + 1, by omega, by go_num, HBc.out⟩
        case measure => simp [intOf]; omega
    · have ek : k = ns.length := by omega
      subst ek
      have HB5 := hide (HB4.out.trans (hBk.mono HB4.out.size))
      have HP5 := hide ((hBk.block _ (blk_lt HP4.out)).trans HP4.out)
      have HQ5 := hide ((hBk.block _ (blk_lt HQ4.out)).trans HQ4.out)
      have HS5 := hide (HS4.out.below hBk)
      clear hBk HB4 HP4 HQ4 HS4 HRa HRb
      have HPS := hide (fun (u : World) (hB : Below wr.heap.size wr u) => (show u.cell? ⟨w.heap.size, 0, none⟩ = some (.int .i64 r) ∧ u.cell? ⟨w.heap.size, 1, none⟩ = some (.slice (some ⟨b, off, none⟩) ns.length cap) ∧ u.cell? ⟨QB, 0, none⟩ = some (.int .i64 r) ∧ u.cell? ⟨QB, 1, none⟩ = some (.slice (some ⟨cb, 0, none⟩) ns.length cc) from ⟨cell_ofN HP5.out hB 0 rfl, cell_ofN HP5.out hB 1 rfl, cell_ofN HQ5.out hB 0 rfl, cell_ofN HQ5.out hB 1 rfl⟩))
      have hsp := fun (a2 : Option Addr) (c2 : Nat) (u : World) (hB : Below wr.heap.size wr u) (h2 : SlN u a2 (deadN ns)) => sameProgs_same r (some ⟨cb, 0, none⟩) a2 cc c2 (deadN ns) u (HS5.out.below hB) h2 (by rw [HDL.out]; omega)
      rw [HDL.out] at hsp
      have HSP := hide hsp
      clear hsp
      go_upto_region 14 with fail
      (try simp only [List.append_eq, List.cons_append, List.nil_append])
      go_region_held3 (fun u => u.cell? ⟨w.heap.size, 0, none⟩ = some (.int .i64 r) ∧ u.cell? ⟨w.heap.size, 1, none⟩ = some (.slice (some ⟨b, off, none⟩) ns.length cap) ∧ u.cell? ⟨QB, 0, none⟩ = some (.int .i64 r) ∧ u.cell? ⟨QB, 1, none⟩ = some (.slice (some ⟨cb, 0, none⟩) ns.length cc)) (first
        | (with_reducible exact HPS.out _ hB3)
        | (with_reducible exact HPS.out _ hB2)
        | (with_reducible exact HPS.out _ hB1)
        | exact HPS.out _ (Below.refl _ wr).drew
        | exact HPS.out _ (Below.refl _ wr)) (first
        | (go_at_call 10; refine (HSP.out _ _ _ hB2 hs2).mono ?_; rintro e wcc ⟨rfl, hbc⟩; have hB3 : Below wr.heap.size wr wcc := hB2.trans (hbc.mono hB2.size))
        | (go_at_call 13; refine (HDO.out _ (HB5.out.trans (hB1.mono HB5.out.size))).mono ?_; rintro e wb ⟨db, dc, rfl, hVd, hbb⟩; have hB2 : Below wr.heap.size wr wb := hB1.trans (hbb.mono hB1.size); have hs2 : SlN wb (some ⟨db, 0, none⟩) (deadN ns) := (own_sl hVd HDL.out))
        | (go_at_call 9; refine (liveBegun_any _).mono ?_; rintro e wa ⟨rfl, hba⟩; have hB1 : Below wr.heap.size wr wa := (by first | exact (Below.refl _ wr).drew.trans hba | exact hba)))
      all_goals go_wp2
      all_goals go_ret
      all_goals exact ⟨by simp, HB5.out.trans (hB3.mono HB5.out.size)⟩
end Go.Proofs.Ytoikglgnmjjpcab
