/-
  The document's LiveOf, walked.
  The document's uses, sets and liveAt, walked.
-/
import Derived.Test.YtoikglgnmjjpcabNE
import Derived.Test.YtoikglgnmjjpcabGP
import Derived.Test.YtoikglgnmjjpcabE
import Derived.Maps.AppendAt
namespace Go.Proofs.Ytoikglgnmjjpcab
open Go.RowKit Go.Shelf
set_option linter.unusedVariables false
set_option linter.unusedSimpArgs false

theorem usA_two (x : Nd) : usA x = (wi x.op 2 8 || wi x.op 10 12) := by
  unfold usA
  congr 1
  by_cases h2 : x.op = 2
  · simp [h2, wi]
  · have : (x.op == 2) = false := by simp [h2]
    rw [this, Bool.false_or]
    simp only [wi]
    congr 1
    simp; omega

set_option maxHeartbeats 8000000 in
theorem ruses_any (x : Nd) (j : Nat) (w : World) :
    Calls Try.prog 43 #[.agg #[.int .i64 x.op, .int .i64 x.d, .int .i64 x.a, .int .i64 x.b, .int .i64 x.t, .int .i64 x.e], .int .i64 j] w fun e w' => e = .returned (.bool (useT x j)) ∧ Below w.heap.size w w' := by
  have hb0 : Below w.heap.size w (w.alloc (.cells #[.int .i64 x.op, .int .i64 x.d, .int .i64 x.a, .int .i64 x.b, .int .i64 x.t, .int .i64 x.e] 53)) := (Below.refl _ w).alloc (Nat.le_refl _) _
  have hn : (w.alloc (.cells #[.int .i64 x.op, .int .i64 x.d, .int .i64 x.a, .int .i64 x.b, .int .i64 x.t, .int .i64 x.e] 53)).heap[w.heap.size]? = some (.cells #[.int .i64 x.op, .int .i64 x.d, .int .i64 x.a, .int .i64 x.b, .int .i64 x.t, .int .i64 x.e] 53 (0, 0)) := World.alloc_heap_new w _
  go_enter Try.func43, Try.ntmps43
  go_wp2_with fail
  generalize (w.alloc (.cells #[.int .i64 x.op, .int .i64 x.d, .int .i64 x.a, .int .i64 x.b, .int .i64 x.t, .int .i64 x.e] 53)) = W at hb0 hn ⊢
  refine (fields_any _ _).mono ?_
  rintro e w1 ⟨rfl, rfl⟩
  have c2 := blk_cell hn 2
  have c3 := blk_cell hn 3
  simp at c2 c3
  have cl := blk_lt hn
  have HB := hide hb0
  have HA := hide (usA_two x)
  have HBB : Hid (usB x = wi x.op 3 8) := rfl
  have HU : Hid (useT x j = ((usA x && x.a == (j : Int)) || (usB x && x.b == (j : Int)))) := rfl
  clear hb0 hn
  generalize (wi x.op 2 8 || wi x.op 10 12) = A at HA ⊢
  generalize wi x.op 3 8 = B at HBB ⊢
  generalize wi x.op 1 9 = D
  generalize (x.op != 12) = T
  generalize (x.op == 11) = O
  rw [HA.out, HBB.out] at HU
  cases A <;> cases B <;> cases ha : (x.a == (j : Int)) <;> cases hb : (x.b == (j : Int))
  all_goals (rw [ha, hb] at HU)
  all_goals go_wp2
  all_goals go_ret
  all_goals exact ⟨ret_bool (by rw [HU.out]; first | rfl | (simp [ha, hb]; done) | (simp_all; done)), HB.out⟩

set_option maxHeartbeats 4000000 in
theorem rsets_any (x : Nd) (j : Nat) (w : World) :
    Calls Try.prog 44 #[.agg #[.int .i64 x.op, .int .i64 x.d, .int .i64 x.a, .int .i64 x.b, .int .i64 x.t, .int .i64 x.e], .int .i64 j] w fun e w' => e = .returned (.bool (setT x j)) ∧ Below w.heap.size w w' := by
  have hb0 : Below w.heap.size w (w.alloc (.cells #[.int .i64 x.op, .int .i64 x.d, .int .i64 x.a, .int .i64 x.b, .int .i64 x.t, .int .i64 x.e] 53)) := (Below.refl _ w).alloc (Nat.le_refl _) _
  have hn : (w.alloc (.cells #[.int .i64 x.op, .int .i64 x.d, .int .i64 x.a, .int .i64 x.b, .int .i64 x.t, .int .i64 x.e] 53)).heap[w.heap.size]? = some (.cells #[.int .i64 x.op, .int .i64 x.d, .int .i64 x.a, .int .i64 x.b, .int .i64 x.t, .int .i64 x.e] 53 (0, 0)) := World.alloc_heap_new w _
  go_enter Try.func44, Try.ntmps44
  go_wp2_with fail
  generalize (w.alloc (.cells #[.int .i64 x.op, .int .i64 x.d, .int .i64 x.a, .int .i64 x.b, .int .i64 x.t, .int .i64 x.e] 53)) = W at hb0 hn ⊢
  refine (fields_any _ _).mono ?_
  rintro e w1 ⟨rfl, rfl⟩
  have c1 := blk_cell hn 1
  simp at c1
  have cl := blk_lt hn
  have HB := hide hb0
  have HU : Hid (setT x j = (wi x.op 1 9 && x.d == (j : Int))) := rfl
  clear hb0 hn
  generalize (wi x.op 2 8 || wi x.op 10 12) = A
  generalize wi x.op 3 8 = B
  generalize wi x.op 1 9 = D at HU ⊢
  generalize (x.op != 12) = T
  generalize (x.op == 11) = O
  cases D <;> cases ha : (x.d == (j : Int))
  all_goals (rw [ha] at HU)
  all_goals go_wp2
  all_goals go_ret
  all_goals exact ⟨ret_bool (by rw [HU.out]; first | rfl | (simp [ha]; done) | (simp_all; done)), HB.out⟩

theorem info_boolN : (Try.prog.info? 4).map (fun i => (i.zero, i.size, i.bytes)) = some (some (.bool false), 1, 1) := by kernel_rfl
theorem made_boolsN (n : Nat) : madeCells #[Value.bool false] n = ((List.replicate n false).map Value.bool).toArray := by
  apply Array.ext'
  rw [toList_madeCells_one]
  simp
/-- The cells of a row of yes and no. -/
def boolC (x : List Bool) : Array Value := (x.map Value.bool).toArray
theorem boolC_get {x : List Bool} {n : Nat} (h : n < x.length) : (boolC x)[n]? = some (.bool (bat x n)) := by
  simp [boolC, bat, h]
theorem boolC_set (x : List Bool) (n : Nat) (v : Bool) : (boolC x).setIfInBounds n (.bool v) = boolC (x.set n v) := by
  simp only [boolC, List.setIfInBounds_toArray, List.map_set]

set_option maxHeartbeats 16000000 in
set_option maxRecDepth 100000 in
theorem liveAt_any (r : Int) (b off cap : Nat) (ns : List Nd) (j : Nat) (w : World) (hN : NodesAt w b off ns) (hc : chk r ns = 0) :
    Calls Try.prog 30 #[.agg #[.int .i64 r, .slice (some ⟨b, off, none⟩) ns.length cap], .int .i64 j] w fun e w' => ∃ xb, e = .returned (.slice (some ⟨xb, 0, none⟩) ns.length ns.length) ∧ w'.heap[xb]? = some (.cells (boolC (lvR ns j)) 4 (0, 0)) ∧ Below w.heap.size w w' := by
  have hl := (chk_full hc).1
  have hms : ∀ W : World, Sem.run Try.prog (Instr.makeSlice 71 (.int .i64 (ns.length : Int)) (.int .i64 (ns.length : Int))) W = .ok (.slice (some ⟨W.heap.size, 0, none⟩) ns.length ns.length) (W.alloc (.cells (madeCells #[.bool false] ns.length) 4)) := fun W => run_make_row' 71 4 _ 1 Try.underlying71 info_boolN rfl .i64 .i64 ns.length (by omega) (by omega) W
  have hb0 : Below w.heap.size w (w.alloc (.cells #[.int .i64 r, .slice (some ⟨b, off, none⟩) ns.length cap] 24)) := (Below.refl _ w).alloc (Nat.le_refl _) _
  have hp0 : (w.alloc (.cells #[.int .i64 r, .slice (some ⟨b, off, none⟩) ns.length cap] 24)).heap[w.heap.size]? = some (.cells #[.int .i64 r, .slice (some ⟨b, off, none⟩) ns.length cap] 24 (0, 0)) := World.alloc_heap_new w _
  have HN := hide hN
  have HC := hide hc
  clear hN hc
  go_enter Try.func30, Try.ntmps30
  go_upto_region 1 with fail
  generalize (w.alloc (.cells #[.int .i64 r, .slice (some ⟨b, off, none⟩) ns.length cap] 24)) = W at hb0 hp0 ⊢
  have p1 := blk_cell hp0 1
  simp at p1
  have pl := blk_lt hp0
  go_upto_region 2 with fail
  have hB1 : Below W.heap.size W (W.alloc (.cells (madeCells #[.bool false] ns.length) 4)) := (Below.refl _ W).alloc (Nat.le_refl _) _
  have hX1 : (W.alloc (.cells (madeCells #[.bool false] ns.length) 4)).heap[W.heap.size]? = some (.cells (boolC ((tdns (nlF ns j) ns.length 0).map not)) 4 (0, 0)) := by
    rw [World.alloc_heap_new, made_boolsN]; simp [boolC, tdns]
  have hp1 := (hB1.block _ pl).trans hp0
  have hwx : w.heap.size < W.heap.size := pl
  have hB1' := hb0.trans (hB1.mono hb0.size)
  generalize (W.alloc (.cells (madeCells #[.bool false] ns.length) 4)) = W1 at hB1 hX1 hp1 hB1' ⊢
  generalize W.heap.size = XB at hX1 hwx ⊢
  have HX1 := hide hX1
  have HP1 := hide hp1
  have HB1 := hide hB1'
  clear hms hb0 hp0 p1 pl hB1 hX1 hp1 hB1'
  go_wp2_with fail
  go_loopw [6] (fun i wr => ∃ t : Nat, t ≤ ns.length + 1 ∧ i = .int .i64 t ∧ wr.heap[XB]? = some (.cells (boolC ((tdns (nlF ns j) ns.length t).map not)) 4 (0, 0)) ∧ wr.heap[w.heap.size]? = some (.cells #[.int .i64 r, .slice (some ⟨b, off, none⟩) ns.length cap] 24 (0, 0)) ∧ Below w.heap.size w wr) (fun i _ => ns.length + 1 - (intOf i).toNat)
  case atStart => exact ⟨0, by omega, rfl, HX1.out, HP1.out, HB1.out⟩
  case round =>
    clear HX1 HP1 HB1
    obtain ⟨t, ht, rfl, hX, hP, hB⟩ := hrel
    by_cases htl : t ≤ ns.length
    · have hti : (t : Int) ≤ (ns.length : Int) := by omega
      have HX := hide hX
      have HP := hide hP
      have HB := hide hB
      have HT : Hid (tdns (nlF ns j) ns.length (t + 1) = tdn (nlF ns j) ns.length (tdns (nlF ns j) ns.length t) ns.length) := rfl
      have HO := hide (tdns_onway (nlF_mono ns j) ns.length t)
      clear hX hP hB
      generalize tdns (nlF ns j) ns.length t = y0 at HX HT HO
      have HWR := hide (show IntKind.i64.wrap ((ns.length : Int) - 1) = (ns.length : Int) - 1 by rw [IntWalk.i64_left]; unfold wrap64; omega)
      go_wp2_with fail
      go_loopw [7] (fun i wr => ∃ q : Nat, q ≤ ns.length ∧ i = .int .i64 ((ns.length : Int) - 1 - q) ∧ wr.heap[XB]? = some (.cells (boolC ((tdn (nlF ns j) ns.length y0 q).map not)) 4 (0, 0)) ∧ wr.heap[w.heap.size]? = some (.cells #[.int .i64 r, .slice (some ⟨b, off, none⟩) ns.length cap] 24 (0, 0)) ∧ Below w.heap.size w wr) (fun i _ => (intOf i + 1).toNat)
      case atStart => exact ⟨0, by omega, by first | (simp; done) | (rw [HWR.out]; simp; done) | (unfold wrap64; congr 1; omega), HX.out, HP.out, HB.out⟩
      case round =>
        clear HX HP HB
        obtain ⟨q, hq, rfl, hX, hP, hB⟩ := hrel
        by_cases hql : q < ns.length
        · obtain ⟨n, hn, ei⟩ : ∃ n : Nat, n = ns.length - 1 - q ∧ (ns.length : Int) - 1 - q = (n : Int) := ⟨ns.length - 1 - q, rfl, by omega⟩
          have hnl : n < ns.length := by omega
          have HEI := hide ei
          have HTQ : Hid (tdn (nlF ns j) ns.length y0 (q + 1) = (tdn (nlF ns j) ns.length y0 q).set (ns.length - 1 - q) (nlF ns j (bat (tdn (nlF ns j) ns.length y0 q)) (ns.length - 1 - q))) := rfl
          rw [← hn] at HTQ
          have HNL := hide (not_nlF HC.out hnl j (bat (tdn (nlF ns j) ns.length y0 q)))
          have HLN := hide (tdn_onway (nlF_mono ns j) HO.out q hq).len
          rw [ei]
          generalize tdn (nlF ns j) ns.length y0 q = y at hX HTQ HNL HLN
          have hNr := HN.out.below hB HN.out.lt
          have hgn := get_nd hnl
          have hfb := full_bounds (chk_at HC.out hnl) hl.1
          generalize hxx : nd ns n = x at hgn HNL hfb
          clear hxx
          obtain ⟨f1, f2, f3, f4⟩ := hfb
          have d0 := hNr.c0 n x hgn
          have d1 := hNr.c1 n x hgn
          have d2 := hNr.c2 n x hgn
          have d3 := hNr.c3 n x hgn
          have d4 := hNr.c4 n x hgn
          have d5 := hNr.c5 n x hgn
          have dl := hNr.lt
          have p1 := blk_cell hP 1
          simp at p1
          have pl := blk_lt hP
          have hni : (n : Int) < (ns.length : Int) := by omega
          have hn0 : (0 : Int) ≤ (n : Int) := by omega
          have hbX : Below wr.heap.size wr (wr.alloc (.cells #[.int .i64 x.op, .int .i64 x.d, .int .i64 x.a, .int .i64 x.b, .int .i64 x.t, .int .i64 x.e] 53)) := (Below.refl _ wr).alloc (Nat.le_refl _) _
          have hxn : (wr.alloc (.cells #[.int .i64 x.op, .int .i64 x.d, .int .i64 x.a, .int .i64 x.b, .int .i64 x.t, .int .i64 x.e] 53)).heap[wr.heap.size]? = some (.cells #[.int .i64 x.op, .int .i64 x.d, .int .i64 x.a, .int .i64 x.b, .int .i64 x.t, .int .i64 x.e] 53 (0, 0)) := World.alloc_heap_new wr _
          have HX := hide hX
          have HP := hide hP
          have HB := hide hB
          have HHN := hide hn
          clear hX hP hB hNr hgn hn ei
          go_upto_region 9 with fail
          have HX2 := hide ((hbX.block _ (blk_lt HX.out)).trans HX.out)
          have HP2 := hide ((hbX.block _ (blk_lt HP.out)).trans HP.out)
          have HB2 := hide (HB.out.trans (hbX.mono HB.out.size))
          generalize (wr.alloc (.cells #[.int .i64 x.op, .int .i64 x.d, .int .i64 x.a, .int .i64 x.b, .int .i64 x.t, .int .i64 x.e] 53)) = Wx at hxn HX2 HP2 HB2 ⊢
          generalize wr.heap.size = X at hxn ⊢
          have ct : Wx.cell? ⟨XB, x.t.toNat, none⟩ = some (.bool (!bat y x.t.toNat)) := by
            rw [blk_cell HX2.out, boolC_get (by rw [List.length_map, HLN.out]; omega), bat_not (by rw [HLN.out]; omega)]
          have ce : Wx.cell? ⟨XB, x.e.toNat, none⟩ = some (.bool (!bat y x.e.toNat)) := by
            rw [blk_cell HX2.out, boolC_get (by rw [List.length_map, HLN.out]; omega), bat_not (by rw [HLN.out]; omega)]
          have xl := blk_lt HX2.out
          have y0' := blk_cell hxn 0
          have y4 := blk_cell hxn 4
          have y5 := blk_cell hxn 5
          simp at y0' y4 y5
          have yl := blk_lt hxn
          have HNB := hide hxn
          clear hxn d0 d1 d2 d3 d4 d5 dl p1 pl hbX HX HP HB
          generalize (!bat y x.t.toNat) = bt at ct HNL
          generalize (!bat y x.e.toNat) = be at ce HNL
          go_cut [9] from 32 to 53 (fun v9 wy => v9 = .bool ((x.op != 12 && bt) || (x.op == 11 && be)) ∧ wy = Wx)
          case first =>
            by_cases h12 : x.op = 12
            · have k1 : (x.op != 12) = false := by simp [h12]
              have k2 : (x.op == 11) = false := by rw [h12]; rfl
              have K1 := hide k1
              have K2 := hide k2
              clear h12
              go_wp2_with fail
              go_meet
              exact ⟨by rw [K1.out, K2.out]; rfl, rfl⟩
            · have k1 : (x.op != 12) = true := by simp [h12]
              have k1' : (x.op == 12) = false := by simp [h12]
              have K1 := hide k1
              clear h12
              cases bt
              · by_cases h11 : x.op = 11
                · have k2 : (x.op == 11) = true := by simp [h11]
                  have K2 := hide k2
                  clear h11
                  go_wp2_with fail
                  go_meet
                  exact ⟨by rw [K1.out, K2.out]; rfl, rfl⟩
                · have k2 : (x.op == 11) = false := by simp [h11]
                  have K2 := hide k2
                  clear h11
                  go_wp2_with fail
                  go_meet
                  exact ⟨by rw [K1.out, K2.out]; rfl, rfl⟩
              · go_wp2_with fail
                go_meet
                exact ⟨by rw [K1.out]; rfl, rfl⟩
          case rest =>
            obtain ⟨rfl, rfl⟩ := hcut
            generalize ((x.op != 12 && bt) || (x.op == 11 && be)) = BH at HNL
            clear ct ce y0' y4 y5 xl yl
            have z0 := blk_cell HNB.out 0
            have z1 := blk_cell HNB.out 1
            have z2 := blk_cell HNB.out 2
            have z3 := blk_cell HNB.out 3
            have z4 := blk_cell HNB.out 4
            have z5 := blk_cell HNB.out 5
            simp at z0 z1 z2 z3 z4 z5
            have zl := blk_lt HNB.out
            have HST := hide (fun v => boolC_set (y.map not) n v)
            have fin : ∀ (u : World) (v : Bool), v = (!nlF ns j (bat y) n) → Below wc.heap.size wc u → (u.setCell ⟨XB, n, none⟩ (.bool v)).heap[XB]? = some (.cells (boolC ((tdn (nlF ns j) ns.length y0 (q + 1)).map not)) 4 (0, 0)) ∧ (u.setCell ⟨XB, n, none⟩ (.bool v)).heap[w.heap.size]? = some (.cells #[.int .i64 r, .slice (some ⟨b, off, none⟩) ns.length cap] 24 (0, 0)) ∧ Below w.heap.size w (u.setCell ⟨XB, n, none⟩ (.bool v)) := fun u v hv hBu => by
              have hXu := (hBu.block _ (blk_lt HX2.out)).trans HX2.out
              refine ⟨?_, ?_, ?_⟩
              · rw [blk_set _ hXu, HST.out, HTQ.out, List.map_set, ← hv]
              · exact (Below.heap_setCell _ _ _ _ (show w.heap.size ≠ XB by omega)).trans ((hBu.block _ (blk_lt HP2.out)).trans HP2.out)
              · exact (HB2.out.trans (hBu.mono HB2.out.size)).setCell (p := ⟨XB, n, none⟩) (by simp; omega) _
            have HFN := hide fin
            have xcf : ∀ u : World, Below wc.heap.size wc u → u.cell? ⟨XB, n, none⟩ = some (.bool (!bat y n)) ∧ u.frozen? ⟨XB, n, none⟩ = false ∧ XB < u.heap.size := fun u hBu => by
              have hXu := (hBu.block _ (blk_lt HX2.out)).trans HX2.out
              exact ⟨by rw [blk_cell hXu, boolC_get (by rw [List.length_map, HLN.out]; omega), bat_not (by rw [HLN.out]; omega)], blk_frozen hXu n, blk_lt hXu⟩
            have XCF := hide xcf
            clear fin xcf
            have HRU := hide (fun u => ruses_any x j u)
            have HRS := hide (fun u => rsets_any x j u)
            have HXC := hide (fun (u : World) (hB : Below wc.heap.size wc u) => (show u.cell? ⟨X, 0, none⟩ = some (.int .i64 x.op) ∧ u.cell? ⟨X, 1, none⟩ = some (.int .i64 x.d) ∧ u.cell? ⟨X, 2, none⟩ = some (.int .i64 x.a) ∧ u.cell? ⟨X, 3, none⟩ = some (.int .i64 x.b) ∧ u.cell? ⟨X, 4, none⟩ = some (.int .i64 x.t) ∧ u.cell? ⟨X, 5, none⟩ = some (.int .i64 x.e) ∧ X < u.heap.size from ⟨(hB.cell (p := ⟨X, 0, none⟩) zl).trans z0, (hB.cell (p := ⟨X, 1, none⟩) zl).trans z1, (hB.cell (p := ⟨X, 2, none⟩) zl).trans z2, (hB.cell (p := ⟨X, 3, none⟩) zl).trans z3, (hB.cell (p := ⟨X, 4, none⟩) zl).trans z4, (hB.cell (p := ⟨X, 5, none⟩) zl).trans z5, Nat.lt_of_lt_of_le zl hB.size⟩))
            generalize useT x j = U at HNL HRU
            generalize setT x j = S at HNL HRS
            have hwn : IntKind.i64.wrap ((n : Int) - 1) = (n : Int) - 1 := by rw [IntWalk.i64_left]; unfold wrap64; omega
            have HW1 := hide (show wrap64 ((n : Int) - 1) = (ns.length : Int) - 1 - ((q + 1 : Nat) : Int) by have := HEI.out; unfold wrap64; omega)
            go_wp2_with fail
            refine (HRU.out _).mono ?_
            rintro e w3 ⟨rfl, hb3⟩
            obtain ⟨g0, g1, g2, g3, g4, g5, gl⟩ := HXC.out _ hb3
            obtain ⟨e0, e1, e2⟩ := XCF.out _ hb3
            clear z0 z1 z2 z3 z4 z5 zl
            cases U
            · go_wp2_with fail
              refine (HRS.out _).mono ?_
              rintro e w4 ⟨rfl, hb4⟩
              have hB4 := hb3.trans (hb4.mono hb3.size)
              obtain ⟨e0, e1, e2⟩ := XCF.out _ hB4
              clear g0 g1 g2 g3 g4 g5 gl
              cases S
              · have H := hide (HFN.out w4 BH (by rw [HNL.out]; simp) hB4)
                clear hb3 hb4
                go_wp2_with fail
                go_roundw
                case rel => exact ⟨q + 1, by omega, by first | (rw [HW1.out]; done) | (rw [← HW1.out]; rfl) | (congr 1; have := HEI.out; omega), H.out.1, H.out.2.1, H.out.2.2⟩
                case measure => first | (simp [intOf]; done) | (simp [intOf]; omega)
              · have H := hide (HFN.out w4 false (by rw [HNL.out]; simp) hB4)
                clear hb3 hb4
                go_wp2_with fail
                go_roundw
                case rel => exact ⟨q + 1, by omega, by first | (rw [HW1.out]; done) | (rw [← HW1.out]; rfl) | (congr 1; have := HEI.out; omega), H.out.1, H.out.2.1, H.out.2.2⟩
                case measure => first | (simp [intOf]; done) | (simp [intOf]; omega)
            · have H := hide (HFN.out w3 true (by rw [HNL.out]; simp) hb3)
              clear hb3 g0 g1 g2 g3 g4 g5 gl
              go_wp2_with fail
              go_roundw
              case rel => exact ⟨q + 1, by omega, by first | (rw [HW1.out]; done) | (rw [← HW1.out]; rfl) | (congr 1; have := HEI.out; omega), H.out.1, H.out.2.1, H.out.2.2⟩
              case measure => first | (simp [intOf]; done) | (simp [intOf]; omega)
        · have eq : q = ns.length := by omega
          subst eq
          have HX := hide hX
          have HP := hide hP
          have HB := hide hB
          clear hX hP hB
          have h0 : ¬ (0 : Int) ≤ (ns.length : Int) - 1 - (ns.length : Int) := by omega
          go_wp2_with fail
          go_roundw
          case rel => exact ⟨t + 1, by omega, by go_num, by rw [HT.out]; exact HX.out, HP.out, HB.out⟩
          case measure => simp [intOf]; omega
    · have et : t = ns.length + 1 := by omega
      subst et
      rw [lvR_eq] at hX
      have hti : ¬ ((ns.length + 1 : Nat) : Int) ≤ (ns.length : Int) := by omega
      have HX := hide hX
      have HB := hide hB
      clear hX hP hB
      go_wp2
      go_ret
      exact ⟨XB, rfl, HX.out, HB.out⟩

end Go.Proofs.Ytoikglgnmjjpcab

namespace Go.Proofs.Ytoikglgnmjjpcab
open Go.RowKit Go.Shelf
set_option linter.unusedVariables false
set_option linter.unusedSimpArgs false

theorem RowsAt.congr {w : World} {base rb L : Nat} {vs : List Value} {f g : Nat → List Int} (h : RowsAt w base rb L vs f) (e : ∀ m, m < L → f m = g m) : RowsAt w base rb L vs g :=
  ⟨h.blk, h.len, fun m v hv => by
    rw [← e m (by rw [← h.len]; exact (List.getElem?_eq_some_iff.1 hv).1)]; exact h.own m v hv, h.apart⟩

theorem rows_newN {w : World} {base rb L : Nat} {f : Nat → List Int} (h : w.heap[rb]? = some (.cells (madeCells #[Value.slice none 0 0] L) 36 (0, 0))) (hf : ∀ m, f m = []) : RowsAt w base rb L (List.replicate L (.slice none 0 0)) f := by
  refine ⟨by rw [h, made_rows], by simp, fun m v hv => ?_, fun m1 m2 v1 v2 g h1 h2 e1 e2 => ?_⟩
  · obtain rfl := List.eq_of_mem_replicate (List.mem_of_getElem? hv)
    rw [hf]; exact World.ownsRow_nil _ _ _ _
  · obtain rfl := List.eq_of_mem_replicate (List.mem_of_getElem? h1)
    simp [Value.ownBlock] at e1

/-- The rows while register g is looked at: of the first m nodes it is done. -/
def frow (ns : List Nd) (g m : Nat) : Nat → List Int := fun n => ints (lvL ns (if n < m then g + 1 else g) n)
theorem frow_zero (ns : List Nd) (g : Nat) : frow ns g 0 = fun n => ints (lvL ns g n) := by funext n; simp [frow]
theorem frow_all (ns : List Nd) (g : Nat) {n : Nat} (h : n < ns.length) : frow ns g ns.length n = ints (lvL ns (g + 1) n) := by simp [frow, h]
theorem frow_else (ns : List Nd) (g m : Nat) {n : Nat} (h : n ≠ m) : frow ns g (m + 1) n = frow ns g m n := by
  unfold frow
  by_cases q : n < m
  · simp [q, show n < m + 1 by omega]
  · simp [q, show ¬ n < m + 1 by omega]
theorem frow_no (ns : List Nd) (g m : Nat) (h : liveB ns g m = false) (n : Nat) : frow ns g m n = frow ns g (m + 1) n := by
  by_cases e : n = m
  · subst e
    simp only [frow, Nat.lt_irrefl, if_false, show n < n + 1 by omega, if_true]
    rw [lvL_succ, h]; simp
  · exact (frow_else ns g m e).symm
theorem frow_yes (ns : List Nd) (g m : Nat) (h : liveB ns g m = true) : frow ns g (m + 1) m = ints (lvL ns g m) ++ [(g : Int)] ∧ frow ns g m m = ints (lvL ns g m) := by
  constructor
  · simp only [frow, show m < m + 1 by omega, if_true]
    rw [lvL_succ, h]; simp [ints]
  · simp [frow]
theorem lvL_few (ns : List Nd) (g n : Nat) : (lvL ns g n).length ≤ g := Nat.le_trans (List.length_filter_le _ _) (by simp)

set_option maxHeartbeats 16000000 in
set_option maxRecDepth 100000 in
theorem liveOf_any (r : Int) (b off cap : Nat) (ns : List Nd) (w : World) (hN : NodesAt w b off ns) (hc : chk r ns = 0) :
    Calls Try.prog 11 #[.agg #[.int .i64 r, .slice (some ⟨b, off, none⟩) ns.length cap]] w fun e w' => ∃ rb, e = .returned (.slice (some ⟨rb, 0, none⟩) ns.length ns.length) ∧ RowsT w' rb ns.length (lvL ns r.toNat) ∧ Below w.heap.size w w' := by
  obtain ⟨i0, hi, hz0, hz1, hz2⟩ := info_parts info_int
  have hl := (chk_full hc).1
  have hr := (chk_full hc).2.1
  have hms : ∀ W : World, Sem.run Try.prog (Instr.makeSlice 25 (.int .i64 (ns.length : Int)) (.int .i64 (ns.length : Int))) W = .ok (.slice (some ⟨W.heap.size, 0, none⟩) ns.length ns.length) (W.alloc (.cells (madeCells #[.slice none 0 0] ns.length) 36)) := fun W => run_make_row' 25 36 _ 24 Try.underlying25 info_ints rfl .i64 .i64 ns.length (by omega) (by omega) W
  have hb0 : Below w.heap.size w (w.alloc (.cells #[.int .i64 r, .slice (some ⟨b, off, none⟩) ns.length cap] 24)) := (Below.refl _ w).alloc (Nat.le_refl _) _
  have hp0 : (w.alloc (.cells #[.int .i64 r, .slice (some ⟨b, off, none⟩) ns.length cap] 24)).heap[w.heap.size]? = some (.cells #[.int .i64 r, .slice (some ⟨b, off, none⟩) ns.length cap] 24 (0, 0)) := World.alloc_heap_new w _
  have HN := hide hN
  have HC := hide hc
  clear hN hc
  go_enter Try.func11, Try.ntmps11
  go_upto_region 1 with fail
  generalize (w.alloc (.cells #[.int .i64 r, .slice (some ⟨b, off, none⟩) ns.length cap] 24)) = W at hb0 hp0 ⊢
  have p1 := blk_cell hp0 1
  simp at p1
  have pl := blk_lt hp0
  go_upto_region 2 with fail
  have hB1 : Below W.heap.size W (W.alloc (.cells (madeCells #[.slice none 0 0] ns.length) 36)) := (Below.refl _ W).alloc (Nat.le_refl _) _
  have hR1 : RowsAt (W.alloc (.cells (madeCells #[.slice none 0 0] ns.length) 36)) w.heap.size W.heap.size ns.length (List.replicate ns.length (.slice none 0 0)) (frow ns 0 0) := rows_newN (World.alloc_heap_new W _) (fun m => by simp [frow, lvL, ints])
  have hp1 := (hB1.block _ pl).trans hp0
  have hwx : w.heap.size < W.heap.size := pl
  have hB1' := hb0.trans (hB1.mono hb0.size)
  generalize (W.alloc (.cells (madeCells #[.slice none 0 0] ns.length) 36)) = W1 at hB1 hR1 hp1 hB1' ⊢
  generalize W.heap.size = RB at hR1 hwx ⊢
  have HR1 := hide hR1
  have HP1 := hide hp1
  have HB1 := hide hB1'
  clear hms hb0 hp0 p1 pl hB1 hR1 hp1 hB1'
  go_wp2_with fail
  go_loopw [4] (fun i wr => ∃ g : Nat, (g : Int) ≤ r ∧ i = .int .i64 g ∧ (∃ vs, RowsAt wr w.heap.size RB ns.length vs (frow ns g 0)) ∧ wr.heap[w.heap.size]? = some (.cells #[.int .i64 r, .slice (some ⟨b, off, none⟩) ns.length cap] 24 (0, 0)) ∧ Below w.heap.size w wr) (fun i _ => r.toNat - (intOf i).toNat)
  case atStart => exact ⟨0, by omega, rfl, ⟨_, HR1.out⟩, HP1.out, HB1.out⟩
  case round =>
    clear HR1 HP1 HB1
    obtain ⟨g, hg, rfl, ⟨vs, hR⟩, hP, hB⟩ := hrel
    have p0 := blk_cell hP 0
    have p1 := blk_cell hP 1
    simp at p0 p1
    have pl := blk_lt hP
    by_cases hgl : (g : Int) < r
    · have HR := hide hR
      have HP := hide hP
      have HB := hide hB
      have HLA := hide (liveAt_any r b off cap ns g wr (HN.out.below hB HN.out.lt) HC.out)
      clear hR hP hB
      go_upto_region 6 with (go_at_call 30; refine HLA.out.mono ?_; rintro e w2 ⟨xb, rfl, hX2, hb2⟩)
      have HR2 := hide (HR.out.below hb2)
      have HP2 := hide ((hb2.block _ (blk_lt HP.out)).trans HP.out)
      have HB2 := hide (HB.out.trans (hb2.mono HB.out.size))
      have HX2 := hide hX2
      clear HR HP HB hX2 hb2 p0 p1 pl HLA
      go_wp2_with fail
      go_loopw [6] (fun i wr => ∃ m : Nat, m ≤ ns.length ∧ i = .int .i64 m ∧ (∃ vs, RowsAt wr w.heap.size RB ns.length vs (frow ns g m)) ∧ wr.heap[xb]? = some (.cells (boolC (lvR ns g)) 4 (0, 0)) ∧ wr.heap[w.heap.size]? = some (.cells #[.int .i64 r, .slice (some ⟨b, off, none⟩) ns.length cap] 24 (0, 0)) ∧ Below w.heap.size w wr) (fun i _ => ns.length - (intOf i).toNat)
      case atStart => exact ⟨0, by omega, rfl, ⟨_, HR2.out⟩, HX2.out, HP2.out, HB2.out⟩
      case round =>
        clear HR2 HP2 HB2 HX2
        obtain ⟨m, hm, rfl, ⟨vs, hR⟩, hX, hP, hB⟩ := hrel
        by_cases hml : m < ns.length
        · have hmi : (m : Int) < (ns.length : Int) := by omega
          have xc : wr.cell? ⟨xb, m, none⟩ = some (.bool (liveB ns g m)) := by rw [blk_cell hX, boolC_get (by rw [lvR_len]; exact hml), bat_lvR hml]
          have xl := blk_lt hX
          have HR := hide hR
          have HX := hide hX
          have HP := hide hP
          have HB := hide hB
          cases hlv : liveB ns g m
          · rw [hlv] at xc
            have HNO := hide (frow_no ns g m hlv)
            clear hR hX hP hB hlv
            go_wp2_with fail
            go_roundw
            case rel => exact ⟨m + 1, by omega, by go_num, ⟨vs, HR.out.congr fun n _ => HNO.out n⟩, HX.out, HP.out, HB.out⟩
            case measure => simp [intOf]; omega
          · rw [hlv] at xc
            have hyes := frow_yes ns g m hlv
            obtain ⟨v, hv⟩ : ∃ v, vs[m]? = some v := ⟨_, List.getElem?_eq_getElem (by rw [hR.len]; exact hml)⟩
            have hown := hR.own m v hv
            rw [hyes.2] at hown
            obtain ⟨va, vc, rfl⟩ := owns_slice hown
            have rc : wr.cell? ⟨RB, m, none⟩ = some (.slice va (ints (lvL ns g m)).length vc) := by rw [blk_cell hR.blk, List.getElem?_toArray]; exact hv
            have rf := blk_frozen hR.blk m
            have rl := blk_lt hR.blk
            have hfew : (lvL ns g m).length ≤ 64 := Nat.le_trans (lvL_few ns g m) (by omega)
            have HLE := hide (show (ints (lvL ns g m)).length ≤ 64 by rw [ints_len]; exact hfew)
            have HO := hide hown
            have HV := hide hv
            have HY := hide hyes.1
            have hsz := hB.size
            have HNW := hide (World.alloc_heap_new wr (.cells #[.int .i64 g] 3))
            have hbA : Below wr.heap.size wr (wr.alloc (.cells #[.int .i64 g] 3)) := (Below.refl _ wr).alloc (Nat.le_refl _) _
            have HRA := hide (hR.below hbA)
            have HXA := hide ((hbA.block _ xl).trans hX)
            have HPA := hide ((hbA.block _ (blk_lt hP)).trans hP)
            have HBA := hide (hB.trans (hbA.mono hsz))
            have hRBl : RB < wr.heap.size := rl
            clear hR hX hP hB hlv hyes hown hv hfew HR HX HP HB
            go_wp2_with (at_builtin; refine wpList_append_own_at _ rfl (.tmp 35) (.tmp 37) 36 rfl w.heap.size 3 i0 (.int .i64 0) 1 8 Try.underlying36 hi hz0 hz1 hz2 rfl (by decide) _ _ _ rfl (HO.out.alloc _) ⟨wr.heap.size, 0, none⟩ 1 1 [.int .i64 g] rfl rfl ?c1 ?c2 ?c3 ?c4 ?c5 ?_)
            case c1 =>
              intro j u hj
              match j, hj with
              | 0, hj => simp at hj; subst hj; exact blk_cell HNW.out 0
            case c2 => intro u hu; simp at hu; subst hu; rfl
            case c3 => have := HLE.out; unfold maxLen; omega
            case c4 => have := HLE.out; omega
            case c5 => simp; omega
            intro v' w3 hown3 hg3 _ hat3
            obtain ⟨g', cap', rfl⟩ : ∃ g' cap', v' = .slice (some ⟨g', 0, none⟩) ((ints (lvL ns g m)).length + 1) cap' := by
              rcases hown3.2 with ⟨_, q⟩ | ⟨g', cap', cur, rfl, _⟩
              · omega
              · exact ⟨g', cap', rfl⟩
            have hlt3 := (HO.out.alloc (.cells #[.int .i64 g] 3)).lt
            have hB3 : Below w.heap.size w w3 := HBA.out.grown hg3 HBA.out.size (fun k hk => (hlt3 k hk).1)
            have neX := owns_ne_ty (HO.out.alloc (.cells #[.int .i64 g] 3)) HXA.out (by decide)
            have neP := owns_ne_ty (HO.out.alloc (.cells #[.int .i64 g] 3)) HPA.out (by decide)
            have neR := owns_ne_ty (HO.out.alloc (.cells #[.int .i64 g] 3)) HRA.out.blk (by decide)
            have hX3 := (hg3.block _ (blk_lt HXA.out) neX).trans HXA.out
            have hP3 := (hg3.block _ (blk_lt HPA.out) neP).trans HPA.out
            have hRb3 := (hg3.block _ (blk_lt HRA.out.blk) neR).trans HRA.out.blk
            have rc3 : w3.cell? ⟨RB, m, none⟩ = some (.slice va (ints (lvL ns g m)).length vc) := by rw [blk_cell hRb3, List.getElem?_toArray]; exact HV.out
            have rf3 := blk_frozen hRb3 m
            have rl3 := blk_lt hRb3
            have hrw : RowsAt (w3.setCell ⟨RB, m, none⟩ (.slice (some ⟨g', 0, none⟩) ((ints (lvL ns g m)).length + 1) cap')) w.heap.size RB ns.length (vs.set m (.slice (some ⟨g', 0, none⟩) ((ints (lvL ns g m)).length + 1) cap')) (frow ns g (m + 1)) := by
              have e2 : (frow ns g (m + 1) m).length = (ints (lvL ns g m)).length + 1 := by rw [HY.out]; simp
              rw [← e2]
              refine RowsAt.grow HRA.out HV.out hg3 ?_ ?_ fun j hj => frow_else ns g m hj
              · rcases hat3 with h | h
                · left; rw [← h]; rfl
                · right
                  simp only [Value.ownBlock, Option.some.injEq] at h
                  rw [h]; simp
              · rw [e2, HY.out, List.map_append]; exact hown3
            have H3 := hide (And.intro hrw (And.intro ((Below.heap_setCell w3 ⟨RB, m, none⟩ (.slice (some ⟨g', 0, none⟩) ((ints (lvL ns g m)).length + 1) cap') xb (blk_neN hX3 hRb3 (by decide))).trans hX3) (And.intro ((Below.heap_setCell w3 ⟨RB, m, none⟩ (.slice (some ⟨g', 0, none⟩) ((ints (lvL ns g m)).length + 1) cap') w.heap.size (blk_neN hP3 hRb3 (by decide))).trans hP3) (hB3.setCell (p := ⟨RB, m, none⟩) (Nat.le_of_lt hwx) (.slice (some ⟨g', 0, none⟩) ((ints (lvL ns g m)).length + 1) cap')))))
            clear hown3 hg3 hat3 hlt3 hB3 neX neP neR hX3 hP3 hRb3 hrw HRA HXA HPA HBA HO
            go_wp2_with fail
            go_roundw
            case rel => exact ⟨m + 1, by omega, by go_num, ⟨_, H3.out.1⟩, H3.out.2.1, H3.out.2.2.1, H3.out.2.2.2⟩
            case measure => simp [intOf]; omega
        · have em : m = ns.length := by omega
          subst em
          have HR := hide hR
          have HP := hide hP
          have HB := hide hB
          clear hR hX hP hB
          go_wp2_with fail
          go_roundw
          case rel => exact ⟨g + 1, by omega, by go_num, ⟨vs, HR.out.congr fun n hn => by rw [frow_all ns g hn, frow_zero]⟩, HP.out, HB.out⟩
          case measure => simp [intOf]; omega
    · have eg : (g : Int) = r := by omega
      have hgn : g = r.toNat := by omega
      have HR := hide hR
      have HB := hide hB
      have HGN := hide hgn
      clear hR hP hB eg hgn
      go_wp2
      go_ret
      refine ⟨RB, rfl, ⟨vs, HR.out.blk, HR.out.len, fun n v hv => ?_⟩, HB.out⟩
      have := HR.out.own n v hv
      rw [frow_zero] at this
      rw [← HGN.out]
      exact ownsRow_base this (Nat.zero_le _)

end Go.Proofs.Ytoikglgnmjjpcab

