/-
  hoistwayref.TrimOf, walked.
-/
import Derived.Test.YtoikglgnmjjpcaaLN
namespace Go.Proofs.Ytoikglgnmjjpcaa
open Go.RowKit Go.Shelf
set_option linter.unusedVariables false

theorem ren_eq {r : Int} {len : Nat} {x : List Bool} {m : Nd} (h : Full r len m) : ren x m = { m with t := if m.op = 12 then m.t else ((anewAt x m.t.toNat : Nat) : Int), e := if m.op = 11 then ((anewAt x m.e.toNat : Nat) : Int) else m.e } := by
  obtain ⟨op, d, a, b, t, e⟩ := m
  simp only [ren]
  congr 1
  · split
    · rename_i h12
      have := h.t0 h12
      simp only at this; subst this; simp [anew_zero]
    · rfl
  · split
    · rfl
    · rename_i h11
      have := h.e0 h11
      simp only at this; subst this; simp [anew_zero]

def trimTo (ns : List Nd) (k : Nat) : List Nd := (keptI (rchL ns) k).map fun n => ren (rchL ns) (nd ns n)
theorem trimTo_all (ns : List Nd) : trimTo ns ns.length = trimN ns := rfl

set_option maxRecDepth 100000 in
set_option maxHeartbeats 4000000 in
theorem trimOf_in (r : Int) (b off cap : Nat) (ns : List Nd) (w : World) (hN : NodesAt w b off ns) (hc : chk r ns = 0) :
    CallsIn Fence.wide 1 Try.prog 35 #[.agg #[.int .i64 r, .slice (some ⟨b, off, none⟩) ns.length cap]] w fun e w' => ∃ v, e = .returned (.agg #[.int .i64 r, v]) ∧ w'.ownsRow w.heap.size 87 6 v (trimN ns).length ((trimN ns).flatMap encNd) ∧ Below w.heap.size w w' := by
  have hl := (chk_zero hc).1
  obtain ⟨i0, hi0, hz0, hz1, hz2⟩ := info_parts info_node
  have hms : ∀ W : World, Sem.run Try.prog (Instr.makeSlice 25 (.int .i64 (ns.length : Int)) (.int .i64 (ns.length : Int))) W = .ok (.slice (some ⟨W.heap.size, 0, none⟩) ns.length ns.length) (W.alloc (.cells (madeCells #[.int .i64 0] ns.length) 3)) := fun W => run_make_row' 25 3 _ 8 Try.underlying25 info_int rfl .i64 .i64 ns.length (by omega) (by omega) W
  refine callsIn_of_wp Try.func35 rfl trivial ?_ rfl
  simp only [Try.ntmps35, List.size_toArray, List.length_cons, List.length_nil, Nat.reduceAdd, Nat.reduceSub, Array.replicate_succ, Array.replicate_zero, List.push_toArray, List.append_toArray, List.nil_append, List.cons_append]
  have hb0 : Below w.heap.size w ((w.alloc (.cells #[.int .i64 r, .slice (some ⟨b, off, none⟩) ns.length cap] 24)).alloc (.cells #[.int .i64 0, .slice none 0 0] 24)) := ((Below.refl _ w).alloc (Nat.le_refl _) _).alloc (by simp) _
  have p0 : ((w.alloc (.cells #[.int .i64 r, .slice (some ⟨b, off, none⟩) ns.length cap] 24)).alloc (.cells #[.int .i64 0, .slice none 0 0] 24)).heap[w.heap.size]? = some (.cells #[.int .i64 r, .slice (some ⟨b, off, none⟩) ns.length cap] 24 (0, 0)) := (Below.heap_alloc _ _ _ (by simp)).trans (World.alloc_heap_new w _)
  have p1 : ((w.alloc (.cells #[.int .i64 r, .slice (some ⟨b, off, none⟩) ns.length cap] 24)).alloc (.cells #[.int .i64 0, .slice none 0 0] 24)).heap[w.heap.size + 1]? = some (.cells #[.int .i64 0, .slice none 0 0] 24 (0, 0)) := by
    have := World.alloc_heap_new (w.alloc (.cells #[.int .i64 r, .slice (some ⟨b, off, none⟩) ns.length cap] 24)) (.cells #[.int .i64 0, .slice none 0 0] 24)
    rwa [World.size_alloc] at this
  have hre := reachOf_any r b off cap ns _ (hN.below hb0 hN.lt) hc
  have HRE := hide' hre
  clear hre
  have h11 : 1 ≤ 1 := by decide
  gi_wp2_with (refine ⟨trivial, ?_⟩; gi_at_call 34; refine (callsIn_wide.2 HRE.out).mono ?_)
  rintro e w1 ⟨v1, rfl, hrr, hb1⟩
  obtain ⟨rb, rcap, rfl, hrbase, hrlt⟩ := hrr.form (by omega)
  have hs1 := hb1.size
  replace p0 := (hb1.block w.heap.size (by simp; omega)).trans p0
  replace p1 := (hb1.block (w.heap.size + 1) (by simp)).trans p1
  simp only [World.size_alloc] at hs1 hb1 hrbase
  have hB1 : Below w.heap.size w w1 := hb0.trans (hb1.mono (by omega))
  have hlt1 := blk_lt p0
  have hlt2 := blk_lt p1
  have q0 := blk_cell p0 0
  have q1 := blk_cell p0 1
  simp at q0 q1
  have reach : Hid (∀ (W : World) (k : Nat), Below w1.heap.size w1 W → k < ns.length → W.cell? ⟨rb, k, none⟩ = some (.bool (bat (rchL ns) k))) := fun W k hB hlt => by
    rw [hB.cell (p := ⟨rb, k, none⟩) hrlt]
    have := hrr.cells (g := rb) rfl k (.bool (bat (rchL ns) k)) (by rw [List.getElem?_map, get_bat (by rw [rchL_len]; exact hlt)]; rfl)
    have e : (⟨rb, 0, none⟩ : Addr).add k = ⟨rb, k, none⟩ := by cases k <;> simp [Addr.add]
    rw [e] at this; exact this
  clear hb1 hb0
  gi_upto_region 3 with fail
  have hA0 : (w1.alloc (.cells (madeCells #[.int .i64 0] ns.length) 3)).heap[w1.heap.size]? = some (.cells ((anewL (rchL ns) ns.length 0).map (Value.int .i64)).toArray 3 (0, 0)) := by
    rw [World.alloc_heap_new, made_ints, anewL_zero]
  have hBA : Below w1.heap.size w1 (w1.alloc (.cells (madeCells #[.int .i64 0] ns.length) 3)) := (Below.refl _ w1).alloc (Nat.le_refl _) _
  have hsA : w1.heap.size + 1 ≤ (w1.alloc (.cells (madeCells #[.int .i64 0] ns.length) 3)).heap.size := by simp
  generalize w1.alloc (.cells (madeCells #[.int .i64 0] ns.length) 3) = WA at hA0 hBA hsA ⊢
  gi_wp2
  gi_loopw [5, 6] (fun kv i wr => ∃ k : Nat, k ≤ ns.length ∧ i = .int .i64 k ∧ kv = .int .i64 ((keptI (rchL ns) k).length : Nat) ∧ wr.heap[w1.heap.size]? = some (.cells ((anewL (rchL ns) ns.length k).map (Value.int .i64)).toArray 3 (0, 0)) ∧ Below w1.heap.size w1 wr) (fun _ i _ => ns.length - (intOf i).toNat)
  case atStart => exact ⟨0, Nat.zero_le _, rfl, rfl, hA0, hBA⟩
  case round =>
    obtain ⟨k, hk, rfl, rfl, hA, hB⟩ := hrel
    have hs := hB.size
    have hal := blk_lt hA
    have hkl := keptI_len (rchL ns) k
    have qr := (hB.cell (p := ⟨w.heap.size, 1, none⟩) hlt1).trans q1
    have qr0 := (hB.cell (p := ⟨w.heap.size, 0, none⟩) hlt1).trans q0
    have hl1 : w.heap.size < wr.heap.size := by omega
    have hrl2 : rb < wr.heap.size := by omega
    by_cases hlt : k < ns.length
    · have hki : (k : Int) < (ns.length : Int) := by omega
      have xk := reach.out wr k hB hlt
      cases hxk : bat (rchL ns) k
      · rw [hxk] at xk
        have HAN := hide' (anewL_no (L := ns.length) hxk)
        have HKN := hide' (keptI_no hxk)
        have HA := hide' hA
        clear hxk hA
        gi_wp2
        go_roundw
        case rel => exact ⟨k + 1, by omega, by go_num, by rw [HKN.out], by rw [HAN.out]; exact HA.out, hB⟩
        case measure => simp [intOf]; omega
      · rw [hxk] at xk
        have HAN := hide' (anewL_yes hxk hlt)
        have HKN := hide' (show (keptI (rchL ns) (k + 1)).length = (keptI (rchL ns) k).length + 1 by rw [keptI_yes hxk]; simp)
        have hAc := blk_cell hA k
        have hAf := blk_frozen hA k
        have hAk : ((anewL (rchL ns) ns.length k).map (Value.int .i64)).toArray[k]? = some (.int .i64 ((anewTo (rchL ns) k k : Nat) : Int)) := by
          rw [List.getElem?_toArray, List.getElem?_map]
          simp [anewL, hlt]
        rw [hAk] at hAc
        have HA := hide' hA
        clear hxk hA hAk
        gi_wp2
        go_roundw
        case rel =>
          refine ⟨k + 1, by omega, by go_num, ?_, ?_, hB.setCell (p := ⟨w1.heap.size, k, none⟩) (Nat.le_refl _) _⟩
          · rw [HKN.out]; go_num
          · rw [blk_set _ HA.out, HAN.out]
            simp only [List.map_set, List.setIfInBounds_toArray]
        case measure => simp [intOf]; omega
    · have ek : k = ns.length := by omega
      subst ek
      have HA := hide' hA
      clear hA
      gi_wp2
      obtain ⟨wo, hwo⟩ : ∃ wo : World, wo = wr := ⟨_, rfl⟩
      subst hwo
      have hO0 : (wo.alloc (.cells #[.int .i64 r, .slice none 0 0] 24)).heap[wo.heap.size]? = some (.cells #[.int .i64 r, .slice none 0 0] 24 (0, 0)) := World.alloc_heap_new wo _
      have hBo : Below wo.heap.size wo (wo.alloc (.cells #[.int .i64 r, .slice none 0 0] 24)) := (Below.refl _ wo).alloc (Nat.le_refl _) _
      generalize wo.alloc (.cells #[.int .i64 r, .slice none 0 0] 24) = WO at hO0 hBo ⊢
      have hB1r : Below w1.heap.size w1 wo := hB
      clear qr qr0 hB
      gi_loopw [8] (fun i wr => ∃ (k : Nat) (v : Value), k ≤ ns.length ∧ i = .int .i64 k ∧ wr.heap[wo.heap.size]? = some (.cells #[.int .i64 r, v] 24 (0, 0)) ∧ wr.ownsRow (wo.heap.size + 1) 87 6 v (trimTo ns k).length ((trimTo ns k).flatMap encNd) ∧ Below wo.heap.size wo wr) (fun i _ => ns.length - (intOf i).toNat)
      case atStart => exact ⟨0, _, Nat.zero_le _, rfl, hO0, World.ownsRow_nil _ _ _ _, hBo⟩
      case round =>
        obtain ⟨k, v, hk, rfl, hO, hV, hB⟩ := hrel
        have hs2 := hB.size
        have hol := blk_lt hO
        have hBw := hB1r.trans (hB.mono (by omega))
        have qr := (hBw.cell (p := ⟨w.heap.size, 1, none⟩) hlt1).trans q1
        have hl2 : w.heap.size < wr.heap.size := by omega
        have hrl3 : rb < wr.heap.size := by omega
        have htl : (trimTo ns k).length ≤ k := by simp only [trimTo, List.length_map]; exact keptI_len _ _
        obtain ⟨va, vcap, hve⟩ := owns_slice hV
        subst hve
        by_cases hlt : k < ns.length
        · have hki : (k : Int) < (ns.length : Int) := by omega
          have xk := reach.out wr k hBw hlt
          cases hxk : bat (rchL ns) k
          · rw [hxk] at xk
            have HKN := hide' (show trimTo ns (k + 1) = trimTo ns k by rw [trimTo, trimTo, keptI_no hxk])
            have HV := hide' hV
            have HO := hide' hO
            clear hxk hV hO
            gi_wp2
            go_roundw
            case rel => exact ⟨k + 1, _, by omega, by go_num, HO.out, by rw [HKN.out]; exact HV.out, hB⟩
            case measure => simp [intOf]; omega
          · rw [hxk] at xk
            obtain ⟨y, hy⟩ := get_lt hlt
            have hN1 := hN.below (hB1.trans (hBw.mono (by omega))) hN.lt
            have c0 := hN1.c0 k y hy
            have c1 := hN1.c1 k y hy
            have c2 := hN1.c2 k y hy
            have c3 := hN1.c3 k y hy
            have c4 := hN1.c4 k y hy
            have c5 := hN1.c5 k y hy
            have hblt := hN1.lt
            have hyn := nd_get hy
            have HTT := hide' (show trimTo ns (k + 1) = trimTo ns k ++ [ren (rchL ns) y] by rw [trimTo, trimTo, keptI_yes hxk, List.map_append, List.map_singleton, hyn])
            have hF := chk_at hc hlt
            rw [hyn] at hF
            have HFU := hide' hF
            have hbd := full_bounds hF hl.1
            have HV := hide' hV
            have HO := hide' hO
            have o0 := blk_cell hO 0
            have o1 := blk_cell hO 1
            simp at o0 o1
            have hAw := (hB.block _ hal).trans HA.out
            have aw : Hid (∀ j, j < ns.length → wr.cell? ⟨w1.heap.size, j, none⟩ = some (.int .i64 ((anewAt (rchL ns) j : Nat) : Int))) := fun j hj => by
              rw [blk_cell hAw, List.getElem?_toArray, List.getElem?_map, anewL_at hj]; rfl
            have hal2 : w1.heap.size < wr.heap.size := by omega
            clear hN1 hy hyn hxk hF hV hO hAw
            by_cases h12 : y.op = 12
            · rw [h12] at c0
              gi_upto_region 20 with fail
              have hBn : Below wr.heap.size wr (wr.alloc (.cells #[.int .i64 12, .int .i64 y.d, .int .i64 y.a, .int .i64 y.b, .int .i64 y.t, .int .i64 y.e] 87)) := (Below.refl _ wr).alloc (Nat.le_refl _) _
              have hnb : (wr.alloc (.cells #[.int .i64 12, .int .i64 y.d, .int .i64 y.a, .int .i64 y.b, .int .i64 y.t, .int .i64 y.e] 87)).heap[wr.heap.size]? = some (.cells #[.int .i64 12, .int .i64 y.d, .int .i64 y.a, .int .i64 y.b, .int .i64 y.t, .int .i64 y.e] 87 (0, 0)) := World.alloc_heap_new wr _
              have HEQ : Hid ((encNd (ren (rchL ns) y)) = [.int .i64 12, .int .i64 y.d, .int .i64 y.a, .int .i64 y.b, .int .i64 y.t, .int .i64 y.e]) := by
                show _ = _
                rw [ren_eq HFU.out]; simp [encNd, *]
              generalize wr.alloc (.cells #[.int .i64 12, .int .i64 y.d, .int .i64 y.a, .int .i64 y.b, .int .i64 y.t, .int .i64 y.e] 87) = WN at hBn hnb ⊢
              have n0 := blk_cell hnb 0
              have n1 := blk_cell hnb 1
              have n2 := blk_cell hnb 2
              have n3 := blk_cell hnb 3
              have n4 := blk_cell hnb 4
              have n5 := blk_cell hnb 5
              simp at n0 n1 n2 n3 n4 n5
              have hnl := blk_lt hnb
              have hON := (hBn.block _ hol).trans HO.out
              have on1 := blk_cell hON 1
              simp at on1
              have honl := blk_lt hON
              have hVN := ownsRow_below HV.out hBn (Nat.le_refl _)
              have hsn := hBn.size
              clear c0 c1 c2 c3 c4 c5 o0 o1 xk
              gi_wp2_with (gi_at_builtin; refine wpListIn_append_own _ rfl _ _ 22 rfl (wo.heap.size + 1) 87 i0 _ 6 48 Try.underlying22 hi0 hz0 hz1 hz2 rfl (by decide) _ _ _ rfl (hVN.alloc _) ⟨WN.heap.size, 0, none⟩ 1 1 [.int .i64 12, .int .i64 y.d, .int .i64 y.a, .int .i64 y.b, .int .i64 y.t, .int .i64 y.e] rfl rfl ?cells (by simp [Value.oneCell']) (by unfold maxLen; omega) (by omega) (by simp; omega) ?_)
              case cells =>
                intro j u hj
                have e : (⟨WN.heap.size, 0, none⟩ : Addr).add j = ⟨WN.heap.size, j, none⟩ := by cases j <;> simp [Addr.add]
                first
                  | (rw [e, World.cell?_alloc_at _ _ _ _ rfl]; simpa using hj)
                  | simpa using hj
              intro v' w5 hown' hgrow _
              obtain ⟨g', cap', rfl⟩ := ownsRow_succ hown'
              have hgrow' : (WN.alloc (.cells #[.int .i64 12, .int .i64 y.d, .int .i64 y.a, .int .i64 y.b, .int .i64 y.t, .int .i64 y.e] 87)).grownBy w5 (Value.slice va (trimTo ns k).length vcap).ownBlock := hgrow
              have hOF : w5.heap[wo.heap.size]? = some (.cells #[.int .i64 r, .slice va (trimTo ns k).length vcap] 24 (0, 0)) := (hgrow'.block _ (by simp; omega) (owns_ne_ty hVN hON (by decide))).trans ((Below.heap_alloc _ _ _ honl).trans hON)
              have m0 := blk_cell hOF 1
              have m1 := blk_frozen hOF 1
              simp at m0
              have hBF : Below (wo.heap.size) wo w5 := (hB.trans (hBn.mono (by omega))).trans (((Below.refl wo.heap.size WN).alloc (by omega) (.cells #[.int .i64 12, .int .i64 y.d, .int .i64 y.a, .int .i64 y.b, .int .i64 y.t, .int .i64 y.e] 87)).grown hgrow' (by simp; omega) (fun j ej => by have := (hVN.lt j ej).1; omega))
              have hVF : (w5.setCell ⟨wo.heap.size, 1, none⟩ (.slice (some ⟨g', 0, none⟩) ((trimTo ns k).length + 1) cap')).ownsRow (wo.heap.size + 1) 87 6 (.slice (some ⟨g', 0, none⟩) ((trimTo ns k).length + 1) cap') (trimTo ns (k + 1)).length ((trimTo ns (k + 1)).flatMap encNd) := by
                rw [HTT.out, List.length_append, List.flatMap_append, List.flatMap_singleton, HEQ.out]
                exact owns_set hown' hOF (by decide)
              have hOF2 : (w5.setCell ⟨wo.heap.size, 1, none⟩ (.slice (some ⟨g', 0, none⟩) ((trimTo ns k).length + 1) cap')).heap[wo.heap.size]? = some (.cells #[.int .i64 r, .slice (some ⟨g', 0, none⟩) ((trimTo ns k).length + 1) cap'] 24 (0, 0)) := by
                rw [blk_set _ hOF]; simp
              have hBF2 := hBF.setCell (p := ⟨wo.heap.size, 1, none⟩) (Nat.le_refl _) (.slice (some ⟨g', 0, none⟩) ((trimTo ns k).length + 1) cap')
              clear hgrow hgrow' hown' hVN hON
              gi_wp2
              go_roundw
              case rel => exact ⟨k + 1, _, by omega, by go_num, hOF2, hVF, hBF2⟩
              case measure => simp [intOf]; omega
            · have h12b : (y.op != 12) = true := by simp [h12]
              obtain ⟨tn, htn⟩ := Int.eq_ofNat_of_zero_le hbd.1
              have htl2 : tn < ns.length := by omega
              have hti : (tn : Int) < (ns.length : Int) := by omega
              have a1 := aw.out tn htl2
              rw [htn] at c4
              by_cases h11 : y.op = 11
              · obtain ⟨en, hen⟩ := Int.eq_ofNat_of_zero_le hbd.2.2.1
                have hel2 : en < ns.length := by omega
                have hei : (en : Int) < (ns.length : Int) := by omega
                have a2 := aw.out en hel2
                rw [hen] at c5
                rw [h11] at c0
                clear h12b
                gi_upto_region 20 with fail
                have hBn : Below wr.heap.size wr (wr.alloc (.cells #[.int .i64 11, .int .i64 y.d, .int .i64 y.a, .int .i64 y.b, .int .i64 ((anewAt (rchL ns) tn : Nat) : Int), .int .i64 ((anewAt (rchL ns) en : Nat) : Int)] 87)) := (Below.refl _ wr).alloc (Nat.le_refl _) _
                have hnb : (wr.alloc (.cells #[.int .i64 11, .int .i64 y.d, .int .i64 y.a, .int .i64 y.b, .int .i64 ((anewAt (rchL ns) tn : Nat) : Int), .int .i64 ((anewAt (rchL ns) en : Nat) : Int)] 87)).heap[wr.heap.size]? = some (.cells #[.int .i64 11, .int .i64 y.d, .int .i64 y.a, .int .i64 y.b, .int .i64 ((anewAt (rchL ns) tn : Nat) : Int), .int .i64 ((anewAt (rchL ns) en : Nat) : Int)] 87 (0, 0)) := World.alloc_heap_new wr _
                have HEQ : Hid ((encNd (ren (rchL ns) y)) = [.int .i64 11, .int .i64 y.d, .int .i64 y.a, .int .i64 y.b, .int .i64 ((anewAt (rchL ns) tn : Nat) : Int), .int .i64 ((anewAt (rchL ns) en : Nat) : Int)]) := by
                  show _ = _
                  rw [ren_eq HFU.out]; simp [encNd, *]
                generalize wr.alloc (.cells #[.int .i64 11, .int .i64 y.d, .int .i64 y.a, .int .i64 y.b, .int .i64 ((anewAt (rchL ns) tn : Nat) : Int), .int .i64 ((anewAt (rchL ns) en : Nat) : Int)] 87) = WN at hBn hnb ⊢
                have n0 := blk_cell hnb 0
                have n1 := blk_cell hnb 1
                have n2 := blk_cell hnb 2
                have n3 := blk_cell hnb 3
                have n4 := blk_cell hnb 4
                have n5 := blk_cell hnb 5
                simp at n0 n1 n2 n3 n4 n5
                have hnl := blk_lt hnb
                have hON := (hBn.block _ hol).trans HO.out
                have on1 := blk_cell hON 1
                simp at on1
                have honl := blk_lt hON
                have hVN := ownsRow_below HV.out hBn (Nat.le_refl _)
                have hsn := hBn.size
                clear c0 c1 c2 c3 c4 c5 o0 o1 xk
                gi_wp2_with (gi_at_builtin; refine wpListIn_append_own _ rfl _ _ 22 rfl (wo.heap.size + 1) 87 i0 _ 6 48 Try.underlying22 hi0 hz0 hz1 hz2 rfl (by decide) _ _ _ rfl (hVN.alloc _) ⟨WN.heap.size, 0, none⟩ 1 1 [.int .i64 11, .int .i64 y.d, .int .i64 y.a, .int .i64 y.b, .int .i64 ((anewAt (rchL ns) tn : Nat) : Int), .int .i64 ((anewAt (rchL ns) en : Nat) : Int)] rfl rfl ?cells (by simp [Value.oneCell']) (by unfold maxLen; omega) (by omega) (by simp; omega) ?_)
                case cells =>
                  intro j u hj
                  have e : (⟨WN.heap.size, 0, none⟩ : Addr).add j = ⟨WN.heap.size, j, none⟩ := by cases j <;> simp [Addr.add]
                  first
                    | (rw [e, World.cell?_alloc_at _ _ _ _ rfl]; simpa using hj)
                    | simpa using hj
                intro v' w5 hown' hgrow _
                obtain ⟨g', cap', rfl⟩ := ownsRow_succ hown'
                have hgrow' : (WN.alloc (.cells #[.int .i64 11, .int .i64 y.d, .int .i64 y.a, .int .i64 y.b, .int .i64 ((anewAt (rchL ns) tn : Nat) : Int), .int .i64 ((anewAt (rchL ns) en : Nat) : Int)] 87)).grownBy w5 (Value.slice va (trimTo ns k).length vcap).ownBlock := hgrow
                have hOF : w5.heap[wo.heap.size]? = some (.cells #[.int .i64 r, .slice va (trimTo ns k).length vcap] 24 (0, 0)) := (hgrow'.block _ (by simp; omega) (owns_ne_ty hVN hON (by decide))).trans ((Below.heap_alloc _ _ _ honl).trans hON)
                have m0 := blk_cell hOF 1
                have m1 := blk_frozen hOF 1
                simp at m0
                have hBF : Below (wo.heap.size) wo w5 := (hB.trans (hBn.mono (by omega))).trans (((Below.refl wo.heap.size WN).alloc (by omega) (.cells #[.int .i64 11, .int .i64 y.d, .int .i64 y.a, .int .i64 y.b, .int .i64 ((anewAt (rchL ns) tn : Nat) : Int), .int .i64 ((anewAt (rchL ns) en : Nat) : Int)] 87)).grown hgrow' (by simp; omega) (fun j ej => by have := (hVN.lt j ej).1; omega))
                have hVF : (w5.setCell ⟨wo.heap.size, 1, none⟩ (.slice (some ⟨g', 0, none⟩) ((trimTo ns k).length + 1) cap')).ownsRow (wo.heap.size + 1) 87 6 (.slice (some ⟨g', 0, none⟩) ((trimTo ns k).length + 1) cap') (trimTo ns (k + 1)).length ((trimTo ns (k + 1)).flatMap encNd) := by
                  rw [HTT.out, List.length_append, List.flatMap_append, List.flatMap_singleton, HEQ.out]
                  exact owns_set hown' hOF (by decide)
                have hOF2 : (w5.setCell ⟨wo.heap.size, 1, none⟩ (.slice (some ⟨g', 0, none⟩) ((trimTo ns k).length + 1) cap')).heap[wo.heap.size]? = some (.cells #[.int .i64 r, .slice (some ⟨g', 0, none⟩) ((trimTo ns k).length + 1) cap'] 24 (0, 0)) := by
                  rw [blk_set _ hOF]; simp
                have hBF2 := hBF.setCell (p := ⟨wo.heap.size, 1, none⟩) (Nat.le_refl _) (.slice (some ⟨g', 0, none⟩) ((trimTo ns k).length + 1) cap')
                clear hgrow hgrow' hown' hVN hON
                gi_wp2
                go_roundw
                case rel => exact ⟨k + 1, _, by omega, by go_num, hOF2, hVF, hBF2⟩
                case measure => simp [intOf]; omega
              · have h11b : (y.op == 11) = false := by simp [h11]
                gi_upto_region 20 with fail
                have hBn : Below wr.heap.size wr (wr.alloc (.cells #[.int .i64 y.op, .int .i64 y.d, .int .i64 y.a, .int .i64 y.b, .int .i64 ((anewAt (rchL ns) tn : Nat) : Int), .int .i64 y.e] 87)) := (Below.refl _ wr).alloc (Nat.le_refl _) _
                have hnb : (wr.alloc (.cells #[.int .i64 y.op, .int .i64 y.d, .int .i64 y.a, .int .i64 y.b, .int .i64 ((anewAt (rchL ns) tn : Nat) : Int), .int .i64 y.e] 87)).heap[wr.heap.size]? = some (.cells #[.int .i64 y.op, .int .i64 y.d, .int .i64 y.a, .int .i64 y.b, .int .i64 ((anewAt (rchL ns) tn : Nat) : Int), .int .i64 y.e] 87 (0, 0)) := World.alloc_heap_new wr _
                have HEQ : Hid ((encNd (ren (rchL ns) y)) = [.int .i64 y.op, .int .i64 y.d, .int .i64 y.a, .int .i64 y.b, .int .i64 ((anewAt (rchL ns) tn : Nat) : Int), .int .i64 y.e]) := by
                  show _ = _
                  rw [ren_eq HFU.out]; simp [encNd, *]
                generalize wr.alloc (.cells #[.int .i64 y.op, .int .i64 y.d, .int .i64 y.a, .int .i64 y.b, .int .i64 ((anewAt (rchL ns) tn : Nat) : Int), .int .i64 y.e] 87) = WN at hBn hnb ⊢
                have n0 := blk_cell hnb 0
                have n1 := blk_cell hnb 1
                have n2 := blk_cell hnb 2
                have n3 := blk_cell hnb 3
                have n4 := blk_cell hnb 4
                have n5 := blk_cell hnb 5
                simp at n0 n1 n2 n3 n4 n5
                have hnl := blk_lt hnb
                have hON := (hBn.block _ hol).trans HO.out
                have on1 := blk_cell hON 1
                simp at on1
                have honl := blk_lt hON
                have hVN := ownsRow_below HV.out hBn (Nat.le_refl _)
                have hsn := hBn.size
                clear c0 c1 c2 c3 c4 c5 o0 o1 xk
                gi_wp2_with (gi_at_builtin; refine wpListIn_append_own _ rfl _ _ 22 rfl (wo.heap.size + 1) 87 i0 _ 6 48 Try.underlying22 hi0 hz0 hz1 hz2 rfl (by decide) _ _ _ rfl (hVN.alloc _) ⟨WN.heap.size, 0, none⟩ 1 1 [.int .i64 y.op, .int .i64 y.d, .int .i64 y.a, .int .i64 y.b, .int .i64 ((anewAt (rchL ns) tn : Nat) : Int), .int .i64 y.e] rfl rfl ?cells (by simp [Value.oneCell']) (by unfold maxLen; omega) (by omega) (by simp; omega) ?_)
                case cells =>
                  intro j u hj
                  have e : (⟨WN.heap.size, 0, none⟩ : Addr).add j = ⟨WN.heap.size, j, none⟩ := by cases j <;> simp [Addr.add]
                  first
                    | (rw [e, World.cell?_alloc_at _ _ _ _ rfl]; simpa using hj)
                    | simpa using hj
                intro v' w5 hown' hgrow _
                obtain ⟨g', cap', rfl⟩ := ownsRow_succ hown'
                have hgrow' : (WN.alloc (.cells #[.int .i64 y.op, .int .i64 y.d, .int .i64 y.a, .int .i64 y.b, .int .i64 ((anewAt (rchL ns) tn : Nat) : Int), .int .i64 y.e] 87)).grownBy w5 (Value.slice va (trimTo ns k).length vcap).ownBlock := hgrow
                have hOF : w5.heap[wo.heap.size]? = some (.cells #[.int .i64 r, .slice va (trimTo ns k).length vcap] 24 (0, 0)) := (hgrow'.block _ (by simp; omega) (owns_ne_ty hVN hON (by decide))).trans ((Below.heap_alloc _ _ _ honl).trans hON)
                have m0 := blk_cell hOF 1
                have m1 := blk_frozen hOF 1
                simp at m0
                have hBF : Below (wo.heap.size) wo w5 := (hB.trans (hBn.mono (by omega))).trans (((Below.refl wo.heap.size WN).alloc (by omega) (.cells #[.int .i64 y.op, .int .i64 y.d, .int .i64 y.a, .int .i64 y.b, .int .i64 ((anewAt (rchL ns) tn : Nat) : Int), .int .i64 y.e] 87)).grown hgrow' (by simp; omega) (fun j ej => by have := (hVN.lt j ej).1; omega))
                have hVF : (w5.setCell ⟨wo.heap.size, 1, none⟩ (.slice (some ⟨g', 0, none⟩) ((trimTo ns k).length + 1) cap')).ownsRow (wo.heap.size + 1) 87 6 (.slice (some ⟨g', 0, none⟩) ((trimTo ns k).length + 1) cap') (trimTo ns (k + 1)).length ((trimTo ns (k + 1)).flatMap encNd) := by
                  rw [HTT.out, List.length_append, List.flatMap_append, List.flatMap_singleton, HEQ.out]
                  exact owns_set hown' hOF (by decide)
                have hOF2 : (w5.setCell ⟨wo.heap.size, 1, none⟩ (.slice (some ⟨g', 0, none⟩) ((trimTo ns k).length + 1) cap')).heap[wo.heap.size]? = some (.cells #[.int .i64 r, .slice (some ⟨g', 0, none⟩) ((trimTo ns k).length + 1) cap'] 24 (0, 0)) := by
                  rw [blk_set _ hOF]; simp
                have hBF2 := hBF.setCell (p := ⟨wo.heap.size, 1, none⟩) (Nat.le_refl _) (.slice (some ⟨g', 0, none⟩) ((trimTo ns k).length + 1) cap')
                clear hgrow hgrow' hown' hVN hON
                gi_wp2
                go_roundw
                case rel => exact ⟨k + 1, _, by omega, by go_num, hOF2, hVF, hBF2⟩
                case measure => simp [intOf]; omega
        · have ek : k = ns.length := by omega
          subst ek
          rw [trimTo_all] at hV
          have R1 := (hBw.block _ hlt2).trans p1
          have b0 := blk_cell hO 0
          have b1 := blk_cell hO 1
          simp at b0 b1
          have e0 := blk_cell R1 0
          have e1 := blk_cell R1 1
          have f0 := blk_frozen R1 0
          have f1 := blk_frozen R1 1
          simp at e0 e1
          have hl4 : w.heap.size + 1 < wr.heap.size := by omega
          have HV := hide' hV
          have HR1 := hide' R1
          clear hV R1 hO
          gi_wp2
          have hk2 : ((wr.setCell ⟨w.heap.size + 1, 0, none⟩ (.int .i64 r)).setCell ⟨w.heap.size + 1, 1, none⟩ (.slice va (trimTo ns ns.length).length vcap)).heap[w.heap.size + 1]? = some (.cells #[.int .i64 r, .slice va (trimTo ns ns.length).length vcap] 24 (0, 0)) := by
            rw [blk_set _ (blk_set _ HR1.out)]; simp
          have a0 := blk_cell hk2 0
          have a1 := blk_cell hk2 1
          simp at a0 a1
          refine bodyPost_ret (v := .agg #[.int .i64 r, .slice va (trimTo ns ns.length).length vcap]) (by simp [results, Try.results35, go_sem, a0, a1]) rfl ⟨_, rfl, ?_, ((hB1.trans (hBw.mono (by omega))).setCell (p := ⟨w.heap.size + 1, 0, none⟩) (by simp) _).setCell (p := ⟨w.heap.size + 1, 1, none⟩) (by simp) _⟩
          have o1 := owns_set (o := 1) (u := .slice va (trimTo ns ns.length).length vcap) (owns_set (o := 0) (u := .int .i64 r) HV.out HR1.out (by decide)) (blk_set _ HR1.out) (by decide)
          exact ownsRow_base o1 (by omega)
end Go.Proofs.Ytoikglgnmjjpcaa
