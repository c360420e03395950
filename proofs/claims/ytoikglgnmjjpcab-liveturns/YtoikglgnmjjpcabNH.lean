/-
  The document's DeadOf, walked.
-/
import Derived.Test.YtoikglgnmjjpcabNG
import Derived.Test.YtoikglgnmjjpcabLJ
import Derived.Test.YtoikglgnmjjpcabLK
import Derived.BigQuiet
namespace Go.Proofs.Ytoikglgnmjjpcab
open Go.RowKit Go.Shelf
set_option linter.unusedVariables false
set_option linter.unusedSimpArgs false

theorem ownProg_fit (r : Int) (b off cap : Nat) (ns : List Nd) (w : World) (hN : NodesAt w b off ns) (hl : 1 ≤ ns.length ∧ ns.length ≤ 256) :
    Calls Try.prog 18 #[.agg #[.int .i64 r, .slice (some ⟨b, off, none⟩) ns.length cap]] w fun e w' => ∃ cb cc, e = .returned (.agg #[.int .i64 r, .slice (some ⟨cb, 0, none⟩) ns.length cc]) ∧ w'.ownsRow w.heap.size 53 6 (.slice (some ⟨cb, 0, none⟩) ns.length cc) ns.length (ns.flatMap encNd) ∧ Below w.heap.size w w' := by
  refine (callsIn_wide.1 (ownProg_in r b off cap ns w hN (by omega))).mono ?_
  rintro e w' ⟨v, rfl, hv, hB⟩
  rcases hv.2 with ⟨_, q⟩ | ⟨g, vc, cur, rfl, _⟩
  · omega
  · exact ⟨g, vc, rfl, hv, hB⟩

/-- What lies in memory while the document lets nodes die. -/
structure DQ (w : World) (r : Int) (ns : List Nd) (cb cc QB : Nat) (ms : List Nd) (wr : World) : Prop where
  res : wr.heap[w.heap.size + 1]? = some (.cells #[.int .i64 0, .slice none 0 0] 24 (0, 0))
  qb : wr.heap[QB]? = some (.cells #[.int .i64 r, .slice (some ⟨cb, 0, none⟩) ns.length cc] 24 (0, 0))
  own : wr.ownsRow w.heap.size 53 6 (.slice (some ⟨cb, 0, none⟩) ns.length cc) ns.length (ms.flatMap encNd)
  bel : Below w.heap.size w wr

theorem DQ.below {w : World} {r : Int} {ns : List Nd} {cb cc QB : Nat} {ms : List Nd} {wr wx : World} (h : DQ w r ns cb cc QB ms wr) (hB : Below wr.heap.size wr wx) : DQ w r ns cb cc QB ms wx :=
  ⟨(hB.block _ (blk_lt h.res)).trans h.res, (hB.block _ (blk_lt h.qb)).trans h.qb, ownsRow_below h.own hB (Nat.le_refl _), h.bel.trans (hB.mono h.bel.size)⟩

theorem DQ.nodes {w : World} {r : Int} {ns : List Nd} {cb cc QB : Nat} {ms : List Nd} {wr : World} (h : DQ w r ns cb cc QB ms wr) (hl : ms.length = ns.length) (h1 : 1 ≤ ns.length) : NodesAt wr cb 0 ms := by
  have ho := h.own
  rw [← hl] at ho
  exact nodes_own ho (by omega)

theorem DQ.cur {w : World} {r : Int} {ns : List Nd} {cb cc QB : Nat} {ms : List Nd} {wr : World} (h : DQ w r ns cb cc QB ms wr) : ∃ cur, wr.heap[cb]? = some (.cells cur 53 (0, 0)) ∧ w.heap.size ≤ cb := by
  rcases h.own.2 with ⟨q, _⟩ | ⟨g, c, cur, q, a1, a2, _⟩
  · cases q
  · cases q; exact ⟨cur, a2, a1⟩

theorem DQ.write {w : World} {r : Int} {ns : List Nd} {cb cc QB : Nat} {ms : List Nd} {wr : World} (h : DQ w r ns cb cc QB ms wr) (hl : ms.length = ns.length) {k : Nat} (hk : k < ns.length) (y : Nd) : DQ w r ns cb cc QB (ms.set k y) (six wr cb k y) := by
  obtain ⟨cur, hcur, hge⟩ := h.cur
  have n2 : w.heap.size + 1 ≠ cb := blk_neN h.res hcur (by decide)
  have n3 : QB ≠ cb := blk_neN h.qb hcur (by decide)
  have ho := h.own
  rw [← hl] at ho
  have hw := owns_node (y := y) ho (j := k) (by omega)
  rw [List.length_set, hl] at hw
  exact ⟨(six_other n2).trans h.res, (six_other n3).trans h.qb, hw, h.bel.trans (six_below wr k y hge)⟩

def boolOf : Value → Bool | .bool b => b | _ => false

theorem any_take_succ {l : List Int} {q : Nat} {z d : Int} (h : l[q]? = some z) : (l.take (q + 1)).any (fun y => y == d) = ((l.take q).any (fun y => y == d) || z == d) := by
  rw [List.take_add_one, h, List.any_append]; simp

/-- A register that there is is live just where it is told. -/
theorem any_lvL {r : Int} {ms : List Nd} {d : Int} (h0 : 0 ≤ d ∧ d < r) (t : Nat) : (ints (lvL ms r.toNat t)).any (fun y => y == d) = liveB ms d.toNat t := by
  have key : (ints (lvL ms r.toNat t)).any (fun y => y == d) = true ↔ liveB ms d.toNat t = true := by
    simp only [List.any_eq_true, ints, List.mem_map, beq_iff_eq]
    constructor
    · rintro ⟨y, ⟨j, hj, rfl⟩, e⟩
      have := (mem_lvL.1 hj).2
      rw [← e]; simpa using this
    · intro h
      exact ⟨d, ⟨d.toNat, mem_lvL.2 ⟨by omega, h⟩, by omega⟩, rfl⟩
  cases a : (ints (lvL ms r.toNat t)).any (fun y => y == d) <;> cases b : liveB ms d.toNat t
  · rfl
  · rw [key.2 b] at a; cases a
  · rw [key.1 a] at b; cases b
  · rfl

set_option maxHeartbeats 16000000 in
set_option maxRecDepth 100000 in
theorem deadOf_any (r : Int) (b off cap : Nat) (ns : List Nd) (w : World) (hN : NodesAt w b off ns) (hc : chk r ns = 0) :
    Calls Try.prog 13 #[.agg #[.int .i64 r, .slice (some ⟨b, off, none⟩) ns.length cap]] w fun e w' => ∃ cb cc, e = .returned (.agg #[.int .i64 r, .slice (some ⟨cb, 0, none⟩) ns.length cc]) ∧ w'.ownsRow w.heap.size 53 6 (.slice (some ⟨cb, 0, none⟩) ns.length cc) ns.length ((deadN ns).flatMap encNd) ∧ Below w.heap.size w w' := by
  have hl := (chk_full hc).1
  have HOP := hide (fun W (h : Below w.heap.size w W) => ownProg_fit r b off cap ns W (hN.below h hN.lt) hl)
  have hb0 : Below w.heap.size w ((w.alloc (.cells #[.int .i64 r, .slice (some ⟨b, off, none⟩) ns.length cap] 24)).alloc (.cells #[.int .i64 0, .slice none 0 0] 24)) := ((Below.refl _ w).alloc (Nat.le_refl _) _).alloc (by simp) _
  have hp0 : ((w.alloc (.cells #[.int .i64 r, .slice (some ⟨b, off, none⟩) ns.length cap] 24)).alloc (.cells #[.int .i64 0, .slice none 0 0] 24)).heap[w.heap.size]? = some (.cells #[.int .i64 r, .slice (some ⟨b, off, none⟩) ns.length cap] 24 (0, 0)) := (Below.heap_alloc _ _ _ (by simp)).trans (World.alloc_heap_new w _)
  have hz0 : ((w.alloc (.cells #[.int .i64 r, .slice (some ⟨b, off, none⟩) ns.length cap] 24)).alloc (.cells #[.int .i64 0, .slice none 0 0] 24)).heap[w.heap.size + 1]? = some (.cells #[.int .i64 0, .slice none 0 0] 24 (0, 0)) := by
    have := World.alloc_heap_new (w.alloc (.cells #[.int .i64 r, .slice (some ⟨b, off, none⟩) ns.length cap] 24)) (.cells #[.int .i64 0, .slice none 0 0] 24)
    rwa [World.size_alloc] at this
  have HC := hide hc
  clear hN hc
  go_enter Try.func13, Try.ntmps13
  go_upto_region 1 with fail
  generalize ((w.alloc (.cells #[.int .i64 r, .slice (some ⟨b, off, none⟩) ns.length cap] 24)).alloc (.cells #[.int .i64 0, .slice none 0 0] 24)) = W0 at hb0 hp0 hz0 ⊢
  have p0 := blk_cell hp0 0
  have p1 := blk_cell hp0 1
  simp at p0 p1
  have pl := blk_lt hp0
  have HB0 := hide hb0
  have HZ0 := hide hz0
  clear hb0 hp0 hz0
  go_upto_region 2 with (go_at_call 18; refine (HOP.out _ HB0.out).mono ?_; rintro e w1 ⟨cb, cc, rfl, hV, hb1⟩)
  have hx : Below w1.heap.size w1 (w1.alloc (.cells #[.int .i64 r, .slice (some ⟨cb, 0, none⟩) ns.length cc] 24)) := (Below.refl _ w1).alloc (Nat.le_refl _) _
  have hB1 := hb1.trans (hx.mono hb1.size)
  have HQ0 : Hid (DQ w r ns cb cc w1.heap.size ns (w1.alloc (.cells #[.int .i64 r, .slice (some ⟨cb, 0, none⟩) ns.length cc] 24))) := ⟨(hB1.block _ (blk_lt HZ0.out)).trans HZ0.out, World.alloc_heap_new w1 _, (ownsRow_base hV HB0.out.size).alloc _, HB0.out.trans (hB1.mono HB0.out.size)⟩
  generalize (w1.alloc (.cells #[.int .i64 r, .slice (some ⟨cb, 0, none⟩) ns.length cc] 24)) = W1 at HQ0 ⊢
  generalize w1.heap.size = QB at HQ0 ⊢
  clear p0 p1 pl hV hb1 hx hB1 HB0 HZ0 HOP
  go_wp2_with fail
  go_loopw [4] (fun c wr => ∃ ms d, c = .bool d ∧ DeadOf ns ms ∧ deadN ms = deadN ns ∧ (d = false → anyTo ms ns.length = false) ∧ DQ w r ns cb cc QB ms wr) (fun c wr => if boolOf c then opsAt wr cb ns.length + 1 else 0)
  case atStart => exact ⟨ns, true, rfl, DeadOf.refl ns, rfl, (fun h => by cases h), HQ0.out⟩
  case round =>
    clear HQ0
    obtain ⟨ms, d, rfl, hD, hS, hda, hQ⟩ := hrel
    have q0 := blk_cell hQ.qb 0
    have q1 := blk_cell hQ.qb 1
    simp at q0 q1
    have ql := blk_lt hQ.qb
    have HML := hide hD.len
    have HD := hide hD
    have HS := hide hS
    have HDA := hide hda
    have HQ := hide hQ
    clear hD hS hda hQ
    cases d
    · have z0 := blk_cell HQ.out.res 0
      have z1 := blk_cell HQ.out.res 1
      simp at z0 z1
      have zl := blk_lt HQ.out.res
      have zf0 := blk_frozen HQ.out.res 0
      have zf1 := blk_frozen HQ.out.res 1
      go_wp2_with fail
      have k0 := blk_set (i := 0) (.int .i64 r) HQ.out.res
      have k1 := blk_set (i := 1) (.slice (some ⟨cb, 0, none⟩) ns.length cc) k0
      have T0 := owns_set (o := 1) (u := .slice (some ⟨cb, 0, none⟩) ns.length cc) (owns_set (o := 0) (u := .int .i64 r) HQ.out.own HQ.out.res (by decide)) k0 (by decide)
      have hBf := (HQ.out.bel.setCell (p := ⟨w.heap.size + 1, 0, none⟩) (by simp) (.int .i64 r)).setCell (p := ⟨w.heap.size + 1, 1, none⟩) (by simp) (.slice (some ⟨cb, 0, none⟩) ns.length cc)
      simp only [List.setIfInBounds_toArray, List.set_cons_zero, List.set_cons_succ] at k1
      generalize ((wr.setCell ⟨w.heap.size + 1, 0, none⟩ (.int .i64 r)).setCell ⟨w.heap.size + 1, 1, none⟩ (.slice (some ⟨cb, 0, none⟩) ns.length cc)) = Wf at k1 T0 hBf ⊢
      have y0 := blk_cell k1 0
      have y1 := blk_cell k1 1
      simp at y0 y1
      have hfix : ms = deadN ns := by
        have h1 := HDA.out (by first | rfl | trivial)
        rw [← HML.out] at h1
        rw [← HS.out, deadN_fix h1]
      rw [hfix] at T0
      exact bodyPost_ret (v := .agg #[.int .i64 r, .slice (some ⟨cb, 0, none⟩) ns.length cc]) (by simp [results, Try.results13, go_sem, y0, y1]) rfl ⟨cb, cc, rfl, T0, hBf⟩
    · have hcm := HD.out.chk HC.out
      have hlo := liveOf_any r cb 0 cc ms wr (HQ.out.nodes HML.out hl.1) hcm
      rw [HML.out] at hlo
      have HLO := hide hlo
      have HCM := hide hcm
      have HMU := hide (opsAt_of (HQ.out.nodes HML.out hl.1))
      rw [HML.out] at HMU
      clear hcm hlo
      go_upto_region 6 with (go_at_call 11; refine HLO.out.mono ?_; rintro e w2 ⟨rb, rfl, hR2, hb2⟩)
      have HQ2 := hide (HQ.out.below hb2)
      have HR2 := hide hR2
      clear q0 q1 ql hR2 hb2 HLO
      go_wp2_with fail
      go_loopw [4, 6] (fun c i wr => ∃ k : Nat, k ≤ ns.length ∧ i = .int .i64 k ∧ c = .bool (anyTo ms k) ∧ DQ w r ns cb cc QB (deadTo ms k) wr ∧ RowsT wr rb ns.length (lvL ms r.toNat)) (fun _ i _ => ns.length - (intOf i).toNat)
      case atStart => exact ⟨0, by omega, rfl, rfl, by rw [deadTo_zero]; exact HQ2.out, HR2.out⟩
      case round =>
        clear HQ2 HR2
        obtain ⟨k, hk, rfl, rfl, hQ3, hR3⟩ := hrel
        have q1 := blk_cell hQ3.qb 1
        simp at q1
        have ql := blk_lt hQ3.qb
        by_cases hlt : k < ns.length
        · obtain ⟨cur, hcur, hge⟩ := hQ3.cur
          have hkm : k < ms.length := by rw [HML.out]; exact hlt
          have hNd := hQ3.nodes (by rw [deadTo_len, HML.out]) hl.1
          have hgn : (deadTo ms k)[k]? = some (nd ms k) := by rw [get_nd (by rw [deadTo_len]; exact hkm), nd_deadTo_at hkm]
          have HF := hide (chk_at HCM.out hkm)
          have HT := hide (deadTo_succ hkm)
          have HA := hide (anyTo_succ ms k)
          have HDI : Hid (dies ms k = (wi (nd ms k).op 1 8 && !liveB ms (nd ms k).d.toNat (nd ms k).t.toNat)) := rfl
          generalize hxx : nd ms k = x at hgn HF HT HDI
          clear hxx
          have d0 := hNd.c0 k x hgn
          have d1 := hNd.c1 k x hgn
          have d2 := hNd.c2 k x hgn
          have d3 := hNd.c3 k x hgn
          have d4 := hNd.c4 k x hgn
          have d5 := hNd.c5 k x hgn
          simp only [Nat.zero_add] at d0 d1 d2 d3 d4 d5
          have dl := hNd.lt
          have hki : (k : Int) < (ns.length : Int) := by omega
          have hbX : Below wr.heap.size wr (wr.alloc (.cells #[.int .i64 x.op, .int .i64 x.d, .int .i64 x.a, .int .i64 x.b, .int .i64 x.t, .int .i64 x.e] 53)) := (Below.refl _ wr).alloc (Nat.le_refl _) _
          have hxn : (wr.alloc (.cells #[.int .i64 x.op, .int .i64 x.d, .int .i64 x.a, .int .i64 x.b, .int .i64 x.t, .int .i64 x.e] 53)).heap[wr.heap.size]? = some (.cells #[.int .i64 x.op, .int .i64 x.d, .int .i64 x.a, .int .i64 x.b, .int .i64 x.t, .int .i64 x.e] 53 (0, 0)) := World.alloc_heap_new wr _
          have HQ3 := hide hQ3
          have HR3 := hide hR3
          clear hQ3 hR3 hNd hgn hcur
          go_upto_region 10 with fail
          have HQ4 := hide (HQ3.out.below hbX)
          have HR4 := hide (HR3.out.below hbX)
          generalize (wr.alloc (.cells #[.int .i64 x.op, .int .i64 x.d, .int .i64 x.a, .int .i64 x.b, .int .i64 x.t, .int .i64 x.e] 53)) = Wx at hxn HQ4 HR4 ⊢
          generalize wr.heap.size = X at hxn ⊢
          clear d0 d1 d2 d3 d4 d5 dl q1 ql hbX HQ3 HR3
          have y0 := blk_cell hxn 0
          have y1 := blk_cell hxn 1
          have y4 := blk_cell hxn 4
          simp at y0 y1 y4
          have yl := blk_lt hxn
          have HXN := hide hxn
          clear hxn
          have HWI := hide (rwithin_any x.op 1 8 Wx)
          cases hop : wi x.op 1 8
          · rw [hop] at HWI HDI
            have HDF := hide (show dies ms k = false by rw [HDI.out]; rfl)
            rw [HDF.out] at HT HA
            clear hop
            go_wp2_with fail
            refine HWI.out.mono ?_
            rintro e wz ⟨rfl, hwz⟩
            subst wz
            go_wp2_with fail
            go_roundw
            case rel => exact ⟨k + 1, by omega, by go_num, by rw [HA.out]; simp, by rw [HT.out]; exact HQ4.out, HR4.out⟩
            case measure => simp [intOf]; omega
          · have hop' := wi_iff.1 hop
            have ht := HF.out.t (by omega)
            rw [HML.out] at ht
            have hd := HF.out.d (by omega) (by omega)
            obtain ⟨ra, rc, hrc, hI⟩ := HR4.out.read.row x.t.toNat (by omega)
            have hrl := HR4.out.read.lt
            have t0 : 0 ≤ x.t := by omega
            have t1 : x.t < (ns.length : Int) := by omega
            have hfew : (lvL ms r.toNat x.t.toNat).length ≤ 64 := Nat.le_trans (lvL_few _ _ _) (by have := (chk_full HC.out).2.1; omega)
            have HAL := hide (any_lvL hd x.t.toNat (ms := ms))
            rw [hop] at HWI HDI
            have HI := hide hI
            have HIL := hide (ints_len (lvL ms r.toNat x.t.toNat))
            clear hop hop' ht hd hI
            go_wp2_with fail
            refine HWI.out.mono ?_
            rintro e wz ⟨rfl, hwz⟩
            subst wz
            go_wp2_with fail
            go_loopw [9, 10] (fun c i wr => ∃ q : Nat, q ≤ (lvL ms r.toNat x.t.toNat).length ∧ i = .int .i64 q ∧ c = .bool (((ints (lvL ms r.toNat x.t.toNat)).take q).any fun y => y == x.d) ∧ ∃ n, wr = Wx.drewN n) (fun _ i _ => (lvL ms r.toNat x.t.toNat).length - (intOf i).toNat)
            case atStart => exact ⟨0, by omega, rfl, rfl, 0, rfl⟩
            case round =>
              obtain ⟨q, hq, rfl, rfl, n, rfl⟩ := hrel
              by_cases hql : q < (lvL ms r.toNat x.t.toNat).length
              · have hpos : q < (ints (lvL ms r.toNat x.t.toNat)).length := by rw [HIL.out]; exact hql
                obtain ⟨z, hz⟩ := get_lt hpos
                obtain ⟨ib, io, rfl, hil, hic⟩ := HI.out.at hpos
                have c1 := hic q z hz
                have HTK := hide (any_take_succ (d := x.d) hz)
                have hqi : (q : Int) < ((lvL ms r.toNat x.t.toNat).length : Int) := by omega
                clear hic hz hpos
                cases hsf : ((ints (lvL ms r.toNat x.t.toNat)).take q).any fun y => y == x.d
                · rw [hsf] at HTK
                  clear hsf
                  go_wp2
                  go_quiet (fail)
                  go_wp2
                  go_roundw
                  case rel => exact ⟨q + 1, by omega, by go_num, by rw [HTK.out]; simp, n + nq, by first | rfl | (simp only [World.drewN_drewN])⟩
                  case measure => simp [intOf]; omega
                · rw [hsf] at HTK
                  clear hsf
                  go_wp2
                  go_quiet (fail)
                  go_wp2
                  go_roundw
                  case rel => exact ⟨q + 1, by omega, by go_num, by rw [HTK.out]; simp, n + nq, by first | rfl | (simp only [World.drewN_drewN])⟩
                  case measure => simp [intOf]; omega
              · have eq : q = (lvL ms r.toNat x.t.toNat).length := by omega
                subst eq
                have e1 : (ints (lvL ms r.toNat x.t.toNat)).take (lvL ms r.toNat x.t.toNat).length = ints (lvL ms r.toNat x.t.toNat) := List.take_of_length_le (by rw [HIL.out]; exact Nat.le_refl _)
                rw [e1, HAL.out]
                have hBd := below_drewN (Below.refl Wx.heap.size Wx) n
                have HQ5 := hide (HQ4.out.below hBd)
                have HR5 := hide (HR4.out.below hBd)
                have HX5 := hide ((hBd.block _ yl).trans HXN.out)
                clear e1 y0 y1 y4 yl hrc hrl HQ4 HR4 HXN HI hBd
                generalize Wx.drewN n = Wd at HQ5 HR5 HX5 ⊢
                cases hlv : liveB ms x.d.toNat x.t.toNat
                · rw [hlv] at HDI
                  have HDT := hide (show dies ms k = true by rw [HDI.out]; rfl)
                  rw [HDT.out] at HT HA
                  have y4 := blk_cell HX5.out 4
                  simp at y4
                  have yl := blk_lt HX5.out
                  have q1 := blk_cell HQ5.out.qb 1
                  simp at q1
                  have ql := blk_lt HQ5.out.qb
                  obtain ⟨cur5, hcur5, hge5⟩ := HQ5.out.cur
                  have hNd := HQ5.out.nodes (by rw [deadTo_len, HML.out]) hl.1
                  have hgn := get_nd (ns := deadTo ms k) (n := k) (by rw [deadTo_len]; exact hkm)
                  have d0 := hNd.c0 k _ hgn
                  have d1 := hNd.c1 k _ hgn
                  have d2 := hNd.c2 k _ hgn
                  have d3 := hNd.c3 k _ hgn
                  have d4 := hNd.c4 k _ hgn
                  have d5 := hNd.c5 k _ hgn
                  simp only [Nat.zero_add] at d0 d1 d2 d3 d4 d5
                  have dl := hNd.lt
                  have g0 := blk_frozen hcur5 (k * 6)
                  have g1 := blk_frozen hcur5 (k * 6 + 1)
                  have g2 := blk_frozen hcur5 (k * 6 + 2)
                  have g3 := blk_frozen hcur5 (k * 6 + 3)
                  have g4 := blk_frozen hcur5 (k * 6 + 4)
                  have g5 := blk_frozen hcur5 (k * 6 + 5)
                  generalize nd (deadTo ms k) k = z at d0 d1 d2 d3 d4 d5
                  have HW := hide (HQ5.out.write (by rw [deadTo_len, HML.out]) hlt (skp x.t))
                  have HRW := hide (HR5.out.six hcur5 (k := k) (y := skp x.t))
                  clear hlv hNd hgn hcur5
                  go_wp2_with fail
                  go_roundw
                  case rel => exact ⟨k + 1, by omega, by go_num, by rw [HA.out]; simp, by rw [HT.out]; exact HW.out, HRW.out⟩
                  case measure => simp [intOf]; omega
                · rw [hlv] at HDI
                  have HDF := hide (show dies ms k = false by rw [HDI.out]; rfl)
                  rw [HDF.out] at HT HA
                  clear hlv
                  go_wp2_with fail
                  go_roundw
                  case rel => exact ⟨k + 1, by omega, by go_num, by rw [HA.out]; simp, by rw [HT.out]; exact HQ5.out, HR5.out⟩
                  case measure => simp [intOf]; omega
        · have ek : k = ns.length := by omega
          subst ek
          have HQ3 := hide hQ3
          clear hQ3 hR3
          go_wp2_with fail
          go_roundw
          case rel => exact ⟨deadTo ms ns.length, anyTo ms ns.length, rfl, HD.out.trans (DeadOf.to ms _), by rw [← HS.out, ← HML.out]; exact deadN_round ms, (fun h => by
              have e : deadTo ms ns.length = ms := by rw [← HML.out] at h ⊢; exact deadR_same h
              rw [e]; exact h), HQ3.out⟩
          case measure =>
            have e2 := opsAt_of (HQ3.out.nodes (by rw [deadTo_len, HML.out]) hl.1)
            rw [deadTo_len, HML.out] at e2
            simp only [boolOf]
            cases ha : anyTo ms ns.length
            · simp
            · have h1 := ha
              rw [← HML.out] at h1
              have := doers_less h1
              have e1 : deadTo ms ns.length = deadR ms := by rw [← HML.out]; rfl
              rw [e1] at e2
              have := HMU.out
              simp; omega

end Go.Proofs.Ytoikglgnmjjpcab
