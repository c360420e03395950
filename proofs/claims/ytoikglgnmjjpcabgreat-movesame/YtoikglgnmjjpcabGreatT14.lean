/-
  move.All, walked.
  What One, All, Busy, Rival and Apply make, as far as what a program does is asked.
  How a list of yes and no lies that came in.
-/
import Derived.Test.YtoikglgnmjjpcabGreatT13
namespace Go.Proofs.YtoikglgnmjjpcabGreat
open Go.RowKit Go.Shelf
set_option linter.unusedVariables false
set_option linter.unusedSimpArgs false

set_option maxHeartbeats 8000000 in
set_option maxRecDepth 100000 in
theorem all_wrong (r : Int) (a : Option Addr) (cap : Nat) (ns : List Nd) (w : World) (hN : SlN w a ns) (hc : chk r ns ≠ 0) :
    Calls Tryz.prog 10 #[.agg #[.int .i64 r, .slice a ns.length cap]] w fun e w' => e = .returned (.tuple #[.agg #[.int .i64 0, .slice none 0 0], .int .i64 (chk r ns)]) ∧ Below w.heap.size w w' := by
  have HTR := hide (fun W (h : Below w.heap.size w W) => terms_any r a cap ns W (hN.below h))
  have hCb : (chk r ns == 0) = false := by simp [hc]
  have hCn : (chk r ns != 0) = true := by simp [hc]
  clear hc hN
  generalize termsL r ns = L at HTR
  generalize chk r ns = C at *
  have hbA : Below w.heap.size w ((w.alloc (.cells #[.int .i64 r, .slice a ns.length cap] 24)).alloc (.cells #[.int .i64 0, .slice none 0 0] 24)) := (((Below.refl _ w).alloc (Nat.le_refl _) _).alloc (by simp) _)
  have p0 : ((w.alloc (.cells #[.int .i64 r, .slice a ns.length cap] 24)).alloc (.cells #[.int .i64 0, .slice none 0 0] 24)).heap[w.heap.size]? = some (.cells #[.int .i64 r, .slice a ns.length cap] 24 (0, 0)) := by
    have := World.alloc_heap_new w (.cells #[.int .i64 r, .slice a ns.length cap] 24)
    exact ((Below.heap_alloc _ _ _ (by simp; try omega)).trans this)
  have p1 : ((w.alloc (.cells #[.int .i64 r, .slice a ns.length cap] 24)).alloc (.cells #[.int .i64 0, .slice none 0 0] 24)).heap[w.heap.size + 1]? = some (.cells #[.int .i64 0, .slice none 0 0] 24 (0, 0)) := by
    have := World.alloc_heap_new (w.alloc (.cells #[.int .i64 r, .slice a ns.length cap] 24)) (.cells #[.int .i64 0, .slice none 0 0] 24)
    simp only [World.size_alloc] at this
    exact this
  go_enter Tryz.func10, Tryz.ntmps10
  go_upto_region 1 with fail
  generalize ((w.alloc (.cells #[.int .i64 r, .slice a ns.length cap] 24)).alloc (.cells #[.int .i64 0, .slice none 0 0] 24)) = W at hbA p0 p1 ⊢
  have q0 := blk_cell p0 0
  have q1 := blk_cell p0 1
  simp at q0 q1
  have pl := blk_lt p0
  have HB := hide hbA
  have HR := hide p1
  clear hbA p0 p1
  go_wp2_with fail
  refine (HTR.out _ HB.out).mono ?_
  rintro e w1 ⟨x, xc, rfl, _, hb1⟩
  have HB1 := hide (HB.out.trans (hb1.mono HB.out.size))
  have hR := (hb1.block _ (blk_lt HR.out)).trans HR.out
  clear hb1 q0 q1 pl HB HR HTR
  have k0 := blk_cell hR 0
  have k1 := blk_cell hR 1
  simp at k0 k1
  have f0 := blk_frozen hR 0
  have f1 := blk_frozen hR 1
  have kl := blk_lt hR
  have hk := blk_set2 (v0 := .int .i64 0) (v1 := .slice none 0 0) hR
  have hBf := below_set2 (v0 := .int .i64 0) (v1 := .slice none 0 0) HB1.out (B := w.heap.size + 1) (by omega)
  clear hR
  go_wp2_with fail
  clear k0 k1 f0 f1 kl
  generalize ((w1.setCell ⟨w.heap.size + 1, 0, none⟩ (.int .i64 0)).setCell ⟨w.heap.size + 1, 1, none⟩ (.slice none 0 0)) = Wf at hk hBf ⊢
  have k0 := blk_cell hk 0
  have k1 := blk_cell hk 1
  simp at k0 k1
  exact bodyPost_ret (v := .tuple #[.agg #[.int .i64 0, .slice none 0 0], .int .i64 C]) (by simp [results, Tryz.results10, go_sem, k0, k1]) rfl ⟨rfl, hBf⟩

theorem terms_atM {w : World} {a : Option Addr} {ts : List Tm} (h : TermsAt w a ts) {k : Nat} (hk : k < ts.length) : ∃ b off, a = some ⟨b, off, none⟩ ∧ b < w.heap.size ∧ ∀ (j : Nat) (t : Tm), ts[j]? = some t → w.cell? ⟨b, off + j * 3, none⟩ = some (.int .i64 t.op) ∧ w.cell? ⟨b, off + j * 3 + 1, none⟩ = some (.int .i64 t.a) ∧ w.cell? ⟨b, off + j * 3 + 2, none⟩ = some (.int .i64 t.b) := by
  rcases h with rfl | h
  · simp at hk
  · exact h

theorem clone_at1M (b off cap : Nat) (ns : List Nd) (W : World) (hN : NodesAt W b off ns) (hl : 1 ≤ ns.length ∧ ns.length ≤ 512) :
    Calls Tryz.prog 33 #[.slice (some ⟨b, off, none⟩) ns.length cap] W.drew fun e w' => ∃ gb gc, e = .returned (.slice (some ⟨gb, 0, none⟩) ns.length gc) ∧ NodesAt w' gb 0 ns ∧ W.heap.size ≤ gb ∧ Below W.heap.size W w' := by
  have hd := (Below.refl W.heap.size W).drew
  refine (clone_fitM b off cap ns W.drew (hN.below hd hN.lt) hl).mono ?_
  rintro e w' ⟨gb, gc, rfl, hV, hb⟩
  refine ⟨gb, gc, rfl, nodes_ownM hV hl.1, ?_, hd.trans hb⟩
  rcases hV.2 with ⟨q, _⟩ | ⟨g', c, cur, q, a1, a2, _⟩
  · cases q
  · cases q; exact a1

theorem clone_at2M (b off cap : Nat) (ns : List Nd) (W : World) (hN : NodesAt W b off ns) (hl : 1 ≤ ns.length ∧ ns.length ≤ 512) :
    Calls Tryz.prog 33 #[.slice (some ⟨b, off, none⟩) ns.length cap] (W.alloc (.cells #[.int .i64 0, .slice none 0 0] 24)).drew fun e w' => ∃ gb gc, e = .returned (.slice (some ⟨gb, 0, none⟩) ns.length gc) ∧ NodesAt w' gb 0 ns ∧ W.heap.size + 1 ≤ gb ∧ w'.heap[W.heap.size]? = some (.cells #[.int .i64 0, .slice none 0 0] 24 (0, 0)) ∧ Below W.heap.size W w' := by
  have hd := ((Below.refl W.heap.size W).alloc (Nat.le_refl _) (.cells #[.int .i64 0, .slice none 0 0] 24)).drew
  have hq : (W.alloc (.cells #[.int .i64 0, .slice none 0 0] 24)).drew.heap[W.heap.size]? = some (.cells #[.int .i64 0, .slice none 0 0] 24 (0, 0)) := World.alloc_heap_new W _
  have hs : (W.alloc (.cells #[.int .i64 0, .slice none 0 0] 24)).drew.heap.size = W.heap.size + 1 := World.size_alloc W _
  refine (clone_fitM b off cap ns _ (hN.below hd hN.lt) hl).mono ?_
  rintro e w' ⟨gb, gc, rfl, hV, hb⟩
  refine ⟨gb, gc, rfl, nodes_ownM hV hl.1, ?_, (hb.block _ (by omega)).trans hq, hd.trans (hb.mono (by omega))⟩
  rcases hV.2 with ⟨q, _⟩ | ⟨g', c, cur, q, a1, a2, _⟩
  · cases q
  · cases q; omega

def AllSays (r : Int) (ns : List Nd) (w : World) (e : Ending) (w' : World) : Prop :=
  ((allF r ns (tms ns ns.length)).1 ≠ 0 ∧ e = .returned (.tuple #[.agg #[.int .i64 0, .slice none 0 0], .int .i64 (allF r ns (tms ns ns.length)).1]) ∨
   (allF r ns (tms ns ns.length)).1 = 0 ∧ ∃ gb gc, e = .returned (.tuple #[.agg #[.int .i64 (allF r ns (tms ns ns.length)).2.1, .slice (some ⟨gb, 0, none⟩) (allF r ns (tms ns ns.length)).2.2.length gc], .int .i64 0]) ∧ NodesAt w' gb 0 (allF r ns (tms ns ns.length)).2.2 ∧ w.heap.size ≤ gb) ∧ Below w.heap.size w w'

set_option maxHeartbeats 8000000 in
set_option maxRecDepth 100000 in
theorem all_right (r : Int) (b off cap : Nat) (ns : List Nd) (w : World) (hN : NodesAt w b off ns) (hc : chk r ns = 0) :
    Calls Tryz.prog 10 #[.agg #[.int .i64 r, .slice (some ⟨b, off, none⟩) ns.length cap]] w (AllSays r ns w) := by
  have hl0 := (chk_full hc).1
  have HC := hide hc
  have HN := hide hN
  have HTR := hide (fun W (h : Below w.heap.size w W) => terms_any r (some ⟨b, off, none⟩) cap ns W (Or.inr ⟨b, off, rfl, hN.below h hN.lt⟩))
  rw [show termsL r ns = tms ns ns.length by simp only [termsL, hc, if_true], hc] at HTR
  unfold AllSays
  have hLl : (tms ns ns.length).length ≤ 256 := by have := tms_len ns ns.length; omega
  generalize tms ns ns.length = L at HTR hLl ⊢
  clear hc hN
  have hbA : Below w.heap.size w ((w.alloc (.cells #[.int .i64 r, .slice (some ⟨b, off, none⟩) ns.length cap] 24)).alloc (.cells #[.int .i64 0, .slice none 0 0] 24)) := (((Below.refl _ w).alloc (Nat.le_refl _) _).alloc (by simp) _)
  have p0 : ((w.alloc (.cells #[.int .i64 r, .slice (some ⟨b, off, none⟩) ns.length cap] 24)).alloc (.cells #[.int .i64 0, .slice none 0 0] 24)).heap[w.heap.size]? = some (.cells #[.int .i64 r, .slice (some ⟨b, off, none⟩) ns.length cap] 24 (0, 0)) := by
    have := World.alloc_heap_new w (.cells #[.int .i64 r, .slice (some ⟨b, off, none⟩) ns.length cap] 24)
    exact ((Below.heap_alloc _ _ _ (by simp; try omega)).trans this)
  have p1 : ((w.alloc (.cells #[.int .i64 r, .slice (some ⟨b, off, none⟩) ns.length cap] 24)).alloc (.cells #[.int .i64 0, .slice none 0 0] 24)).heap[w.heap.size + 1]? = some (.cells #[.int .i64 0, .slice none 0 0] 24 (0, 0)) := by
    have := World.alloc_heap_new (w.alloc (.cells #[.int .i64 r, .slice (some ⟨b, off, none⟩) ns.length cap] 24)) (.cells #[.int .i64 0, .slice none 0 0] 24)
    simp only [World.size_alloc] at this
    exact this
  go_enter Tryz.func10, Tryz.ntmps10
  go_upto_region 1 with fail
  generalize ((w.alloc (.cells #[.int .i64 r, .slice (some ⟨b, off, none⟩) ns.length cap] 24)).alloc (.cells #[.int .i64 0, .slice none 0 0] 24)) = W at hbA p0 p1 ⊢
  have q0 := blk_cell p0 0
  have q1 := blk_cell p0 1
  simp at q0 q1
  have pl := blk_lt p0
  have HB := hide hbA
  have HP := hide p0
  have HR := hide p1
  clear hbA p0 p1
  go_wp2_with fail
  refine (HTR.out _ HB.out).mono ?_
  rintro e w1 ⟨x, xc, rfl, hT1, hb1⟩
  have HB1 := hide (HB.out.trans (hb1.mono HB.out.size))
  have HR1 := hide ((hb1.block _ (blk_lt HR.out)).trans HR.out)
  have HP1 := hide ((hb1.block _ (blk_lt HP.out)).trans HP.out)
  have HTm := hide hT1
  have hsz : w.heap.size + 1 < w1.heap.size := blk_lt HR1.out
  clear hb1 q0 q1 pl HB HR HP HTR hT1
  go_upto_region 4 with fail
  have HS : Hid (∀ u : World, Below w1.heap.size w1 u → u.cell? ⟨w.heap.size, 0, none⟩ = some (.int .i64 r) ∧ u.cell? ⟨w.heap.size, 1, none⟩ = some (.slice (some ⟨b, off, none⟩) ns.length cap)) := fun u h => by
    have k1 := (h.block _ (blk_lt HP1.out)).trans HP1.out
    refine ⟨?_, ?_⟩
    · rw [blk_cell k1]; rfl
    · rw [blk_cell k1]; rfl
  have pl : w.heap.size < w1.heap.size := blk_lt HP1.out
  go_cut [6] from 18 to 24 (fun v wx => ∃ QB gb gc, v = .pointer (some ⟨QB, 0, none⟩) ∧ w1.heap.size ≤ QB ∧ wx.heap[QB]? = some (.cells #[.int .i64 r, .slice (some ⟨gb, 0, none⟩) ns.length gc] 24 (0, 0)) ∧ NodesAt wx gb 0 ns ∧ gb ≠ QB ∧ w1.heap.size ≤ gb ∧ Below w1.heap.size w1 wx)
  case first =>
    go_region_held3 (fun u => u.cell? ⟨w.heap.size, 0, none⟩ = some (.int .i64 r) ∧ u.cell? ⟨w.heap.size, 1, none⟩ = some (.slice (some ⟨b, off, none⟩) ns.length cap)) (first
      | (with_reducible refine HS.out _ ?_; first | with_reducible exact hB7 | with_reducible exact hB7.alloc hB7.size _ | with_reducible exact (Below.refl _ w1).drew | with_reducible exact (Below.refl _ w1) | with_reducible exact ((Below.refl _ w1).alloc (Nat.le_refl _) _).drew | with_reducible exact (Below.refl _ w1).drew.alloc (by simp) _ | with_reducible exact (Below.refl _ w1).alloc (Nat.le_refl _) _)
      | (with_reducible refine HS.out _ ?_; exact below_set2 hB7 (Nat.le_refl _))) (first
      | (go_at_call 33; refine (clone_at2M b off cap ns w1 (HN.out.below HB1.out HN.out.lt) (by omega)).mono ?_; rintro e w7 ⟨gb, gc, rfl, hN7, hg7, hk7, hB7⟩; have z0 := blk_cell hk7 0; have z1 := blk_cell hk7 1; simp at z0 z1; have f0 := blk_frozen hk7 0; have f1 := blk_frozen hk7 1; have zl := blk_lt hk7; have HX := hide (And.intro hN7 hk7); clear hN7 hk7)
      | (go_at_call 33; refine (clone_at1M b off cap ns w1 (HN.out.below HB1.out HN.out.lt) (by omega)).mono ?_; rintro e w7 ⟨gb, gc, rfl, hN7, hg7, hB7⟩; have HX := hide hN7; clear hN7))
    all_goals (go_wp2; go_meet)
    all_goals first
      | exact ⟨w1.heap.size, gb, gc, rfl, Nat.le_refl _, blk_set2 HX.out.2, (HX.out.1.setM (by omega)).setM (by omega), by omega, by omega, below_set2 hB7 (Nat.le_refl _)⟩
      | exact ⟨w7.heap.size, gb, gc, rfl, hB7.size, blk_new rfl, HX.out.below ((Below.refl _ w7).alloc (Nat.le_refl _) _) HX.out.lt, Nat.ne_of_lt HX.out.lt, hg7, hB7.alloc hB7.size _⟩
  case rest =>
    obtain ⟨QB, gb, gc, rfl, hQ, hK, hNg, hne, hgb, hBc⟩ := hcut
    have HK := hide hK
    have HNg := hide hNg
    have HBc := hide hBc
    have hneR : w.heap.size + 1 ≠ QB := by omega
    clear hK hNg hBc HS pl HP1 HN
    generalize hW : wc = V at *
    clear hW
    go_wp2_with fail
    go_loopw [26] (fun i wr => ∃ (k gb gc : Nat), k ≤ L.length ∧ i = .int .i64 k ∧ (allF r ns (L.take k)).1 = 0 ∧ wr.heap[QB]? = some (.cells #[.int .i64 (allF r ns (L.take k)).2.1, .slice (some ⟨gb, 0, none⟩) (allF r ns (L.take k)).2.2.length gc] 24 (0, 0)) ∧ NodesAt wr gb 0 (allF r ns (L.take k)).2.2 ∧ gb ≠ QB ∧ w1.heap.size ≤ gb ∧ Below w1.heap.size w1 wr) (fun i _ => L.length - (intOf i).toNat)
    case atStart => exact ⟨0, gb, gc, Nat.zero_le _, rfl, rfl, HK.out, HNg.out, hne, hgb, HBc.out⟩
    case round =>
      obtain ⟨k, gb, gc, hk, rfl, h0, hK, hN, hne, hgb, hb⟩ := hrel
      obtain ⟨⟨e0, q, ms⟩, hX⟩ : ∃ X, allF r ns (L.take k) = X := ⟨_, rfl⟩
      rw [hX] at h0 hK hN
      simp only at h0 hK hN
      subst h0
      have HX := hide hX
      have HR := hide ((hb.block _ (blk_lt HR1.out)).trans HR1.out)
      have HBw := hide (HB1.out.trans (hb.mono HB1.out.size))
      have hwr : w1.heap.size ≤ wr.heap.size := hb.size
      clear hX
      by_cases hlt : k < L.length
      · obtain ⟨t, ht⟩ := get_lt hlt
        obtain ⟨xb, xo, rfl, xl, hx⟩ := terms_atM HTm.out hlt
        obtain ⟨d0, d1, d2⟩ := hx k t ht
        have c0 := (hb.cell (p := ⟨xb, xo + k * 3, none⟩) xl).trans d0
        have c1 := (hb.cell (p := ⟨xb, xo + k * 3 + 1, none⟩) xl).trans d1
        have c2 := (hb.cell (p := ⟨xb, xo + k * 3 + 2, none⟩) xl).trans d2
        have xl' : xb < wr.heap.size := by omega
        have hki : (k : Int) < (L.length : Int) := by omega
        have htk : L.take (k + 1) = L.take k ++ [t] := by rw [List.take_add_one, ht]; rfl
        have HTK := hide htk
        have hxA : Below wr.heap.size wr (wr.alloc (.cells #[.int .i64 t.op, .int .i64 t.a, .int .i64 t.b] 26)) := (Below.refl _ wr).alloc (Nat.le_refl _) _
        have hTB : (wr.alloc (.cells #[.int .i64 t.op, .int .i64 t.a, .int .i64 t.b] 26)).heap[wr.heap.size]? = some (.cells #[.int .i64 t.op, .int .i64 t.a, .int .i64 t.b] 26 (0, 0)) := World.alloc_heap_new wr _
        have HKu := hide ((hxA.block _ (blk_lt hK)).trans hK)
        have HRu := hide ((hxA.block _ (blk_lt HR.out)).trans HR.out)
        have HNu := hide (hN.below hxA hN.lt)
        have HBu := hide (hb.trans (hxA.mono hb.size))
        have HBwu := hide (HBw.out.trans (hxA.mono HBw.out.size))
        clear d0 d1 d2 hx ht htk hK hN hb
        go_upto_region 8 with fail
        generalize (wr.alloc (.cells #[.int .i64 t.op, .int .i64 t.a, .int .i64 t.b] 26)) = U at hxA hTB HKu HRu HNu HBu HBwu ⊢
        generalize wr.heap.size = TB at hTB ⊢
        have t0 := blk_cell hTB 0
        have t1 := blk_cell hTB 1
        have t2 := blk_cell hTB 2
        simp at t0 t1 t2
        have tl := blk_lt hTB
        have q0 := blk_cell HKu.out 0
        have q1 := blk_cell HKu.out 1
        simp at q0 q1
        have ql := blk_lt HKu.out
        clear hTB hxA c0 c1 c2 HR HBw
        go_wp2_with fail
        refine (one_any q (some ⟨gb, 0, none⟩) gc ms t _ (Or.inr ⟨gb, 0, rfl, HNu.out⟩)).mono ?_
        rintro e w5 ⟨h, hb5⟩
        have hQ5 := (hb5.block _ ql).trans HKu.out
        have hR5 := (hb5.block _ (blk_lt HRu.out)).trans HRu.out
        have HB5 := hide (HBu.out.trans (hb5.mono HBu.out.size))
        have HBw5 := hide (HBwu.out.trans (hb5.mono HBwu.out.size))
        have hl5 := hb5.size
        clear t0 t1 t2 tl q0 q1 HKu HRu HNu HBu HBwu hb5
        have q0 := blk_cell hQ5 0
        have q1 := blk_cell hQ5 1
        simp at q0 q1
        have f0 := blk_frozen hQ5 0
        have f1 := blk_frozen hQ5 1
        have ql5 := blk_lt hQ5
        rcases h with ⟨hne0, rfl⟩ | ⟨hz, nb, nc, rfl, hV⟩
        · have hCb : (oneE q ms t == 0) = false := by simp [hne0]
          have hCn : (oneE q ms t != 0) = true := by simp [hne0]
          have hF : allF r ns L = (oneE q ms t, 0, []) := by
            have e1 : allF r ns (L.take (k + 1)) = (oneE q ms t, 0, []) := by
              rw [HTK.out, allF_snoc, HX.out]
              unfold allS
              rw [if_neg (by simp), if_neg hne0]
            have e2 : L = L.take (k + 1) ++ L.drop (k + 1) := (List.take_append_drop _ _).symm
            rw [e2, allF_err (by rw [e1]; exact hne0), e1]
          have HF := hide hF
          have HNE := hide hne0
          clear hF hne0
          generalize oneE q ms t = C at *
          have HR6 : Hid (((w5.setCell ⟨QB, 0, none⟩ (.int .i64 0)).setCell ⟨QB, 1, none⟩ (.slice none 0 0)).heap[w.heap.size + 1]? = some (.cells #[.int .i64 0, .slice none 0 0] 24 (0, 0))) := (cells_setP hneR _ _).trans ((cells_setP hneR _ _).trans hR5)
          have HBw6 := hide (below_set2 (v0 := .int .i64 0) (v1 := .slice none 0 0) HBw5.out (B := QB) (by omega))
          clear hQ5 hR5
          go_upto_region 9 with fail
          clear q0 q1 f0 f1 ql5
          generalize ((w5.setCell ⟨QB, 0, none⟩ (.int .i64 0)).setCell ⟨QB, 1, none⟩ (.slice none 0 0)) = U2 at HR6 HBw6 ⊢
          have hR := HR6.out
          have k0 := blk_cell hR 0
          have k1 := blk_cell hR 1
          simp at k0 k1
          have f0 := blk_frozen hR 0
          have f1 := blk_frozen hR 1
          have kl := blk_lt hR
          have hk := blk_set2 (v0 := .int .i64 0) (v1 := .slice none 0 0) hR
          have hBf := below_set2 (v0 := .int .i64 0) (v1 := .slice none 0 0) HBw6.out (B := w.heap.size + 1) (by omega)
          clear hR
          go_wp2_with fail
          clear k0 k1 f0 f1 kl
          generalize ((U2.setCell ⟨w.heap.size + 1, 0, none⟩ (.int .i64 0)).setCell ⟨w.heap.size + 1, 1, none⟩ (.slice none 0 0)) = Wf at hk hBf ⊢
          have k0 := blk_cell hk 0
          have k1 := blk_cell hk 1
          simp at k0 k1
          refine bodyPost_ret (v := .tuple #[.agg #[.int .i64 0, .slice none 0 0], .int .i64 C]) (by simp [results, Tryz.results10, go_sem, k0, k1]) rfl ⟨Or.inl ?_, hBf⟩
          rw [HF.out]
          exact ⟨HNE.out, rfl⟩
        · have ho := oneE_ok hz
          have hlm := (chk_full ho.next).1.1
          have hnb : nb ≠ QB ∧ w1.heap.size ≤ nb := by
            rcases hV.2 with ⟨q, _⟩ | ⟨g', c, cur, q, a1, a2, _⟩
            · cases q
            · cases q; exact ⟨by omega, by omega⟩
          have hF : allF r ns (L.take (k + 1)) = (0, oneR ms t q, oneN ms t q) := by
            rw [HTK.out, allF_snoc, HX.out]
            unfold allS
            rw [if_neg (by simp), if_pos hz]
          have HF := hide hF
          have HN6 : Hid (NodesAt ((w5.setCell ⟨QB, 0, none⟩ (.int .i64 (oneR ms t q))).setCell ⟨QB, 1, none⟩ (.slice (some ⟨nb, 0, none⟩) (oneN ms t q).length nc)) nb 0 (oneN ms t q)) := ((len_row hV hlm).setM hnb.1).setM hnb.1
          have HK6 : Hid (((w5.setCell ⟨QB, 0, none⟩ (.int .i64 (oneR ms t q))).setCell ⟨QB, 1, none⟩ (.slice (some ⟨nb, 0, none⟩) (oneN ms t q).length nc)).heap[QB]? = some (.cells #[.int .i64 (oneR ms t q), .slice (some ⟨nb, 0, none⟩) (oneN ms t q).length nc] 24 (0, 0))) := blk_set2 hQ5
          have HB6 := hide (below_set2 (v0 := .int .i64 (oneR ms t q)) (v1 := .slice (some ⟨nb, 0, none⟩) (oneN ms t q).length nc) HB5.out (B := QB) (by omega))
          have HNB := hide hnb
          clear hF hz ho hlm hV hQ5 hR5 hnb
          generalize oneN ms t q = ms' at *
          generalize oneR ms t q = q' at *
          go_upto_region 9 with fail
          clear q0 q1 f0 f1 ql5
          generalize ((w5.setCell ⟨QB, 0, none⟩ (.int .i64 q')).setCell ⟨QB, 1, none⟩ (.slice (some ⟨nb, 0, none⟩) ms'.length nc)) = U2 at HN6 HK6 HB6 ⊢
          go_wp2_with fail
          go_roundw
          case rel => exact ⟨k + 1, nb, nc, by omega, by go_num, by rw [HF.out], by rw [HF.out]; exact HK6.out, by rw [HF.out]; exact HN6.out, HNB.out.1, HNB.out.2, HB6.out⟩
          case measure => simp [intOf]; omega
      · have ek : L.take k = L := List.take_of_length_le (by omega)
        rw [ek] at HX
        have hki : ¬ (k : Int) < (L.length : Int) := by omega
        have q0 := blk_cell hK 0
        have q1 := blk_cell hK 1
        simp at q0 q1
        have ql := blk_lt hK
        have hR := HR.out
        have k0 := blk_cell hR 0
        have k1 := blk_cell hR 1
        simp at k0 k1
        have f0 := blk_frozen hR 0
        have f1 := blk_frozen hR 1
        have kl := blk_lt hR
        have hk2 := blk_set2 (v0 := .int .i64 q) (v1 := .slice (some ⟨gb, 0, none⟩) ms.length gc) hR
        have hBf := below_set2 (v0 := .int .i64 q) (v1 := .slice (some ⟨gb, 0, none⟩) ms.length gc) HBw.out (B := w.heap.size + 1) (by omega)
        have hgR : gb ≠ w.heap.size + 1 := by omega
        have HNf : Hid (NodesAt ((wr.setCell ⟨w.heap.size + 1, 0, none⟩ (.int .i64 q)).setCell ⟨w.heap.size + 1, 1, none⟩ (.slice (some ⟨gb, 0, none⟩) ms.length gc)) gb 0 ms) := (hN.setM hgR).setM hgR
        clear hR hK hN hb
        go_wp2_with fail
        clear q0 q1 ql k0 k1 f0 f1 kl
        generalize ((wr.setCell ⟨w.heap.size + 1, 0, none⟩ (.int .i64 q)).setCell ⟨w.heap.size + 1, 1, none⟩ (.slice (some ⟨gb, 0, none⟩) ms.length gc)) = Wf at hk2 hBf HNf ⊢
        have k0 := blk_cell hk2 0
        have k1 := blk_cell hk2 1
        simp at k0 k1
        refine bodyPost_ret (v := .tuple #[.agg #[.int .i64 q, .slice (some ⟨gb, 0, none⟩) ms.length gc], .int .i64 0]) (by simp [results, Tryz.results10, go_sem, k0, k1]) rfl ⟨Or.inr ?_, hBf⟩
        rw [HX.out]
        first | exact ⟨rfl, gb, gc, rfl, HNf.out, by omega⟩ | exact ⟨rfl, gb, ⟨gc, rfl⟩, HNf.out, by omega⟩

end Go.Proofs.YtoikglgnmjjpcabGreat

namespace Go.Proofs.YtoikglgnmjjpcabGreat
open Go.RowKit Go.Shelf
set_option linter.unusedVariables false

structure OkDo (r : Int) (ns : List Nd) (q : Int) (ms : List Nd) : Prop where
  c0 : chk r ns = 0
  c1 : chk q ms = 0
  sims : Sims ns r.toNat ms q.toNat

def Made (r : Int) (ns : List Nd) (w : World) (e : Ending) (w' : World) : Prop :=
  ∃ g q ms c er, e = .returned (.tuple #[.agg #[.int .i64 q, .slice g (List.length ms) c], .int .i64 er]) ∧ SlN w' g ms ∧ (er = 0 → OkDo r ns q ms) ∧ Below w.heap.size w w'

theorem slN_nil (w : World) (g : Option Addr) : SlN w g [] := Or.inl rfl

theorem oneD_any (r : Int) (a : Option Addr) (cap : Nat) (ns : List Nd) (t : Tm) (w : World) (hN : SlN w a ns) :
    Calls Tryz.prog 9 #[.agg #[.int .i64 r, .slice a ns.length cap], .agg #[.int .i64 t.op, .int .i64 t.a, .int .i64 t.b]] w (Made r ns w) := by
  refine (one_any r a cap ns t w hN).mono ?_
  rintro e w' ⟨h, hB⟩
  rcases h with ⟨q, rfl⟩ | ⟨q, gb, gc, rfl, hV⟩
  · exact ⟨none, 0, [], 0, oneE r ns t, rfl, slN_nil _ _, fun z => absurd z q, hB⟩
  · have ho := oneE_ok q
    have hcm := ho.next
    exact ⟨some ⟨gb, 0, none⟩, oneR ns t r, oneN ns t r, gc, 0, rfl, Or.inr ⟨gb, 0, rfl, len_row hV (chk_full hcm).1.1⟩, fun _ => ⟨ho.ck, hcm, ho.sims⟩, hB⟩

theorem allD_any (r : Int) (a : Option Addr) (cap : Nat) (ns : List Nd) (w : World) (hN : SlN w a ns) :
    Calls Tryz.prog 10 #[.agg #[.int .i64 r, .slice a ns.length cap]] w (Made r ns w) := by
  by_cases hc : chk r ns = 0
  · obtain ⟨b, off, rfl, hNb⟩ := hN.some (chk_zero hc).1.1
    refine (all_right r b off cap ns w hNb hc).mono ?_
    rintro e w' ⟨h, hB⟩
    rcases h with ⟨q, rfl⟩ | ⟨q, gb, gc, rfl, hn, _⟩
    · exact ⟨none, 0, [], 0, (allF r ns (tms ns ns.length)).1, rfl, slN_nil _ _, fun z => absurd z q, hB⟩
    · have hA := allF_all hc q
      exact ⟨some ⟨gb, 0, none⟩, _, _, gc, 0, rfl, Or.inr ⟨gb, 0, rfl, hn⟩, fun _ => ⟨hc, hA.ck, hA.sims⟩, hB⟩
  · refine (all_wrong r a cap ns w hN hc).mono ?_
    rintro e w' ⟨rfl, hB⟩
    exact ⟨none, 0, [], 0, chk r ns, rfl, slN_nil _ _, fun z => absurd z hc, hB⟩

theorem busyPut_eq (ns : List Nd) (t : Tm) : busyPut ns t = earlyL ns t := by
  refine bat_ext (by simp [busyPut, earlyL]) fun n hn => ?_
  have hn' : n < ns.length := by simpa [busyPut] using hn
  unfold busyPut
  rw [bat_map _ hn']
theorem busyTake_eq (ns : List Nd) (t : Tm) : busyTake ns t = rcl ns t := by
  refine bat_ext (by simp [busyTake, rcl]) fun n hn => ?_
  have hn' : n < ns.length := by simpa [busyTake] using hn
  unfold busyTake
  rw [bat_map _ hn']

def PlOk (r : Int) (ns : List Nd) (t : Tm) (put tak : List Bool) : Prop :=
  tchk r ns t ≠ 0 ∨ put.length ≠ ns.length ∨ (put.length = ns.length ∧ tak.length = ns.length ∧ TakeOk ns t tak ∧ ∃ A, Safe ns t (bat put) (bat tak) A)

theorem safe_takeOk {ns : List Nd} {t : Tm} {P T A : Nat → Bool} (h : Safe ns t P T A) : ∀ n, n < ns.length → T n = true → rcB t (nd ns n) = true := fun n hn q => (h.take n hn q).2

def Placed (r : Int) (ns : List Nd) (t : Tm) (w : World) (e : Ending) (w' : World) : Prop :=
  ∃ a1 c1 a2 c2 put tak er, e = .returned (.tuple #[.agg #[.slice a1 (List.length put) c1, .slice a2 (List.length tak) c2], .int .i64 er]) ∧ BoolsAt w' a1 put ∧ BoolsAt w' a2 tak ∧ PlOk r ns t put tak ∧ Below w.heap.size w w'

theorem tchk_chk {r : Int} {ns : List Nd} {t : Tm} (h : tchk r ns t = 0) : chk r ns = 0 := (tchk_zero h).1
theorem tchk_ok {r : Int} {ns : List Nd} {t : Tm} (h : tchk r ns t = 0) : TmOk r t := tmE_ok (by rw [← tchk_tmE (tchk_chk h)]; exact h)

theorem busyD_any (r : Int) (a : Option Addr) (cap : Nat) (ns : List Nd) (t : Tm) (w : World) (hN : SlN w a ns) :
    Calls Tryz.prog 20 #[.agg #[.int .i64 r, .slice a ns.length cap], .agg #[.int .i64 t.op, .int .i64 t.a, .int .i64 t.b]] w (Placed r ns t w) := by
  by_cases hc : tchk r ns t = 0
  · obtain ⟨b, off, rfl, hNb⟩ := hN.some (chk_zero (tchk_chk hc)).1.1
    refine (busy_right r b off cap ns t w hNb hc).mono ?_
    rintro e w' ⟨a1, c1, a2, c2, rfl, h1, h2, hB⟩
    have e1 : (busyPut ns t).length = ns.length := by simp [busyPut]
    have e2 : (busyTake ns t).length = ns.length := by simp [busyTake]
    refine ⟨a1, c1, a2, c2, busyPut ns t, busyTake ns t, 0, by rw [e1, e2], bools_owned h1 e1, bools_owned h2 e2, Or.inr (Or.inr ⟨e1, e2, ?_, ?_⟩), hB⟩
    · rw [busyTake_eq]; exact safe_takeOk (busy_safe (tchk_chk hc) t)
    · rw [busyTake_eq, busyPut_eq]; exact ⟨_, busy_safe (tchk_chk hc) t⟩
  · refine (busy_wrong r a cap ns t w hN hc).mono ?_
    rintro e w' ⟨rfl, hB⟩
    exact ⟨none, 0, none, 0, [], [], tchk r ns t, rfl, Or.inl rfl, Or.inl rfl, Or.inl hc, hB⟩

theorem rivalD_any (r : Int) (a : Option Addr) (cap : Nat) (ns : List Nd) (t : Tm) (ua : Option Addr) (uc : Nat) (us : List Bool) (w : World) (hN : SlN w a ns) (hu : BoolsAt w ua us) :
    Calls Tryz.prog 21 #[.agg #[.int .i64 r, .slice a ns.length cap], .agg #[.int .i64 t.op, .int .i64 t.a, .int .i64 t.b], .slice ua us.length uc] w (Placed r ns t w) := by
  by_cases hc : tchk r ns t = 0
  · obtain ⟨b, off, rfl, hNb⟩ := hN.some (chk_zero (tchk_chk hc)).1.1
    by_cases hl : us.length = ns.length
    · refine (rival_right r b off cap ns t ua uc us w hNb hc hu hl).mono ?_
      rintro e w' ⟨a1, c1, a2, c2, rfl, h1, h2, hB⟩
      have e1 : (rivPut ns t us).length = ns.length := by simp [rivPut]
      have e2 : (rivTake ns t us).length = ns.length := by simp [rivTake]
      have hS := rival_safe (tchk_chk hc) t us
      exact ⟨a1, c1, a2, c2, rivPut ns t us, rivTake ns t us, 0, by rw [e1, e2], bools_owned h1 e1, bools_owned h2 e2, Or.inr (Or.inr ⟨e1, e2, safe_takeOk hS, _, hS⟩), hB⟩
    · refine (rival_form r b off cap ns t ua uc us w hNb hc hl).mono ?_
      rintro e w' ⟨rfl, hB⟩
      refine ⟨none, 0, none, 0, [], [], 1, rfl, Or.inl rfl, Or.inl rfl, Or.inr (Or.inl ?_), hB⟩
      have := (chk_zero (tchk_chk hc)).1.1
      simp only [List.length_nil]; omega
  · refine (rival_wrong r a cap ns t ua us.length uc w hN hc).mono ?_
    rintro e w' ⟨rfl, hB⟩
    exact ⟨none, 0, none, 0, [], [], tchk r ns t, rfl, Or.inl rfl, Or.inl rfl, Or.inl hc, hB⟩

theorem applyD_any (r : Int) (a : Option Addr) (cap : Nat) (ns : List Nd) (t : Tm) (pa ta : Option Addr) (pc tc : Nat) (put tak : List Bool) (w : World) (hN : SlN w a ns) (hp : BoolsAt w pa put) (ht : BoolsAt w ta tak) (hO : PlOk r ns t put tak) :
    Calls Tryz.prog 8 #[.agg #[.int .i64 r, .slice a ns.length cap], .agg #[.int .i64 t.op, .int .i64 t.a, .int .i64 t.b], .agg #[.slice pa put.length pc, .slice ta tak.length tc]] w (Made r ns w) := by
  by_cases hc : tchk r ns t = 0
  · have hck := tchk_chk hc
    have hr := (chk_full hck).2.1
    obtain ⟨b, off, rfl, hNb⟩ := hN.some (chk_zero hck).1.1
    rcases hO with q | q | ⟨e1, e2, hT, A, hS⟩
    · exact absurd hc q
    · refine (apply_form r b off cap ns t pa ta pc tc put tak w hNb hc q).mono ?_
      rintro e w' ⟨rfl, hB⟩
      exact ⟨none, 0, [], 0, 1, rfl, slN_nil _ _, fun z => absurd z (by decide), hB⟩
    · rw [e1, e2]
      refine (apply_right r b off cap ns t pa ta pc tc put tak w hNb hc e1 e2 hp ht hT).mono ?_
      rintro e w' ⟨h, hB⟩
      rcases h with ⟨_, rfl⟩ | ⟨q, gb, gc, rfl, hV⟩
      · exact ⟨none, 0, [], 0, 2, rfl, slN_nil _ _, fun z => absurd z (by decide), hB⟩
      · have hcm := ap_chk hck (tchk_ok hc) (put := put) hT q.1 (by omega)
        have er : ((r.toNat : Nat) : Int) = r := by omega
        have h3 := move_sims (r := r.toNat) (ns := ns) (by rw [er]; exact hck) (t := t) (by rw [er]; exact tchk_ok hc) hS
        rw [er] at h3
        refine ⟨some ⟨gb, 0, none⟩, r + 1, _, gc, 0, rfl, Or.inr ⟨gb, 0, rfl, len_row hV (chk_full hcm).1.1⟩, fun _ => ⟨hck, hcm, ?_⟩, hB⟩
        rw [show (r + 1).toNat = r.toNat + 1 by omega]
        exact h3
  · refine (apply_wrong r a cap ns t pa ta put.length pc tak.length tc w hN hc).mono ?_
    rintro e w' ⟨rfl, hB⟩
    exact ⟨none, 0, [], 0, tchk r ns t, rfl, slN_nil _ _, fun z => absurd z hc, hB⟩

theorem doesD_any (r q : Int) (a g : Option Addr) (ca cg : Nat) (ns ms : List Nd) (ia : Option Addr) (ic : Nat) (jn : List Int) (n : Int) (w : World) (h : OkDo r ns q ms) (hN : SlN w a ns) (hM : SlN w g ms) (hI : IntsAt w ia jn) (hic : jn.length ≤ ic) (hil : jn.length ≤ 256) (hn0 : 0 ≤ n) (hn1 : n < 400) :
    Calls Tryz.prog 18 #[.agg #[.int .i64 r, .slice a ns.length ca], .agg #[.int .i64 q, .slice g ms.length cg], .slice ia jn.length ic, .int .i64 n] w fun e w' => e = .returned (.bool true) ∧ Below w.heap.size w w' := by
  have hm := (chk_full h.c1).1.2
  have hK0 : 0 ≤ n * ((ms.length : Int) + 1) := Int.mul_nonneg hn0 (by omega)
  have hK1 : n * ((ms.length : Int) + 1) ≤ 400 * 257 := Int.le_trans (Int.mul_le_mul_of_nonneg_right (by omega) (by omega)) (Int.mul_le_mul_of_nonneg_left (by omega) (by omega))
  have h1 : rerr r ns jn.length n = 0 := rerr_ok h.c0 hil hn0 (by omega)
  have h2 : rerr q ms jn.length n = 0 := rerr_ok h.c1 hil hn0 (by omega)
  have h3 : rerr q ms jn.length (n * ((ms.length : Int) + 1) + ms.length) = 0 := rerr_ok h.c1 hil (by omega) (by omega)
  exact does_any r q a g ca cg ns ms ia ic jn n w hN hM hI hic (by omega) hn0 hn1 hm h1 h2 h3 (doing_of (h.sims.does jn n.toNat) hn0 h1 h2 h3)

end Go.Proofs.YtoikglgnmjjpcabGreat

namespace Go.Proofs.YtoikglgnmjjpcabGreat
open Go.ChangeShapes Go.WideShapes Go.ChangeAt Go.RowKit Go.Joins Go.Deep
set_option linter.unusedVariables false

set_option maxRecDepth 100000 in
theorem boolsM_of {H : Type} {enc : TypeId × Value → H} {W : World} {sp : Nat → Bool} {fuel : Nat} {v : Value} {y : DataW H × List MemPlace}
    (h : DataW.trod enc Tryz.prog W 0 sp true fuel 27 [v] = some y) : ∃ a cap l, v = .slice a (List.length l) cap ∧ BoolsAt W a l ∧ l.length ≤ 9223372036854775807 ∧ l.length ≤ cap := by
  rcases open_slice Tryz.underlying27 h with ⟨hcs, _⟩ | ⟨a, len, cap, m, n, D, Pl, hcs, _, hl, hm, hmm, _, hx⟩
  · simp at hcs
    exact ⟨none, 0, [], by simpa using hcs, Or.inl rfl, by simp, by simp⟩
  · simp at hcs
    subst hcs
    have hlm : len ≤ m := by rw [hmm]; split <;> omega
    obtain ⟨F, hF⟩ := choose_lt (α := Bool) (n := len) (p := fun i x => W.cell? ((a.add (i * 1)).add 0) = some (.bool x)) (fun i hi => by
      obtain ⟨cs', h1, h2⟩ := hx i (by omega)
      rw [cells_bool] at h1
      obtain ⟨_, hl1, hcell⟩ := World.cells?_some h1
      obtain ⟨z, e, _⟩ := DataW.trod_bool Tryz.underlying4 h2
      subst e
      exact ⟨z, hcell 0 (by omega)⟩)
    refine ⟨some a, cap, (List.range len).map F, by simp, ?_, by simp; unfold maxLen at hm; omega, by simp; omega⟩
    by_cases h0 : len = 0
    · subst h0; exact Or.inl rfl
    obtain ⟨b, off, spot⟩ := a
    have hc0 := hF 0 (by omega)
    have hspot : spot = none := by simpa [Addr.add] using World.cell?_spot hc0
    subst hspot
    have hblt : b < W.heap.size := by simpa [Addr.add] using block_lt_of_cell hc0
    refine Or.inr ⟨b, off, rfl, hblt, ?_⟩
    intro i x hi
    rw [List.getElem?_map, Option.map_eq_some_iff] at hi
    obtain ⟨j, hj, rfl⟩ := hi
    have hlt : i < len := by have := (List.getElem?_eq_some_iff.1 hj).1; simpa using this
    rw [List.getElem?_range hlt] at hj
    cases hj
    have := hF i hlt
    simpa only [add_lit', Nat.mul_one, Nat.add_zero] using this

set_option maxRecDepth 100000 in
theorem open_boolsM {H : Type} {enc : TypeId × Value → H} {W : World} {sp : Nat → Bool} {base : Nat} {v : Value} {d : DataW H} {p : List MemPlace}
    (hv : Value.okWide Tryz.prog W .any base 27 v) (h : DataW.Trod enc Tryz.prog W 0 sp true 27 v d p) :
    ∃ a cap l, v = .slice a (List.length l) cap ∧ BoolsAt W a l ∧ l.length ≤ 9223372036854775807 ∧ l.length ≤ cap := by
  obtain ⟨a, len, cap, rfl⟩ := okWide_slice Tryz.underlying27 hv
  obtain ⟨fuel, hf⟩ := h
  exact boolsM_of (v := .slice a len cap) hf

end Go.Proofs.YtoikglgnmjjpcabGreat
