/-
  run.Run on a right program, walked: it answers what the plain machine comes to.
-/
import Derived.Test.YtoikglgnmjjpcaaRR
import Derived.Deep.OwnRows
namespace Go.Proofs.Ytoikglgnmjjpcaa
open Go.RowKit Go.Maps Go.ChangeMaps
set_option linter.unusedVariables false

def fin (r : Int) (ns : List Nd) (inp : List Int) (fuel : Int) : St := runN ns fuel.toNat (st0 r.toNat inp)

/-- A machine that has not begun. -/
structure Start (B : Nat) (r : Int) (ns : List Nd) (inp : List Int) (nb noff cap : Nat) (ia : Option Addr) (ic : Nat) (w wx : World) (v9 : Value) : Prop where
  ma : ∃ mb rb mp, v9 = .pointer (some ⟨mb, 0, none⟩) ∧ MA B (B + 3) mb rb mp nb noff cap r.toNat ns wx (st0 r.toNat inp) (.slice none 0 0) ia ic 0 (.map [])
  below : Below B w wx

/-- Two cells of a block, whatever comes behind it. -/
def PK (b : Nat) (v0 v1 : Value) (u : World) : Prop := u.cell? ⟨b, 0, none⟩ = some v0 ∧ u.cell? ⟨b, 1, none⟩ = some v1 ∧ b < u.heap.size
theorem PK.drew {b : Nat} {v0 v1 : Value} {u : World} (h : PK b v0 v1 u) : PK b v0 v1 u.drew := h
theorem PK.alloc {b : Nat} {v0 v1 : Value} {u : World} (h : PK b v0 v1 u) (o : Obj) : PK b v0 v1 (u.alloc o) := by
  obtain ⟨h0, h1, h2⟩ := h
  refine ⟨?_, ?_, by simp; omega⟩
  · rw [World.cell?_alloc_past _ _ _ (by omega)]; exact h0
  · rw [World.cell?_alloc_past _ _ _ (by omega)]; exact h1

theorem three0 (w : World) (A B C : Obj) : (((w.alloc A).alloc B).alloc C).drew.heap[w.heap.size]? = some A := blk_drew (blk_alloc _ (blk_alloc _ (blk_new rfl)))
theorem three1 (w : World) (A B C : Obj) : (((w.alloc A).alloc B).alloc C).drew.heap[w.heap.size + 1]? = some B := blk_drew (blk_alloc _ (blk_new (by simp)))
theorem three2 (w : World) (A B C : Obj) : (((w.alloc A).alloc B).alloc C).drew.heap[w.heap.size + 1 + 1]? = some C := blk_drew (blk_new (by simp))
theorem three_below (w : World) (A B C : Obj) : Below w.heap.size w (((w.alloc A).alloc B).alloc C).drew := ((((Below.refl _ w).alloc (Nat.le_refl _) _).alloc (by simp) _).alloc (by simp; omega) _).drew

theorem made_row (n : Nat) : madeCells #[Value.int .i64 0] n = ((List.replicate n (0 : Int)).map (Value.int .i64)).toArray := by
  apply Array.ext'
  rw [toList_madeCells_one]
  simp

theorem start_of {w1 wx : World} {B mb rb mp rn nb noff cap ic : Nat} {ns : List Nd} {inp : List Int} {ia : Option Addr} (hB : B ≤ w1.heap.size)
    (hm : wx.heap[mb]? = some (.cells #[.slice none 0 0, .int .i64 0, .bool false, .int .i64 0, .slice none 0 0, .slice (some ⟨nb, noff, none⟩) ns.length cap, .int .i64 0, .slice ia inp.length ic, .slice (some ⟨rb, 0, none⟩) rn rn, .map (some mp)] 105 (0, 0)))
    (hr : wx.heap[rb]? = some (.cells (madeCells #[.int .i64 0] rn) 3 (0, 0))) (hp : wx.heap[mp]? = some (.map #[] 0))
    (hg : w1.heap.size ≤ mb ∧ w1.heap.size ≤ rb ∧ w1.heap.size ≤ mp ∧ mb < w1.heap.size + 3 ∧ rb < w1.heap.size + 3 ∧ mp < w1.heap.size + 3 ∧ mb ≠ rb ∧ mb ≠ mp ∧ rb ≠ mp)
    (hb : Below w1.heap.size w1 wx) (hs : w1.heap.size + 3 ≤ wx.heap.size) (hN : NodesAt w1 nb noff ns) (hI : InAt w1 B ia inp) (hic : inp.length ≤ ic) (hrn : rn ≤ 64) :
    Start w1.heap.size rn ns inp nb noff cap ia ic w1 wx (.pointer (some ⟨mb, 0, none⟩)) := by
  have hI' : InAt wx w1.heap.size ia inp := by
    rcases hI with h | ⟨b, off, rfl, hlt, h⟩
    · exact Or.inl h
    · exact Or.inr ⟨b, off, rfl, by omega, fun j z hz => by rw [hb.cell (p := ⟨b, _, none⟩) (by simp; omega)]; exact h j z hz⟩
  have ho : wx.ownsMap Try.prog 36 (plainElem (H := Unit) Try.prog 3) mp 0 (.map []) := by
    obtain ⟨es, clock, hb', F, hs', hD⟩ := World.ownsMap_made w1 Try.prog 36 (plainElem (H := Unit) Try.prog 3)
    rw [blk_new rfl] at hb'
    cases hb'
    exact ⟨#[], 0, hp, F, hs', hD⟩
  refine ⟨⟨mb, rb, mp, rfl, ?_⟩, hb⟩
  exact {
    hm := by simpa [st0] using hm
    hr := by rw [hr, made_row]; simp [st0]
    ho := ho
    hout := World.ownsRow_nil _ _ _ _
    hin := hI'
    hic := hic
    hN := hN.below hb hN.lt
    hnb := hN.lt
    geo := hg
    hs := hs
    hn := Nat.zero_le _
    hst := by simp [st0]
    hol := by simp [st0]
    hrl := by simp [st0]; exact hrn
    rel := ⟨⟨_, rfl⟩, fun t ht z => by simp [st0, ctOf]; rfl⟩
    srt := List.Pairwise.nil
    cb := by simp [st0] }

theorem owns_val {w : World} {base : Nat} {e : TypeId} {size : Nat} {v : Value} {n : Nat} {xs : List Value} (h : w.ownsRow base e size v n xs) : ∃ a c, v = .slice a n c := by
  rcases h.2 with ⟨q, rfl⟩ | ⟨g, cap, cur, q, _⟩
  · exact ⟨_, _, q⟩
  · exact ⟨_, _, q⟩

set_option maxHeartbeats 1000000 in
theorem run_ok (r : Int) (nb noff cap : Nat) (ns : List Nd) (ia : Option Addr) (ic : Nat) (inp : List Int) (fuel : Int) (w : World) (hN : NodesAt w nb noff ns) (hI : InAt w w.heap.size ia inp) (hic : inp.length ≤ ic) (hw : rerr r ns inp.length fuel = 0) :
    Calls Try.prog 22 #[.agg #[.int .i64 r, .slice (some ⟨nb, noff, none⟩) ns.length cap], .slice ia inp.length ic, .int .i64 fuel] w fun e w' => ∃ vo vc, e = .returned (.tuple #[.agg #[vo, .int .i64 (fin r ns inp fuel).ret, .bool (fin r ns inp fuel).ended, .int .i64 (fin r ns inp fuel).steps, vc], .int .i64 0]) ∧
      w'.ownsRow w.heap.size 3 1 vo (fin r ns inp fuel).out.length ((fin r ns inp fuel).out.map (Value.int .i64)) ∧ w'.ownsRow w.heap.size 111 4 vc (fin r ns inp fuel).cts.length ((fin r ns inp fuel).cts.flatMap encCt) ∧ Below w.heap.size w w' := by
  have hc : chk r ns = 0 := by
    by_cases hc : chk r ns = 0
    · exact hc
    · rw [rerr, if_neg hc] at hw; exact hw
  have hi : ¬ 256 < inp.length := by
    intro q; rw [rerr, if_pos hc, if_pos q] at hw; omega
  have hf : ¬ (fuel < 0 ∨ 131072 < fuel) := by
    intro q; rw [rerr, if_pos hc, if_neg hi, if_pos q] at hw; omega
  have hf0 : ¬ fuel < 0 := fun q => hf (Or.inl q)
  have hf1 : ¬ 131072 < fuel := fun q => hf (Or.inr q)
  have hi' : ¬ (256 : Int) < (inp.length : Int) := by omega
  have CZ := hide (chk_zero hc)
  have hr1 : 1 ≤ r ∧ r ≤ 64 := CZ.out.2.1
  have hl1 : 1 ≤ ns.length ∧ ns.length ≤ 256 := CZ.out.1
  have OK := hide (fun x hx => node_ok hc (x := x) hx)
  clear hf
  go_enter Try.func22, Try.ntmps22
  go_wp2_with fail
  have hb0 : Below w.heap.size w ((w.alloc (.cells #[.int .i64 r, .slice (some ⟨nb, noff, none⟩) ns.length cap] 24)).alloc (.cells #[.slice none 0 0, .int .i64 0, .bool false, .int .i64 0, .slice none 0 0] 42)) := ((Below.refl _ w).alloc (Nat.le_refl _) _).alloc (by simp) _
  refine (check_any r _ cap ns _ (Or.inr ⟨nb, noff, rfl, hN.below hb0 hN.lt⟩)).mono ?_
  rintro e w1 ⟨rfl, hb1⟩
  have hs1 := hb1.size
  simp only [World.size_alloc] at hs1 hb1
  have hB1 : Below w.heap.size w w1 := hb0.trans (hb1.mono (by omega))
  have hp : w1.heap[w.heap.size]? = some (.cells #[.int .i64 r, .slice (some ⟨nb, noff, none⟩) ns.length cap] 24 (0, 0)) := by
    rw [hb1.block _ (by omega)]
    exact blk_alloc _ (blk_new rfl)
  have hk : w1.heap[w.heap.size + 1]? = some (.cells #[.slice none 0 0, .int .i64 0, .bool false, .int .i64 0, .slice none 0 0] 42 (0, 0)) := by
    rw [hb1.block _ (by omega)]
    exact blk_new (by simp)
  have c0 := blk_cell hp 0
  have c1 := blk_cell hp 1
  simp at c0 c1
  have hsz : w.heap.size + 1 < w1.heap.size := by omega
  have HK := hide hk
  have HB := hide hB1
  have HN := hide (hN.below hB1 hN.lt)
  have HI := hide (hI.below hB1)
  clear hk hb1 hb0 hB1 hN hI hp
  rw [hc]
  clear hc
  obtain ⟨rn, hrn⟩ := Int.eq_ofNat_of_zero_le (show 0 ≤ r by omega)
  have hr64 : rn ≤ 64 := by omega
  have hrp : 1 ≤ rn := by omega
  subst hrn
  go_wp2
  go_cut [9] from 27 to 34 (fun v9 wx => Start w1.heap.size rn ns inp nb noff cap ia ic w1 wx v9)
  case first =>
    have hmk : ∀ W : World, Sem.run Try.prog (Instr.makeMap 103 none) W = .ok (.map (some W.heap.size)) (W.alloc (.map #[] 0)) := fun W => rfl
    have hms : ∀ W : World, Sem.run Try.prog (Instr.makeSlice 25 (.int .i64 (rn : Int)) (.int .i64 (rn : Int))) W = .ok (.slice (some ⟨W.heap.size, 0, none⟩) rn rn) (W.alloc (.cells (madeCells #[.int .i64 0] rn) 3)) := fun W => run_make_row' 25 3 _ 8 Try.underlying25 info_int rfl .i64 .i64 rn (by omega) (by omega) W
    have PK1 := hide (show PK w.heap.size (.int .i64 (rn : Int)) (.slice (some ⟨nb, noff, none⟩) ns.length cap) w1 from ⟨c0, c1, by omega⟩)
    go_region_held3 (fun u => u.cell? ⟨w.heap.size, 0, none⟩ = some (.int .i64 (rn : Int)) ∧ u.cell? ⟨w.heap.size, 1, none⟩ = some (.slice (some ⟨nb, noff, none⟩) ns.length cap) ∧ w.heap.size < u.heap.size) (first | exact PK1.out | exact PK1.out.drew | exact (PK1.out.drew.alloc _) | exact ((PK1.out.drew.alloc _).alloc _) | exact (((PK1.out.drew.alloc _).alloc _).alloc _) | exact (PK1.out.alloc _).drew | exact ((PK1.out.alloc _).alloc _).drew | exact (((PK1.out.alloc _).alloc _).alloc _).drew) (fail)
    all_goals (go_wp2; go_meet)
    all_goals first
      | exact start_of (by omega) (three2 _ _ _ _) (three0 _ _ _ _) (three1 _ _ _ _) (by omega) (three_below _ _ _ _) (by simp) HN.out HI.out hic hr64
      | exact start_of (by omega) (three1 _ _ _ _) (three0 _ _ _ _) (three2 _ _ _ _) (by omega) (three_below _ _ _ _) (by simp) HN.out HI.out hic hr64
      | exact start_of (by omega) (three2 _ _ _ _) (three1 _ _ _ _) (three0 _ _ _ _) (by omega) (three_below _ _ _ _) (by simp) HN.out HI.out hic hr64
      | exact start_of (by omega) (three1 _ _ _ _) (three2 _ _ _ _) (three0 _ _ _ _) (by omega) (three_below _ _ _ _) (by simp) HN.out HI.out hic hr64
      | exact start_of (by omega) (three0 _ _ _ _) (three1 _ _ _ _) (three2 _ _ _ _) (by omega) (three_below _ _ _ _) (by simp) HN.out HI.out hic hr64
      | exact start_of (by omega) (three0 _ _ _ _) (three2 _ _ _ _) (three1 _ _ _ _) (by omega) (three_below _ _ _ _) (by simp) HN.out HI.out hic hr64
  case rest =>
    obtain ⟨⟨mb, rb, mp, rfl, M⟩, hBx⟩ := hcut
    have hkc : wc.heap[w.heap.size + 1]? = some (.cells #[.slice none 0 0, .int .i64 0, .bool false, .int .i64 0, .slice none 0 0] 42 (0, 0)) := by rw [hBx.block _ (by omega)]; exact HK.out
    have HKc := hide hkc
    have HBx := hide hBx
    have HM := hide M
    clear hkc M hBx c0 c1
    go_wp2
    go_loopw [] (fun wr => ∃ k v ia' ic' n D, MA w1.heap.size (w1.heap.size + 3) mb rb mp nb noff cap rn ns wr (runN ns k (st0 rn inp)) v ia' ic' n D ∧ (runN ns k (st0 rn inp)).steps = k ∧ k ≤ fuel.toNat ∧ Below w1.heap.size w1 wr) (fun wr => fuel.toNat - (intOf ((wr.cell? ⟨mb, 3, none⟩).getD undef)).toNat)
    case atStart => exact ⟨0, _, _, _, _, _, HM.out, rfl, Nat.zero_le _, HBx.out⟩
    case round =>
      obtain ⟨k, v, ia', ic', n, D, M, hst, hk, hB⟩ := hrel
      have hpc := runN_pc OK.out k (st0 rn inp) (by simp [st0]; omega)
      have hrg : (rn : Int) = (runN ns k (st0 rn inp)).regs.length := by rw [runN_regs]; simp [st0]
      have HW := hide (runN_twf (r := rn) (by omega) OK.out k (st0 rn inp) (by simp [st0]))
      have HS := hide (fun x hx he => runN_succ OK.out k (st0 rn inp) (by simp [st0]; omega) he (x := x) hx)
      have HF := hide (fun he => runN_stop OK.out k fuel.toNat hk (st0 rn inp) (by simp [st0]; omega) he)
      have HFin := hide (show fin rn ns inp fuel = runN ns fuel.toNat (st0 rn inp) by simp [fin])
      generalize hσ : runN ns k (st0 rn inp) = σ at M hst hpc hrg HW HS HF
      have HRG := hide hrg
      clear hrg
      have Hσ := hide hσ
      clear hσ
      have m2 := blk_cell M.hm 2
      have m3 := blk_cell M.hm 3
      have m9 := blk_cell M.hm 9
      simp at m2 m3 m9
      have HM1 := hide M
      have HB1 := hide hB
      have hBs := hB.size
      have hme := m3
      clear M hB
      cases he : σ.ended
      · rw [he] at m2
        by_cases hlt : (σ.steps : Int) < fuel
        · go_wp2_with fail
          obtain ⟨x, hx⟩ := get_lt hpc
          refine (step_any HM1.out hx hl1.2 (by omega) (OK.out x (List.mem_of_getElem? hx)) HRG.out).mono ?_
          rintro e w2 ⟨rfl, v', ia2, ic2, n2, D2, M2, hb2⟩
          have HS2 := hide (HS.out x hx he)
          have HM2 := hide M2
          have HB2 := hide (HB1.out.trans hb2)
          clear M2 hb2 m2 m3 m9 hx
          go_wp2
          go_roundw
          case rel => exact ⟨k + 1, v', ia2, ic2, n2, D2, by rw [HS2.out]; exact HM2.out, by rw [HS2.out, stp_steps, hst], by omega, HB2.out⟩
          case measure =>
            have q := blk_cell HM2.out.hm 3
            simp at q
            rw [q, hme]
            simp [intOf, stp_steps]
            omega
        · have hlt' : fuel ≤ (σ.steps : Int) := by omega
          go_wp2_with fail
          have hfin : fin rn ns inp fuel = σ := by
            rw [HFin.out]
            rw [show fuel.toNat = k by omega]; exact Hσ.out
          have HZ := hide hfin
          clear hfin
          refine (counts_any sorts_ct mp n D σ.cts wr HM1.out.ho HM1.out.rel HM1.out.srt HW.out (by have := HM1.out.hn; have := HM1.out.hst; omega)).mono ?_
          rintro e w3 ⟨vc, rfl, hoc, hb3⟩
          obtain ⟨av, cv, rfl⟩ := owns_val hoc
          have hs3 := hb3.size
          have hmlt := blk_lt HM1.out.hm
          have hm3 : w3.heap[mb]? = _ := (hb3.block mb hmlt).trans HM1.out.hm
          have hk3 : w3.heap[w.heap.size + 1]? = some (.cells #[.slice none 0 0, .int .i64 0, .bool false, .int .i64 0, .slice none 0 0] 42 (0, 0)) := by
            rw [hb3.block _ (by omega), HB1.out.block _ (by omega)]; exact HK.out
          have ho3 := ownsRow_below HM1.out.hout hb3 (by omega)
          have HFX := hide (And.intro hm3 (And.intro hk3 (And.intro ho3 (And.intro hoc hb3))))
          have d4 := blk_cell hm3 4
          have g4 := blk_frozen hm3 4
          simp at d4
          clear hm3 hk3 ho3 hoc hb3 m2 m3 m9 hme
          go_upto_region 12 with fail
          have hm4 := blk_set (i := 4) (.slice av σ.cts.length cv) HFX.out.1
          have hne : w.heap.size + 1 ≠ mb := by have := HM1.out.geo; omega
          have hk4 := blk_set_ne (i := 4) (.slice av σ.cts.length cv) HFX.out.2.1 hne
          have ho4 := (ownsRow_below (B := w3.heap.size) HFX.out.2.2.1 (Below.refl _ _) (Nat.le_refl _))
          have K4 : Keeps [mb] w3 (w3.setCell ⟨mb, 4, none⟩ (.slice av σ.cts.length cv)) := (Keeps.refl [mb] w3).setCell (p := ⟨mb, 4, none⟩) (by simp) _
          have ho5 := K4.owns HFX.out.2.2.1 (by have := HM1.out.geo; simp; omega)
          have ho6 := K4.owns HFX.out.2.2.2.1 (by simp; omega)
          have hB4 : Below w.heap.size w (w3.setCell ⟨mb, 4, none⟩ (.slice av σ.cts.length cv)) := HB.out.trans ((HB1.out.mono (by omega)).trans ((HFX.out.2.2.2.2.mono (by omega)).trans (K4.below (by have := HM1.out.geo; simp; omega) (by omega))))
          simp at hm4
          have d0 := blk_cell hm4 0
          have d1 := blk_cell hm4 1
          have d2 := blk_cell hm4 2
          have d3 := blk_cell hm4 3
          have d4' := blk_cell hm4 4
          have e0 := blk_cell hk4 0
          have e1 := blk_cell hk4 1
          have e2 := blk_cell hk4 2
          have e3 := blk_cell hk4 3
          have e4 := blk_cell hk4 4
          have f0 := blk_frozen hk4 0
          have f1 := blk_frozen hk4 1
          have f2 := blk_frozen hk4 2
          have f3 := blk_frozen hk4 3
          have f4 := blk_frozen hk4 4
          simp only [List.getElem?_toArray, List.getElem?_cons_zero, List.getElem?_cons_succ] at d0 d1 d2 d3 d4' e0 e1 e2 e3 e4
          have HY := hide (And.intro hk4 (And.intro ho5 (And.intro ho6 hB4)))
          clear hm4 hk4 ho4 K4 ho5 ho6 hB4 d4 g4
          generalize w3.setCell ⟨mb, 4, none⟩ (.slice av σ.cts.length cv) = W4 at *
          obtain ⟨ao, co, hvo⟩ := owns_val HY.out.2.1
          subst hvo
          go_wp2
          refine ret_cell (fill5_blk HY.out.1 _ _ _ _ _) rfl rfl ?_
          rw [HZ.out]
          have KF := fill5_keeps W4 (w.heap.size + 1) (.slice ao σ.out.length co) (.int .i64 σ.ret) (.bool false) (.int .i64 (k : Int)) (.slice av σ.cts.length cv)
          exact ⟨_, _, by rw [he, hst], ownsRow_base (KF.owns HY.out.2.1 (by simp; omega)) (by omega), ownsRow_base (KF.owns HY.out.2.2.1 (by simp; omega)) (by omega), HY.out.2.2.2.trans (KF.below (by simp) HY.out.2.2.2.size)⟩
      · rw [he] at m2
        go_wp2_with fail
        have hfin : fin rn ns inp fuel = σ := by
          rw [HFin.out]
          rw [HF.out he]
        have HZ := hide hfin
        clear hfin
        refine (counts_any sorts_ct mp n D σ.cts wr HM1.out.ho HM1.out.rel HM1.out.srt HW.out (by have := HM1.out.hn; have := HM1.out.hst; omega)).mono ?_
        rintro e w3 ⟨vc, rfl, hoc, hb3⟩
        obtain ⟨av, cv, rfl⟩ := owns_val hoc
        have hs3 := hb3.size
        have hmlt := blk_lt HM1.out.hm
        have hm3 : w3.heap[mb]? = _ := (hb3.block mb hmlt).trans HM1.out.hm
        have hk3 : w3.heap[w.heap.size + 1]? = some (.cells #[.slice none 0 0, .int .i64 0, .bool false, .int .i64 0, .slice none 0 0] 42 (0, 0)) := by
          rw [hb3.block _ (by omega), HB1.out.block _ (by omega)]; exact HK.out
        have ho3 := ownsRow_below HM1.out.hout hb3 (by omega)
        have HFX := hide (And.intro hm3 (And.intro hk3 (And.intro ho3 (And.intro hoc hb3))))
        have d4 := blk_cell hm3 4
        have g4 := blk_frozen hm3 4
        simp at d4
        clear hm3 hk3 ho3 hoc hb3 m2 m3 m9 hme
        go_upto_region 12 with fail
        have hm4 := blk_set (i := 4) (.slice av σ.cts.length cv) HFX.out.1
        have hne : w.heap.size + 1 ≠ mb := by have := HM1.out.geo; omega
        have hk4 := blk_set_ne (i := 4) (.slice av σ.cts.length cv) HFX.out.2.1 hne
        have ho4 := (ownsRow_below (B := w3.heap.size) HFX.out.2.2.1 (Below.refl _ _) (Nat.le_refl _))
        have K4 : Keeps [mb] w3 (w3.setCell ⟨mb, 4, none⟩ (.slice av σ.cts.length cv)) := (Keeps.refl [mb] w3).setCell (p := ⟨mb, 4, none⟩) (by simp) _
        have ho5 := K4.owns HFX.out.2.2.1 (by have := HM1.out.geo; simp; omega)
        have ho6 := K4.owns HFX.out.2.2.2.1 (by simp; omega)
        have hB4 : Below w.heap.size w (w3.setCell ⟨mb, 4, none⟩ (.slice av σ.cts.length cv)) := HB.out.trans ((HB1.out.mono (by omega)).trans ((HFX.out.2.2.2.2.mono (by omega)).trans (K4.below (by have := HM1.out.geo; simp; omega) (by omega))))
        simp at hm4
        have d0 := blk_cell hm4 0
        have d1 := blk_cell hm4 1
        have d2 := blk_cell hm4 2
        have d3 := blk_cell hm4 3
        have d4' := blk_cell hm4 4
        have e0 := blk_cell hk4 0
        have e1 := blk_cell hk4 1
        have e2 := blk_cell hk4 2
        have e3 := blk_cell hk4 3
        have e4 := blk_cell hk4 4
        have f0 := blk_frozen hk4 0
        have f1 := blk_frozen hk4 1
        have f2 := blk_frozen hk4 2
        have f3 := blk_frozen hk4 3
        have f4 := blk_frozen hk4 4
        simp only [List.getElem?_toArray, List.getElem?_cons_zero, List.getElem?_cons_succ] at d0 d1 d2 d3 d4' e0 e1 e2 e3 e4
        have HY := hide (And.intro hk4 (And.intro ho5 (And.intro ho6 hB4)))
        clear hm4 hk4 ho4 K4 ho5 ho6 hB4 d4 g4
        generalize w3.setCell ⟨mb, 4, none⟩ (.slice av σ.cts.length cv) = W4 at *
        obtain ⟨ao, co, hvo⟩ := owns_val HY.out.2.1
        subst hvo
        go_wp2
        refine ret_cell (fill5_blk HY.out.1 _ _ _ _ _) rfl rfl ?_
        rw [HZ.out]
        have KF := fill5_keeps W4 (w.heap.size + 1) (.slice ao σ.out.length co) (.int .i64 σ.ret) (.bool true) (.int .i64 (k : Int)) (.slice av σ.cts.length cv)
        exact ⟨_, _, by rw [he, hst], ownsRow_base (KF.owns HY.out.2.1 (by simp; omega)) (by omega), ownsRow_base (KF.owns HY.out.2.2.1 (by simp; omega)) (by omega), HY.out.2.2.2.trans (KF.below (by simp) HY.out.2.2.2.size)⟩
end Go.Proofs.Ytoikglgnmjjpcaa
