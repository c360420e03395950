/-
  hoistwayref.RunOf, walked: it answers what the plain machine comes to.
-/
import Derived.Test.YtoikglgnmjjpcaaSC
import Derived.Deep.OwnRows
namespace Go.Proofs.Ytoikglgnmjjpcaa
open Go.RowKit
set_option linter.unusedVariables false

set_option maxHeartbeats 1000000 in
theorem ret_cell1 {b : Nat} {v0 v1 v2 v3 v4 : Value} {w : World} {tm : Array Value} {Q : Ending → World → Prop} (h : w.heap[b]? = some (.cells #[v0, v1, v2, v3, v4] 42 (0, 0))) (h6 : tm[6]? = some (.pointer (some ⟨b, 0, none⟩)))
    (hq : Q (.returned (.agg #[v0, v1, v2, v3, v4])) w) : bodyPost Try.prog Try.f24 Q .ret ⟨tm, []⟩ w := by
  have c0 := blk_cell h 0
  have c1 := blk_cell h 1
  have c2 := blk_cell h 2
  have c3 := blk_cell h 3
  have c4 := blk_cell h 4
  simp at c0 c1 c2 c3 c4
  refine bodyPost_ret (v := .agg #[v0, v1, v2, v3, v4]) ?_ rfl hq
  simp [results, Try.results24, go_sem, c0, c1, c2, c3, c4, h6]

set_option maxHeartbeats 4000000 in
set_option maxRecDepth 100000 in
theorem runOf_any (r : Int) (nb noff cap : Nat) (ns : List Nd) (ia : Option Addr) (ic : Nat) (inp : List Int) (fuel : Int) (w : World) (hN : NodesAt w nb noff ns) (hI : IntsAt w ia inp) (hw : rerr r ns inp.length fuel = 0) :
    Calls Try.prog 24 #[.agg #[.int .i64 r, .slice (some ⟨nb, noff, none⟩) ns.length cap], .slice ia inp.length ic, .int .i64 fuel] w fun e w' => ∃ vo vc, e = .returned (.agg #[vo, .int .i64 (fin r ns inp fuel).ret, .bool (fin r ns inp fuel).ended, .int .i64 (fin r ns inp fuel).steps, vc]) ∧
      w'.ownsRow w.heap.size 3 1 vo (fin r ns inp fuel).out.length ((fin r ns inp fuel).out.map (Value.int .i64)) ∧ w'.ownsRow w.heap.size 111 4 vc (fin r ns inp fuel).cts.length ((fin r ns inp fuel).cts.flatMap encCt) ∧ Below w.heap.size w w' := by
  have hz := rerr_zero hw
  have hcz := chk_zero hz.1
  have hr1 : 1 ≤ r ∧ r ≤ 64 := hcz.2.1
  have hl1 : 1 ≤ ns.length ∧ ns.length ≤ 256 := hcz.1
  have OK := hide (fun x hx => node_ok hz.1 (x := x) hx)
  have hf0 : 0 ≤ fuel := hz.2.2.1
  have hf1 : fuel ≤ 131072 := hz.2.2.2
  have hi1 : inp.length ≤ 256 := hz.2.1
  clear hz hcz hw
  obtain ⟨rn, hrn⟩ := Int.eq_ofNat_of_zero_le (show 0 ≤ r by omega)
  have hr64 : rn ≤ 64 := by omega
  have hrp : 1 ≤ rn := by omega
  subst hrn
  have hms : ∀ W : World, Sem.run Try.prog (Instr.makeSlice 25 (.int .i64 (rn : Int)) (.int .i64 (rn : Int))) W = .ok (.slice (some ⟨W.heap.size, 0, none⟩) rn rn) (W.alloc (.cells (madeCells #[.int .i64 0] rn) 3)) := fun W => run_make_row' 25 3 _ 8 Try.underlying25 info_int rfl .i64 .i64 rn (by omega) (by omega) W
  go_enter Try.func24, Try.ntmps24
  go_wp2
  have hb0 : Below w.heap.size w ((((w.alloc (.cells #[.int .i64 (rn : Int), .slice (some ⟨nb, noff, none⟩) ns.length cap] 24)).alloc (.cells #[.slice none 0 0, .int .i64 0, .bool false, .int .i64 0, .slice none 0 0] 42)).alloc (.cells (madeCells #[.int .i64 0] rn) 3)).alloc (.cells #[.slice none 0 0, .int .i64 0, .bool false, .int .i64 0, .slice none 0 0] 42)) := ((((Below.refl _ w).alloc (Nat.le_refl _) _).alloc (by simp) _).alloc (by simp; omega) _).alloc (by simp; omega) _
  have hs0 : ((((w.alloc (.cells #[.int .i64 (rn : Int), .slice (some ⟨nb, noff, none⟩) ns.length cap] 24)).alloc (.cells #[.slice none 0 0, .int .i64 0, .bool false, .int .i64 0, .slice none 0 0] 42)).alloc (.cells (madeCells #[.int .i64 0] rn) 3)).alloc (.cells #[.slice none 0 0, .int .i64 0, .bool false, .int .i64 0, .slice none 0 0] 42)).heap.size = w.heap.size + 4 := by simp
  have p0 : ((((w.alloc (.cells #[.int .i64 (rn : Int), .slice (some ⟨nb, noff, none⟩) ns.length cap] 24)).alloc (.cells #[.slice none 0 0, .int .i64 0, .bool false, .int .i64 0, .slice none 0 0] 42)).alloc (.cells (madeCells #[.int .i64 0] rn) 3)).alloc (.cells #[.slice none 0 0, .int .i64 0, .bool false, .int .i64 0, .slice none 0 0] 42)).heap[w.heap.size]? = some (.cells #[.int .i64 (rn : Int), .slice (some ⟨nb, noff, none⟩) ns.length cap] 24 (0, 0)) := blk_alloc _ (blk_alloc _ (blk_alloc _ (blk_new rfl)))
  have p1 : ((((w.alloc (.cells #[.int .i64 (rn : Int), .slice (some ⟨nb, noff, none⟩) ns.length cap] 24)).alloc (.cells #[.slice none 0 0, .int .i64 0, .bool false, .int .i64 0, .slice none 0 0] 42)).alloc (.cells (madeCells #[.int .i64 0] rn) 3)).alloc (.cells #[.slice none 0 0, .int .i64 0, .bool false, .int .i64 0, .slice none 0 0] 42)).heap[w.heap.size + 1]? = some (.cells #[.slice none 0 0, .int .i64 0, .bool false, .int .i64 0, .slice none 0 0] 42 (0, 0)) := blk_alloc _ (blk_alloc _ (blk_new (by simp)))
  have p2 : ((((w.alloc (.cells #[.int .i64 (rn : Int), .slice (some ⟨nb, noff, none⟩) ns.length cap] 24)).alloc (.cells #[.slice none 0 0, .int .i64 0, .bool false, .int .i64 0, .slice none 0 0] 42)).alloc (.cells (madeCells #[.int .i64 0] rn) 3)).alloc (.cells #[.slice none 0 0, .int .i64 0, .bool false, .int .i64 0, .slice none 0 0] 42)).heap[w.heap.size + 1 + 1]? = some (.cells (madeCells #[.int .i64 0] rn) 3 (0, 0)) := blk_alloc _ (blk_new (by simp))
  have p3 : ((((w.alloc (.cells #[.int .i64 (rn : Int), .slice (some ⟨nb, noff, none⟩) ns.length cap] 24)).alloc (.cells #[.slice none 0 0, .int .i64 0, .bool false, .int .i64 0, .slice none 0 0] 42)).alloc (.cells (madeCells #[.int .i64 0] rn) 3)).alloc (.cells #[.slice none 0 0, .int .i64 0, .bool false, .int .i64 0, .slice none 0 0] 42)).heap[w.heap.size + 1 + 1 + 1]? = some (.cells #[.slice none 0 0, .int .i64 0, .bool false, .int .i64 0, .slice none 0 0] 42 (0, 0)) := blk_new (by simp)
  generalize ((((w.alloc (.cells #[.int .i64 (rn : Int), .slice (some ⟨nb, noff, none⟩) ns.length cap] 24)).alloc (.cells #[.slice none 0 0, .int .i64 0, .bool false, .int .i64 0, .slice none 0 0] 42)).alloc (.cells (madeCells #[.int .i64 0] rn) 3)).alloc (.cells #[.slice none 0 0, .int .i64 0, .bool false, .int .i64 0, .slice none 0 0] 42)) = W0 at hb0 hs0 p0 p1 p2 p3 ⊢
  have HM0 : Hid (MB (w.heap.size + 2) W0.heap.size (w.heap.size + 1 + 1) (w.heap.size + 1 + 1 + 1) W0 W0 (st0 rn inp) (.slice none 0 0) (.slice none 0 0)) :=
    hide ⟨by simpa [st0] using p3, by rw [p2, made_row]; simp [st0], World.ownsRow_nil _ _ _ _, World.ownsRow_nil _ _ _ _, by simp [Value.ownBlock], Below.refl _ _, by omega⟩
  have HB0 := hide hb0
  have HP0 := hide p0
  have HP1 := hide p1
  have HNN := hide (hN.below hb0 hN.lt)
  have HII := hide (hI.below hb0)
  have HI0 := hide hI
  have hnw : nb < w.heap.size := hN.lt
  generalize hxb : w.heap.size + 1 + 1 + 1 = xb at *
  generalize hrb : w.heap.size + 1 + 1 = rb at *
  have hxw : w.heap.size + 2 < xb := by omega
  have hrw : rb = w.heap.size + 2 := by omega
  have hx0 : xb < W0.heap.size := by omega
  have HRW := hide hrw
  have hrl : rb < W0.heap.size := by omega
  have hwr : w.heap.size + 1 < W0.heap.size := by omega
  clear hb0 p0 p1 p2 p3 hN hI hs0 hrb hxb hms hrw
  go_loopw [9, 10] (fun v9 v10 wr => ∃ k vo vc rd, v9 = .int .i64 ((runN ns k (st0 rn inp)).pc : Nat) ∧ v10 = .int .i64 (rd : Nat) ∧ MB rb W0.heap.size rb xb W0 wr (runN ns k (st0 rn inp)) vo vc ∧ (runN ns k (st0 rn inp)).steps = k ∧ k ≤ fuel.toNat ∧ inp.drop rd = (runN ns k (st0 rn inp)).inp ∧ rd ≤ inp.length) (fun _ _ wr => fuel.toNat - (intOf ((wr.cell? ⟨xb, 3, none⟩).getD undef)).toNat)
  case atStart => exact ⟨0, _, _, 0, rfl, rfl, HM0.out, rfl, Nat.zero_le _, rfl, Nat.zero_le _⟩
  case round =>
    obtain ⟨k, vo, vc, rd, rfl, rfl, M, hst, hk, hrd, hrdl⟩ := hrel
    have hpc := runN_pc OK.out k (st0 rn inp) (by simp [st0]; omega)
    have hrg : (runN ns k (st0 rn inp)).regs.length = rn := by rw [runN_regs]; simp [st0]
    have HS := hide (fun x hx he => runN_succ OK.out k (st0 rn inp) (by simp [st0]; omega) he (x := x) hx)
    have HF := hide (fun he => runN_stop OK.out k fuel.toNat hk (st0 rn inp) (by simp [st0]; omega) he)
    have HFin := hide (show fin rn ns inp fuel = runN ns fuel.toNat (st0 rn inp) by simp [fin])
    have HCB := hide (runN_cb (ns := ns) k (st0 rn inp) 0 (by omega) (by simp [st0]))
    have HOL := hide (runN_out (ns := ns) k (st0 rn inp)).2
    have HCL := hide (runN_cts (ns := ns) k (st0 rn inp))
    generalize hσ : runN ns k (st0 rn inp) = σ at *
    have Hσ := hide hσ
    clear hσ
    have m0 := blk_cell M.hx 0
    have m1 := blk_cell M.hx 1
    have m2 := blk_cell M.hx 2
    have m3 := blk_cell M.hx 3
    have m4 := blk_cell M.hx 4
    have g3 := blk_frozen M.hx 3
    simp at m0 m1 m2 m3 m4
    have HM1 := hide M
    have HRD := hide hrd
    have HRG := hide hrg
    have hszr := M.geo.2.2.2.2.2.1
    have hrw := HRW.out
    have hpr : wr.heap[w.heap.size]? = _ := (M.hb.block _ (by omega)).trans HP0.out
    have h6r : wr.heap[w.heap.size + 1]? = _ := (M.hb.block _ (by omega)).trans HP1.out
    have pp := blk_cell hpr 1
    simp at pp
    have HP6 := hide h6r
    have hme := m3
    clear M hrd hrg hpr h6r hrw
    cases he : σ.ended
    · rw [he] at m2
      by_cases hlt : (σ.steps : Int) < fuel
      · obtain ⟨x, hx⟩ := get_lt hpc
        have n0 := HNN.out.c0 σ.pc x hx
        have hNr := (HNN.out.below HM1.out.hb (by have := HRW.out; omega))
        have c0 := hNr.c0 σ.pc x hx
        have c1 := hNr.c1 σ.pc x hx
        have c2 := hNr.c2 σ.pc x hx
        have c3 := hNr.c3 σ.pc x hx
        have c4 := hNr.c4 σ.pc x hx
        have c5 := hNr.c5 σ.pc x hx
        have hpi : (σ.pc : Int) < (ns.length : Int) := by omega
        have hnr : nb < wr.heap.size := hNr.lt
        have hxr : xb < wr.heap.size := by omega
        have HX := hide hx
        clear hx n0 hNr
        go_upto_region 8 with fail
        have K1 : Keeps [rb, xb] wr ((wr.setCell ⟨xb, 3, none⟩ (.int .i64 ((k : Int) + 1))).alloc (.cells #[.int .i64 x.op, .int .i64 x.d, .int .i64 x.a, .int .i64 x.b, .int .i64 x.t, .int .i64 x.e] 87)) := ((Keeps.refl [rb, xb] wr).setCell (p := ⟨xb, 3, none⟩) (by simp) _).alloc _
        have hx1 : ((wr.setCell ⟨xb, 3, none⟩ (.int .i64 ((k : Int) + 1))).alloc (.cells #[.int .i64 x.op, .int .i64 x.d, .int .i64 x.a, .int .i64 x.b, .int .i64 x.t, .int .i64 x.e] 87)).heap[xb]? = _ := blk_alloc (.cells #[.int .i64 x.op, .int .i64 x.d, .int .i64 x.a, .int .i64 x.b, .int .i64 x.t, .int .i64 x.e] 87) (blk_set (i := 3) (.int .i64 ((k : Int) + 1)) HM1.out.hx)
        have hr1' : ((wr.setCell ⟨xb, 3, none⟩ (.int .i64 ((k : Int) + 1))).alloc (.cells #[.int .i64 x.op, .int .i64 x.d, .int .i64 x.a, .int .i64 x.b, .int .i64 x.t, .int .i64 x.e] 87)).heap[rb]? = _ := blk_alloc (.cells #[.int .i64 x.op, .int .i64 x.d, .int .i64 x.a, .int .i64 x.b, .int .i64 x.t, .int .i64 x.e] 87) (blk_set_ne (i := 3) (.int .i64 ((k : Int) + 1)) HM1.out.hr HM1.out.geo.2.2.2.2.1)
        have hn1 : ((wr.setCell ⟨xb, 3, none⟩ (.int .i64 ((k : Int) + 1))).alloc (.cells #[.int .i64 x.op, .int .i64 x.d, .int .i64 x.a, .int .i64 x.b, .int .i64 x.t, .int .i64 x.e] 87)).heap[wr.heap.size]? = some (.cells #[.int .i64 x.op, .int .i64 x.d, .int .i64 x.a, .int .i64 x.b, .int .i64 x.t, .int .i64 x.e] 87 (0, 0)) := blk_new (by simp [World.setCell])
        generalize ((wr.setCell ⟨xb, 3, none⟩ (.int .i64 ((k : Int) + 1))).alloc (.cells #[.int .i64 x.op, .int .i64 x.d, .int .i64 x.a, .int .i64 x.b, .int .i64 x.t, .int .i64 x.e] 87)) = w1 at K1 hx1 hr1' hn1 ⊢
        have M1 : MB rb W0.heap.size rb xb W0 w1 { σ with steps := σ.steps + 1, pc := x.t.toNat } vo vc := HM1.out.next K1 (by rw [hx1]; simp [hst]) hr1' rfl rfl
        have hok := OK.out x (List.mem_of_getElem? HX.out)
        have n0 := blk_cell hn1 0
        have n1 := blk_cell hn1 1
        have n2 := blk_cell hn1 2
        have n3 := blk_cell hn1 3
        have n4 := blk_cell hn1 4
        have n5 := blk_cell hn1 5
        simp at n0 n1 n2 n3 n4 n5
        have hsz1 := blk_lt hn1
        have HK := hide hok
        have HM := hide M1
        have HN1 := hide hn1
        have HNX := hide (HS.out x HX.out he)
        have ht0 := hok.t.1
        clear K1 hx1 hr1' hn1 M1 c0 c1 c2 c3 c4 c5 m0 m1 m2 m3 m4 g3 pp HS HF
        have hop := hok.op
        clear hok
        by_cases h0 : x.op = 0
        · have HT := hide (show stp x σ = { σ with pc := x.t.toNat, steps := σ.steps + 1 } by simp [stp, h0])
          have hwi : wi 0 3 8 = false := by decide
          rw [h0] at n0
          go_wp2_with (go_at_call 63; refine (reckons_any _ _).mono ?_; rintro e w' ⟨rfl, rfl⟩)
          go_roundw
          case rel =>
            refine ⟨k + 1, vo, vc, rd, ?_, rfl, ?_, ?_, by omega, ?_, hrdl⟩
            · rw [HNX.out, HT.out]; show _ = Value.int .i64 ((x.t.toNat : Nat) : Int); rw [Int.toNat_of_nonneg ht0]
            · rw [HNX.out, HT.out]; exact HM.out
            · rw [HNX.out, HT.out]; show σ.steps + 1 = k + 1; rw [hst]
            · rw [HNX.out, HT.out]; exact HRD.out
          case measure =>
            have q := blk_cell HM.out.hx 3
            simp at q
            rw [q, hme]
            simp [intOf]
            omega
        · skip
          by_cases h1 : x.op = 1
          · have HT := hide (show stp x σ = { σ with pc := x.t.toNat, steps := σ.steps + 1, regs := setR σ.regs x.d x.a } by simp [stp, h1])
            rw [h1] at n0
            obtain ⟨dn, hdn⟩ := Int.eq_ofNat_of_zero_le (show 0 ≤ x.d by have := HK.out.d; omega)
            have hdl : dn < rn := by have := HK.out.d; omega
            have hdi : (dn : Int) < (rn : Int) := by omega
            have rgd := HM.out.reg (n := dn) (by show dn < σ.regs.length; rw [HRG.out]; exact hdl)
            have fzd := blk_frozen HM.out.hr dn
            simp only at rgd
            have HMf := hide (HM.out.setReg dn x.a)
            rw [hdn] at n1 HT
            go_wp2_with (go_at_call 63; refine (reckons_any _ _).mono ?_; rintro e w' ⟨rfl, rfl⟩)
            go_roundw
            case rel =>
              refine ⟨k + 1, vo, vc, rd, ?_, rfl, ?_, ?_, by omega, ?_, hrdl⟩
              · rw [HNX.out, HT.out]; show _ = Value.int .i64 ((x.t.toNat : Nat) : Int); rw [Int.toNat_of_nonneg ht0]
              · rw [HNX.out, HT.out]; exact HMf.out
              · rw [HNX.out, HT.out]; show σ.steps + 1 = k + 1; rw [hst]
              · rw [HNX.out, HT.out]; exact HRD.out
            case measure =>
              have qf := (HMf.out).hx
              have q : World.cell? _ ⟨xb, 3, none⟩ = some (Value.int .i64 ((σ.steps + 1 : Nat) : Int)) := blk_cell qf 3
              rw [q, hme]
              simp [intOf]
              omega
          by_cases h2 : x.op = 2
          · have HT := hide (show stp x σ = { σ with pc := x.t.toNat, steps := σ.steps + 1, regs := setR σ.regs x.d (getR σ.regs x.a) } by simp [stp, h2])
            rw [h2] at n0
            obtain ⟨dn, hdn⟩ := Int.eq_ofNat_of_zero_le (show 0 ≤ x.d by have := HK.out.d; omega)
            have hdl : dn < rn := by have := HK.out.d; omega
            have hdi : (dn : Int) < (rn : Int) := by omega
            have rgd := HM.out.reg (n := dn) (by show dn < σ.regs.length; rw [HRG.out]; exact hdl)
            have fzd := blk_frozen HM.out.hr dn
            simp only at rgd
            obtain ⟨an, han⟩ := Int.eq_ofNat_of_zero_le (show 0 ≤ x.a by have := HK.out.a; omega)
            have hal : an < rn := by have := HK.out.a; omega
            have hai : (an : Int) < (rn : Int) := by omega
            have rga := HM.out.reg (n := an) (by show an < σ.regs.length; rw [HRG.out]; exact hal)
            have fza := blk_frozen HM.out.hr an
            simp only at rga
            rw [hdn] at n1 HT
            rw [han] at n2 HT
            have HMf := hide (HM.out.setReg dn (getR σ.regs (an : Int))).drew
            go_wp2
            refine wp_region_still_tail 9 (by kernel_rfl) (by kernel_rfl) ?_
            simp only [List.take_succ_cons, List.take_zero, List.drop_succ_cons, List.drop_zero]
            repeat still_step
            refine wpStill_nil ?_
            go_wp2
            go_roundw
            case rel =>
              refine ⟨k + 1, vo, vc, rd, ?_, rfl, ?_, ?_, by omega, ?_, hrdl⟩
              · rw [HNX.out, HT.out]; show _ = Value.int .i64 ((x.t.toNat : Nat) : Int); rw [Int.toNat_of_nonneg ht0]
              · rw [HNX.out, HT.out]; exact HMf.out
              · rw [HNX.out, HT.out]; show σ.steps + 1 = k + 1; rw [hst]
              · rw [HNX.out, HT.out]; exact HRD.out
            case measure =>
              have qf := (HMf.out).hx
              have q : World.cell? _ ⟨xb, 3, none⟩ = some (Value.int .i64 ((σ.steps + 1 : Nat) : Int)) := blk_cell qf 3
              rw [q, hme]
              simp [intOf]
              omega
          by_cases h12 : x.op = 12
          · have HT := hide (show stp x σ = { σ with pc := x.t.toNat, steps := σ.steps + 1, ret := getR σ.regs x.a, ended := true } by simp [stp, h12])
            have hwi : wi 12 3 8 = false := by decide
            rw [h12] at n0
            obtain ⟨an, han⟩ := Int.eq_ofNat_of_zero_le (show 0 ≤ x.a by have := HK.out.a; omega)
            have hal : an < rn := by have := HK.out.a; omega
            have hai : (an : Int) < (rn : Int) := by omega
            have rga := HM.out.reg (n := an) (by show an < σ.regs.length; rw [HRG.out]; exact hal)
            have fza := blk_frozen HM.out.hr an
            simp only at rga
            rw [han] at n2 HT
            have HMf := hide (HM.out.setEnd (getR σ.regs (an : Int)))
            have x1 := blk_cell HM.out.hx 1
            have x2 := blk_cell HM.out.hx 2
            have y1 := blk_frozen HM.out.hx 1
            have y2 := blk_frozen HM.out.hx 2
            simp at x1 x2
            go_wp2_with (go_at_call 63; refine (reckons_any _ _).mono ?_; rintro e w' ⟨rfl, rfl⟩)
            go_roundw
            case rel =>
              refine ⟨k + 1, vo, vc, rd, ?_, rfl, ?_, ?_, by omega, ?_, hrdl⟩
              · rw [HNX.out, HT.out]; show _ = Value.int .i64 ((x.t.toNat : Nat) : Int); rw [Int.toNat_of_nonneg ht0]
              · rw [HNX.out, HT.out]; exact HMf.out
              · rw [HNX.out, HT.out]; show σ.steps + 1 = k + 1; rw [hst]
              · rw [HNX.out, HT.out]; exact HRD.out
            case measure =>
              have qf := (HMf.out).hx
              have q : World.cell? _ ⟨xb, 3, none⟩ = some (Value.int .i64 ((σ.steps + 1 : Nat) : Int)) := blk_cell qf 3
              rw [q, hme]
              simp [intOf]
              omega
          by_cases h11 : x.op = 11
          · have hwi : wi 11 3 8 = false := by decide
            have hT1 : stp x σ = { σ with pc := (if getR σ.regs x.a = 0 then x.e else x.t).toNat, steps := σ.steps + 1 } := by simp [stp, h11]
            rw [h11] at n0
            obtain ⟨an, han⟩ := Int.eq_ofNat_of_zero_le (show 0 ≤ x.a by have := HK.out.a; omega)
            have hal : an < rn := by have := HK.out.a; omega
            have hai : (an : Int) < (rn : Int) := by omega
            have rga := HM.out.reg (n := an) (by show an < σ.regs.length; rw [HRG.out]; exact hal)
            have fza := blk_frozen HM.out.hr an
            simp only at rga
            rw [han] at n2 hT1
            have he0 := (HK.out.e h11).1
            by_cases hz : getR σ.regs (an : Int) = 0
            · rw [if_pos hz] at hT1
              have HT := hide hT1
              clear hT1
              rw [hz] at rga
              go_wp2_with (go_at_call 63; refine (reckons_any _ _).mono ?_; rintro e w' ⟨rfl, rfl⟩)
              go_roundw
              case rel =>
                refine ⟨k + 1, vo, vc, rd, ?_, rfl, ?_, ?_, by omega, ?_, hrdl⟩
                · rw [HNX.out, HT.out]; show _ = Value.int .i64 ((x.e.toNat : Nat) : Int); rw [Int.toNat_of_nonneg he0]
                · rw [HNX.out, HT.out]; exact (show MB rb W0.heap.size rb xb W0 _ { σ with pc := x.e.toNat, steps := σ.steps + 1 } vo vc from HM.out.next (Keeps.refl _ _) HM.out.hx HM.out.hr rfl rfl)
                · rw [HNX.out, HT.out]; show σ.steps + 1 = k + 1; rw [hst]
                · rw [HNX.out, HT.out]; exact HRD.out
              case measure =>
                have qf := ((show MB rb W0.heap.size rb xb W0 _ { σ with pc := x.e.toNat, steps := σ.steps + 1 } vo vc from HM.out.next (Keeps.refl _ _) HM.out.hx HM.out.hr rfl rfl)).hx
                have q : World.cell? _ ⟨xb, 3, none⟩ = some (Value.int .i64 ((σ.steps + 1 : Nat) : Int)) := blk_cell qf 3
                rw [q, hme]
                simp [intOf]
                omega
            · rw [if_neg hz] at hT1
              have HT := hide hT1
              clear hT1
              have hzb : (getR σ.regs (an : Int) == 0) = false := by simpa using hz
              go_wp2_with (go_at_call 63; refine (reckons_any _ _).mono ?_; rintro e w' ⟨rfl, rfl⟩)
              go_roundw
              case rel =>
                refine ⟨k + 1, vo, vc, rd, ?_, rfl, ?_, ?_, by omega, ?_, hrdl⟩
                · rw [HNX.out, HT.out]; show _ = Value.int .i64 ((x.t.toNat : Nat) : Int); rw [Int.toNat_of_nonneg ht0]
                · rw [HNX.out, HT.out]; exact HM.out
                · rw [HNX.out, HT.out]; show σ.steps + 1 = k + 1; rw [hst]
                · rw [HNX.out, HT.out]; exact HRD.out
              case measure =>
                have qf := (HM.out).hx
                have q : World.cell? _ ⟨xb, 3, none⟩ = some (Value.int .i64 ((σ.steps + 1 : Nat) : Int)) := blk_cell qf 3
                rw [q, hme]
                simp [intOf]
                omega
          by_cases h9 : x.op = 9
          · have hwi : wi 9 3 8 = false := by decide
            have hT1 : stp x σ = { σ with pc := x.t.toNat, steps := σ.steps + 1, regs := setR σ.regs x.d (σ.inp.headD 0), inp := σ.inp.tail } := by simp [stp, h9]
            rw [h9] at n0
            obtain ⟨dn, hdn⟩ := Int.eq_ofNat_of_zero_le (show 0 ≤ x.d by have := HK.out.d; omega)
            have hdl : dn < rn := by have := HK.out.d; omega
            have hdi : (dn : Int) < (rn : Int) := by omega
            have rgd := HM.out.reg (n := dn) (by show dn < σ.regs.length; rw [HRG.out]; exact hdl)
            have fzd := blk_frozen HM.out.hr dn
            simp only at rgd
            rw [hdn] at n1 hT1
            obtain ⟨hh1, hh2⟩ := drop_in (z := 0) HRD.out
            rw [hh1, hh2] at hT1
            go_upto_region 17 with (go_at_call 63; refine (reckons_any _ _).mono ?_; rintro e w' ⟨rfl, hw'⟩; rw [hw']; clear hw' w')
            have M2 := HM.out.setReg dn 0
            have hne1 : wr.heap.size ≠ rb := by omega
            have K2 : Keeps [rb] w1 (w1.setCell ⟨rb, dn, none⟩ (.int .i64 0)) := (Keeps.refl [rb] w1).setCell (p := ⟨rb, dn, none⟩) (by simp) _
            have n1' := (K2.cell (b := wr.heap.size) (i := 1) hsz1 (by simpa using hne1)).trans n1
            have hB2 : Below w.heap.size w (w1.setCell ⟨rb, dn, none⟩ (.int .i64 0)) := HB0.out.trans (M2.hb.mono (by have := HRW.out; omega))
            have hs2 := K2.size
            clear K2
            generalize w1.setCell ⟨rb, dn, none⟩ (.int .i64 0) = w2 at M2 n1' hB2 hs2 ⊢
            have HM2 := hide M2
            have hd2 := M2.reg (n := dn) (by simp only [setR, List.length_set]; rw [HRG.out]; exact hdl)
            have fz2 := blk_frozen M2.hr dn
            clear M2 n0 n1 n2 n3 n4 n5 rgd fzd
            by_cases hrl2 : rd < inp.length
            · obtain ⟨z, hzz⟩ : ∃ z, inp[rd]? = some z := ⟨inp[rd], List.getElem?_eq_getElem hrl2⟩
              obtain ⟨bi, oi, rfl, hbi, hci⟩ := (HI0.out.below hB2).at hrl2
              have iz := hci rd z hzz
              have hrli : (rd : Int) < (inp.length : Int) := by omega
              rw [hzz] at hT1
              have HT := hide hT1
              have HMf := hide (HM2.out.setReg dn z).drew
              clear hT1 hci
              go_wp2
              refine wp_region_still_tail 8 (by kernel_rfl) (by kernel_rfl) ?_
              simp only [List.take_succ_cons, List.take_zero, List.drop_succ_cons, List.drop_zero]
              repeat still_step
              refine wpStill_nil ?_
              go_wp2
              go_roundw
              case rel =>
                refine ⟨k + 1, vo, vc, rd + 1, ?_, by go_num, ?_, ?_, by omega, ?_, by omega⟩
                · rw [HNX.out, HT.out]; show _ = Value.int .i64 ((x.t.toNat : Nat) : Int); rw [Int.toNat_of_nonneg ht0]
                · rw [HNX.out, HT.out]; exact (show MB rb W0.heap.size rb xb W0 _ { σ with pc := x.t.toNat, steps := σ.steps + 1, regs := setR σ.regs (dn : Int) z, inp := inp.drop (rd + 1) } vo vc from HMf.out.next (Keeps.refl _ _) HMf.out.hx (by have := HMf.out.hr; simp only [setR, List.set_set] at this ⊢; exact this) rfl rfl)
                · rw [HNX.out, HT.out]; show σ.steps + 1 = k + 1; rw [hst]
                · rw [HNX.out, HT.out]
              case measure =>
                have qf := ((show MB rb W0.heap.size rb xb W0 _ { σ with pc := x.t.toNat, steps := σ.steps + 1, regs := setR σ.regs (dn : Int) z, inp := inp.drop (rd + 1) } vo vc from HMf.out.next (Keeps.refl _ _) HMf.out.hx (by have := HMf.out.hr; simp only [setR, List.set_set] at this ⊢; exact this) rfl rfl)).hx
                have q : World.cell? _ ⟨xb, 3, none⟩ = some (Value.int .i64 ((σ.steps + 1 : Nat) : Int)) := blk_cell qf 3
                rw [q, hme]
                simp [intOf]
                omega
            · have hrli : ¬ (rd : Int) < (inp.length : Int) := by omega
              have hno : inp[rd]? = none := List.getElem?_eq_none (by omega)
              rw [hno] at hT1
              have HT := hide hT1
              clear hT1
              go_wp2
              go_roundw
              case rel =>
                refine ⟨k + 1, vo, vc, rd, ?_, rfl, ?_, ?_, by omega, ?_, hrdl⟩
                · rw [HNX.out, HT.out]; show _ = Value.int .i64 ((x.t.toNat : Nat) : Int); rw [Int.toNat_of_nonneg ht0]
                · rw [HNX.out, HT.out]; exact (show MB rb W0.heap.size rb xb W0 _ { σ with pc := x.t.toNat, steps := σ.steps + 1, regs := setR σ.regs (dn : Int) 0, inp := inp.drop (rd + 1) } vo vc from HM2.out.next (Keeps.refl _ _) HM2.out.hx HM2.out.hr rfl rfl)
                · rw [HNX.out, HT.out]; show σ.steps + 1 = k + 1; rw [hst]
                · rw [HNX.out, HT.out]; show inp.drop rd = inp.drop (rd + 1); rw [List.drop_of_length_le (by omega), List.drop_of_length_le (by omega)]
              case measure =>
                have qf := ((show MB rb W0.heap.size rb xb W0 _ { σ with pc := x.t.toNat, steps := σ.steps + 1, regs := setR σ.regs (dn : Int) 0, inp := inp.drop (rd + 1) } vo vc from HM2.out.next (Keeps.refl _ _) HM2.out.hx HM2.out.hr rfl rfl)).hx
                have q : World.cell? _ ⟨xb, 3, none⟩ = some (Value.int .i64 ((σ.steps + 1 : Nat) : Int)) := blk_cell qf 3
                rw [q, hme]
                simp [intOf]
                omega
          by_cases h10 : x.op = 10
          · have hwi : wi 10 3 8 = false := by decide
            have hT1 : stp x σ = { σ with pc := x.t.toNat, steps := σ.steps + 1, out := σ.out ++ [getR σ.regs x.a] } := by simp [stp, h10]
            rw [h10] at n0
            obtain ⟨an, han⟩ := Int.eq_ofNat_of_zero_le (show 0 ≤ x.a by have := HK.out.a; omega)
            have hal : an < rn := by have := HK.out.a; omega
            have hai : (an : Int) < (rn : Int) := by omega
            have rga := HM.out.reg (n := an) (by show an < σ.regs.length; rw [HRG.out]; exact hal)
            have fza := blk_frozen HM.out.hr an
            simp only at rga
            rw [han] at n2 hT1
            have HT := hide hT1
            clear hT1
            obtain ⟨i1, hi1', hy0, hy1, hy2⟩ := info_parts info_int
            have x0 : w1.cell? ⟨xb, 0, none⟩ = some vo := blk_cell HM.out.hx 0
            have y0 := blk_frozen HM.out.hx 0
            have hown := HM.out.ho
            have hsW := HM.out.geo.2.2.2.2.2.1
            have hxw1 := blk_lt HM.out.hx
            have hlt0 := HM.out.ho.lt
            have hneq : ∀ q, q < W0.heap.size → some q ≠ vo.ownBlock := fun q hq e => by have := hlt0 q e.symm; omega
            have hol : σ.out.length ≤ 131072 := by have := HOL.out; simp [st0] at this; omega
            simp only at hown
            go_wp2_with (go_at_call 63; refine (reckons_any _ _).mono ?_; rintro e w' ⟨rfl, hw'⟩; rw [hw']; clear hw' w')
            go_region_law (first
              | ((refine step_append_lies _ (by rfl) _ _ _ (by rfl) W0.heap.size 3 i1 (.int .i64 0) 1 8 Try.underlying25 hi1' hy0 hy1 hy2 rfl (by omega) vo σ.out.length (σ.out.map (Value.int .i64)) (by rfl) ((hown.alloc _)) ⟨w1.heap.size, 0, none⟩ 1 1 [.int .i64 (getR σ.regs an)] (by rfl) (by rfl) (World.news_of_block (cs := #[.int .i64 (getR σ.regs an)]) (t := 3) (fr := (0, 0)) (heap_alloc_new w1 _)) (by simp [Value.oneCell']) (by omega) (by unfold maxLen; omega) (by omega) (by simp; omega) (w1.heap.size + 1) (by simp) ?_; intro gg cap1 w5 hown5 hgrow hat hlt5; have hb5 : w5.heap[xb]? = w1.heap[xb]? := (hgrow.block xb (by simp; omega) (hneq xb hx0)).trans (Below.heap_alloc _ _ _ hxw1); have z0 : w5.cell? ⟨xb, 0, none⟩ = some vo := (World.cell?_of_block hb5).trans x0; have z1 : w5.frozen? ⟨xb, 0, none⟩ = false := (World.frozen?_of_block hb5).trans y0; have HG := hide (And.intro hown5 (And.intro hgrow (And.intro hat hlt5))); clear hown5 hgrow hat hlt5 hb5)))
            all_goals
              have hgo : w1.grownBy w5 vo.ownBlock := below_grown ((Below.refl _ w1).alloc (Nat.le_refl _) _).drew HG.out.2.1
              have hvv : (Value.slice (some ⟨gg, 0, none⟩) (σ.out.length + 1) cap1).ownBlock = vo.ownBlock ∨ ∀ g, (Value.slice (some ⟨gg, 0, none⟩) (σ.out.length + 1) cap1).ownBlock = some g → w1.heap.size ≤ g := by
                rcases HG.out.2.2.1 with h | h
                · left; rw [h]; rfl
                · right; intro g hg; simp [Value.ownBlock] at hg; omega
              have HMf := hide (HM.out.setOut (l := σ.out ++ [getR σ.regs (an : Int)]) (vo' := .slice (some ⟨gg, 0, none⟩) (σ.out.length + 1) cap1) hgo (by simpa using HG.out.1) hvv)
              clear hgo hvv
            all_goals go_wp2
            all_goals
              go_roundw
              case rel =>
                refine ⟨k + 1, .slice (some ⟨gg, 0, none⟩) (σ.out.length + 1) cap1, vc, rd, ?_, rfl, ?_, ?_, by omega, ?_, hrdl⟩
                rotate_left
                · rw [HNX.out, HT.out]; exact HMf.out
                · rw [HNX.out, HT.out]; show σ.steps + 1 = k + 1; rw [hst]
                · rw [HNX.out, HT.out]; exact HRD.out
                · rw [HNX.out, HT.out]; show _ = Value.int .i64 ((x.t.toNat : Nat) : Int); rw [Int.toNat_of_nonneg ht0]
              case measure =>
                have qf := HMf.out.hx
                have q : World.cell? _ ⟨xb, 3, none⟩ = some (Value.int .i64 ((σ.steps + 1 : Nat) : Int)) := blk_cell qf 3
                rw [q, hme]
                simp [intOf]
                omega
          · skip
            have hopr : 3 ≤ x.op ∧ x.op ≤ 8 := by omega
            have hwi : wi x.op 3 8 = true := wi_true hopr.1 hopr.2
            have e1 : (x.op == 1) = false := by simp; omega
            have e2 : (x.op == 2) = false := by simp; omega
            have hT1 : stp x σ = { σ with pc := x.t.toNat, steps := σ.steps + 1, regs := setR σ.regs x.d (rk x.op (getR σ.regs x.a) (getR σ.regs x.b)), cts := omore σ.cts (tmOf x) } := by
              unfold stp
              rw [if_neg h0, if_neg h1, if_neg h2, if_neg h9, if_neg h10, if_neg h11, if_neg h12]
            obtain ⟨dn, hdn⟩ := Int.eq_ofNat_of_zero_le (show 0 ≤ x.d by have := HK.out.d; omega)
            have hdl : dn < rn := by have := HK.out.d; omega
            have hdi : (dn : Int) < (rn : Int) := by omega
            have rgd := HM.out.reg (n := dn) (by show dn < σ.regs.length; rw [HRG.out]; exact hdl)
            have fzd := blk_frozen HM.out.hr dn
            simp only at rgd
            obtain ⟨an, han⟩ := Int.eq_ofNat_of_zero_le (show 0 ≤ x.a by have := HK.out.a; omega)
            have hal : an < rn := by have := HK.out.a; omega
            have hai : (an : Int) < (rn : Int) := by omega
            have rga := HM.out.reg (n := an) (by show an < σ.regs.length; rw [HRG.out]; exact hal)
            have fza := blk_frozen HM.out.hr an
            simp only at rga
            obtain ⟨bn, hbn⟩ := Int.eq_ofNat_of_zero_le (show 0 ≤ x.b by have := HK.out.b; omega)
            have hbl : bn < rn := by have := HK.out.b; omega
            have hbi : (bn : Int) < (rn : Int) := by omega
            have rgb := HM.out.reg (n := bn) (by show bn < σ.regs.length; rw [HRG.out]; exact hbl)
            have fzb := blk_frozen HM.out.hr bn
            simp only at rgb
            rw [hdn] at n1 hT1
            rw [han] at n2 hT1
            rw [hbn] at n3 hT1
            rw [show tmOf x = ⟨x.op, (an : Int), (bn : Int)⟩ by simp [tmOf, han, hbn]] at hT1
            have HT := hide hT1
            clear hT1
            go_wp2_with (go_at_call 63; refine (reckons_any _ _).mono ?_; rintro e w' ⟨rfl, hw'⟩; rw [hw']; clear hw' w')
            refine wp_region_still_tail 17 (by kernel_rfl) (by kernel_rfl) ?_
            simp only [List.take_succ_cons, List.take_zero, List.drop_succ_cons, List.drop_zero]
            repeat still_step
            still_call (reckon_any _ _ _ _)
            repeat still_step
            refine wpStill_nil ?_
            go_upto_region 14 with fail
            have M2 := (HM.out.setReg dn (rk x.op (getR σ.regs (an : Int)) (getR σ.regs (bn : Int)))).drew
            have hne1 : wr.heap.size ≠ rb := by omega
            have K2 : Keeps [rb] w1 (w1.setCell ⟨rb, dn, none⟩ (.int .i64 (rk x.op (getR σ.regs (an : Int)) (getR σ.regs (bn : Int))))).drew := ((Keeps.refl [rb] w1).setCell (p := ⟨rb, dn, none⟩) (by simp) _).drew
            replace n0 := (K2.cell (b := wr.heap.size) (i := 0) hsz1 (by simpa using hne1)).trans n0
            replace n2 := (K2.cell (b := wr.heap.size) (i := 2) hsz1 (by simpa using hne1)).trans n2
            replace n3 := (K2.cell (b := wr.heap.size) (i := 3) hsz1 (by simpa using hne1)).trans n3
            generalize (w1.setCell ⟨rb, dn, none⟩ (.int .i64 (rk x.op (getR σ.regs (an : Int)) (getR σ.regs (bn : Int))))).drew = w2 at M2 K2 n0 n2 n3 ⊢
            have x4 : w2.cell? ⟨xb, 4, none⟩ = some vc := blk_cell M2.hx 4
            have y4 := blk_frozen M2.hx 4
            have hg2 := M2.geo
            have HM2 := hide M2
            have hxl := blk_lt M2.hx
            have hcl := M2.hc.lt
            clear K2 M2 n1 n4 n5 rgd rga rgb fzd fza fzb
            go_wp2_with fail
            refine (onceMore_any vc σ.cts ⟨x.op, (an : Int), (bn : Int)⟩ W0.heap.size w2 HM2.out.hc hg2.2.2.2.2.2.1 (by have := HCL.out; simp [st0] at this; omega) (fun c hc => by have := HCB.out c hc; omega)).mono ?_
            rintro e w3 ⟨vc', rfl, ho3, hg3, hv3⟩
            obtain ⟨av, cv, rfl⟩ := owns_val ho3
            have hb5 : w3.heap[xb]? = w2.heap[xb]? := hg3.block xb hxl (fun e => by have := (hcl xb e.symm).1; omega)
            replace x4 := (World.cell?_of_block (a := ⟨xb, 4, none⟩) hb5).trans x4
            replace y4 := (World.frozen?_of_block (a := ⟨xb, 4, none⟩) hb5).trans y4
            have HMf := hide (HM2.out.setCts hg3 ho3 hv3)
            clear hb5 hg3 ho3 hv3 hcl
            go_wp2
            go_roundw
            case rel =>
              refine ⟨k + 1, vo, .slice av (omore σ.cts ⟨x.op, (an : Int), (bn : Int)⟩).length cv, rd, ?_, rfl, ?_, ?_, by omega, ?_, hrdl⟩
              · rw [HNX.out, HT.out]; show _ = Value.int .i64 ((x.t.toNat : Nat) : Int); rw [Int.toNat_of_nonneg ht0]
              · rw [HNX.out, HT.out]; exact HMf.out
              · rw [HNX.out, HT.out]; show σ.steps + 1 = k + 1; rw [hst]
              · rw [HNX.out, HT.out]; exact HRD.out
            case measure =>
              have qf := (HMf.out).hx
              have q : World.cell? _ ⟨xb, 3, none⟩ = some (Value.int .i64 ((σ.steps + 1 : Nat) : Int)) := blk_cell qf 3
              rw [q, hme]
              simp [intOf]
              omega
      · have hlt' : fuel ≤ (σ.steps : Int) := by omega
        have hfin : fin rn ns inp fuel = σ := by
          rw [HFin.out, show fuel.toNat = k by omega]; exact Hσ.out
        have HZ := hide hfin
        clear hfin
        obtain ⟨ao, co, rfl, hIo⟩ := ints_of_owns HM1.out.ho
        obtain ⟨ac, cc, rfl, hCo⟩ := cts_of_owns HM1.out.hc
        have e0 := blk_cell HP6.out 0
        have e1 := blk_cell HP6.out 1
        have e2 := blk_cell HP6.out 2
        have e3 := blk_cell HP6.out 3
        have e4 := blk_cell HP6.out 4
        have f0 := blk_frozen HP6.out 0
        have f1 := blk_frozen HP6.out 1
        have f2 := blk_frozen HP6.out 2
        have f3 := blk_frozen HP6.out 3
        have f4 := blk_frozen HP6.out 4
        simp at e0 e1 e2 e3 e4
        have HIC := hide (And.intro hIo hCo)
        clear hIo hCo
        go_wp2
        refine ret_cell1 (fill5_blk HP6.out _ _ _ _ _) rfl ?_
        rw [HZ.out]
        have KF := fill5_keeps wr (w.heap.size + 1) (.slice ao σ.out.length co) (.int .i64 σ.ret) (.bool false) (.int .i64 (k : Int)) (.slice ac σ.cts.length cc)
        have hI1 := ownsRow_base (KF.owns HM1.out.ho (by simp; omega)) (show w.heap.size ≤ W0.heap.size by omega)
        have hC2 := ownsRow_base (KF.owns HM1.out.hc (by simp; omega)) (show w.heap.size ≤ W0.heap.size by omega)
        have hBf := HB0.out.trans ((HM1.out.hb.mono (by have := HRW.out; omega)).trans (KF.below (by simp) (by omega)))
        exact ⟨_, _, by rw [he, hst], hI1, hC2, hBf⟩
    · rw [he] at m2
      have hfin : fin rn ns inp fuel = σ := by
        rw [HFin.out, HF.out he]
      have HZ := hide hfin
      clear hfin
      obtain ⟨ao, co, rfl, hIo⟩ := ints_of_owns HM1.out.ho
      obtain ⟨ac, cc, rfl, hCo⟩ := cts_of_owns HM1.out.hc
      have e0 := blk_cell HP6.out 0
      have e1 := blk_cell HP6.out 1
      have e2 := blk_cell HP6.out 2
      have e3 := blk_cell HP6.out 3
      have e4 := blk_cell HP6.out 4
      have f0 := blk_frozen HP6.out 0
      have f1 := blk_frozen HP6.out 1
      have f2 := blk_frozen HP6.out 2
      have f3 := blk_frozen HP6.out 3
      have f4 := blk_frozen HP6.out 4
      simp at e0 e1 e2 e3 e4
      have HIC := hide (And.intro hIo hCo)
      clear hIo hCo
      by_cases hlt : (σ.steps : Int) < fuel
      · go_wp2
        refine ret_cell1 (fill5_blk HP6.out _ _ _ _ _) rfl ?_
        rw [HZ.out]
        have KF := fill5_keeps wr (w.heap.size + 1) (.slice ao σ.out.length co) (.int .i64 σ.ret) (.bool true) (.int .i64 (k : Int)) (.slice ac σ.cts.length cc)
        have hI1 := ownsRow_base (KF.owns HM1.out.ho (by simp; omega)) (show w.heap.size ≤ W0.heap.size by omega)
        have hC2 := ownsRow_base (KF.owns HM1.out.hc (by simp; omega)) (show w.heap.size ≤ W0.heap.size by omega)
        have hBf := HB0.out.trans ((HM1.out.hb.mono (by have := HRW.out; omega)).trans (KF.below (by simp) (by omega)))
        exact ⟨_, _, by rw [he, hst], hI1, hC2, hBf⟩
      · have hlt' : fuel ≤ (σ.steps : Int) := by omega
        go_wp2
        refine ret_cell1 (fill5_blk HP6.out _ _ _ _ _) rfl ?_
        rw [HZ.out]
        have KF := fill5_keeps wr (w.heap.size + 1) (.slice ao σ.out.length co) (.int .i64 σ.ret) (.bool true) (.int .i64 (k : Int)) (.slice ac σ.cts.length cc)
        have hI1 := ownsRow_base (KF.owns HM1.out.ho (by simp; omega)) (show w.heap.size ≤ W0.heap.size by omega)
        have hC2 := ownsRow_base (KF.owns HM1.out.hc (by simp; omega)) (show w.heap.size ≤ W0.heap.size by omega)
        have hBf := HB0.out.trans ((HM1.out.hb.mono (by have := HRW.out; omega)).trans (KF.below (by simp) (by omega)))
        exact ⟨_, _, by rw [he, hst], hI1, hC2, hBf⟩
end Go.Proofs.Ytoikglgnmjjpcaa
