/-
  run.machine.step, walked: one node is done (Copy, terms, If).
-/
import Derived.Test.YtoikglgnmjjpcabRE
namespace Go.Proofs.Ytoikglgnmjjpcab
open Go.RowKit Go.Maps Go.ChangeMaps
set_option linter.unusedVariables false

set_option maxHeartbeats 2000000 in
set_option maxRecDepth 100000 in
theorem step_copy {B s mb rb mp nb noff ncap rc : Nat} {ns : List Nd} {w : World} {σ : St} {v : Value} {ia : Option Addr} {ic n : Nat} {D : DataW Unit} (M : MA B s mb rb mp nb noff ncap rc ns w σ v ia ic n D) {x : Nd} (hx : ns[σ.pc]? = some x) (hlen : ns.length ≤ 256) (hlt : σ.steps < 131072) (ht : 0 ≤ x.t) (hop : x.op = 2) (hd : InR σ.regs x.d) (ha : InR σ.regs x.a) :
    Calls Try.prog 31 #[.pointer (some ⟨mb, 0, none⟩)] w fun e w' => e = .returned (.tuple #[]) ∧ ∃ v' ia' ic' n' D', MA B s mb rb mp nb noff ncap rc ns w' (stp x σ) v' ia' ic' n' D' ∧ Below B w w' := by
  have hpc : σ.pc < ns.length := (List.getElem?_eq_some_iff.1 hx).1
  have hml := blk_lt M.hm
  have hnlt := M.hN.lt
  have hst0 := M.hst
  have m3 := blk_cell M.hm 3
  have m5 := blk_cell M.hm 5
  have m6 := blk_cell M.hm 6
  have f3 := blk_frozen M.hm 3
  have f6 := blk_frozen M.hm 6
  simp at m3 m5 m6
  have c0 := M.hN.c0 σ.pc x hx
  have c1 := M.hN.c1 σ.pc x hx
  have c2 := M.hN.c2 σ.pc x hx
  have c3 := M.hN.c3 σ.pc x hx
  have c4 := M.hN.c4 σ.pc x hx
  have c5 := M.hN.c5 σ.pc x hx
  have P3 := pre_of M x
  obtain ⟨op, d, a, b, t, e⟩ := x
  simp only at *
  subst hop
  have HS := hide (And.intro m5 (And.intro m6 (And.intro c0 (And.intro c1 (And.intro c2 (And.intro c3 (And.intro c4 c5)))))))
  have HSa : Hid (∀ o, (w.alloc o).cell? ⟨mb, 5, none⟩ = some (.slice (some ⟨nb, noff, none⟩) ns.length ncap) ∧ (w.alloc o).cell? ⟨mb, 6, none⟩ = some (.int .i64 σ.pc) ∧ (w.alloc o).cell? ⟨nb, noff + σ.pc * 6, none⟩ = some (.int .i64 2) ∧ (w.alloc o).cell? ⟨nb, noff + σ.pc * 6 + 1, none⟩ = some (.int .i64 d) ∧ (w.alloc o).cell? ⟨nb, noff + σ.pc * 6 + 2, none⟩ = some (.int .i64 a) ∧ (w.alloc o).cell? ⟨nb, noff + σ.pc * 6 + 3, none⟩ = some (.int .i64 b) ∧ (w.alloc o).cell? ⟨nb, noff + σ.pc * 6 + 4, none⟩ = some (.int .i64 t) ∧ (w.alloc o).cell? ⟨nb, noff + σ.pc * 6 + 5, none⟩ = some (.int .i64 e)) := by
    intro o
    simp only [World.cell?_alloc_past _ _ _ hml, World.cell?_alloc_past _ _ _ hnlt]
    exact HS.out
  have hpi : (σ.pc : Int) < (ns.length : Int) := by omega
  have hpi0 : (0 : Int) ≤ (σ.pc : Int) := by omega
  have HM := hide M
  have HX := hide hx
  have HP := hide P3
  clear M hx P3
  go_enter Try.func31, Try.ntmps31
  go_wp2
  go_region_held3 (fun u => u.cell? ⟨mb, 5, none⟩ = some (.slice (some ⟨nb, noff, none⟩) ns.length ncap) ∧ u.cell? ⟨mb, 6, none⟩ = some (.int .i64 σ.pc) ∧ u.cell? ⟨nb, noff + σ.pc * 6, none⟩ = some (.int .i64 2) ∧ u.cell? ⟨nb, noff + σ.pc * 6 + 1, none⟩ = some (.int .i64 d) ∧ u.cell? ⟨nb, noff + σ.pc * 6 + 2, none⟩ = some (.int .i64 a) ∧ u.cell? ⟨nb, noff + σ.pc * 6 + 3, none⟩ = some (.int .i64 b) ∧ u.cell? ⟨nb, noff + σ.pc * 6 + 4, none⟩ = some (.int .i64 t) ∧ u.cell? ⟨nb, noff + σ.pc * 6 + 5, none⟩ = some (.int .i64 e)) (first | exact HS.out | exact HSa.out _) (fail)
  go_wp2
  clear m3 m5 m6 f3 f6 c0 c1 c2 c3 c4 c5 HS HSa hpi hpi0
  have hW := HP.out
  unfold W3 at hW
  generalize (((w.setCell ⟨mb, 3, none⟩ (.int .i64 ((σ.steps : Int) + 1))).setCell ⟨mb, 6, none⟩ (.int .i64 t)).alloc (.cells #[.int .i64 2, .int .i64 d, .int .i64 a, .int .i64 b, .int .i64 t, .int .i64 e] 53)).drew = W at hW ⊢
  clear HP
  have HW := hide hW
  obtain ⟨g1, g2, g3, g4, g5, g6, g7, g8, g9⟩ := HM.out.geo
  have wml := blk_lt hW.hm
  have wrl := blk_lt hW.hr
  have wnl := blk_lt hW.hnd
  have hss := HM.out.hs
  obtain ⟨hd0, hd1⟩ := hd
  obtain ⟨ha0, ha1⟩ := ha
  obtain ⟨dn, rfl⟩ := Int.eq_ofNat_of_zero_le hd0
  obtain ⟨an, rfl⟩ := Int.eq_ofNat_of_zero_le ha0
  have m8 := blk_cell hW.hm 8
  have n1 := blk_cell hW.hnd 1
  have n2 := blk_cell hW.hnd 2
  have rd := blk_cell hW.hr dn
  have ra := blk_cell hW.hr an
  rw [regs_at (by omega)] at rd ra
  have rf := blk_frozen hW.hr dn
  simp at m8 n1 n2
  clear hW
  refine wp_region_still_tail 15 (by kernel_rfl) (by kernel_rfl) ?_
  simp only [List.take_succ_cons, List.take_zero, List.drop_succ_cons, List.drop_zero]
  repeat still_step
  refine wpStill_nil ?_
  go_wp2
  go_end0
  have hW := HW.out
  have K2 : Keeps [mb, rb, mp] w (W.setCell ⟨rb, dn, none⟩ (.int .i64 (getR σ.regs an))).drew := (hW.K.setCell (p := ⟨rb, dn, none⟩) (by simp) _).drew
  rw [show stp ⟨2, dn, an, b, t, e⟩ σ = { σ with pc := t.toNat, steps := σ.steps + 1, regs := setR σ.regs dn (getR σ.regs an) } from rfl]
  refine ⟨rfl, v, ia, ic, n, D, HM.out.next K2 ?_ ?_ ?_ ?_ HM.out.hin HM.out.hic rfl hlt (by have := HM.out.hn; omega) (Nat.le_succ _) (setR_len _ _ _) HM.out.rel HM.out.srt (fun c hc => by have := HM.out.cb c hc; omega), HM.out.below K2⟩
  · have := blk_set_ne (i := dn) (.int .i64 (getR σ.regs an)) hW.hm g7
    show _ = some (Obj.cells #[_, _, _, _, _, _, Value.int .i64 ((t.toNat : Nat) : Int), _, Value.slice _ (setR σ.regs dn (getR σ.regs an)).length _, _] _ _)
    rw [show ((t.toNat : Nat) : Int) = t from by omega, setR_len]
    exact this
  · have := blk_set (i := dn) (.int .i64 (getR σ.regs an)) hW.hr
    rw [regs_set] at this
    exact this
  · exact own_at hW.ho (Below.heap_setCell _ _ _ _ (by exact fun e => g9 e.symm))
  · exact ((Keeps.refl [rb] W).setCell (p := ⟨rb, dn, none⟩) (by simp) _).drew.owns hW.hout (by simp; omega)

set_option maxHeartbeats 2000000 in
set_option maxRecDepth 100000 in
theorem step_arith {B s mb rb mp nb noff ncap rc : Nat} {ns : List Nd} {w : World} {σ : St} {v : Value} {ia : Option Addr} {ic n : Nat} {D : DataW Unit} (M : MA B s mb rb mp nb noff ncap rc ns w σ v ia ic n D) {x : Nd} (hx : ns[σ.pc]? = some x) (hlen : ns.length ≤ 256) (hlt : σ.steps < 131072) (ht : 0 ≤ x.t) (hop : 3 ≤ x.op ∧ x.op ≤ 8) (hd : InR σ.regs x.d) (ha : InR σ.regs x.a) (hb : InR σ.regs x.b) :
    Calls Try.prog 31 #[.pointer (some ⟨mb, 0, none⟩)] w fun e w' => e = .returned (.tuple #[]) ∧ ∃ v' ia' ic' n' D', MA B s mb rb mp nb noff ncap rc ns w' (stp x σ) v' ia' ic' n' D' ∧ Below B w w' := by
  have hpc : σ.pc < ns.length := (List.getElem?_eq_some_iff.1 hx).1
  have hml := blk_lt M.hm
  have hnlt := M.hN.lt
  have hst0 := M.hst
  have m3 := blk_cell M.hm 3
  have m5 := blk_cell M.hm 5
  have m6 := blk_cell M.hm 6
  have f3 := blk_frozen M.hm 3
  have f6 := blk_frozen M.hm 6
  simp at m3 m5 m6
  have c0 := M.hN.c0 σ.pc x hx
  have c1 := M.hN.c1 σ.pc x hx
  have c2 := M.hN.c2 σ.pc x hx
  have c3 := M.hN.c3 σ.pc x hx
  have c4 := M.hN.c4 σ.pc x hx
  have c5 := M.hN.c5 σ.pc x hx
  have P3 := pre_of M x
  obtain ⟨op, d, a, b, t, e⟩ := x
  simp only at *
  obtain ⟨ho1, ho2⟩ := hop
  have HS := hide (And.intro m5 (And.intro m6 (And.intro c0 (And.intro c1 (And.intro c2 (And.intro c3 (And.intro c4 c5)))))))
  have HSa : Hid (∀ o, (w.alloc o).cell? ⟨mb, 5, none⟩ = some (.slice (some ⟨nb, noff, none⟩) ns.length ncap) ∧ (w.alloc o).cell? ⟨mb, 6, none⟩ = some (.int .i64 σ.pc) ∧ (w.alloc o).cell? ⟨nb, noff + σ.pc * 6, none⟩ = some (.int .i64 op) ∧ (w.alloc o).cell? ⟨nb, noff + σ.pc * 6 + 1, none⟩ = some (.int .i64 d) ∧ (w.alloc o).cell? ⟨nb, noff + σ.pc * 6 + 2, none⟩ = some (.int .i64 a) ∧ (w.alloc o).cell? ⟨nb, noff + σ.pc * 6 + 3, none⟩ = some (.int .i64 b) ∧ (w.alloc o).cell? ⟨nb, noff + σ.pc * 6 + 4, none⟩ = some (.int .i64 t) ∧ (w.alloc o).cell? ⟨nb, noff + σ.pc * 6 + 5, none⟩ = some (.int .i64 e)) := by
    intro o
    simp only [World.cell?_alloc_past _ _ _ hml, World.cell?_alloc_past _ _ _ hnlt]
    exact HS.out
  have hpi : (σ.pc : Int) < (ns.length : Int) := by omega
  have hpi0 : (0 : Int) ≤ (σ.pc : Int) := by omega
  have HM := hide M
  have HX := hide hx
  have HP := hide P3
  clear M hx P3
  go_enter Try.func31, Try.ntmps31
  go_wp2
  go_region_held3 (fun u => u.cell? ⟨mb, 5, none⟩ = some (.slice (some ⟨nb, noff, none⟩) ns.length ncap) ∧ u.cell? ⟨mb, 6, none⟩ = some (.int .i64 σ.pc) ∧ u.cell? ⟨nb, noff + σ.pc * 6, none⟩ = some (.int .i64 op) ∧ u.cell? ⟨nb, noff + σ.pc * 6 + 1, none⟩ = some (.int .i64 d) ∧ u.cell? ⟨nb, noff + σ.pc * 6 + 2, none⟩ = some (.int .i64 a) ∧ u.cell? ⟨nb, noff + σ.pc * 6 + 3, none⟩ = some (.int .i64 b) ∧ u.cell? ⟨nb, noff + σ.pc * 6 + 4, none⟩ = some (.int .i64 t) ∧ u.cell? ⟨nb, noff + σ.pc * 6 + 5, none⟩ = some (.int .i64 e)) (first | exact HS.out | exact HSa.out _) (fail)
  go_wp2_with fail
  clear m3 m5 m6 f3 f6 c0 c1 c2 c3 c4 c5 HS HSa hpi hpi0
  have hW := HP.out
  unfold W3 at hW
  generalize (((w.setCell ⟨mb, 3, none⟩ (.int .i64 ((σ.steps : Int) + 1))).setCell ⟨mb, 6, none⟩ (.int .i64 t)).alloc (.cells #[.int .i64 op, .int .i64 d, .int .i64 a, .int .i64 b, .int .i64 t, .int .i64 e] 53)).drew = W at hW ⊢
  clear HP
  obtain ⟨g1, g2, g3, g4, g5, g6, g7, g8, g9⟩ := HM.out.geo
  have hss := HM.out.hs
  have hnn := HM.out.hn
  refine (reckonM_any mb rb mp _ _ _ _ _ _ _ _ rc #[] σ.regs n D ⟨op, d, a, b, t, e⟩ W hW.hm hW.hr hW.ho (by omega) ⟨g7, g8, g9⟩ ⟨ho1, ho2⟩ hd ha hb HM.out.hrl).mono ?_
  rintro e1 w4 ⟨rfl, hr4, ⟨c, hat, ho4⟩, K4⟩
  go_wp2
  go_end0
  have hsz := hW.K.size
  have K2 : Keeps [mb, rb, mp] w w4 := hW.K.trans (K4.mono (by simp))
  have htw : twf (tmOf ⟨op, d, a, b, t, e⟩) := ⟨small_wf (by simp [tmOf]; omega) (by simp [tmOf]; omega), small_wf (by simp [tmOf]; exact ha.1) (by have h1 : a < (σ.regs.length : Int) := ha.2; have h2 := HM.out.hrl; show a ≤ 1000000; omega), small_wf (by simp [tmOf]; exact hb.1) (by have h1 : b < (σ.regs.length : Int) := hb.2; have h2 := HM.out.hrl; show b ≤ 1000000; omega)⟩
  obtain ⟨hcc, hrel⟩ := HM.out.rel.more HM.out.srt htw hat
  have hcb : 0 ≤ c ∧ c ≤ 131072 := by
    rw [hcc]
    cases hq : ctOf σ.cts (tmOf ⟨op, d, a, b, t, e⟩) with
    | none => simp
    | some m => have := HM.out.cb _ (ctOf_mem hq); simp at this ⊢; omega
  have hwr : wrap64 (c + 1) = c + 1 := by unfold wrap64; omega
  rw [hwr] at ho4
  rw [show stp ⟨op, d, a, b, t, e⟩ σ = { σ with pc := t.toNat, steps := σ.steps + 1, regs := setR σ.regs d (rk op (getR σ.regs a) (getR σ.regs b)), cts := omore σ.cts (tmOf ⟨op, d, a, b, t, e⟩) } from by
    simp only [stp]; rw [if_neg (by omega), if_neg (by omega), if_neg (by omega), if_neg (by omega), if_neg (by omega), if_neg (by omega), if_neg (by omega)]]
  refine ⟨rfl, v, ia, ic, n + 1, _, HM.out.next K2 ?_ hr4 ho4 (K4.owns hW.hout (by simp; omega)) HM.out.hin HM.out.hic rfl hlt (by omega) (Nat.le_succ _) (setR_len _ _ _) hrel (omore_srt HM.out.srt _) (omore_le (by omega) (fun c hc => by have := HM.out.cb c hc; omega)), HM.out.below K2⟩
  have hm4 : w4.heap[mb]? = _ := (K4.block mb (blk_lt hW.hm) (by simp; omega)).trans hW.hm
  show _ = some (Obj.cells #[_, _, _, _, _, _, Value.int .i64 ((t.toNat : Nat) : Int), _, Value.slice _ (setR σ.regs d (rk op (getR σ.regs a) (getR σ.regs b))).length _, _] _ _)
  rw [show ((t.toNat : Nat) : Int) = t from by omega, setR_len]
  exact hm4

set_option maxHeartbeats 2000000 in
set_option maxRecDepth 100000 in
theorem step_iff {B s mb rb mp nb noff ncap rc : Nat} {ns : List Nd} {w : World} {σ : St} {v : Value} {ia : Option Addr} {ic n : Nat} {D : DataW Unit} (M : MA B s mb rb mp nb noff ncap rc ns w σ v ia ic n D) {x : Nd} (hx : ns[σ.pc]? = some x) (hlen : ns.length ≤ 256) (hlt : σ.steps < 131072) (ht : 0 ≤ x.t) (hop : x.op = 11) (ha : InR σ.regs x.a) (he : 0 ≤ x.e) :
    Calls Try.prog 31 #[.pointer (some ⟨mb, 0, none⟩)] w fun e w' => e = .returned (.tuple #[]) ∧ ∃ v' ia' ic' n' D', MA B s mb rb mp nb noff ncap rc ns w' (stp x σ) v' ia' ic' n' D' ∧ Below B w w' := by
  have hpc : σ.pc < ns.length := (List.getElem?_eq_some_iff.1 hx).1
  have hml := blk_lt M.hm
  have hnlt := M.hN.lt
  have hst0 := M.hst
  have m3 := blk_cell M.hm 3
  have m5 := blk_cell M.hm 5
  have m6 := blk_cell M.hm 6
  have f3 := blk_frozen M.hm 3
  have f6 := blk_frozen M.hm 6
  simp at m3 m5 m6
  have c0 := M.hN.c0 σ.pc x hx
  have c1 := M.hN.c1 σ.pc x hx
  have c2 := M.hN.c2 σ.pc x hx
  have c3 := M.hN.c3 σ.pc x hx
  have c4 := M.hN.c4 σ.pc x hx
  have c5 := M.hN.c5 σ.pc x hx
  have P3 := pre_of M x
  obtain ⟨op, d, a, b, t, e⟩ := x
  simp only at *
  subst hop
  have HS := hide (And.intro m5 (And.intro m6 (And.intro c0 (And.intro c1 (And.intro c2 (And.intro c3 (And.intro c4 c5)))))))
  have HSa : Hid (∀ o, (w.alloc o).cell? ⟨mb, 5, none⟩ = some (.slice (some ⟨nb, noff, none⟩) ns.length ncap) ∧ (w.alloc o).cell? ⟨mb, 6, none⟩ = some (.int .i64 σ.pc) ∧ (w.alloc o).cell? ⟨nb, noff + σ.pc * 6, none⟩ = some (.int .i64 11) ∧ (w.alloc o).cell? ⟨nb, noff + σ.pc * 6 + 1, none⟩ = some (.int .i64 d) ∧ (w.alloc o).cell? ⟨nb, noff + σ.pc * 6 + 2, none⟩ = some (.int .i64 a) ∧ (w.alloc o).cell? ⟨nb, noff + σ.pc * 6 + 3, none⟩ = some (.int .i64 b) ∧ (w.alloc o).cell? ⟨nb, noff + σ.pc * 6 + 4, none⟩ = some (.int .i64 t) ∧ (w.alloc o).cell? ⟨nb, noff + σ.pc * 6 + 5, none⟩ = some (.int .i64 e)) := by
    intro o
    simp only [World.cell?_alloc_past _ _ _ hml, World.cell?_alloc_past _ _ _ hnlt]
    exact HS.out
  have hpi : (σ.pc : Int) < (ns.length : Int) := by omega
  have hpi0 : (0 : Int) ≤ (σ.pc : Int) := by omega
  have HM := hide M
  have HX := hide hx
  have HP := hide P3
  clear M hx P3
  go_enter Try.func31, Try.ntmps31
  go_wp2
  go_region_held3 (fun u => u.cell? ⟨mb, 5, none⟩ = some (.slice (some ⟨nb, noff, none⟩) ns.length ncap) ∧ u.cell? ⟨mb, 6, none⟩ = some (.int .i64 σ.pc) ∧ u.cell? ⟨nb, noff + σ.pc * 6, none⟩ = some (.int .i64 11) ∧ u.cell? ⟨nb, noff + σ.pc * 6 + 1, none⟩ = some (.int .i64 d) ∧ u.cell? ⟨nb, noff + σ.pc * 6 + 2, none⟩ = some (.int .i64 a) ∧ u.cell? ⟨nb, noff + σ.pc * 6 + 3, none⟩ = some (.int .i64 b) ∧ u.cell? ⟨nb, noff + σ.pc * 6 + 4, none⟩ = some (.int .i64 t) ∧ u.cell? ⟨nb, noff + σ.pc * 6 + 5, none⟩ = some (.int .i64 e)) (first | exact HS.out | exact HSa.out _) (fail)
  go_wp2
  clear m3 m5 m6 f3 f6 c0 c1 c2 c3 c4 c5 HS HSa hpi hpi0
  have hW := HP.out
  unfold W3 at hW
  generalize (((w.setCell ⟨mb, 3, none⟩ (.int .i64 ((σ.steps : Int) + 1))).setCell ⟨mb, 6, none⟩ (.int .i64 t)).alloc (.cells #[.int .i64 11, .int .i64 d, .int .i64 a, .int .i64 b, .int .i64 t, .int .i64 e] 53)).drew = W at hW ⊢
  clear HP
  have HW := hide hW
  obtain ⟨g1, g2, g3, g4, g5, g6, g7, g8, g9⟩ := HM.out.geo
  have wml := blk_lt hW.hm
  have wrl := blk_lt hW.hr
  have wnl := blk_lt hW.hnd
  have hss := HM.out.hs
  obtain ⟨ha0, ha1⟩ := ha
  obtain ⟨an, rfl⟩ := Int.eq_ofNat_of_zero_le ha0
  have m6 := blk_cell hW.hm 6
  have m8 := blk_cell hW.hm 8
  have f6 := blk_frozen hW.hm 6
  have n2 := blk_cell hW.hnd 2
  have n5 := blk_cell hW.hnd 5
  have ra := blk_cell hW.hr an
  rw [regs_at (by omega)] at ra
  simp at m6 m8 n2 n5
  clear hW
  by_cases hz : getR σ.regs an = 0
  · have hzb : (getR σ.regs (an : Int) == 0) = true := by simp [hz]
    have HZ := hide hz
    clear hz
    go_quiet (fail)
    go_wp2
    go_end0
    have hW := HW.out
    rw [show stp ⟨11, d, an, b, t, e⟩ σ = { σ with pc := e.toNat, steps := σ.steps + 1 } from by
      show ({ σ with pc := (if getR σ.regs an = 0 then e else t).toNat, steps := σ.steps + 1 } : St) = _; rw [if_pos HZ.out]]
    have K2 : Keeps [mb, rb, mp] w ((W.setCell ⟨mb, 6, none⟩ (.int .i64 e)).drewN nq) := (hW.K.setCell (p := ⟨mb, 6, none⟩) (by simp) _).drewN nq
    refine ⟨rfl, v, ia, ic, n, D, HM.out.next K2 ?_ ?_ ?_ ?_ HM.out.hin HM.out.hic rfl hlt (by have := HM.out.hn; omega) (Nat.le_succ _) rfl HM.out.rel HM.out.srt (fun c hc => by have := HM.out.cb c hc; omega), HM.out.below K2⟩
    · have := blk_set (i := 6) (.int .i64 e) hW.hm
      show _ = some (Obj.cells #[_, _, _, _, _, _, Value.int .i64 ((e.toNat : Nat) : Int), _, _, _] _ _)
      rw [show ((e.toNat : Nat) : Int) = e from by omega]
      exact this
    · exact blk_set_ne _ hW.hr (fun e => g7 e.symm)
    · exact own_at hW.ho (Below.heap_setCell _ _ _ _ (by exact fun e => g8 e.symm))
    · exact ((Keeps.refl [mb] W).setCell (p := ⟨mb, 6, none⟩) (by simp) _).owns hW.hout (by simp; omega)
  · have hzb : (getR σ.regs (an : Int) == 0) = false := by simp [hz]
    have HZ := hide hz
    clear hz
    go_quiet (fail)
    go_wp2
    go_end0
    have hW := HW.out
    rw [show stp ⟨11, d, an, b, t, e⟩ σ = { σ with pc := t.toNat, steps := σ.steps + 1 } from by
      show ({ σ with pc := (if getR σ.regs an = 0 then e else t).toNat, steps := σ.steps + 1 } : St) = _; rw [if_neg HZ.out]]
    have K2 : Keeps [mb, rb, mp] w (W.drewN nq) := hW.K.drewN nq
    refine ⟨rfl, v, ia, ic, n, D, HM.out.next K2 ?_ hW.hr hW.ho hW.hout HM.out.hin HM.out.hic rfl hlt (by have := HM.out.hn; omega) (Nat.le_succ _) rfl HM.out.rel HM.out.srt (fun c hc => by have := HM.out.cb c hc; omega), HM.out.below K2⟩
    have := hW.hm
    show _ = some (Obj.cells #[_, _, _, _, _, _, Value.int .i64 ((t.toNat : Nat) : Int), _, _, _] _ _)
    rw [show ((t.toNat : Nat) : Int) = t from by omega]
    exact this
end Go.Proofs.Ytoikglgnmjjpcab
