/-
  run.machine.step, walked: one node is done (End).
-/
import Derived.Test.YtoikglgnmjjpcaaRE
namespace Go.Proofs.Ytoikglgnmjjpcaa
open Go.RowKit Go.Maps Go.ChangeMaps
set_option linter.unusedVariables false

set_option maxHeartbeats 2000000 in
set_option maxRecDepth 100000 in
theorem step_end {B s mb rb mp nb noff ncap rc : Nat} {ns : List Nd} {w : World} {σ : St} {v : Value} {ia : Option Addr} {ic n : Nat} {D : DataW Unit} (M : MA B s mb rb mp nb noff ncap rc ns w σ v ia ic n D) {x : Nd} (hx : ns[σ.pc]? = some x) (hlen : ns.length ≤ 256) (hlt : σ.steps < 131072) (ht : 0 ≤ x.t) (hop : x.op = 12) (ha : InR σ.regs x.a) :
    Calls Try.prog 71 #[.pointer (some ⟨mb, 0, none⟩)] w fun e w' => e = .returned (.tuple #[]) ∧ ∃ v' ia' ic' n' D', MA B s mb rb mp nb noff ncap rc ns w' (stp x σ) v' ia' ic' n' D' ∧ Below B w w' := by
  have hpc : σ.pc < ns.length := (List.getElem?_eq_some_iff.1 hx).1
  have hml := blk_lt M.hm
  have hnlt := M.hN.lt
  have hst0 := M.hst
  have m3 := blk_cell M.hm 3
  have m5 := blk_cell M.hm 5
  have m6 := blk_cell M.hm 6
  have f3 := blk_frozen M.hm 3
  have f6 := blk_frozen M.hm 6
  simp at m3 m5 m6
  have c0 := M.hN.c0 σ.pc x hx
  have c1 := M.hN.c1 σ.pc x hx
  have c2 := M.hN.c2 σ.pc x hx
  have c3 := M.hN.c3 σ.pc x hx
  have c4 := M.hN.c4 σ.pc x hx
  have c5 := M.hN.c5 σ.pc x hx
  have P3 := pre_of M x
  obtain ⟨op, d, a, b, t, e⟩ := x
  simp only at *
  subst hop
  have HS := hide (And.intro m5 (And.intro m6 (And.intro c0 (And.intro c1 (And.intro c2 (And.intro c3 (And.intro c4 c5)))))))
  have HSa : Hid (∀ o, (w.alloc o).cell? ⟨mb, 5, none⟩ = some (.slice (some ⟨nb, noff, none⟩) ns.length ncap) ∧ (w.alloc o).cell? ⟨mb, 6, none⟩ = some (.int .i64 σ.pc) ∧ (w.alloc o).cell? ⟨nb, noff + σ.pc * 6, none⟩ = some (.int .i64 12) ∧ (w.alloc o).cell? ⟨nb, noff + σ.pc * 6 + 1, none⟩ = some (.int .i64 d) ∧ (w.alloc o).cell? ⟨nb, noff + σ.pc * 6 + 2, none⟩ = some (.int .i64 a) ∧ (w.alloc o).cell? ⟨nb, noff + σ.pc * 6 + 3, none⟩ = some (.int .i64 b) ∧ (w.alloc o).cell? ⟨nb, noff + σ.pc * 6 + 4, none⟩ = some (.int .i64 t) ∧ (w.alloc o).cell? ⟨nb, noff + σ.pc * 6 + 5, none⟩ = some (.int .i64 e)) := by
    intro o
    simp only [World.cell?_alloc_past _ _ _ hml, World.cell?_alloc_past _ _ _ hnlt]
    exact HS.out
  have hpi : (σ.pc : Int) < (ns.length : Int) := by omega
  have hpi0 : (0 : Int) ≤ (σ.pc : Int) := by omega
  have HM := hide M
  have HX := hide hx
  have HP := hide P3
  clear M hx P3
  go_enter Try.func71, Try.ntmps71
  go_wp2
  go_region_held3 (fun u => u.cell? ⟨mb, 5, none⟩ = some (.slice (some ⟨nb, noff, none⟩) ns.length ncap) ∧ u.cell? ⟨mb, 6, none⟩ = some (.int .i64 σ.pc) ∧ u.cell? ⟨nb, noff + σ.pc * 6, none⟩ = some (.int .i64 12) ∧ u.cell? ⟨nb, noff + σ.pc * 6 + 1, none⟩ = some (.int .i64 d) ∧ u.cell? ⟨nb, noff + σ.pc * 6 + 2, none⟩ = some (.int .i64 a) ∧ u.cell? ⟨nb, noff + σ.pc * 6 + 3, none⟩ = some (.int .i64 b) ∧ u.cell? ⟨nb, noff + σ.pc * 6 + 4, none⟩ = some (.int .i64 t) ∧ u.cell? ⟨nb, noff + σ.pc * 6 + 5, none⟩ = some (.int .i64 e)) (first | exact HS.out | exact HSa.out _) (fail)
  go_wp2
  clear m3 m5 m6 f3 f6 c0 c1 c2 c3 c4 c5 HS HSa hpi hpi0
  have hW := HP.out
  unfold W3 at hW
  generalize (((w.setCell ⟨mb, 3, none⟩ (.int .i64 ((σ.steps : Int) + 1))).setCell ⟨mb, 6, none⟩ (.int .i64 t)).alloc (.cells #[.int .i64 12, .int .i64 d, .int .i64 a, .int .i64 b, .int .i64 t, .int .i64 e] 87)).drew = W at hW ⊢
  clear HP
  have HW := hide hW
  obtain ⟨g1, g2, g3, g4, g5, g6, g7, g8, g9⟩ := HM.out.geo
  have wml := blk_lt hW.hm
  have wrl := blk_lt hW.hr
  have wnl := blk_lt hW.hnd
  have hss := HM.out.hs
  obtain ⟨ha0, ha1⟩ := ha
  obtain ⟨an, rfl⟩ := Int.eq_ofNat_of_zero_le ha0
  have m1 := blk_cell hW.hm 1
  have m2 := blk_cell hW.hm 2
  have m8 := blk_cell hW.hm 8
  have f1 := blk_frozen hW.hm 1
  have f2 := blk_frozen hW.hm 2
  have n2 := blk_cell hW.hnd 2
  have ra := blk_cell hW.hr an
  rw [regs_at (by omega)] at ra
  simp at m1 m2 m8 n2
  clear hW
  go_region
  go_wp2
  go_end0
  have hW := HW.out
  rw [show stp ⟨12, d, an, b, t, e⟩ σ = { σ with pc := t.toNat, steps := σ.steps + 1, ret := getR σ.regs an, ended := true } from rfl]
  have K2 : Keeps [mb, rb, mp] w ((W.setCell ⟨mb, 1, none⟩ (.int .i64 (getR σ.regs an))).setCell ⟨mb, 2, none⟩ (.bool true)).drew := ((hW.K.setCell (p := ⟨mb, 1, none⟩) (by simp) _).setCell (p := ⟨mb, 2, none⟩) (by simp) _).drew
  refine ⟨rfl, v, ia, ic, n, D, HM.out.next K2 ?_ ?_ ?_ ?_ HM.out.hin HM.out.hic rfl hlt (by have := HM.out.hn; omega) (Nat.le_succ _) rfl HM.out.rel HM.out.srt (fun c hc => by have := HM.out.cb c hc; omega), HM.out.below K2⟩
  · have := blk_set (i := 2) (.bool true) (blk_set (i := 1) (.int .i64 (getR σ.regs an)) hW.hm)
    show _ = some (Obj.cells #[_, _, _, _, _, _, Value.int .i64 ((t.toNat : Nat) : Int), _, _, _] _ _)
    rw [show ((t.toNat : Nat) : Int) = t from by omega]
    exact this
  · exact blk_set_ne _ (blk_set_ne _ hW.hr (fun e => g7 e.symm)) (fun e => g7 e.symm)
  · refine own_at hW.ho ?_
    show ((W.setCell ⟨mb, 1, none⟩ _).setCell ⟨mb, 2, none⟩ _).heap[mp]? = _
    rw [Below.heap_setCell _ _ _ _ (by exact fun e => g8 e.symm), Below.heap_setCell _ _ _ _ (by exact fun e => g8 e.symm)]
  · exact (((Keeps.refl [mb] W).setCell (p := ⟨mb, 1, none⟩) (by simp) _).setCell (p := ⟨mb, 2, none⟩) (by simp) _).drew.owns hW.hout (by simp; omega)
end Go.Proofs.Ytoikglgnmjjpcaa
