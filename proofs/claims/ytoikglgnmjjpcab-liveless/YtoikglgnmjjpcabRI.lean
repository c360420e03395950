/-
  run.machine.step, walked: one node is done (In).
  run.machine.step, walked: one node is done (End).
  run.machine.step, walked: one node is done (Skip and Set).
-/
import Derived.Test.YtoikglgnmjjpcabRE
namespace Go.Proofs.Ytoikglgnmjjpcab
open Go.RowKit Go.Maps Go.ChangeMaps
set_option linter.unusedVariables false

set_option maxHeartbeats 2000000 in
set_option maxRecDepth 100000 in
theorem step_skip {B s mb rb mp nb noff ncap rc : Nat} {ns : List Nd} {w : World} {σ : St} {v : Value} {ia : Option Addr} {ic n : Nat} {D : DataW Unit} (M : MA B s mb rb mp nb noff ncap rc ns w σ v ia ic n D) {x : Nd} (hx : ns[σ.pc]? = some x) (hlen : ns.length ≤ 256) (hlt : σ.steps < 131072) (ht : 0 ≤ x.t) (hop : x.op = 0) :
    Calls Try.prog 31 #[.pointer (some ⟨mb, 0, none⟩)] w fun e w' => e = .returned (.tuple #[]) ∧ ∃ v' ia' ic' n' D', MA B s mb rb mp nb noff ncap rc ns w' (stp x σ) v' ia' ic' n' D' ∧ Below B w w' := by
  have hpc : σ.pc < ns.length := (List.getElem?_eq_some_iff.1 hx).1
  have hml := blk_lt M.hm
  have hnlt := M.hN.lt
  have hst0 := M.hst
  have m3 := blk_cell M.hm 3
  have m5 := blk_cell M.hm 5
  have m6 := blk_cell M.hm 6
  have f3 := blk_frozen M.hm 3
  have f6 := blk_frozen M.hm 6
  simp at m3 m5 m6
  have c0 := M.hN.c0 σ.pc x hx
  have c1 := M.hN.c1 σ.pc x hx
  have c2 := M.hN.c2 σ.pc x hx
  have c3 := M.hN.c3 σ.pc x hx
  have c4 := M.hN.c4 σ.pc x hx
  have c5 := M.hN.c5 σ.pc x hx
  have P3 := pre_of M x
  obtain ⟨op, d, a, b, t, e⟩ := x
  simp only at *
  subst hop
  have HS := hide (And.intro m5 (And.intro m6 (And.intro c0 (And.intro c1 (And.intro c2 (And.intro c3 (And.intro c4 c5)))))))
  have HSa : Hid (∀ o, (w.alloc o).cell? ⟨mb, 5, none⟩ = some (.slice (some ⟨nb, noff, none⟩) ns.length ncap) ∧ (w.alloc o).cell? ⟨mb, 6, none⟩ = some (.int .i64 σ.pc) ∧ (w.alloc o).cell? ⟨nb, noff + σ.pc * 6, none⟩ = some (.int .i64 0) ∧ (w.alloc o).cell? ⟨nb, noff + σ.pc * 6 + 1, none⟩ = some (.int .i64 d) ∧ (w.alloc o).cell? ⟨nb, noff + σ.pc * 6 + 2, none⟩ = some (.int .i64 a) ∧ (w.alloc o).cell? ⟨nb, noff + σ.pc * 6 + 3, none⟩ = some (.int .i64 b) ∧ (w.alloc o).cell? ⟨nb, noff + σ.pc * 6 + 4, none⟩ = some (.int .i64 t) ∧ (w.alloc o).cell? ⟨nb, noff + σ.pc * 6 + 5, none⟩ = some (.int .i64 e)) := by
    intro o
    simp only [World.cell?_alloc_past _ _ _ hml, World.cell?_alloc_past _ _ _ hnlt]
    exact HS.out
  have hpi : (σ.pc : Int) < (ns.length : Int) := by omega
  have hpi0 : (0 : Int) ≤ (σ.pc : Int) := by omega
  have HM := hide M
  have HX := hide hx
  have HP := hide P3
  clear M hx P3
  go_enter Try.func31, Try.ntmps31
  go_wp2
  go_region_held3 (fun u => u.cell? ⟨mb, 5, none⟩ = some (.slice (some ⟨nb, noff, none⟩) ns.length ncap) ∧ u.cell? ⟨mb, 6, none⟩ = some (.int .i64 σ.pc) ∧ u.cell? ⟨nb, noff + σ.pc * 6, none⟩ = some (.int .i64 0) ∧ u.cell? ⟨nb, noff + σ.pc * 6 + 1, none⟩ = some (.int .i64 d) ∧ u.cell? ⟨nb, noff + σ.pc * 6 + 2, none⟩ = some (.int .i64 a) ∧ u.cell? ⟨nb, noff + σ.pc * 6 + 3, none⟩ = some (.int .i64 b) ∧ u.cell? ⟨nb, noff + σ.pc * 6 + 4, none⟩ = some (.int .i64 t) ∧ u.cell? ⟨nb, noff + σ.pc * 6 + 5, none⟩ = some (.int .i64 e)) (first | exact HS.out | exact HSa.out _) (fail)
  go_wp2
  go_end0
  have hW := HP.out
  rw [show stp ⟨0, d, a, b, t, e⟩ σ = { σ with pc := t.toNat, steps := σ.steps + 1 } from rfl]
  refine ⟨rfl, v, ia, ic, n, D, HM.out.next hW.K ?_ hW.hr hW.ho hW.hout HM.out.hin HM.out.hic rfl hlt (by have := HM.out.hn; omega) (Nat.le_succ _) rfl HM.out.rel HM.out.srt (fun c hc => by have := HM.out.cb c hc; omega), HM.out.below hW.K⟩
  have := hW.hm
  show _ = some (Obj.cells #[_, _, _, _, _, _, Value.int .i64 ((t.toNat : Nat) : Int), _, _, _] _ _)
  rw [show ((t.toNat : Nat) : Int) = t from by omega]
  exact this

set_option maxHeartbeats 2000000 in
set_option maxRecDepth 100000 in
theorem step_set {B s mb rb mp nb noff ncap rc : Nat} {ns : List Nd} {w : World} {σ : St} {v : Value} {ia : Option Addr} {ic n : Nat} {D : DataW Unit} (M : MA B s mb rb mp nb noff ncap rc ns w σ v ia ic n D) {x : Nd} (hx : ns[σ.pc]? = some x) (hlen : ns.length ≤ 256) (hlt : σ.steps < 131072) (ht : 0 ≤ x.t) (hop : x.op = 1) (hd : InR σ.regs x.d) :
    Calls Try.prog 31 #[.pointer (some ⟨mb, 0, none⟩)] w fun e w' => e = .returned (.tuple #[]) ∧ ∃ v' ia' ic' n' D', MA B s mb rb mp nb noff ncap rc ns w' (stp x σ) v' ia' ic' n' D' ∧ Below B w w' := by
  have hpc : σ.pc < ns.length := (List.getElem?_eq_some_iff.1 hx).1
  have hml := blk_lt M.hm
  have hnlt := M.hN.lt
  have hst0 := M.hst
  have m3 := blk_cell M.hm 3
  have m5 := blk_cell M.hm 5
  have m6 := blk_cell M.hm 6
  have f3 := blk_frozen M.hm 3
  have f6 := blk_frozen M.hm 6
  simp at m3 m5 m6
  have c0 := M.hN.c0 σ.pc x hx
  have c1 := M.hN.c1 σ.pc x hx
  have c2 := M.hN.c2 σ.pc x hx
  have c3 := M.hN.c3 σ.pc x hx
  have c4 := M.hN.c4 σ.pc x hx
  have c5 := M.hN.c5 σ.pc x hx
  have P3 := pre_of M x
  obtain ⟨op, d, a, b, t, e⟩ := x
  simp only at *
  subst hop
  have HS := hide (And.intro m5 (And.intro m6 (And.intro c0 (And.intro c1 (And.intro c2 (And.intro c3 (And.intro c4 c5)))))))
  have HSa : Hid (∀ o, (w.alloc o).cell? ⟨mb, 5, none⟩ = some (.slice (some ⟨nb, noff, none⟩) ns.length ncap) ∧ (w.alloc o).cell? ⟨mb, 6, none⟩ = some (.int .i64 σ.pc) ∧ (w.alloc o).cell? ⟨nb, noff + σ.pc * 6, none⟩ = some (.int .i64 1) ∧ (w.alloc o).cell? ⟨nb, noff + σ.pc * 6 + 1, none⟩ = some (.int .i64 d) ∧ (w.alloc o).cell? ⟨nb, noff + σ.pc * 6 + 2, none⟩ = some (.int .i64 a) ∧ (w.alloc o).cell? ⟨nb, noff + σ.pc * 6 + 3, none⟩ = some (.int .i64 b) ∧ (w.alloc o).cell? ⟨nb, noff + σ.pc * 6 + 4, none⟩ = some (.int .i64 t) ∧ (w.alloc o).cell? ⟨nb, noff + σ.pc * 6 + 5, none⟩ = some (.int .i64 e)) := by
    intro o
    simp only [World.cell?_alloc_past _ _ _ hml, World.cell?_alloc_past _ _ _ hnlt]
    exact HS.out
  have hpi : (σ.pc : Int) < (ns.length : Int) := by omega
  have hpi0 : (0 : Int) ≤ (σ.pc : Int) := by omega
  have HM := hide M
  have HX := hide hx
  have HP := hide P3
  clear M hx P3
  go_enter Try.func31, Try.ntmps31
  go_wp2
  go_region_held3 (fun u => u.cell? ⟨mb, 5, none⟩ = some (.slice (some ⟨nb, noff, none⟩) ns.length ncap) ∧ u.cell? ⟨mb, 6, none⟩ = some (.int .i64 σ.pc) ∧ u.cell? ⟨nb, noff + σ.pc * 6, none⟩ = some (.int .i64 1) ∧ u.cell? ⟨nb, noff + σ.pc * 6 + 1, none⟩ = some (.int .i64 d) ∧ u.cell? ⟨nb, noff + σ.pc * 6 + 2, none⟩ = some (.int .i64 a) ∧ u.cell? ⟨nb, noff + σ.pc * 6 + 3, none⟩ = some (.int .i64 b) ∧ u.cell? ⟨nb, noff + σ.pc * 6 + 4, none⟩ = some (.int .i64 t) ∧ u.cell? ⟨nb, noff + σ.pc * 6 + 5, none⟩ = some (.int .i64 e)) (first | exact HS.out | exact HSa.out _) (fail)
  go_wp2
  clear m3 m5 m6 f3 f6 c0 c1 c2 c3 c4 c5 HS HSa hpi hpi0
  have hW := HP.out
  unfold W3 at hW
  generalize (((w.setCell ⟨mb, 3, none⟩ (.int .i64 ((σ.steps : Int) + 1))).setCell ⟨mb, 6, none⟩ (.int .i64 t)).alloc (.cells #[.int .i64 1, .int .i64 d, .int .i64 a, .int .i64 b, .int .i64 t, .int .i64 e] 53)).drew = W at hW ⊢
  clear HP
  have HW := hide hW
  obtain ⟨g1, g2, g3, g4, g5, g6, g7, g8, g9⟩ := HM.out.geo
  have wml := blk_lt hW.hm
  have wrl := blk_lt hW.hr
  have wnl := blk_lt hW.hnd
  have hss := HM.out.hs
  obtain ⟨hd0, hd1⟩ := hd
  obtain ⟨dn, rfl⟩ := Int.eq_ofNat_of_zero_le hd0
  have m8 := blk_cell hW.hm 8
  have n1 := blk_cell hW.hnd 1
  have n2 := blk_cell hW.hnd 2
  have rd := blk_cell hW.hr dn
  rw [regs_at (by omega)] at rd
  have rf := blk_frozen hW.hr dn
  simp at m8 n1 n2
  clear hW
  refine wp_region_still_tail 9 (by kernel_rfl) (by kernel_rfl) ?_
  simp only [List.take_succ_cons, List.take_zero, List.drop_succ_cons, List.drop_zero]
  repeat still_step
  refine wpStill_nil ?_
  go_wp2
  go_end0
  have hW := HW.out
  have K2 : Keeps [mb, rb, mp] w (W.setCell ⟨rb, dn, none⟩ (.int .i64 a)).drew := (hW.K.setCell (p := ⟨rb, dn, none⟩) (by simp) _).drew
  rw [show stp ⟨1, dn, a, b, t, e⟩ σ = { σ with pc := t.toNat, steps := σ.steps + 1, regs := setR σ.regs dn a } from rfl]
  refine ⟨rfl, v, ia, ic, n, D, HM.out.next K2 ?_ ?_ ?_ ?_ HM.out.hin HM.out.hic rfl hlt (by have := HM.out.hn; omega) (Nat.le_succ _) (setR_len _ _ _) HM.out.rel HM.out.srt (fun c hc => by have := HM.out.cb c hc; omega), HM.out.below K2⟩
  · have := blk_set_ne (i := dn) (.int .i64 a) hW.hm g7
    show _ = some (Obj.cells #[_, _, _, _, _, _, Value.int .i64 ((t.toNat : Nat) : Int), _, Value.slice _ (setR σ.regs dn a).length _, _] _ _)
    rw [show ((t.toNat : Nat) : Int) = t from by omega, setR_len]
    exact this
  · have := blk_set (i := dn) (.int .i64 a) hW.hr
    rw [regs_set] at this
    exact this
  · exact own_at hW.ho (Below.heap_setCell _ _ _ _ (by exact fun e => g9 e.symm))
  · exact ((Keeps.refl [rb] W).setCell (p := ⟨rb, dn, none⟩) (by simp) _).drew.owns hW.hout (by simp; omega)
end Go.Proofs.Ytoikglgnmjjpcab

namespace Go.Proofs.Ytoikglgnmjjpcab
open Go.RowKit Go.Maps Go.ChangeMaps
set_option linter.unusedVariables false

set_option maxHeartbeats 2000000 in
set_option maxRecDepth 100000 in
theorem step_end {B s mb rb mp nb noff ncap rc : Nat} {ns : List Nd} {w : World} {σ : St} {v : Value} {ia : Option Addr} {ic n : Nat} {D : DataW Unit} (M : MA B s mb rb mp nb noff ncap rc ns w σ v ia ic n D) {x : Nd} (hx : ns[σ.pc]? = some x) (hlen : ns.length ≤ 256) (hlt : σ.steps < 131072) (ht : 0 ≤ x.t) (hop : x.op = 12) (ha : InR σ.regs x.a) :
    Calls Try.prog 31 #[.pointer (some ⟨mb, 0, none⟩)] w fun e w' => e = .returned (.tuple #[]) ∧ ∃ v' ia' ic' n' D', MA B s mb rb mp nb noff ncap rc ns w' (stp x σ) v' ia' ic' n' D' ∧ Below B w w' := by
  have hpc : σ.pc < ns.length := (List.getElem?_eq_some_iff.1 hx).1
  have hml := blk_lt M.hm
  have hnlt := M.hN.lt
  have hst0 := M.hst
  have m3 := blk_cell M.hm 3
  have m5 := blk_cell M.hm 5
  have m6 := blk_cell M.hm 6
  have f3 := blk_frozen M.hm 3
  have f6 := blk_frozen M.hm 6
  simp at m3 m5 m6
  have c0 := M.hN.c0 σ.pc x hx
  have c1 := M.hN.c1 σ.pc x hx
  have c2 := M.hN.c2 σ.pc x hx
  have c3 := M.hN.c3 σ.pc x hx
  have c4 := M.hN.c4 σ.pc x hx
  have c5 := M.hN.c5 σ.pc x hx
  have P3 := pre_of M x
  obtain ⟨op, d, a, b, t, e⟩ := x
  simp only at *
  subst hop
  have HS := hide (And.intro m5 (And.intro m6 (And.intro c0 (And.intro c1 (And.intro c2 (And.intro c3 (And.intro c4 c5)))))))
  have HSa : Hid (∀ o, (w.alloc o).cell? ⟨mb, 5, none⟩ = some (.slice (some ⟨nb, noff, none⟩) ns.length ncap) ∧ (w.alloc o).cell? ⟨mb, 6, none⟩ = some (.int .i64 σ.pc) ∧ (w.alloc o).cell? ⟨nb, noff + σ.pc * 6, none⟩ = some (.int .i64 12) ∧ (w.alloc o).cell? ⟨nb, noff + σ.pc * 6 + 1, none⟩ = some (.int .i64 d) ∧ (w.alloc o).cell? ⟨nb, noff + σ.pc * 6 + 2, none⟩ = some (.int .i64 a) ∧ (w.alloc o).cell? ⟨nb, noff + σ.pc * 6 + 3, none⟩ = some (.int .i64 b) ∧ (w.alloc o).cell? ⟨nb, noff + σ.pc * 6 + 4, none⟩ = some (.int .i64 t) ∧ (w.alloc o).cell? ⟨nb, noff + σ.pc * 6 + 5, none⟩ = some (.int .i64 e)) := by
    intro o
    simp only [World.cell?_alloc_past _ _ _ hml, World.cell?_alloc_past _ _ _ hnlt]
    exact HS.out
  have hpi : (σ.pc : Int) < (ns.length : Int) := by omega
  have hpi0 : (0 : Int) ≤ (σ.pc : Int) := by omega
  have HM := hide M
  have HX := hide hx
  have HP := hide P3
  clear M hx P3
  go_enter Try.func31, Try.ntmps31
  go_wp2
  go_region_held3 (fun u => u.cell? ⟨mb, 5, none⟩ = some (.slice (some ⟨nb, noff, none⟩) ns.length ncap) ∧ u.cell? ⟨mb, 6, none⟩ = some (.int .i64 σ.pc) ∧ u.cell? ⟨nb, noff + σ.pc * 6, none⟩ = some (.int .i64 12) ∧ u.cell? ⟨nb, noff + σ.pc * 6 + 1, none⟩ = some (.int .i64 d) ∧ u.cell? ⟨nb, noff + σ.pc * 6 + 2, none⟩ = some (.int .i64 a) ∧ u.cell? ⟨nb, noff + σ.pc * 6 + 3, none⟩ = some (.int .i64 b) ∧ u.cell? ⟨nb, noff + σ.pc * 6 + 4, none⟩ = some (.int .i64 t) ∧ u.cell? ⟨nb, noff + σ.pc * 6 + 5, none⟩ = some (.int .i64 e)) (first | exact HS.out | exact HSa.out _) (fail)
  go_wp2
  clear m3 m5 m6 f3 f6 c0 c1 c2 c3 c4 c5 HS HSa hpi hpi0
  have hW := HP.out
  unfold W3 at hW
  generalize (((w.setCell ⟨mb, 3, none⟩ (.int .i64 ((σ.steps : Int) + 1))).setCell ⟨mb, 6, none⟩ (.int .i64 t)).alloc (.cells #[.int .i64 12, .int .i64 d, .int .i64 a, .int .i64 b, .int .i64 t, .int .i64 e] 53)).drew = W at hW ⊢
  clear HP
  have HW := hide hW
  obtain ⟨g1, g2, g3, g4, g5, g6, g7, g8, g9⟩ := HM.out.geo
  have wml := blk_lt hW.hm
  have wrl := blk_lt hW.hr
  have wnl := blk_lt hW.hnd
  have hss := HM.out.hs
  obtain ⟨ha0, ha1⟩ := ha
  obtain ⟨an, rfl⟩ := Int.eq_ofNat_of_zero_le ha0
  have m1 := blk_cell hW.hm 1
  have m2 := blk_cell hW.hm 2
  have m8 := blk_cell hW.hm 8
  have f1 := blk_frozen hW.hm 1
  have f2 := blk_frozen hW.hm 2
  have n2 := blk_cell hW.hnd 2
  have ra := blk_cell hW.hr an
  rw [regs_at (by omega)] at ra
  simp at m1 m2 m8 n2
  clear hW
  go_region
  go_wp2
  go_end0
  have hW := HW.out
  rw [show stp ⟨12, d, an, b, t, e⟩ σ = { σ with pc := t.toNat, steps := σ.steps + 1, ret := getR σ.regs an, ended := true } from rfl]
  have K2 : Keeps [mb, rb, mp] w ((W.setCell ⟨mb, 1, none⟩ (.int .i64 (getR σ.regs an))).setCell ⟨mb, 2, none⟩ (.bool true)).drew := ((hW.K.setCell (p := ⟨mb, 1, none⟩) (by simp) _).setCell (p := ⟨mb, 2, none⟩) (by simp) _).drew
  refine ⟨rfl, v, ia, ic, n, D, HM.out.next K2 ?_ ?_ ?_ ?_ HM.out.hin HM.out.hic rfl hlt (by have := HM.out.hn; omega) (Nat.le_succ _) rfl HM.out.rel HM.out.srt (fun c hc => by have := HM.out.cb c hc; omega), HM.out.below K2⟩
  · have := blk_set (i := 2) (.bool true) (blk_set (i := 1) (.int .i64 (getR σ.regs an)) hW.hm)
    show _ = some (Obj.cells #[_, _, _, _, _, _, Value.int .i64 ((t.toNat : Nat) : Int), _, _, _] _ _)
    rw [show ((t.toNat : Nat) : Int) = t from by omega]
    exact this
  · exact blk_set_ne _ (blk_set_ne _ hW.hr (fun e => g7 e.symm)) (fun e => g7 e.symm)
  · refine own_at hW.ho ?_
    show ((W.setCell ⟨mb, 1, none⟩ _).setCell ⟨mb, 2, none⟩ _).heap[mp]? = _
    rw [Below.heap_setCell _ _ _ _ (by exact fun e => g8 e.symm), Below.heap_setCell _ _ _ _ (by exact fun e => g8 e.symm)]
  · exact (((Keeps.refl [mb] W).setCell (p := ⟨mb, 1, none⟩) (by simp) _).setCell (p := ⟨mb, 2, none⟩) (by simp) _).drew.owns hW.hout (by simp; omega)
end Go.Proofs.Ytoikglgnmjjpcab

namespace Go.Proofs.Ytoikglgnmjjpcab
open Go.RowKit Go.Maps Go.ChangeMaps
set_option linter.unusedVariables false

set_option maxHeartbeats 2000000 in
set_option maxRecDepth 100000 in
theorem step_inn {B s mb rb mp nb noff ncap rc : Nat} {ns : List Nd} {w : World} {σ : St} {v : Value} {ia : Option Addr} {ic n : Nat} {D : DataW Unit} (M : MA B s mb rb mp nb noff ncap rc ns w σ v ia ic n D) {x : Nd} (hx : ns[σ.pc]? = some x) (hlen : ns.length ≤ 256) (hlt : σ.steps < 131072) (ht : 0 ≤ x.t) (hop : x.op = 9) (hd : InR σ.regs x.d) :
    Calls Try.prog 31 #[.pointer (some ⟨mb, 0, none⟩)] w fun e w' => e = .returned (.tuple #[]) ∧ ∃ v' ia' ic' n' D', MA B s mb rb mp nb noff ncap rc ns w' (stp x σ) v' ia' ic' n' D' ∧ Below B w w' := by
  have hpc : σ.pc < ns.length := (List.getElem?_eq_some_iff.1 hx).1
  have hml := blk_lt M.hm
  have hnlt := M.hN.lt
  have hst0 := M.hst
  have m3 := blk_cell M.hm 3
  have m5 := blk_cell M.hm 5
  have m6 := blk_cell M.hm 6
  have f3 := blk_frozen M.hm 3
  have f6 := blk_frozen M.hm 6
  simp at m3 m5 m6
  have c0 := M.hN.c0 σ.pc x hx
  have c1 := M.hN.c1 σ.pc x hx
  have c2 := M.hN.c2 σ.pc x hx
  have c3 := M.hN.c3 σ.pc x hx
  have c4 := M.hN.c4 σ.pc x hx
  have c5 := M.hN.c5 σ.pc x hx
  have P3 := pre_of M x
  obtain ⟨op, d, a, b, t, e⟩ := x
  simp only at *
  subst hop
  have HS := hide (And.intro m5 (And.intro m6 (And.intro c0 (And.intro c1 (And.intro c2 (And.intro c3 (And.intro c4 c5)))))))
  have HSa : Hid (∀ o, (w.alloc o).cell? ⟨mb, 5, none⟩ = some (.slice (some ⟨nb, noff, none⟩) ns.length ncap) ∧ (w.alloc o).cell? ⟨mb, 6, none⟩ = some (.int .i64 σ.pc) ∧ (w.alloc o).cell? ⟨nb, noff + σ.pc * 6, none⟩ = some (.int .i64 9) ∧ (w.alloc o).cell? ⟨nb, noff + σ.pc * 6 + 1, none⟩ = some (.int .i64 d) ∧ (w.alloc o).cell? ⟨nb, noff + σ.pc * 6 + 2, none⟩ = some (.int .i64 a) ∧ (w.alloc o).cell? ⟨nb, noff + σ.pc * 6 + 3, none⟩ = some (.int .i64 b) ∧ (w.alloc o).cell? ⟨nb, noff + σ.pc * 6 + 4, none⟩ = some (.int .i64 t) ∧ (w.alloc o).cell? ⟨nb, noff + σ.pc * 6 + 5, none⟩ = some (.int .i64 e)) := by
    intro o
    simp only [World.cell?_alloc_past _ _ _ hml, World.cell?_alloc_past _ _ _ hnlt]
    exact HS.out
  have hpi : (σ.pc : Int) < (ns.length : Int) := by omega
  have hpi0 : (0 : Int) ≤ (σ.pc : Int) := by omega
  have HM := hide M
  have HX := hide hx
  have HP := hide P3
  clear M hx P3
  go_enter Try.func31, Try.ntmps31
  go_wp2
  go_region_held3 (fun u => u.cell? ⟨mb, 5, none⟩ = some (.slice (some ⟨nb, noff, none⟩) ns.length ncap) ∧ u.cell? ⟨mb, 6, none⟩ = some (.int .i64 σ.pc) ∧ u.cell? ⟨nb, noff + σ.pc * 6, none⟩ = some (.int .i64 9) ∧ u.cell? ⟨nb, noff + σ.pc * 6 + 1, none⟩ = some (.int .i64 d) ∧ u.cell? ⟨nb, noff + σ.pc * 6 + 2, none⟩ = some (.int .i64 a) ∧ u.cell? ⟨nb, noff + σ.pc * 6 + 3, none⟩ = some (.int .i64 b) ∧ u.cell? ⟨nb, noff + σ.pc * 6 + 4, none⟩ = some (.int .i64 t) ∧ u.cell? ⟨nb, noff + σ.pc * 6 + 5, none⟩ = some (.int .i64 e)) (first | exact HS.out | exact HSa.out _) (fail)
  go_wp2
  clear m3 m5 m6 f3 f6 c0 c1 c2 c3 c4 c5 HS HSa hpi hpi0
  have hW := HP.out
  unfold W3 at hW
  generalize (((w.setCell ⟨mb, 3, none⟩ (.int .i64 ((σ.steps : Int) + 1))).setCell ⟨mb, 6, none⟩ (.int .i64 t)).alloc (.cells #[.int .i64 9, .int .i64 d, .int .i64 a, .int .i64 b, .int .i64 t, .int .i64 e] 53)).drew = W at hW ⊢
  clear HP
  have HW := hide hW
  obtain ⟨g1, g2, g3, g4, g5, g6, g7, g8, g9⟩ := HM.out.geo
  have wml := blk_lt hW.hm
  have wrl := blk_lt hW.hr
  have wnl := blk_lt hW.hnd
  have hss := HM.out.hs
  obtain ⟨hd0, hd1⟩ := hd
  obtain ⟨dn, rfl⟩ := Int.eq_ofNat_of_zero_le hd0
  have m8 := blk_cell hW.hm 8
  have n1 := blk_cell hW.hnd 1
  simp at m8 n1
  have rd := blk_cell hW.hr dn
  rw [regs_at (by omega)] at rd
  have rf := blk_frozen hW.hr dn
  have hgr : W.heap.size ≠ rb := by omega
  have hin := HM.out.hin
  have hic := HM.out.hic
  have hnd7 : w.heap.size ≠ mb := by have := blk_lt HM.out.hm; omega
  have Ke := hW.K
  have HS3 := hide (And.intro m8 n1)
  cases hinp : σ.inp with
  | nil =>
    have hm' := hW.hm
    rw [hinp] at hm'
    have hmd : W.drew.heap[mb]? = _ := hm'
    have HNIL := hide hinp
    clear hinp hW
    have S4 : Hid ((W.setCell ⟨rb, dn, none⟩ (.int .i64 0)).cell? ⟨mb, 8, none⟩ = some (.slice (some ⟨rb, 0, none⟩) σ.regs.length rc) ∧ (W.setCell ⟨rb, dn, none⟩ (.int .i64 0)).cell? ⟨w.heap.size, 1, none⟩ = some (.int .i64 dn)) := ⟨(World.cell?_of_block (w := W) (Below.heap_setCell _ _ _ _ (by exact g7))).trans m8, (World.cell?_of_block (w := W) (Below.heap_setCell _ _ _ _ (by show w.heap.size ≠ rb; omega))).trans n1⟩
    go_region_held3 (fun u => u.cell? ⟨mb, 8, none⟩ = some (.slice (some ⟨rb, 0, none⟩) σ.regs.length rc) ∧ u.cell? ⟨w.heap.size, 1, none⟩ = some (.int .i64 dn)) (first | exact HS3.out | exact S4.out) (first
      | (go_at_call 45; refine (comeIn_nil mb _ _ _ _ _ _ _ _ _ _ _ _ hmd).mono ?_; rintro e1 w5 ⟨rfl, rfl⟩))
    all_goals go_wp2
    all_goals go_end0
    all_goals
      have hW := HW.out
      have hinp := HNIL.out
      rw [show stp ⟨9, dn, a, b, t, e⟩ σ = { σ with pc := t.toNat, steps := σ.steps + 1, regs := setR σ.regs dn 0 } from by
        show ({ σ with pc := t.toNat, steps := σ.steps + 1, regs := setR σ.regs dn (σ.inp.headD 0), inp := σ.inp.tail } : St) = _
        rw [hinp]; rfl]
      have K2 : Keeps [mb, rb, mp] w (W.setCell ⟨rb, dn, none⟩ (.int .i64 0)).drew := (Ke.setCell (p := ⟨rb, dn, none⟩) (by simp) _).drew
      refine ⟨rfl, v, ia, ic, n, D, HM.out.next K2 ?_ ?_ ?_ ?_ HM.out.hin HM.out.hic rfl hlt (by have := HM.out.hn; omega) (Nat.le_succ _) (setR_len _ _ _) HM.out.rel HM.out.srt (fun c hc => by have := HM.out.cb c hc; omega), HM.out.below K2⟩
      · have := blk_set_ne (i := dn) (.int .i64 0) hW.hm g7
        show _ = some (Obj.cells #[_, _, _, _, _, _, Value.int .i64 ((t.toNat : Nat) : Int), _, Value.slice _ (setR σ.regs dn 0).length _, _] _ _)
        rw [show ((t.toNat : Nat) : Int) = t from by omega, setR_len]
        exact this
      · have := blk_set (i := dn) (.int .i64 0) hW.hr
        rw [regs_set] at this
        exact this
      · exact own_at hW.ho (Below.heap_setCell _ _ _ _ (by exact fun e => g9 e.symm))
      · exact ((Keeps.refl [rb] W).setCell (p := ⟨rb, dn, none⟩) (by simp) _).drew.owns hW.hout (by simp; omega)
  | cons z zs =>
    rw [hinp] at hin hic
    rcases hin with hin | ⟨bi, oi, hia, hbi, hci⟩
    · cases hin
    subst hia
    have hm' := hW.hm
    rw [hinp] at hm'
    have hmd : W.drew.heap[mb]? = some (.cells #[v, .int .i64 σ.ret, .bool σ.ended, .int .i64 ((σ.steps : Int) + 1), .slice none 0 0, .slice (some ⟨nb, noff, none⟩) ns.length ncap, .int .i64 t, .slice (some ⟨bi, oi, none⟩) (zs.length + 1) ic, .slice (some ⟨rb, 0, none⟩) σ.regs.length rc, .map (some mp)] 75 (0, 0)) := hm'
    have hz0 : W.drew.cell? ⟨bi, oi, none⟩ = some (.int .i64 z) := by
      have := hci 0 z rfl
      show W.cell? _ = _
      rw [Ke.cell (by have := HM.out.B_le; omega) (by simp; omega)]; exact this
    have HC := hide hinp
    have S4 : Hid (∀ X : Value, (W.setCell ⟨mb, 7, none⟩ X).cell? ⟨mb, 8, none⟩ = some (.slice (some ⟨rb, 0, none⟩) σ.regs.length rc) ∧ (W.setCell ⟨mb, 7, none⟩ X).cell? ⟨w.heap.size, 1, none⟩ = some (.int .i64 dn)) := by
      intro X
      refine ⟨?_, (World.cell?_of_block (w := W) (Below.heap_setCell _ _ _ _ (by exact hnd7))).trans n1⟩
      have := blk_cell (blk_set (i := 7) X hW.hm) 8
      rw [this]; rfl
    have S5 : Hid (∀ X Y : Value, ((W.setCell ⟨mb, 7, none⟩ X).setCell ⟨rb, dn, none⟩ Y).cell? ⟨mb, 8, none⟩ = some (.slice (some ⟨rb, 0, none⟩) σ.regs.length rc) ∧ ((W.setCell ⟨mb, 7, none⟩ X).setCell ⟨rb, dn, none⟩ Y).cell? ⟨w.heap.size, 1, none⟩ = some (.int .i64 dn)) := by
      intro X Y
      exact ⟨(World.cell?_of_block (w := W.setCell ⟨mb, 7, none⟩ X) (Below.heap_setCell _ _ _ _ (by exact g7))).trans (S4.out X).1, (World.cell?_of_block (w := W.setCell ⟨mb, 7, none⟩ X) (Below.heap_setCell _ _ _ _ (by show w.heap.size ≠ rb; omega))).trans (S4.out X).2⟩
    have rd' : ∀ X : Value, (W.setCell ⟨mb, 7, none⟩ X).cell? ⟨rb, dn, none⟩ = some (.int .i64 (getR σ.regs dn)) := fun X => (World.cell?_of_block (w := W) (Below.heap_setCell _ _ _ _ (by exact fun e => g7 e.symm))).trans rd
    have rf' : ∀ X : Value, (W.setCell ⟨mb, 7, none⟩ X).frozen? ⟨rb, dn, none⟩ = false := fun X => (World.frozen?_of_block (w := W) (Below.heap_setCell _ _ _ _ (by exact fun e => g7 e.symm))).trans rf
    have HCI := hide hci
    have hicl : zs.length + 1 ≤ ic := by simpa using hic
    clear hinp hW hci hic
    go_region_held3 (fun u => u.cell? ⟨mb, 8, none⟩ = some (.slice (some ⟨rb, 0, none⟩) σ.regs.length rc) ∧ u.cell? ⟨w.heap.size, 1, none⟩ = some (.int .i64 dn)) (first | exact HS3.out | exact S4.out _ | exact S5.out _ _) (first
      | (go_at_call 45; refine (comeIn_cons mb _ _ _ _ _ _ _ _ _ bi oi zs.length ic z _ hicl hmd hz0).mono ?_; rintro e1 w5 ⟨rfl, ia5, ic5, rfl, hl5, ho5⟩))
    all_goals go_wp2
    all_goals go_end0
    all_goals
      have hW := HW.out
      have hinp := HC.out
      rw [show stp ⟨9, dn, a, b, t, e⟩ σ = { σ with pc := t.toNat, steps := σ.steps + 1, regs := setR σ.regs dn z, inp := zs } from by
        show ({ σ with pc := t.toNat, steps := σ.steps + 1, regs := setR σ.regs dn (σ.inp.headD 0), inp := σ.inp.tail } : St) = _
        rw [hinp]; rfl]
      have K2 : Keeps [mb, rb, mp] w ((W.setCell ⟨mb, 7, none⟩ (.slice ia5 zs.length ic5)).setCell ⟨rb, dn, none⟩ (.int .i64 z)).drew := ((Ke.setCell (p := ⟨mb, 7, none⟩) (by simp) _).setCell (p := ⟨rb, dn, none⟩) (by simp) _).drew
      have hin5 : InAt w B ia5 zs := by
        rcases ho5 with ho5 | ho5
        · exact Or.inl (List.eq_nil_of_length_eq_zero ho5)
        · refine Or.inr ⟨bi, oi + 1, ho5, hbi, fun j y hy => ?_⟩
          have := HCI.out (j + 1) y (by simpa using hy)
          rw [show oi + 1 + j = oi + (j + 1) by omega]; exact this
      refine ⟨rfl, v, ia5, ic5, n, D, HM.out.next K2 ?_ ?_ ?_ ?_ hin5 hl5 rfl hlt (by have := HM.out.hn; omega) (Nat.le_succ _) (setR_len _ _ _) HM.out.rel HM.out.srt (fun c hc => by have := HM.out.cb c hc; omega), HM.out.below K2⟩
      · have := blk_set_ne (i := dn) (.int .i64 z) (blk_set (i := 7) (.slice ia5 zs.length ic5) hW.hm) g7
        show _ = some (Obj.cells #[_, _, _, _, _, _, Value.int .i64 ((t.toNat : Nat) : Int), _, Value.slice _ (setR σ.regs dn z).length _, _] _ _)
        rw [show ((t.toNat : Nat) : Int) = t from by omega, setR_len]
        exact this
      · have := blk_set (i := dn) (.int .i64 z) (blk_set_ne (i := 7) (.slice ia5 zs.length ic5) hW.hr (fun e => g7 e.symm))
        rw [regs_set] at this
        exact this
      · refine own_at hW.ho ?_
        show ((W.setCell ⟨mb, 7, none⟩ _).setCell ⟨rb, dn, none⟩ _).heap[mp]? = _
        rw [Below.heap_setCell _ _ _ _ (by exact fun e => g9 e.symm), Below.heap_setCell _ _ _ _ (by exact fun e => g8 e.symm)]
      · exact (((Keeps.refl [mb, rb] W).setCell (p := ⟨mb, 7, none⟩) (by simp) _).setCell (p := ⟨rb, dn, none⟩) (by simp) _).drew.owns hW.hout (by simp; omega)
end Go.Proofs.Ytoikglgnmjjpcab

