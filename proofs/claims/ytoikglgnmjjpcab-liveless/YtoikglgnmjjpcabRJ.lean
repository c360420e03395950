/-
  run.machine.step, walked: one node is done (Out).
-/
import Derived.Test.YtoikglgnmjjpcabRE
import Derived.Test.YtoikglgnmjjpcabG
import Derived.Deep.AppendLies
namespace Go.Proofs.Ytoikglgnmjjpcab
open Go.RowKit Go.Maps Go.ChangeMaps
set_option linter.unusedVariables false

set_option maxHeartbeats 2000000 in
set_option maxRecDepth 100000 in
theorem step_out {B s mb rb mp nb noff ncap rc : Nat} {ns : List Nd} {w : World} {σ : St} {v : Value} {ia : Option Addr} {ic n : Nat} {D : DataW Unit} (M : MA B s mb rb mp nb noff ncap rc ns w σ v ia ic n D) {x : Nd} (hx : ns[σ.pc]? = some x) (hlen : ns.length ≤ 256) (hlt : σ.steps < 131072) (ht : 0 ≤ x.t) (hop : x.op = 10) (ha : InR σ.regs x.a) :
    Calls Try.prog 31 #[.pointer (some ⟨mb, 0, none⟩)] w fun e w' => e = .returned (.tuple #[]) ∧ ∃ v' ia' ic' n' D', MA B s mb rb mp nb noff ncap rc ns w' (stp x σ) v' ia' ic' n' D' ∧ Below B w w' := by
  obtain ⟨i0, hi, hz0, hz1, hz2⟩ := info_parts info_int
  have hpc : σ.pc < ns.length := (List.getElem?_eq_some_iff.1 hx).1
  have hml := blk_lt M.hm
  have hnlt := M.hN.lt
  have hst0 := M.hst
  have m3 := blk_cell M.hm 3
  have m5 := blk_cell M.hm 5
  have m6 := blk_cell M.hm 6
  have f3 := blk_frozen M.hm 3
  have f6 := blk_frozen M.hm 6
  simp at m3 m5 m6
  have c0 := M.hN.c0 σ.pc x hx
  have c1 := M.hN.c1 σ.pc x hx
  have c2 := M.hN.c2 σ.pc x hx
  have c3 := M.hN.c3 σ.pc x hx
  have c4 := M.hN.c4 σ.pc x hx
  have c5 := M.hN.c5 σ.pc x hx
  have P3 := pre_of M x
  obtain ⟨op, d, a, b, t, e⟩ := x
  simp only at *
  subst hop
  have HS := hide (And.intro m5 (And.intro m6 (And.intro c0 (And.intro c1 (And.intro c2 (And.intro c3 (And.intro c4 c5)))))))
  have HSa : Hid (∀ o, (w.alloc o).cell? ⟨mb, 5, none⟩ = some (.slice (some ⟨nb, noff, none⟩) ns.length ncap) ∧ (w.alloc o).cell? ⟨mb, 6, none⟩ = some (.int .i64 σ.pc) ∧ (w.alloc o).cell? ⟨nb, noff + σ.pc * 6, none⟩ = some (.int .i64 10) ∧ (w.alloc o).cell? ⟨nb, noff + σ.pc * 6 + 1, none⟩ = some (.int .i64 d) ∧ (w.alloc o).cell? ⟨nb, noff + σ.pc * 6 + 2, none⟩ = some (.int .i64 a) ∧ (w.alloc o).cell? ⟨nb, noff + σ.pc * 6 + 3, none⟩ = some (.int .i64 b) ∧ (w.alloc o).cell? ⟨nb, noff + σ.pc * 6 + 4, none⟩ = some (.int .i64 t) ∧ (w.alloc o).cell? ⟨nb, noff + σ.pc * 6 + 5, none⟩ = some (.int .i64 e)) := by
    intro o
    simp only [World.cell?_alloc_past _ _ _ hml, World.cell?_alloc_past _ _ _ hnlt]
    exact HS.out
  have hpi : (σ.pc : Int) < (ns.length : Int) := by omega
  have hpi0 : (0 : Int) ≤ (σ.pc : Int) := by omega
  have HM := hide M
  have HX := hide hx
  have HP := hide P3
  clear M hx P3
  go_enter Try.func31, Try.ntmps31
  go_wp2
  go_region_held3 (fun u => u.cell? ⟨mb, 5, none⟩ = some (.slice (some ⟨nb, noff, none⟩) ns.length ncap) ∧ u.cell? ⟨mb, 6, none⟩ = some (.int .i64 σ.pc) ∧ u.cell? ⟨nb, noff + σ.pc * 6, none⟩ = some (.int .i64 10) ∧ u.cell? ⟨nb, noff + σ.pc * 6 + 1, none⟩ = some (.int .i64 d) ∧ u.cell? ⟨nb, noff + σ.pc * 6 + 2, none⟩ = some (.int .i64 a) ∧ u.cell? ⟨nb, noff + σ.pc * 6 + 3, none⟩ = some (.int .i64 b) ∧ u.cell? ⟨nb, noff + σ.pc * 6 + 4, none⟩ = some (.int .i64 t) ∧ u.cell? ⟨nb, noff + σ.pc * 6 + 5, none⟩ = some (.int .i64 e)) (first | exact HS.out | exact HSa.out _) (fail)
  go_wp2
  clear m3 m5 m6 f3 f6 c0 c1 c2 c3 c4 c5 HS HSa hpi hpi0
  have hW := HP.out
  unfold W3 at hW
  generalize (((w.setCell ⟨mb, 3, none⟩ (.int .i64 ((σ.steps : Int) + 1))).setCell ⟨mb, 6, none⟩ (.int .i64 t)).alloc (.cells #[.int .i64 10, .int .i64 d, .int .i64 a, .int .i64 b, .int .i64 t, .int .i64 e] 53)).drew = W at hW ⊢
  clear HP
  have HW := hide hW
  obtain ⟨g1, g2, g3, g4, g5, g6, g7, g8, g9⟩ := HM.out.geo
  have wml := blk_lt hW.hm
  have wrl := blk_lt hW.hr
  have wnl := blk_lt hW.hnd
  have hss := HM.out.hs
  obtain ⟨ha0, ha1⟩ := ha
  obtain ⟨an, rfl⟩ := Int.eq_ofNat_of_zero_le ha0
  have m0 := blk_cell hW.hm 0
  have m8 := blk_cell hW.hm 8
  have f0 := blk_frozen hW.hm 0
  have n2 := blk_cell hW.hnd 2
  have ra := blk_cell hW.hr an
  rw [regs_at (by omega)] at ra
  simp at m0 m8 n2
  have hown := hW.hout
  have hol := HM.out.hol
  have hsW : s ≤ W.heap.size := Nat.le_trans hss hW.K.size
  have hlt0 := HM.out.hout.lt
  have hneq : ∀ q, q < s → some q ≠ v.ownBlock := fun q hq e => by have := hlt0 q e.symm; omega
  have hnnd : some w.heap.size ≠ v.ownBlock := fun e => by have := hlt0 _ e.symm; omega
  clear hW
  go_region_law (first
    | ((refine step_append_lies _ (by rfl) _ _ _ (by rfl) s 3 i0 (.int .i64 0) 1 8 Try.underlying36 hi hz0 hz1 hz2 rfl (by omega) v σ.out.length (σ.out.map (Value.int .i64)) (by rfl) ((hown.alloc _)) ⟨W.heap.size, 0, none⟩ 1 1 [.int .i64 (getR σ.regs an)] (by rfl) (by rfl) (World.news_of_block (cs := #[.int .i64 (getR σ.regs an)]) (t := 3) (fr := (0, 0)) (heap_alloc_new W _)) (by simp [Value.oneCell']) (by omega) (by unfold maxLen; omega) (by omega) (by simp; omega) (W.heap.size + 1) (by simp) ?_; intro gg cap1 w5 hown5 hgrow hat hlt5; have hb5 : w5.heap[mb]? = W.heap[mb]? := (hgrow.block mb (by simp; omega) (hneq mb g4)).trans (Below.heap_alloc _ _ _ wml); have x0 : w5.cell? ⟨mb, 0, none⟩ = some v := (World.cell?_of_block hb5).trans m0; have x1 : w5.frozen? ⟨mb, 0, none⟩ = false := (World.frozen?_of_block hb5).trans f0; have HG := hide (And.intro hown5 (And.intro hgrow (And.intro hat hlt5))); clear hown5 hgrow hat hlt5 hb5)))
  all_goals go_wp2
  all_goals go_end0
  all_goals
    have hW := HW.out
    obtain ⟨hown5, hgrow, hat, hlt5⟩ := HG.out
    have hk : ∀ q, q < W.heap.size → some q ≠ v.ownBlock → w5.heap[q]? = W.heap[q]? := fun q h1 h2 => (hgrow.block q (by simp; omega) h2).trans (Below.heap_alloc _ _ _ h1)
    have hs5 : W.heap.size ≤ w5.heap.size := by have := hgrow.size; simp at this; omega
    have Kb : Below B w w5 := (HM.out.below hW.K).trans ⟨hgrow.os, hgrow.tape, hgrow.output, hs5, fun k hk0 => hk k (by omega) (hneq k (by omega))⟩
    have Kc := Kb.setCell (p := ⟨mb, 0, none⟩) g1 (.slice (some ⟨gg, 0, none⟩) (σ.out.length + 1) cap1)
    have ho5 := ((Keeps.refl [mb] w5).setCell (p := ⟨mb, 0, none⟩) (by simp) (.slice (some ⟨gg, 0, none⟩) (σ.out.length + 1) cap1)).owns hown5 (by simp; omega)
    rw [show stp ⟨10, d, an, b, t, e⟩ σ = { σ with pc := t.toNat, steps := σ.steps + 1, out := σ.out ++ [getR σ.regs an] } from rfl]
    refine ⟨rfl, .slice (some ⟨gg, 0, none⟩) (σ.out.length + 1) cap1, ia, ic, n, D, HM.out.nextB Kc ?_ ?_ ?_ (by simpa using ho5) HM.out.hin HM.out.hic rfl hlt (by have := HM.out.hn; omega) (by simp) rfl HM.out.rel HM.out.srt (fun c hc => by have := HM.out.cb c hc; omega), Kc⟩
    · have := blk_set (i := 0) (.slice (some ⟨gg, 0, none⟩) (σ.out.length + 1) cap1) ((hk mb wml (hneq mb g4)).trans hW.hm)
      show _ = some (Obj.cells #[_, _, _, _, _, _, Value.int .i64 ((t.toNat : Nat) : Int), _, _, _] _ _)
      rw [show ((t.toNat : Nat) : Int) = t from by omega]
      exact this
    · exact blk_set_ne _ ((hk rb wrl (hneq rb g5)).trans hW.hr) (fun e => g7 e.symm)
    · refine own_at hW.ho ?_
      rw [Below.heap_setCell _ _ _ _ (by exact fun e => g8 e.symm)]
      exact hk mp hW.ho.lt (hneq mp g6)
end Go.Proofs.Ytoikglgnmjjpcab
