/-
  run.Run, walked.
-/
import Derived.Test.YtoikglgnmjjpcaaRQ
import Derived.Deep.CutRange
namespace Go.Proofs.Ytoikglgnmjjpcaa
open Go.RowKit Go.Maps Go.ChangeMaps
set_option linter.unusedVariables false

/-- What is wrong with what Run is handed. -/
def rerr (r : Int) (ns : List Nd) (il : Nat) (fuel : Int) : Int := if chk r ns = 0 then if 256 < il then 2 else if fuel < 0 ∨ 131072 < fuel then 3 else 0 else chk r ns

/-- A block of five cells that is written over. -/
def fill5 (w : World) (b : Nat) (v0 v1 v2 v3 v4 : Value) : World := ((((w.setCell ⟨b, 0, none⟩ v0).setCell ⟨b, 1, none⟩ v1).setCell ⟨b, 2, none⟩ v2).setCell ⟨b, 3, none⟩ v3).setCell ⟨b, 4, none⟩ v4

theorem fill5_blk {w : World} {b : Nat} {a0 a1 a2 a3 a4 : Value} {t : TypeId} (h : w.heap[b]? = some (.cells #[a0, a1, a2, a3, a4] t (0, 0))) (v0 v1 v2 v3 v4 : Value) : (fill5 w b v0 v1 v2 v3 v4).heap[b]? = some (.cells #[v0, v1, v2, v3, v4] t (0, 0)) := by
  unfold fill5
  rw [blk_set v4 (blk_set v3 (blk_set v2 (blk_set v1 (blk_set v0 h))))]
  simp

theorem fill5_keeps (w : World) (b : Nat) (v0 v1 v2 v3 v4 : Value) : Keeps [b] w (fill5 w b v0 v1 v2 v3 v4) := (((((Keeps.refl [b] w).setCell (p := ⟨b, 0, none⟩) (by simp) v0).setCell (p := ⟨b, 1, none⟩) (by simp) v1).setCell (p := ⟨b, 2, none⟩) (by simp) v2).setCell (p := ⟨b, 3, none⟩) (by simp) v3).setCell (p := ⟨b, 4, none⟩) (by simp) v4

theorem fill5_below {w : World} {b B : Nat} (hb : B ≤ b) (hB : B ≤ w.heap.size) (v0 v1 v2 v3 v4 : Value) : Below B w (fill5 w b v0 v1 v2 v3 v4) := by
  exact (fill5_keeps w b v0 v1 v2 v3 v4).below (by simp; omega) hB

set_option maxHeartbeats 1000000 in
/-- What a result holds is read out of its cells. -/
theorem ret_cell {b : Nat} {v0 v1 v2 v3 v4 : Value} {er : Int} {w : World} {tm : Array Value} {Q : Ending → World → Prop} (h : w.heap[b]? = some (.cells #[v0, v1, v2, v3, v4] 42 (0, 0))) (h6 : tm[6]? = some (.pointer (some ⟨b, 0, none⟩))) (h7 : tm[7]? = some (.int .i64 er))
    (hq : Q (.returned (.tuple #[.agg #[v0, v1, v2, v3, v4], .int .i64 er])) w) : bodyPost Try.prog Try.f22 Q .ret ⟨tm, []⟩ w := by
  have c0 := blk_cell h 0
  have c1 := blk_cell h 1
  have c2 := blk_cell h 2
  have c3 := blk_cell h 3
  have c4 := blk_cell h 4
  simp at c0 c1 c2 c3 c4
  refine bodyPost_ret (v := .tuple #[.agg #[v0, v1, v2, v3, v4], .int .i64 er]) ?_ rfl hq
  simp [results, Try.results22, go_sem, c0, c1, c2, c3, c4, h6, h7]

set_option maxHeartbeats 1000000 in
theorem run_wrong (r : Int) (a : Option Addr) (cap : Nat) (ns : List Nd) (ia : Option Addr) (il ic : Nat) (fuel : Int) (w : World) (hN : SlN w a ns) (hil : il ≤ 9223372036854775807) (hw : rerr r ns il fuel ≠ 0) :
    Calls Try.prog 22 #[.agg #[.int .i64 r, .slice a ns.length cap], .slice ia il ic, .int .i64 fuel] w fun e w' => e = .returned (.tuple #[.agg #[.slice none 0 0, .int .i64 0, .bool false, .int .i64 0, .slice none 0 0], .int .i64 (rerr r ns il fuel)]) ∧ Below w.heap.size w w' := by
  go_enter Try.func22, Try.ntmps22
  go_wp2_with fail
  have hN1 : SlN ((w.alloc (.cells #[.int .i64 r, .slice a ns.length cap] 24)).alloc (.cells #[.slice none 0 0, .int .i64 0, .bool false, .int .i64 0, .slice none 0 0] 42)) a ns := hN.below (((Below.refl _ w).alloc (Nat.le_refl _) _).alloc (by simp) _)
  refine (check_any r a cap ns _ hN1).mono ?_
  rintro e w1 ⟨rfl, hb1⟩
  have hs1 := hb1.size
  simp only [World.size_alloc] at hs1 hb1
  have hB1 : Below w.heap.size w w1 := (((Below.refl _ w).alloc (Nat.le_refl _) _).alloc (by simp) _).trans (hb1.mono (by omega))
  have hk : w1.heap[w.heap.size + 1]? = some (.cells #[.slice none 0 0, .int .i64 0, .bool false, .int .i64 0, .slice none 0 0] 42 (0, 0)) := by
    rw [hb1.block _ (by omega)]
    exact blk_new (by simp)
  have c0 := blk_cell hk 0
  have c1 := blk_cell hk 1
  have c2 := blk_cell hk 2
  have c3 := blk_cell hk 3
  have c4 := blk_cell hk 4
  have f0 := blk_frozen hk 0
  have f1 := blk_frozen hk 1
  have f2 := blk_frozen hk 2
  have f3 := blk_frozen hk 3
  have f4 := blk_frozen hk 4
  simp at c0 c1 c2 c3 c4
  have hsz : w.heap.size + 1 < w1.heap.size := by omega
  have HK := hide hk
  clear hk hb1 hN1
  have HB := hide hB1
  clear hB1
  by_cases hc : chk r ns = 0
  · rw [hc]
    by_cases hi : 256 < il
    · have hi' : (256 : Int) < (il : Int) := by omega
      have HE := hide (show rerr r ns il fuel = 2 by simp [rerr, hc, hi])
      clear hc
      go_wp2
      have hk' := fill5_blk HK.out (.slice none 0 0) (.int .i64 0) (.bool false) (.int .i64 0) (.slice none 0 0)
      refine ret_cell hk' rfl rfl ⟨by rw [HE.out], HB.out.trans (fill5_below (by omega) (by omega) _ _ _ _ _)⟩
    · have hi' : ¬ (256 : Int) < (il : Int) := by omega
      have hf : fuel < 0 ∨ 131072 < fuel := by
        unfold rerr at hw
        rw [if_pos hc, if_neg hi] at hw
        by_cases q : fuel < 0 ∨ 131072 < fuel
        · exact q
        · rw [if_neg q] at hw; exact absurd rfl hw
      have HE := hide (show rerr r ns il fuel = 3 by rw [rerr, if_pos hc, if_neg hi, if_pos hf])
      clear hc
      by_cases h0 : fuel < 0
      · go_wp2
        have hk' := fill5_blk HK.out (.slice none 0 0) (.int .i64 0) (.bool false) (.int .i64 0) (.slice none 0 0)
        refine ret_cell hk' rfl rfl ⟨by rw [HE.out], HB.out.trans (fill5_below (by omega) (by omega) _ _ _ _ _)⟩
      · have h1 : 131072 < fuel := by omega
        go_wp2
        have hk' := fill5_blk HK.out (.slice none 0 0) (.int .i64 0) (.bool false) (.int .i64 0) (.slice none 0 0)
        refine ret_cell hk' rfl rfl ⟨by rw [HE.out], HB.out.trans (fill5_below (by omega) (by omega) _ _ _ _ _)⟩
  · have hcb : (chk r ns != 0) = true := by simpa using hc
    have HE := hide (show rerr r ns il fuel = chk r ns by simp [rerr, hc])
    generalize chk r ns = ch at *
    go_wp2
    have hk' := fill5_blk HK.out (.slice none 0 0) (.int .i64 0) (.bool false) (.int .i64 0) (.slice none 0 0)
    refine ret_cell hk' rfl rfl ⟨by rw [HE.out], HB.out.trans (fill5_below (by omega) (by omega) _ _ _ _ _)⟩
end Go.Proofs.Ytoikglgnmjjpcaa
