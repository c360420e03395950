/-
  hoistwaylaw.runBegun, walked: the runs of the small program.
-/
import Derived.Test.YtoikglgnmjjpcaaRS
import Derived.Test.YtoikglgnmjjpcaaRU
import Derived.Deep.RegionWith
namespace Go.Proofs.Ytoikglgnmjjpcaa
open Go.RowKit
set_option linter.unusedVariables false

theorem in_two {w : World} {b : Nat} {x y : Int} (hb : b < w.heap.size) (h0 : w.cell? ⟨b, 0, none⟩ = some (.int .i64 x)) (h1 : w.cell? ⟨b, 1, none⟩ = some (.int .i64 y)) : InAt w w.heap.size (some ⟨b, 0, none⟩) [x, y] := by
  refine Or.inr ⟨b, 0, rfl, hb, ?_⟩
  intro j z hz
  match j, hz with
  | 0, hz => simp at hz; subst hz; exact h0
  | 1, hz => simp at hz; subst hz; exact h1
  | j + 2, hz => simp at hz

theorem run_fit (r : Int) (nb noff cap : Nat) (ns : List Nd) (ia : Option Addr) (ic : Nat) (inp : List Int) (fuel : Int) (w : World) (hN : NodesAt w nb noff ns) (hI : InAt w w.heap.size ia inp) (hic : inp.length ≤ ic) (hw : rerr r ns inp.length fuel = 0) :
    Calls Try.prog 22 #[.agg #[.int .i64 r, .slice (some ⟨nb, noff, none⟩) ns.length cap], .slice ia inp.length ic, .int .i64 fuel] w fun e w' => ∃ ao co ac cc, e = .returned (.tuple #[.agg #[.slice ao (fin r ns inp fuel).out.length co, .int .i64 (fin r ns inp fuel).ret, .bool (fin r ns inp fuel).ended, .int .i64 (fin r ns inp fuel).steps, .slice ac (fin r ns inp fuel).cts.length cc], .int .i64 0]) ∧
      IntsAt w' ao (fin r ns inp fuel).out ∧ CtsAt w' ac (fin r ns inp fuel).cts ∧ Below w.heap.size w w' ∧ (fin r ns inp fuel).out.length ≤ co ∧ ∀ (A : List Nat) (u : World), Keeps A w' u → (∀ x ∈ A, x < w.heap.size) → IntsAt u ao (fin r ns inp fuel).out ∧ CtsAt u ac (fin r ns inp fuel).cts := by
  refine (run_ok r nb noff cap ns ia ic inp fuel w hN hI hic hw).mono ?_
  rintro e w' ⟨vo, vc, rfl, h1, h2, hb⟩
  have hle : ∀ a c, vo = .slice a (fin r ns inp fuel).out.length c → (fin r ns inp fuel).out.length ≤ c := by
    intro a c hv
    rcases h1.2 with ⟨q, h0⟩ | ⟨g, cap', cur, q, _, _, q2, _⟩
    · omega
    · rw [q] at hv; injection hv with e1 e2 e3; omega
  obtain ⟨ao, co, rfl, hI'⟩ := ints_of_owns h1
  obtain ⟨ac, cc, rfl, hC⟩ := cts_of_owns h2
  refine ⟨ao, co, ac, cc, rfl, hI', hC, hb, hle _ _ rfl, fun A u K hA => ?_⟩
  obtain ⟨a1, c1, e1, hI1⟩ := ints_of_owns (K.owns h1 hA)
  obtain ⟨a2, c2, e2, hC2⟩ := cts_of_owns (K.owns h2 hA)
  injection e1 with e1
  injection e2 with e2
  subst e1 e2
  exact ⟨hI1, hC2⟩

theorem run_small (b bi : Nat) (x y fuel : Int) (w : World) (hN : NodesAt w b 0 smallN) (hb : bi < w.heap.size) (h0 : w.cell? ⟨bi, 0, none⟩ = some (.int .i64 x)) (h1 : w.cell? ⟨bi, 1, none⟩ = some (.int .i64 y)) (hf : rerr 3 smallN 2 fuel = 0)
    {out : List Int} {ret : Int} {en : Bool} {st : Nat} {cts : List Ct} (e0 : (fin 3 smallN [x, y] fuel).out = out) (e1 : (fin 3 smallN [x, y] fuel).ret = ret) (e2 : (fin 3 smallN [x, y] fuel).ended = en) (e3 : (fin 3 smallN [x, y] fuel).steps = st) (e4 : (fin 3 smallN [x, y] fuel).cts = cts) :
    Calls Try.prog 22 #[.agg #[.int .i64 3, .slice (some ⟨b, 0, none⟩) 7 7], .slice (some ⟨bi, 0, none⟩) 2 2, .int .i64 fuel] w fun e w' => ∃ ao co ac cc, e = .returned (.tuple #[.agg #[.slice ao out.length co, .int .i64 ret, .bool en, .int .i64 st, .slice ac cts.length cc], .int .i64 0]) ∧
      IntsAt w' ao out ∧ CtsAt w' ac cts ∧ Below w.heap.size w w' := by
  refine (run_fit 3 b 0 7 smallN _ 2 [x, y] fuel w hN (in_two hb h0 h1) (by simp) hf).mono ?_
  rintro e w' ⟨ao, co, ac, cc, rfl, hI, hC, hb', _, _⟩
  rw [e0] at hI
  rw [e4] at hC
  exact ⟨ao, co, ac, cc, by rw [e0, e1, e2, e3, e4], hI, hC, hb'⟩

theorem rs1_0 : (fin 3 smallN [4, 5] 99).out = [9] := by kernel_rfl
theorem rs1_1 : (fin 3 smallN [4, 5] 99).ret = 9 := by kernel_rfl
theorem rs1_2 : (fin 3 smallN [4, 5] 99).ended = true := by kernel_rfl
theorem rs1_3 : (fin 3 smallN [4, 5] 99).steps = 7 := by kernel_rfl
theorem rs1_4 : (fin 3 smallN [4, 5] 99).cts = [⟨⟨3, 0, 1⟩, 2⟩] := by kernel_rfl
theorem rs1_e : rerr 3 smallN 2 99 = 0 := by decide
theorem rs1 (b bi : Nat) (w : World) (hN : NodesAt w b 0 smallN) (hb : bi < w.heap.size) (h0 : w.cell? ⟨bi, 0, none⟩ = some (.int .i64 4)) (h1 : w.cell? ⟨bi, 1, none⟩ = some (.int .i64 5)) :
    Calls Try.prog 22 #[.agg #[.int .i64 3, .slice (some ⟨b, 0, none⟩) 7 7], .slice (some ⟨bi, 0, none⟩) 2 2, .int .i64 99] w fun e w' => ∃ ao co ac cc, e = .returned (.tuple #[.agg #[.slice ao 1 co, .int .i64 9, .bool true, .int .i64 7, .slice ac 1 cc], .int .i64 0]) ∧
      IntsAt w' ao [9] ∧ CtsAt w' ac [⟨⟨3, 0, 1⟩, 2⟩] ∧ Below w.heap.size w w' := run_small b bi 4 5 99 w hN hb h0 h1 rs1_e rs1_0 rs1_1 rs1_2 rs1_3 rs1_4

theorem rs2_0 : (fin 3 smallN [0, 5] 4).out = [] := by kernel_rfl
theorem rs2_1 : (fin 3 smallN [0, 5] 4).ret = 0 := by kernel_rfl
theorem rs2_2 : (fin 3 smallN [0, 5] 4).ended = false := by kernel_rfl
theorem rs2_3 : (fin 3 smallN [0, 5] 4).steps = 4 := by kernel_rfl
theorem rs2_4 : (fin 3 smallN [0, 5] 4).cts = [⟨⟨3, 0, 1⟩, 1⟩] := by kernel_rfl
theorem rs2_e : rerr 3 smallN 2 4 = 0 := by decide
theorem rs2 (b bi : Nat) (w : World) (hN : NodesAt w b 0 smallN) (hb : bi < w.heap.size) (h0 : w.cell? ⟨bi, 0, none⟩ = some (.int .i64 0)) (h1 : w.cell? ⟨bi, 1, none⟩ = some (.int .i64 5)) :
    Calls Try.prog 22 #[.agg #[.int .i64 3, .slice (some ⟨b, 0, none⟩) 7 7], .slice (some ⟨bi, 0, none⟩) 2 2, .int .i64 4] w fun e w' => ∃ ao co ac cc, e = .returned (.tuple #[.agg #[.slice ao 0 co, .int .i64 0, .bool false, .int .i64 4, .slice ac 1 cc], .int .i64 0]) ∧
      IntsAt w' ao [] ∧ CtsAt w' ac [⟨⟨3, 0, 1⟩, 1⟩] ∧ Below w.heap.size w w' := run_small b bi 0 5 4 w hN hb h0 h1 rs2_e rs2_0 rs2_1 rs2_2 rs2_3 rs2_4

theorem same_one {w0 : World} (a : Option Addr) (ca : Nat) (x : Int) (W : World) (hI : IntsAt w0 a [x]) (hB : Below w0.heap.size w0 W) :
    Calls Try.prog 21 #[.slice a 1 ca, .slice (some ⟨W.heap.size, 0, none⟩) 1 1] (W.alloc (.cells #[.int .i64 x] 3)) fun e w' => e = .returned (.bool true) ∧ Below w0.heap.size w0 w' := by
  have hB1 : Below w0.heap.size w0 (W.alloc (.cells #[.int .i64 x] 3)) := hB.alloc hB.size _
  have hJ : IntsAt (W.alloc (.cells #[.int .i64 x] 3)) (some ⟨W.heap.size, 0, none⟩) [x] := by
    refine Or.inr ⟨_, _, rfl, by simp, ?_⟩
    intro j z hz
    match j, hz with
    | 0, hz => simp at hz; subst hz; simp
    | j + 1, hz => simp at hz
  refine (sameInts_any a _ ca 1 [x] [x] _ (hI.below hB1) hJ (by simp) (by simp)).mono ?_
  rintro e w' ⟨rfl, n, rfl⟩
  exact ⟨by simp, below_drewN hB1 n⟩

theorem times_lit {w0 : World} (v0 v1 v2 v3 : Value) (a : Option Addr) (cap : Nat) (n : Int) (W : World) (hC : CtsAt w0 a [⟨⟨3, 0, 1⟩, n⟩]) (hB : Below w0.heap.size w0 W) :
    Calls Try.prog 27 #[.agg #[v0, v1, v2, v3, .slice a 1 cap], .agg #[.int .i64 3, .int .i64 0, .int .i64 1]] W fun e w' => e = .returned (.int .i64 n) ∧ Below w0.heap.size w0 w' := by
  refine (times_any v0 v1 v2 v3 a cap [⟨⟨3, 0, 1⟩, n⟩] ⟨3, 0, 1⟩ W (hC.below hB) (by simp)).mono ?_
  rintro e w' ⟨rfl, hb⟩
  exact ⟨by simp [tmo, ctOf], hB.trans (hb.mono hB.size)⟩

/-- Two results in memory. -/
def Two (b c : Nat) (x0 x1 x2 x3 x4 y0 y1 y2 y3 y4 : Value) (u : World) : Prop :=
  u.cell? ⟨b, 0, none⟩ = some x0 ∧ u.cell? ⟨b, 1, none⟩ = some x1 ∧ u.cell? ⟨b, 2, none⟩ = some x2 ∧ u.cell? ⟨b, 3, none⟩ = some x3 ∧ u.cell? ⟨b, 4, none⟩ = some x4 ∧
  u.cell? ⟨c, 0, none⟩ = some y0 ∧ u.cell? ⟨c, 1, none⟩ = some y1 ∧ u.cell? ⟨c, 2, none⟩ = some y2 ∧ u.cell? ⟨c, 3, none⟩ = some y3 ∧ u.cell? ⟨c, 4, none⟩ = some y4

theorem two_of {w u : World} {b c : Nat} {x0 x1 x2 x3 x4 y0 y1 y2 y3 y4 : Value} {t t' : TypeId} (hb : w.heap[b]? = some (.cells #[x0, x1, x2, x3, x4] t (0, 0))) (hc : w.heap[c]? = some (.cells #[y0, y1, y2, y3, y4] t' (0, 0))) (hB : Below w.heap.size w u) : Two b c x0 x1 x2 x3 x4 y0 y1 y2 y3 y4 u := by
  have hb' : u.heap[b]? = _ := (hB.block b (blk_lt hb)).trans hb
  have hc' : u.heap[c]? = _ := (hB.block c (blk_lt hc)).trans hc
  exact ⟨blk_cell hb' 0, blk_cell hb' 1, blk_cell hb' 2, blk_cell hb' 3, blk_cell hb' 4, blk_cell hc' 0, blk_cell hc' 1, blk_cell hc' 2, blk_cell hc' 3, blk_cell hc' 4⟩

set_option maxHeartbeats 1000000 in
set_option maxRecDepth 100000 in
theorem runBegun_any (w : World) :
    Calls Try.prog 25 #[] w fun e w' => e = .returned (.bool true) ∧ Below w.heap.size w w' := by
  go_enter Try.func25, Try.ntmps25
  go_wp2_with fail
  refine (small_any _).mono ?_
  rintro e w1 ⟨rfl, hN1, hb1⟩
  have hs1 := hb1.size
  go_wp2_with fail
  have hba : Below w1.heap.size w1 (w1.alloc (.cells #[.int .i64 4, .int .i64 5] 3)) := (Below.refl _ w1).alloc (Nat.le_refl _) _
  refine (rs1 _ _ _ (hN1.below hba hN1.lt) (by simp) (by simp) (by simp)).mono ?_
  rintro e w2 ⟨ao, co, ac, cc, rfl, hI2, hC2, hb2⟩
  have hs2 := hb2.size
  simp only [World.size_alloc] at hs2 hb2
  have hB2 : Below w.heap.size w w2 := hb1.trans ((hba.trans (hb2.mono (by omega))).mono (by omega))
  clear hN1 hb1 hba hb2
  go_wp2_with fail
  refine (small_any _).mono ?_
  rintro e w3 ⟨rfl, hN3, hb3⟩
  have hs3 := hb3.size
  simp only [World.size_alloc] at hs3 hb3 hN3
  have hr3 : w3.heap[w2.heap.size]? = some (.cells #[.slice ao 1 co, .int .i64 9, .bool true, .int .i64 7, .slice ac 1 cc] 42 (0, 0)) := by
    rw [hb3.block _ (by omega)]; exact blk_new rfl
  have hB3 : Below w2.heap.size w2 w3 := ((Below.refl _ w2).alloc (Nat.le_refl _) _).trans (hb3.mono (by omega))
  have HR3 := hide hr3
  clear hr3 hb3
  go_wp2_with fail
  have hba : Below w3.heap.size w3 (w3.alloc (.cells #[.int .i64 0, .int .i64 5] 3)) := (Below.refl _ w3).alloc (Nat.le_refl _) _
  refine (rs2 _ _ _ (hN3.below hba hN3.lt) (by simp) (by simp) (by simp)).mono ?_
  rintro e w4 ⟨ao4, co4, ac4, cc4, rfl, hI4, hC4, hb4⟩
  have hs4 := hb4.size
  simp only [World.size_alloc] at hs4 hb4
  have hB4 : Below w3.heap.size w3 w4 := hba.trans (hb4.mono (by omega))
  have hr4 : w4.heap[w2.heap.size]? = _ := (hB4.block _ (by omega)).trans HR3.out
  replace hI2 := (hI2.below hB3).below hB4
  replace hC2 := (hC2.below hB3).below hB4
  have hBw4 : Below w.heap.size w w4 := hB2.trans ((hB3.trans (hB4.mono (by omega))).mono (by omega))
  clear hN3 hba hb4 hB2 hB3 hB4 HR3
  have hsz : w2.heap.size < w4.heap.size := by omega
  have hsw : w.heap.size ≤ w4.heap.size := by omega
  clear hs1 hs2 hs3 hs4
  go_wp2
  have hb5 : Below w4.heap.size w4 (w4.alloc (.cells #[.slice ao4 0 co4, .int .i64 0, .bool false, .int .i64 4, .slice ac4 1 cc4] 42)) := (Below.refl _ w4).alloc (Nat.le_refl _) _
  have q5 : (w4.alloc (.cells #[.slice ao4 0 co4, .int .i64 0, .bool false, .int .i64 4, .slice ac4 1 cc4] 42)).heap[w4.heap.size]? = some (.cells #[.slice ao4 0 co4, .int .i64 0, .bool false, .int .i64 4, .slice ac4 1 cc4] 42 (0, 0)) := blk_new rfl
  generalize w4.alloc (.cells #[.slice ao4 0 co4, .int .i64 0, .bool false, .int .i64 4, .slice ac4 1 cc4] 42) = w5 at hb5 q5 ⊢
  have r5 : w5.heap[w2.heap.size]? = _ := (hb5.block _ hsz).trans hr4
  have HI := hide (hI2.below hb5)
  have HC := hide (hC2.below hb5)
  have HC4 := hide (hC4.below hb5)
  have HB := hide (hBw4.trans (hb5.mono hsw))
  have hs5 := hb5.size
  have hss : w.heap.size ≤ w5.heap.size := by omega
  have HT := hide (fun u hB => two_of (u := u) r5 q5 hB)
  clear hI2 hC2 hI4 hC4 hr4 hBw4 hb5 q5 r5 hs5 hsz hsw
  go_region_held3 (fun w' => w'.cell? ⟨w2.heap.size, 0, none⟩ = some (.slice ao 1 co) ∧ w'.cell? ⟨w2.heap.size, 1, none⟩ = some (.int .i64 9) ∧ w'.cell? ⟨w2.heap.size, 2, none⟩ = some (.bool true) ∧ w'.cell? ⟨w2.heap.size, 3, none⟩ = some (.int .i64 7) ∧ w'.cell? ⟨w2.heap.size, 4, none⟩ = some (.slice ac 1 cc) ∧ w'.cell? ⟨w4.heap.size, 0, none⟩ = some (.slice ao4 0 co4) ∧ w'.cell? ⟨w4.heap.size, 1, none⟩ = some (.int .i64 0) ∧ w'.cell? ⟨w4.heap.size, 2, none⟩ = some (.bool false) ∧ w'.cell? ⟨w4.heap.size, 3, none⟩ = some (.int .i64 4) ∧ w'.cell? ⟨w4.heap.size, 4, none⟩ = some (.slice ac4 1 cc4)) (first
    | exact HT.out _ hB10
    | exact HT.out _ hB9
    | exact HT.out _ hB8
    | exact HT.out _ hB7
    | exact HT.out _ hB6
    | exact HT.out _ ((Below.refl _ w5).drew.alloc (by first | exact Nat.le_refl _ | simp) _)
    | exact HT.out _ ((Below.refl _ w5).alloc (Nat.le_refl _) _).drew
    | exact HT.out _ (Below.refl _ w5).drew
    | exact HT.out _ (Below.refl _ w5)) (first
    | (go_at_call 21; refine (same_one ao co 9 _ HI.out (Below.refl _ w5).drew).mono ?_; rintro e w6 ⟨rfl, hB6⟩)
    | (go_at_call_of 27 (Value.agg #[.slice ao 1 co, .int .i64 9, .bool true, .int .i64 7, .slice ac 1 cc]); refine (times_lit _ _ _ _ ac cc 2 _ HC.out hB7).mono ?_; rintro e w8 ⟨rfl, hB8⟩)
    | (go_at_call_of 27 (Value.agg #[.slice ao4 0 co4, .int .i64 0, .bool false, .int .i64 4, .slice ac4 1 cc4]); refine (times_lit _ _ _ _ ac4 cc4 1 _ HC4.out hB9).mono ?_; rintro e w10 ⟨rfl, hB10⟩)
    | (go_at_call 65; refine (sum_any w6).mono ?_; rintro e w7 ⟨rfl, hb7⟩; have hB7 : Below w5.heap.size w5 w7 := hB6.trans (hb7.mono hB6.size))
    | (go_at_call 65; refine (sum_any w8).mono ?_; rintro e w9 ⟨rfl, hb9⟩; have hB9 : Below w5.heap.size w5 w9 := hB8.trans (hb9.mono hB8.size)))
  all_goals go_wp2
  all_goals go_ret
  all_goals exact ⟨rfl, HB.out.trans (hB10.mono hss)⟩
end Go.Proofs.Ytoikglgnmjjpcaa
