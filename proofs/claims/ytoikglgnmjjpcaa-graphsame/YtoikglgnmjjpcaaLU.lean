/-
  hoistwaylaw.graphBegun, walked.
  Two nodes are the same.
  graph.Split where the program is wrong; hoistwaylaw.graphBegun, walked.
-/
import Derived.Test.YtoikglgnmjjpcaaLS
import Derived.Test.YtoikglgnmjjpcaaLQ
import Derived.Test.YtoikglgnmjjpcaaLM
import Derived.Test.YtoikglgnmjjpcaaLN
namespace Go.Proofs.Ytoikglgnmjjpcaa
open Go.RowKit Go.Shelf
set_option linter.unusedVariables false

set_option maxHeartbeats 1000000 in
theorem split_err (r : Int) (a : Option Addr) (cap : Nat) (ns : List Nd) (w : World) (hN : SlN w a ns) (hc : chk r ns ≠ 0) :
    Calls Try.prog 33 #[.agg #[.int .i64 r, .slice a ns.length cap]] w fun e w' => e = .returned (.tuple #[.agg #[.int .i64 0, .slice none 0 0], .int .i64 (chk r ns)]) ∧ Below w.heap.size w w' := by
  have hb0 : Below w.heap.size w ((w.alloc (.cells #[.int .i64 r, .slice a ns.length cap] 24)).alloc (.cells #[.int .i64 0, .slice none 0 0] 24)) := ((Below.refl _ w).alloc (Nat.le_refl _) _).alloc (by simp) _
  have hck := check_any r a cap ns _ (hN.below hb0)
  have hcb : (chk r ns != 0) = true := by simpa using hc
  have HCK := hide hck
  clear hck hc
  generalize chk r ns = c at hcb HCK ⊢
  go_enter Try.func33, Try.ntmps33
  go_wp2_with fail
  refine HCK.out.mono ?_
  rintro e w1 ⟨rfl, hb1⟩
  have hs1 := hb1.size
  have hk : w1.heap[w.heap.size + 1]? = some (.cells #[.int .i64 0, .slice none 0 0] 24 (0, 0)) := by
    rw [hb1.block _ (by simp)]
    have := World.alloc_heap_new (w.alloc (.cells #[.int .i64 r, .slice a ns.length cap] 24)) (.cells #[.int .i64 0, .slice none 0 0] 24)
    rwa [World.size_alloc] at this
  simp only [World.size_alloc] at hs1 hb1
  have hB1 : Below w.heap.size w w1 := hb0.trans (hb1.mono (by omega))
  have z0 := blk_cell hk 0
  have z1 := blk_cell hk 1
  have f0 := blk_frozen hk 0
  have f1 := blk_frozen hk 1
  simp at z0 z1
  go_wp2
  refine bodyPost_ret (v := .tuple #[.agg #[.int .i64 0, .slice none 0 0], .int .i64 c]) ?_ rfl ⟨rfl, (hB1.setCell (p := ⟨w.heap.size + 1, 0, none⟩) (by simp) _).setCell (p := ⟨w.heap.size + 1, 1, none⟩) (by simp) _⟩
  have hk2 : ((w1.setCell ⟨w.heap.size + 1, 0, none⟩ (.int .i64 0)).setCell ⟨w.heap.size + 1, 1, none⟩ (.slice none 0 0)).heap[w.heap.size + 1]? = some (.cells #[.int .i64 0, .slice none 0 0] 24 (0, 0)) := by
    rw [blk_set _ (blk_set _ hk)]; simp
  have y0 := blk_cell hk2 0
  have y1 := blk_cell hk2 1
  simp at y0 y1
  simp [results, Try.results33, go_sem, y0, y1]

def smallP : List Nd := smallN ++ [⟨0, 0, 0, 0, 6, 0⟩]
theorem smallP_chk : chk 3 smallP = 0 := by kernel_rfl
theorem smallN_chk : chk 3 smallN = 0 := by kernel_rfl
theorem smallP_reach : rchL smallP = [true, true, true, true, true, true, true, false] := by kernel_rfl
theorem smallP_trim : trimN smallP = smallN := by kernel_rfl
def smallQ : List Nd := [⟨9, 0, 0, 0, 1, 0⟩, ⟨9, 1, 0, 0, 2, 0⟩, ⟨11, 0, 0, 0, 3, 7⟩, ⟨3, 2, 0, 1, 4, 0⟩, ⟨10, 0, 2, 0, 8, 0⟩, ⟨3, 2, 0, 1, 6, 0⟩, ⟨12, 0, 2, 0, 0, 0⟩, ⟨0, 0, 0, 0, 5, 0⟩, ⟨0, 0, 0, 0, 5, 0⟩]
theorem smallN_split : splitN smallN = smallQ := by kernel_rfl

set_option maxHeartbeats 1000000 in
theorem small_own (w : World) :
    Calls Try.prog 64 #[] w fun r w' => ∃ v, r = .returned (.agg #[.int .i64 3, v]) ∧ w'.ownsRow w.heap.size 87 6 v 7 (smallN.flatMap encNd) ∧ Below w.heap.size w w' := by
  go_enter Try.func64, Try.ntmps64
  go_wp2
  refine bodyPost_ret (v := .agg #[.int .i64 3, .slice (some ⟨w.heap.size + 1, 0, none⟩) 7 7]) (by simp [results, Try.results64, go_sem]) rfl ⟨_, rfl, ⟨rfl, Or.inr ⟨w.heap.size + 1, 7, ((smallN.flatMap encNd)).toArray, rfl, by omega, ?_, by decide, by decide, rfl, rfl⟩⟩, ((Below.refl _ _).alloc (Nat.le_refl _) _).alloc (by simp) _⟩
  have h := World.alloc_heap_new (w.alloc (.cells #[.int .i64 3, .slice (some ⟨w.heap.size + 1, 0, none⟩) 7 7] 24)) (.cells (smallN.flatMap encNd).toArray 87)
  rw [World.size_alloc] at h
  exact h
end Go.Proofs.Ytoikglgnmjjpcaa

namespace Go.Proofs.Ytoikglgnmjjpcaa
open Go.RowKit Go.Shelf
theorem eq_skp5 (w : World) : Sem.run Try.prog (binOp .eql 87 (.agg #[.int .i64 0, .int .i64 0, .int .i64 0, .int .i64 0, .int .i64 5, .int .i64 0]) (.agg #[.int .i64 0, .int .i64 0, .int .i64 0, .int .i64 0, .int .i64 5, .int .i64 0])) w = .ok (.bool true) w := by
  have u3 := Try.underlying3
  have a3 := Try.isAgg3
  have z3 := Try.sizeOf3
  have hS : Try.prog.underlying 87 = some (.struct (Try.prog.fieldsOf 87)) := by kernel_rfl
  have hp : Try.prog.stoodInHeld 87 = false := by kernel_rfl
  rw [run_eql_struct, show (10000 : Nat) = 9999 + 1 from rfl, run_equalIn_agg w 9999 87 _ _ hS hp]
  simp only [Program.fieldsOf, Try.underlying87]
  go_simp
end Go.Proofs.Ytoikglgnmjjpcaa

namespace Go.Proofs.Ytoikglgnmjjpcaa
open Go.RowKit Go.Shelf
set_option linter.unusedVariables false

set_option maxRecDepth 100000 in
set_option maxHeartbeats 4000000 in
theorem graphBegun_any (w : World) :
    Calls Try.prog 37 #[] w fun e w' => e = .returned (.bool true) ∧ Below w.heap.size w w' := by
  obtain ⟨i0, hi0, hz0, hz1, hz2⟩ := info_parts info_node
  go_enter Try.func37, Try.ntmps37
  go_upto_region 2 with (go_at_call 64; refine (small_own _).mono ?_; rintro e w1 ⟨v0, rfl, hV0, hB0⟩; obtain ⟨g, vc, rfl⟩ := ownsRow_succ hV0)
  have hs0 := hB0.size
  have p0 : (w1.alloc (.cells #[.int .i64 3, .slice (some ⟨g, 0, none⟩) 7 vc] 24)).heap[w1.heap.size]? = some (.cells #[.int .i64 3, .slice (some ⟨g, 0, none⟩) 7 vc] 24 (0, 0)) := World.alloc_heap_new w1 _
  have hB1 : Below w.heap.size w (w1.alloc (.cells #[.int .i64 3, .slice (some ⟨g, 0, none⟩) 7 vc] 24)) := hB0.alloc (by omega) _
  have hV1 := hV0.alloc (.cells #[.int .i64 3, .slice (some ⟨g, 0, none⟩) 7 vc] 24)
  generalize w1.alloc (.cells #[.int .i64 3, .slice (some ⟨g, 0, none⟩) 7 vc] 24) = W1 at p0 hB1 hV1 ⊢
  clear hV0 hB0
  generalize w1.heap.size = A at p0 hs0 ⊢
  have q1 := blk_cell p0 1
  have hAl := blk_lt p0
  simp at q1
  have HB1 := hide hB1
  have HV1 := hide hV1
  have HP0 := hide p0
  have hs1 := hB1.size
  clear hB1 hV1 p0
  go_upto_region 3 with (at_builtin; refine wpList_append_own _ rfl _ _ 22 rfl w.heap.size 87 i0 _ 6 48 Try.underlying22 hi0 hz0 hz1 hz2 rfl (by decide) _ _ _ rfl (HV1.out.alloc _) ⟨W1.heap.size, 0, none⟩ 1 1 (encNd ⟨0, 0, 0, 0, 6, 0⟩) rfl rfl ?cells (by simp [encNd, Value.oneCell']) (by decide) (by decide) (by simp; omega) ?_)
  case cells =>
    intro j u hj
    rw [show (⟨W1.heap.size, 0, none⟩ : Addr).add j = ⟨W1.heap.size, j, none⟩ by cases j <;> simp [Addr.add], World.cell?_alloc_at _ _ _ _ rfl]
    simpa [encNd] using hj
  intro v' w2 hown hgrow _
  obtain ⟨g2, c2, rfl⟩ := ownsRow_succ hown
  have hgrow' : (W1.alloc (.cells #[.int .i64 0, .int .i64 0, .int .i64 0, .int .i64 0, .int .i64 6, .int .i64 0] 87)).grownBy w2 (some g) := hgrow
  have hp2 : w2.heap[A]? = some (.cells #[.int .i64 3, .slice (some ⟨g, 0, none⟩) 7 vc] 24 (0, 0)) := (hgrow'.block _ (by simp; omega) (fun e => owns_ne_ty HV1.out HP0.out (by decide) e)).trans ((Below.heap_alloc _ _ _ hAl).trans HP0.out)
  have hB2 : Below w.heap.size w w2 := (HB1.out.alloc (by omega) _).grown hgrow' (by simp; omega) (fun j ej => by cases ej; exact (HV1.out.lt g rfl).1)
  have hB2' := hB2.setCell (p := ⟨A, 1, none⟩) (by simpa using hs0) (.slice (some ⟨g2, 0, none⟩) 8 c2)
  have hp3 : (w2.setCell ⟨A, 1, none⟩ (.slice (some ⟨g2, 0, none⟩) 8 c2)).heap[A]? = some (.cells #[.int .i64 3, .slice (some ⟨g2, 0, none⟩) 8 c2] 24 (0, 0)) := by
    rw [blk_set _ hp2]; simp
  have hV3 : (w2.setCell ⟨A, 1, none⟩ (.slice (some ⟨g2, 0, none⟩) 8 c2)).ownsRow w.heap.size 87 6 (.slice (some ⟨g2, 0, none⟩) 8 c2) smallP.length (smallP.flatMap encNd) := owns_set hown hp2 (by decide)
  have m0 := blk_cell hp2 1
  have m1 := blk_frozen hp2 1
  have m2 := blk_lt hp2
  simp at m0
  have HB := hide hB2'
  have HP := hide hp3
  have HV := hide hV3
  clear hp2 hB2 hB2' hp3 hV3 hown hgrow hgrow' HV1 HP0 HB1 hs1 q1 hAl
  go_upto_region 3 with fail
  clear m0 m1 m2
  generalize w2.setCell ⟨A, 1, none⟩ (.slice (some ⟨g2, 0, none⟩) 8 c2) = W3 at HB HP HV ⊢
  have hN3 : NodesAt W3 g2 0 smallP := by
    obtain ⟨a, cap, e, hS⟩ := nodes_of_owns HV.out
    cases e
    obtain ⟨b, off, e, h⟩ := hS.some (by decide)
    cases e
    exact h
  have r0 := blk_cell HP.out 0
  have r1 := blk_cell HP.out 1
  have rl := blk_lt HP.out
  simp at r0 r1
  have hre : Calls Try.prog 31 #[.agg #[.int .i64 3, .slice (some ⟨g2, 0, none⟩) 8 c2]] W3 fun e w' => ∃ v, e = .returned (.tuple #[v, .int .i64 0]) ∧ w'.ownsRow W3.heap.size 4 1 v 8 ([true, true, true, true, true, true, true, false].map Value.bool) ∧ Below W3.heap.size W3 w' := by
    have := reach_any 3 g2 0 c2 smallP W3 hN3 smallP_chk
    rw [smallP_reach] at this
    exact this
  have HRE := hide hre
  have HN3 := hide hN3
  clear hre hN3
  go_upto_region 4 with (go_at_call 31; refine HRE.out.mono ?_; rintro e w4 ⟨v4, rfl, hv4, hb4⟩; obtain ⟨rb, rc, rfl⟩ := ownsRow_succ hv4)
  have HN4 := hide (HN3.out.below hb4 HN3.out.lt)
  have hs4 := hb4.size
  have HB4 := hide (HB.out.trans (hb4.mono HB.out.size))
  have t0 := (hb4.cell (p := ⟨A, 0, none⟩) rl).trans r0
  have t1 := (hb4.cell (p := ⟨A, 1, none⟩) rl).trans r1
  have HV4 := hide hv4
  have tl : A < w4.heap.size := by omega
  clear r0 r1 rl hb4 hv4 HN3 HRE
  have htr : Calls Try.prog 32 #[.agg #[.int .i64 3, .slice (some ⟨g2, 0, none⟩) 8 c2]] w4 fun e w' => ∃ v, e = .returned (.tuple #[.agg #[.int .i64 3, v], .int .i64 0]) ∧ w'.ownsRow w4.heap.size 87 6 v 7 (smallN.flatMap encNd) ∧ Below w4.heap.size w4 w' := by
    have := callsIn_wide.1 (trim_ok 3 g2 0 c2 smallP w4 HN4.out smallP_chk)
    rw [smallP_trim] at this
    exact this
  have HTR := hide htr
  clear htr
  go_upto_region 5 with (go_at_call 32; refine HTR.out.mono ?_; rintro e w5 ⟨v5, rfl, hv5, hb5⟩; obtain ⟨tb, tc, rfl⟩ := ownsRow_succ hv5)
  have hs5 := hb5.size
  have hrl := (HV4.out.lt rb rfl).2
  have hrb := (HV4.out.lt rb rfl).1
  have HV5 := hide (hv5.alloc (.cells #[.int .i64 3, .slice (some ⟨tb, 0, none⟩) 7 tc] 24))
  have HR5 := hide ((ownsRow_below HV4.out hb5 (Nat.le_refl _)).alloc (.cells #[.int .i64 3, .slice (some ⟨tb, 0, none⟩) 7 tc] 24))
  have HT5 : Hid ((w5.alloc (.cells #[.int .i64 3, .slice (some ⟨tb, 0, none⟩) 7 tc] 24)).heap[w5.heap.size]? = some (.cells #[.int .i64 3, .slice (some ⟨tb, 0, none⟩) 7 tc] 24 (0, 0))) := World.alloc_heap_new w5 _
  have HB5 := hide ((HB4.out.trans (hb5.mono HB4.out.size)).alloc (Nat.le_trans HB4.out.size hb5.size) (.cells #[.int .i64 3, .slice (some ⟨tb, 0, none⟩) 7 tc] 24))
  clear hb5 hv5 HTR HV4 HN4 HB4 HB HP HV t0 t1 tl
  generalize w5.alloc (.cells #[.int .i64 3, .slice (some ⟨tb, 0, none⟩) 7 tc] 24) = W5 at HV5 HR5 HT5 HB5 ⊢
  generalize w5.heap.size = T at HT5 hs5 hrl ⊢
  have hsp : ∀ (b : Nat) (W : World), NodesAt W b 0 smallN → Calls Try.prog 33 #[.agg #[.int .i64 3, .slice (some ⟨b, 0, none⟩) 7 7]] W fun e w' => ∃ v, e = .returned (.tuple #[.agg #[.int .i64 3, v], .int .i64 0]) ∧ w'.ownsRow W.heap.size 87 6 v 9 (smallQ.flatMap encNd) ∧ Below W.heap.size W w' := fun b W h => by
    refine (callsIn_wide.1 (split_ok 3 b 0 7 smallN W h smallN_chk)).mono ?_
    rintro e w' ⟨v1, v2, er, rfl, h, hB⟩
    rw [smallN_split] at h
    rcases h with ⟨_, rfl, rfl, h⟩ | ⟨h, _⟩
    · exact ⟨v2, rfl, h, hB⟩
    · exact absurd h (by decide)
  have HSP := hide hsp
  clear hsp
  go_upto_region 6 with (first
    | (go_at_call 64; refine (small_any _).mono ?_; rintro e w6 ⟨rfl, hn6, hb6⟩)
    | (go_at_call 33; refine (HSP.out _ _ hn6).mono ?_; rintro e w7 ⟨v7, rfl, hv7, hb7⟩; obtain ⟨qb, qc, rfl⟩ := ownsRow_succ hv7))
  have hs6 := hb6.size
  have hs7 := hb7.size
  have hB7 : Below W5.heap.size W5 w7 := hb6.trans (hb7.mono (by omega))
  have hBQ : Below W5.heap.size W5 (w7.alloc (.cells #[.int .i64 3, .slice (some ⟨qb, 0, none⟩) 9 qc] 24)) := hB7.alloc hB7.size _
  have hQb : (w7.alloc (.cells #[.int .i64 3, .slice (some ⟨qb, 0, none⟩) 9 qc] 24)).heap[w7.heap.size]? = some (.cells #[.int .i64 3, .slice (some ⟨qb, 0, none⟩) 9 qc] 24 (0, 0)) := World.alloc_heap_new w7 _
  have hvQ := hv7.alloc (.cells #[.int .i64 3, .slice (some ⟨qb, 0, none⟩) 9 qc] 24)
  generalize w7.alloc (.cells #[.int .i64 3, .slice (some ⟨qb, 0, none⟩) 9 qc] 24) = WQ at hBQ hQb hvQ ⊢
  generalize w7.heap.size = Q at hQb ⊢
  clear hv7 hb6 hb7 hB7 hn6 HSP
  have hQl := blk_lt hQb
  have hTb := (hBQ.block _ (blk_lt HT5.out)).trans HT5.out
  have hRQ := ownsRow_below HR5.out hBQ (Nat.le_refl _)
  have hTQ := ownsRow_below HV5.out hBQ (Nat.le_refl _)
  have hadd : ∀ (g j : Nat), (⟨g, 0, none⟩ : Addr).add j = ⟨g, j, none⟩ := fun g j => by cases j <;> simp [Addr.add]
  have hrc : ∀ (j : Nat) (u : Value), ([true, true, true, true, true, true, true, false].map Value.bool)[j]? = some u → WQ.cell? ⟨rb, j, none⟩ = some u := fun j u h => by rw [← hadd]; exact hRQ.cells (g := rb) rfl j u h
  have hqc : ∀ (j : Nat) (u : Value), (smallQ.flatMap encNd)[j]? = some u → WQ.cell? ⟨qb, j, none⟩ = some u := fun j u h => by rw [← hadd]; exact hvQ.cells (g := qb) rfl j u h
  have hrl2 := (hRQ.lt rb rfl).2
  have hql2 := (hvQ.lt qb rfl).2
  have hTl := blk_lt hTb
  have held : ∀ W : World, Below WQ.heap.size WQ W → W.cell? ⟨rb, 6, none⟩ = some (.bool true) ∧ W.cell? ⟨rb, 7, none⟩ = some (.bool false) ∧ W.cell? ⟨T, 0, none⟩ = some (.int .i64 3) ∧ W.cell? ⟨T, 1, none⟩ = some (.slice (some ⟨tb, 0, none⟩) 7 tc) ∧ W.cell? ⟨Q, 1, none⟩ = some (.slice (some ⟨qb, 0, none⟩) 9 qc) ∧ W.cell? ⟨qb, 17, none⟩ = some (.int .i64 7) ∧ W.cell? ⟨qb, 28, none⟩ = some (.int .i64 8) ∧ W.cell? ⟨qb, 42, none⟩ = some (.int .i64 0) ∧ W.cell? ⟨qb, 43, none⟩ = some (.int .i64 0) ∧ W.cell? ⟨qb, 44, none⟩ = some (.int .i64 0) ∧ W.cell? ⟨qb, 45, none⟩ = some (.int .i64 0) ∧ W.cell? ⟨qb, 46, none⟩ = some (.int .i64 5) ∧ W.cell? ⟨qb, 47, none⟩ = some (.int .i64 0) ∧ W.cell? ⟨qb, 48, none⟩ = some (.int .i64 0) ∧ W.cell? ⟨qb, 49, none⟩ = some (.int .i64 0) ∧ W.cell? ⟨qb, 50, none⟩ = some (.int .i64 0) ∧ W.cell? ⟨qb, 51, none⟩ = some (.int .i64 0) ∧ W.cell? ⟨qb, 52, none⟩ = some (.int .i64 5) ∧ W.cell? ⟨qb, 53, none⟩ = some (.int .i64 0) := fun W h => by
    have k1 : ∀ (b j : Nat) (u : Value), b < WQ.heap.size → WQ.cell? ⟨b, j, none⟩ = some u → W.cell? ⟨b, j, none⟩ = some u := fun b j u hb hc => (h.cell (p := ⟨b, j, none⟩) hb).trans hc
    refine ⟨k1 _ _ _ hrl2 (hrc _ _ rfl), k1 _ _ _ hrl2 (hrc _ _ rfl), k1 _ _ _ hTl (by rw [blk_cell hTb]; rfl), k1 _ _ _ hTl (by rw [blk_cell hTb]; rfl), k1 _ _ _ hQl (by rw [blk_cell hQb]; rfl), k1 _ _ _ hql2 (hqc _ _ rfl), k1 _ _ _ hql2 (hqc _ _ rfl), k1 _ _ _ hql2 (hqc _ _ rfl), k1 _ _ _ hql2 (hqc _ _ rfl), k1 _ _ _ hql2 (hqc _ _ rfl), k1 _ _ _ hql2 (hqc _ _ rfl), k1 _ _ _ hql2 (hqc _ _ rfl), k1 _ _ _ hql2 (hqc _ _ rfl), k1 _ _ _ hql2 (hqc _ _ rfl), k1 _ _ _ hql2 (hqc _ _ rfl), k1 _ _ _ hql2 (hqc _ _ rfl), k1 _ _ _ hql2 (hqc _ _ rfl), k1 _ _ _ hql2 (hqc _ _ rfl), k1 _ _ _ hql2 (hqc _ _ rfl)⟩
  have hsl : SlN WQ (some ⟨tb, 0, none⟩) smallN := by
    obtain ⟨a, cap, e, h⟩ := nodes_of_owns (ns := smallN) hTQ
    cases e; exact h
  have HSL := hide hsl
  have HELD := hide held
  have HBw := hide (HB5.out.trans (hBQ.mono HB5.out.size))
  have heq := eq_skp5
  clear hsl held hrc hqc hadd hRQ hTQ hTb hQb hvQ hBQ HB5 HR5 HV5 HT5
  simp only [List.append_eq, List.cons_append, List.nil_append]
  go_region_held3 (fun W => W.cell? ⟨rb, 6, none⟩ = some (.bool true) ∧ W.cell? ⟨rb, 7, none⟩ = some (.bool false) ∧ W.cell? ⟨T, 0, none⟩ = some (.int .i64 3) ∧ W.cell? ⟨T, 1, none⟩ = some (.slice (some ⟨tb, 0, none⟩) 7 tc) ∧ W.cell? ⟨Q, 1, none⟩ = some (.slice (some ⟨qb, 0, none⟩) 9 qc) ∧ W.cell? ⟨qb, 17, none⟩ = some (.int .i64 7) ∧ W.cell? ⟨qb, 28, none⟩ = some (.int .i64 8) ∧ W.cell? ⟨qb, 42, none⟩ = some (.int .i64 0) ∧ W.cell? ⟨qb, 43, none⟩ = some (.int .i64 0) ∧ W.cell? ⟨qb, 44, none⟩ = some (.int .i64 0) ∧ W.cell? ⟨qb, 45, none⟩ = some (.int .i64 0) ∧ W.cell? ⟨qb, 46, none⟩ = some (.int .i64 5) ∧ W.cell? ⟨qb, 47, none⟩ = some (.int .i64 0) ∧ W.cell? ⟨qb, 48, none⟩ = some (.int .i64 0) ∧ W.cell? ⟨qb, 49, none⟩ = some (.int .i64 0) ∧ W.cell? ⟨qb, 50, none⟩ = some (.int .i64 0) ∧ W.cell? ⟨qb, 51, none⟩ = some (.int .i64 0) ∧ W.cell? ⟨qb, 52, none⟩ = some (.int .i64 5) ∧ W.cell? ⟨qb, 53, none⟩ = some (.int .i64 0)) (first
    | exact HELD.out _ hB9
    | exact HELD.out _ hB8
    | exact HELD.out _ (Below.refl _ WQ).drew
    | exact HELD.out _ (Below.refl _ WQ)) (first
    | (go_at_call 64; refine (small_any _).mono ?_; rintro e w8 ⟨rfl, hN8, hb8⟩; have hB8 : Below WQ.heap.size WQ w8 := (Below.refl _ WQ).drew.trans hb8)
    | (go_at_call 39; refine (sameProgs_same 3 _ _ _ _ smallN _ (HSL.out.below hB8) (Or.inr ⟨_, _, rfl, hN8⟩) (by decide)).mono ?_; rintro e w9 ⟨rfl, hb9⟩; have hB9 : Below WQ.heap.size WQ w9 := hB8.trans (hb9.mono hB8.size)))
  all_goals go_wp2
  all_goals go_ret
  all_goals exact ⟨rfl, HBw.out.trans (hB9.mono HBw.out.size)⟩
end Go.Proofs.Ytoikglgnmjjpcaa

