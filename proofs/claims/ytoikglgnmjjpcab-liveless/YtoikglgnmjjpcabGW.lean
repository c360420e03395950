/-
  hoistwaylaw.few, choose and does, walked.
  hoistwaylaw.RunMore, walked.
  run.Run whatever it is handed; plain facts on runs with more fuel.
  hoistwaylaw.choose and begins, hoistwayref.SameResults, walked.
  hoistwaylaw.runBegun, walked: the runs of the small program.
  hoistwayref.TimesOf and SameCounts, walked.
  run.Times and hoistwayref.TimesOf, walked.
-/
import Derived.Test.YtoikglgnmjjpcabRS
import Derived.Deep.RegionWith
import Derived.Deep.CutRange
import Derived.RangeFuncBox
namespace Go.Proofs.Ytoikglgnmjjpcab
open Go.RowKit
set_option linter.unusedVariables false

/-- Where a list of counts lies. -/
def CtsAt (w : World) (a : Option Addr) (l : List Ct) : Prop :=
  l = [] ∨ ∃ b off, a = some ⟨b, off, none⟩ ∧ b < w.heap.size ∧ ∀ (j : Nat) (c : Ct), l[j]? = some c → w.cell? ⟨b, off + j * 4, none⟩ = some (.int .i64 c.t.op) ∧ w.cell? ⟨b, off + j * 4 + 1, none⟩ = some (.int .i64 c.t.a) ∧ w.cell? ⟨b, off + j * 4 + 2, none⟩ = some (.int .i64 c.t.b) ∧ w.cell? ⟨b, off + j * 4 + 3, none⟩ = some (.int .i64 c.n)

theorem CtsAt.below {w w' : World} {a : Option Addr} {l : List Ct} (h : CtsAt w a l) (hb : Below w.heap.size w w') : CtsAt w' a l := by
  rcases h with h | ⟨b, off, rfl, hlt, h⟩
  · exact Or.inl h
  · refine Or.inr ⟨b, off, rfl, Nat.lt_of_lt_of_le hlt hb.size, fun j t ht => ?_⟩
    rw [hb.cell (p := ⟨b, _, none⟩) hlt, hb.cell (p := ⟨b, _, none⟩) hlt, hb.cell (p := ⟨b, _, none⟩) hlt, hb.cell (p := ⟨b, _, none⟩) hlt]
    exact h j t ht

theorem CtsAt.at {w : World} {a : Option Addr} {l : List Ct} (h : CtsAt w a l) {k : Nat} {c : Ct} (hk : l[k]? = some c) : ∃ b off, a = some ⟨b, off, none⟩ ∧ b < w.heap.size ∧ w.cell? ⟨b, off + k * 4, none⟩ = some (.int .i64 c.t.op) ∧ w.cell? ⟨b, off + k * 4 + 1, none⟩ = some (.int .i64 c.t.a) ∧ w.cell? ⟨b, off + k * 4 + 2, none⟩ = some (.int .i64 c.t.b) ∧ w.cell? ⟨b, off + k * 4 + 3, none⟩ = some (.int .i64 c.n) := by
  rcases h with h | ⟨b, off, rfl, hlt, h⟩
  · subst h; simp at hk
  · exact ⟨b, off, rfl, hlt, h k c hk⟩

theorem cts_of_owns {w : World} {base : Nat} {e : TypeId} {v : Value} {l : List Ct} (h : w.ownsRow base e 4 v l.length (l.flatMap encCt)) : ∃ a cap, v = .slice a l.length cap ∧ CtsAt w a l := by
  have hc : ∀ g, v.ownBlock = some g → ∀ j u, (l.flatMap encCt)[j]? = some u → w.cell? ((⟨g, 0, none⟩ : Addr).add j) = some u := fun g hg => h.cells hg
  obtain ⟨_, h⟩ := h
  rcases h with ⟨rfl, h0⟩ | ⟨g, cap, cur, rfl, h1, h2, h3, h4, h5, h6⟩
  · have : l = [] := List.eq_nil_of_length_eq_zero h0
    subst this
    exact ⟨none, 0, rfl, Or.inl rfl⟩
  · refine ⟨_, cap, rfl, Or.inr ⟨g, 0, rfl, (Array.getElem?_eq_some_iff.1 h2).1, ?_⟩⟩
    intro j t ht
    have e : ∀ i, (⟨g, 0, none⟩ : Addr).add i = ⟨g, 0 + i, none⟩ := by intro i; cases i <;> simp [Addr.add]
    have f : ∀ i, i < 4 → ∀ u, (encCt t)[i]? = some u → w.cell? ⟨g, 0 + (j * 4 + i), none⟩ = some u := by
      intro i hi u hu
      have := hc g rfl (j * 4 + i) u (by rw [flat4 l j i t ht hi]; exact hu)
      rwa [e] at this
    exact ⟨f 0 (by omega) _ rfl, f 1 (by omega) _ rfl, f 2 (by omega) _ rfl, f 3 (by omega) _ rfl⟩

/-- How often. -/
def tmo (l : List Ct) (t : Tm) : Int := (ctOf l t).getD 0

theorem ctOf_split {l : List Ct} {t : Tm} {k : Nat} {c : Ct} (h : ∀ d ∈ l.take k, d.t ≠ t) (hk : l[k]? = some c) (hc : c.t = t) : ctOf l t = some c.n := by
  induction l generalizing k with
  | nil => simp at hk
  | cons d l ih =>
    cases k with
    | zero => simp at hk; subst hk; rw [ctOf_cons, if_pos hc]
    | succ k =>
      simp at hk
      rw [ctOf_cons, if_neg (h d (by simp)), ih (k := k) (fun e he => h e (by simp [he])) hk]

theorem ctOf_not {l : List Ct} {t : Tm} (h : ∀ d ∈ l, d.t ≠ t) : ctOf l t = none := by
  induction l with
  | nil => rfl
  | cons d l ih => rw [ctOf_cons, if_neg (h d (by simp)), ih fun e he => h e (by simp [he])]

theorem take_more {l : List Ct} {t : Tm} {k : Nat} {c : Ct} (h : ∀ d ∈ l.take k, d.t ≠ t) (hk : l[k]? = some c) (hc : c.t ≠ t) : ∀ d ∈ l.take (k + 1), d.t ≠ t := by
  rw [List.take_add_one, hk]
  intro d hd
  rw [List.mem_append] at hd
  rcases hd with hd | hd
  · exact h d hd
  · simp at hd; subst hd; exact hc

set_option maxHeartbeats 1000000 in
theorem times_any (v0 v1 v2 v3 : Value) (a : Option Addr) (cap : Nat) (l : List Ct) (t : Tm) (w : World) (hC : CtsAt w a l) (hl : l.length ≤ 9223372036854775807) :
    Calls Try.prog 17 #[.agg #[v0, v1, v2, v3, .slice a l.length cap], .agg #[.int .i64 t.op, .int .i64 t.a, .int .i64 t.b]] w fun e w' => e = .returned (.int .i64 (tmo l t)) ∧ Below w.heap.size w w' := by
  go_enter Try.func17, Try.ntmps17
  go_wp2
  have hb0 : Below w.heap.size w ((w.alloc (.cells #[v0, v1, v2, v3, .slice a l.length cap] 42)).alloc (.cells #[.int .i64 t.op, .int .i64 t.a, .int .i64 t.b] 48)) := ((Below.refl _ w).alloc (Nat.le_refl _) _).alloc (by simp) _
  have hs0 : ((w.alloc (.cells #[v0, v1, v2, v3, .slice a l.length cap] 42)).alloc (.cells #[.int .i64 t.op, .int .i64 t.a, .int .i64 t.b] 48)).heap.size = w.heap.size + 2 := by simp
  have hk0 : ((w.alloc (.cells #[v0, v1, v2, v3, .slice a l.length cap] 42)).alloc (.cells #[.int .i64 t.op, .int .i64 t.a, .int .i64 t.b] 48)).heap[w.heap.size + 1]? = some (.cells #[.int .i64 t.op, .int .i64 t.a, .int .i64 t.b] 48 (0, 0)) := blk_new (by simp)
  generalize (w.alloc (.cells #[v0, v1, v2, v3, .slice a l.length cap] 42)).alloc (.cells #[.int .i64 t.op, .int .i64 t.a, .int .i64 t.b] 48) = W0 at hb0 hs0 hk0 ⊢
  have HC := hide (hC.below hb0)
  clear hC
  go_loopw [10] (fun i wr => ∃ k : Nat, k ≤ l.length ∧ i = .int .i64 k ∧ (∀ d ∈ l.take k, d.t ≠ t) ∧ Below W0.heap.size W0 wr) (fun i _ => l.length - (intOf i).toNat)
  case atStart => exact ⟨0, Nat.zero_le _, rfl, by simp, Below.refl _ _⟩
  case round =>
    obtain ⟨k, hk, rfl, hn, hb⟩ := hrel
    have HN := hide hn
    clear hn
    have t0 : wr.cell? ⟨w.heap.size + 1, 0, none⟩ = some (.int .i64 t.op) := by rw [hb.cell (p := ⟨w.heap.size + 1, 0, none⟩) (by simp; omega), blk_cell hk0]; rfl
    have t1 : wr.cell? ⟨w.heap.size + 1, 1, none⟩ = some (.int .i64 t.a) := by rw [hb.cell (p := ⟨w.heap.size + 1, 1, none⟩) (by simp; omega), blk_cell hk0]; rfl
    have t2 : wr.cell? ⟨w.heap.size + 1, 2, none⟩ = some (.int .i64 t.b) := by rw [hb.cell (p := ⟨w.heap.size + 1, 2, none⟩) (by simp; omega), blk_cell hk0]; rfl
    have hsr := hb.size
    have hBw : Below w.heap.size w wr := hb0.trans (hb.mono hb0.size)
    have HB := hide hBw
    have HBr := hide hb
    have hwr : w.heap.size + 1 < wr.heap.size := by omega
    clear hb hBw hk0
    by_cases hlt : k < l.length
    · obtain ⟨c, hc⟩ : ∃ c, l[k]? = some c := ⟨l[k], List.getElem?_eq_getElem hlt⟩
      obtain ⟨b, off, rfl, hbl, c0, c1, c2, c3⟩ := (HC.out.below HBr.out).at hc
      have hlt' : (k : Int) < (l.length : Int) := by omega
      by_cases e : c.t = t
      · subst e
        go_wp2
        go_ret
        refine ⟨ret_int ?_, HB.out.alloc (by omega) _⟩
        rw [tmo, ctOf_split HN.out hc rfl]; rfl
      · have HE := hide e
        have HX := hide hc
        clear e hc
        go_wp2
        all_goals first
          | refine ⟨⟨k + 1, by omega, by go_num, take_more HN.out HX.out HE.out, HBr.out.alloc (by omega) _⟩, by simp [intOf]; omega⟩
          | skip
        exfalso
        apply HE.out
        cases t; cases hct : c.t
        simp_all
    · have hlt' : ¬ (k : Int) < (l.length : Int) := by omega
      go_wp2
      go_ret
      refine ⟨ret_int ?_, HB.out⟩
      rw [tmo, ctOf_not (fun d hd => HN.out d (by rw [List.take_of_length_le (by omega)]; exact hd))]
      rfl
end Go.Proofs.Ytoikglgnmjjpcab

namespace Go.Proofs.Ytoikglgnmjjpcab
open Go.RowKit
set_option linter.unusedVariables false

theorem ct_ne {c d : Ct} (h : c ≠ d) : ¬ (c.t.op = d.t.op ∧ c.t.a = d.t.a ∧ c.t.b = d.t.b ∧ c.n = d.n) := by
  rintro ⟨h1, h2, h3, h4⟩
  apply h
  obtain ⟨⟨a, b, e⟩, n⟩ := c
  obtain ⟨⟨a', b', e'⟩, n'⟩ := d
  simp at h1 h2 h3 h4
  rw [h1, h2, h3, h4]

set_option maxHeartbeats 2000000 in
theorem sameCounts_any (a b : Option Addr) (ca cb : Nat) (xs ys : List Ct) (w : World) (hx : CtsAt w a xs) (hy : CtsAt w b ys) (hl : xs.length ≤ 140737488351232) (hl' : ys.length ≤ 140737488351232) :
    Calls Try.prog 19 #[.slice a xs.length ca, .slice b ys.length cb] w fun e w' => e = .returned (.bool (xs == ys)) ∧ ∃ n, w' = w.drewN n := by
  by_cases hne : xs.length = ys.length
  · have HE : Hid (xs.length = ys.length) := hne
    have h1 : ((xs.length : Int) != (ys.length : Int)) = false := by simp [hne]
    have hle : xs.length ≤ ys.length := by omega
    clear hne
    go_enter Try.func19, Try.ntmps19
    go_wp2
    go_loopw [5] (fun i wr => ∃ k : Nat, k ≤ xs.length ∧ i = .int .i64 k ∧ Hid (xs.take k = ys.take k) ∧ ∃ n, wr = w.drewN n) (fun i _ => xs.length - (intOf i).toNat)
    case atStart => exact ⟨0, Nat.zero_le _, rfl, by show _ = _; simp, 0, rfl⟩
    case round =>
      obtain ⟨k, hk, rfl, hT, n, rfl⟩ := hrel
      by_cases hlt : k < xs.length
      · have hlt2 : k < ys.length := by omega
        obtain ⟨x, gx⟩ := get_lt hlt
        obtain ⟨y, gy⟩ := get_lt hlt2
        obtain ⟨ba, oa, rfl, ha, x0, x1, x2, x3⟩ := hx.at gx
        obtain ⟨bb, ob, rfl, hb, y0, y1, y2, y3⟩ := hy.at gy
        have GX := hide gx
        have GY := hide gy
        clear gx gy
        by_cases hxy : x = y
        · subst hxy
          go_wp2
          go_quiet (fail)
          go_wp2
          go_roundw
          case rel => exact ⟨k + 1, by omega, by go_num, take_eq_succ GX.out GY.out hT.out rfl, n + nq, by first | rfl | (simp only [World.drewN_drewN])⟩
          case measure => simp [intOf]; omega
        · have hq := ct_ne hxy
          have HQ := hide hxy
          clear hxy
          by_cases e1 : x.t.op = y.t.op
          · have e1' : (x.t.op == y.t.op) = true := by simp [e1]
            by_cases e2 : x.t.a = y.t.a
            · have e2' : (x.t.a == y.t.a) = true := by simp [e2]
              by_cases e3 : x.t.b = y.t.b
              · have e3' : (x.t.b == y.t.b) = true := by simp [e3]
                have e4' : (x.n == y.n) = false := by
                  simp; intro e4; exact hq ⟨e1, e2, e3, e4⟩
                clear hq
                go_wp2
                go_quiet (fail)
                go_wp2
                go_ret
                exact ⟨ret_bool (list_ne_at GX.out GY.out HQ.out).symm, n + nq, by first | rfl | (simp only [World.drewN_drewN])⟩
              · have e3' : (x.t.b == y.t.b) = false := by simp [e3]
                clear hq
                go_wp2
                go_quiet (fail)
                go_wp2
                go_ret
                exact ⟨ret_bool (list_ne_at GX.out GY.out HQ.out).symm, n + nq, by first | rfl | (simp only [World.drewN_drewN])⟩
            · have e2' : (x.t.a == y.t.a) = false := by simp [e2]
              clear hq
              go_wp2
              go_quiet (fail)
              go_wp2
              go_ret
              exact ⟨ret_bool (list_ne_at GX.out GY.out HQ.out).symm, n + nq, by first | rfl | (simp only [World.drewN_drewN])⟩
          · have e1' : (x.t.op == y.t.op) = false := by simp [e1]
            clear hq
            go_wp2
            go_quiet (fail)
            go_wp2
            go_ret
            exact ⟨ret_bool (list_ne_at GX.out GY.out HQ.out).symm, n + nq, by first | rfl | (simp only [World.drewN_drewN])⟩
      · go_wp2
        go_ret
        refine ⟨ret_bool ?_, n, rfl⟩
        have e1 : xs = ys := by
          have h := hT.out
          rw [List.take_of_length_le (by omega), List.take_of_length_le (by have := HE.out; omega)] at h; exact h
        simp [e1]
  · have h1 : ((xs.length : Int) != (ys.length : Int)) = true := by simp; omega
    have HE : Hid (¬ xs.length = ys.length) := hne
    clear hne
    go_enter Try.func19, Try.ntmps19
    go_wp2
    go_ret
    exact ⟨ret_bool (list_ne_len HE.out).symm, 0, rfl⟩
end Go.Proofs.Ytoikglgnmjjpcab

namespace Go.Proofs.Ytoikglgnmjjpcab
open Go.RowKit
set_option linter.unusedVariables false

theorem in_two {w : World} {b : Nat} {x y : Int} (hb : b < w.heap.size) (h0 : w.cell? ⟨b, 0, none⟩ = some (.int .i64 x)) (h1 : w.cell? ⟨b, 1, none⟩ = some (.int .i64 y)) : InAt w w.heap.size (some ⟨b, 0, none⟩) [x, y] := by
  refine Or.inr ⟨b, 0, rfl, hb, ?_⟩
  intro j z hz
  match j, hz with
  | 0, hz => simp at hz; subst hz; exact h0
  | 1, hz => simp at hz; subst hz; exact h1
  | j + 2, hz => simp at hz

theorem run_fit (r : Int) (nb noff cap : Nat) (ns : List Nd) (ia : Option Addr) (ic : Nat) (inp : List Int) (fuel : Int) (w : World) (hN : NodesAt w nb noff ns) (hI : InAt w w.heap.size ia inp) (hic : inp.length ≤ ic) (hw : rerr r ns inp.length fuel = 0) :
    Calls Try.prog 15 #[.agg #[.int .i64 r, .slice (some ⟨nb, noff, none⟩) ns.length cap], .slice ia inp.length ic, .int .i64 fuel] w fun e w' => ∃ ao co ac cc, e = .returned (.tuple #[.agg #[.slice ao (fin r ns inp fuel).out.length co, .int .i64 (fin r ns inp fuel).ret, .bool (fin r ns inp fuel).ended, .int .i64 (fin r ns inp fuel).steps, .slice ac (fin r ns inp fuel).cts.length cc], .int .i64 0]) ∧
      IntsAt w' ao (fin r ns inp fuel).out ∧ CtsAt w' ac (fin r ns inp fuel).cts ∧ Below w.heap.size w w' ∧ (fin r ns inp fuel).out.length ≤ co ∧ ∀ (A : List Nat) (u : World), Keeps A w' u → (∀ x ∈ A, x < w.heap.size) → IntsAt u ao (fin r ns inp fuel).out ∧ CtsAt u ac (fin r ns inp fuel).cts := by
  refine (run_ok r nb noff cap ns ia ic inp fuel w hN hI hic hw).mono ?_
  rintro e w' ⟨vo, vc, rfl, h1, h2, hb⟩
  have hle : ∀ a c, vo = .slice a (fin r ns inp fuel).out.length c → (fin r ns inp fuel).out.length ≤ c := by
    intro a c hv
    rcases h1.2 with ⟨q, h0⟩ | ⟨g, cap', cur, q, _, _, q2, _⟩
    · omega
    · rw [q] at hv; injection hv with e1 e2 e3; omega
  obtain ⟨ao, co, rfl, hI'⟩ := ints_of_owns h1
  obtain ⟨ac, cc, rfl, hC⟩ := cts_of_owns h2
  refine ⟨ao, co, ac, cc, rfl, hI', hC, hb, hle _ _ rfl, fun A u K hA => ?_⟩
  obtain ⟨a1, c1, e1, hI1⟩ := ints_of_owns (K.owns h1 hA)
  obtain ⟨a2, c2, e2, hC2⟩ := cts_of_owns (K.owns h2 hA)
  injection e1 with e1
  injection e2 with e2
  subst e1 e2
  exact ⟨hI1, hC2⟩

theorem run_small (b bi : Nat) (x y fuel : Int) (w : World) (hN : NodesAt w b 0 smallN) (hb : bi < w.heap.size) (h0 : w.cell? ⟨bi, 0, none⟩ = some (.int .i64 x)) (h1 : w.cell? ⟨bi, 1, none⟩ = some (.int .i64 y)) (hf : rerr 3 smallN 2 fuel = 0)
    {out : List Int} {ret : Int} {en : Bool} {st : Nat} {cts : List Ct} (e0 : (fin 3 smallN [x, y] fuel).out = out) (e1 : (fin 3 smallN [x, y] fuel).ret = ret) (e2 : (fin 3 smallN [x, y] fuel).ended = en) (e3 : (fin 3 smallN [x, y] fuel).steps = st) (e4 : (fin 3 smallN [x, y] fuel).cts = cts) :
    Calls Try.prog 15 #[.agg #[.int .i64 3, .slice (some ⟨b, 0, none⟩) 7 7], .slice (some ⟨bi, 0, none⟩) 2 2, .int .i64 fuel] w fun e w' => ∃ ao co ac cc, e = .returned (.tuple #[.agg #[.slice ao out.length co, .int .i64 ret, .bool en, .int .i64 st, .slice ac cts.length cc], .int .i64 0]) ∧
      IntsAt w' ao out ∧ CtsAt w' ac cts ∧ Below w.heap.size w w' := by
  refine (run_fit 3 b 0 7 smallN _ 2 [x, y] fuel w hN (in_two hb h0 h1) (by simp) hf).mono ?_
  rintro e w' ⟨ao, co, ac, cc, rfl, hI, hC, hb', _, _⟩
  rw [e0] at hI
  rw [e4] at hC
  exact ⟨ao, co, ac, cc, by rw [e0, e1, e2, e3, e4], hI, hC, hb'⟩

theorem rs1_0 : (fin 3 smallN [4, 5] 99).out = [9] := by kernel_rfl
theorem rs1_1 : (fin 3 smallN [4, 5] 99).ret = 9 := by kernel_rfl
theorem rs1_2 : (fin 3 smallN [4, 5] 99).ended = true := by kernel_rfl
theorem rs1_3 : (fin 3 smallN [4, 5] 99).steps = 7 := by kernel_rfl
theorem rs1_4 : (fin 3 smallN [4, 5] 99).cts = [⟨⟨3, 0, 1⟩, 2⟩] := by kernel_rfl
theorem rs1_e : rerr 3 smallN 2 99 = 0 := by decide
theorem rs1 (b bi : Nat) (w : World) (hN : NodesAt w b 0 smallN) (hb : bi < w.heap.size) (h0 : w.cell? ⟨bi, 0, none⟩ = some (.int .i64 4)) (h1 : w.cell? ⟨bi, 1, none⟩ = some (.int .i64 5)) :
    Calls Try.prog 15 #[.agg #[.int .i64 3, .slice (some ⟨b, 0, none⟩) 7 7], .slice (some ⟨bi, 0, none⟩) 2 2, .int .i64 99] w fun e w' => ∃ ao co ac cc, e = .returned (.tuple #[.agg #[.slice ao 1 co, .int .i64 9, .bool true, .int .i64 7, .slice ac 1 cc], .int .i64 0]) ∧
      IntsAt w' ao [9] ∧ CtsAt w' ac [⟨⟨3, 0, 1⟩, 2⟩] ∧ Below w.heap.size w w' := run_small b bi 4 5 99 w hN hb h0 h1 rs1_e rs1_0 rs1_1 rs1_2 rs1_3 rs1_4

theorem rs2_0 : (fin 3 smallN [0, 5] 4).out = [] := by kernel_rfl
theorem rs2_1 : (fin 3 smallN [0, 5] 4).ret = 0 := by kernel_rfl
theorem rs2_2 : (fin 3 smallN [0, 5] 4).ended = false := by kernel_rfl
theorem rs2_3 : (fin 3 smallN [0, 5] 4).steps = 4 := by kernel_rfl
theorem rs2_4 : (fin 3 smallN [0, 5] 4).cts = [⟨⟨3, 0, 1⟩, 1⟩] := by kernel_rfl
theorem rs2_e : rerr 3 smallN 2 4 = 0 := by decide
theorem rs2 (b bi : Nat) (w : World) (hN : NodesAt w b 0 smallN) (hb : bi < w.heap.size) (h0 : w.cell? ⟨bi, 0, none⟩ = some (.int .i64 0)) (h1 : w.cell? ⟨bi, 1, none⟩ = some (.int .i64 5)) :
    Calls Try.prog 15 #[.agg #[.int .i64 3, .slice (some ⟨b, 0, none⟩) 7 7], .slice (some ⟨bi, 0, none⟩) 2 2, .int .i64 4] w fun e w' => ∃ ao co ac cc, e = .returned (.tuple #[.agg #[.slice ao 0 co, .int .i64 0, .bool false, .int .i64 4, .slice ac 1 cc], .int .i64 0]) ∧
      IntsAt w' ao [] ∧ CtsAt w' ac [⟨⟨3, 0, 1⟩, 1⟩] ∧ Below w.heap.size w w' := run_small b bi 0 5 4 w hN hb h0 h1 rs2_e rs2_0 rs2_1 rs2_2 rs2_3 rs2_4

theorem same_one {w0 : World} (a : Option Addr) (ca : Nat) (x : Int) (W : World) (hI : IntsAt w0 a [x]) (hB : Below w0.heap.size w0 W) :
    Calls Try.prog 12 #[.slice a 1 ca, .slice (some ⟨W.heap.size, 0, none⟩) 1 1] (W.alloc (.cells #[.int .i64 x] 3)) fun e w' => e = .returned (.bool true) ∧ Below w0.heap.size w0 w' := by
  have hB1 : Below w0.heap.size w0 (W.alloc (.cells #[.int .i64 x] 3)) := hB.alloc hB.size _
  have hJ : IntsAt (W.alloc (.cells #[.int .i64 x] 3)) (some ⟨W.heap.size, 0, none⟩) [x] := by
    refine Or.inr ⟨_, _, rfl, by simp, ?_⟩
    intro j z hz
    match j, hz with
    | 0, hz => simp at hz; subst hz; simp
    | j + 1, hz => simp at hz
  refine (sameInts_any a _ ca 1 [x] [x] _ (hI.below hB1) hJ (by simp) (by simp)).mono ?_
  rintro e w' ⟨rfl, n, rfl⟩
  exact ⟨by simp, below_drewN hB1 n⟩

theorem times_lit {w0 : World} (v0 v1 v2 v3 : Value) (a : Option Addr) (cap : Nat) (n : Int) (W : World) (hC : CtsAt w0 a [⟨⟨3, 0, 1⟩, n⟩]) (hB : Below w0.heap.size w0 W) :
    Calls Try.prog 17 #[.agg #[v0, v1, v2, v3, .slice a 1 cap], .agg #[.int .i64 3, .int .i64 0, .int .i64 1]] W fun e w' => e = .returned (.int .i64 n) ∧ Below w0.heap.size w0 w' := by
  refine (times_any v0 v1 v2 v3 a cap [⟨⟨3, 0, 1⟩, n⟩] ⟨3, 0, 1⟩ W (hC.below hB) (by simp)).mono ?_
  rintro e w' ⟨rfl, hb⟩
  exact ⟨by simp [tmo, ctOf], hB.trans (hb.mono hB.size)⟩

/-- Two results in memory. -/
def Two (b c : Nat) (x0 x1 x2 x3 x4 y0 y1 y2 y3 y4 : Value) (u : World) : Prop :=
  u.cell? ⟨b, 0, none⟩ = some x0 ∧ u.cell? ⟨b, 1, none⟩ = some x1 ∧ u.cell? ⟨b, 2, none⟩ = some x2 ∧ u.cell? ⟨b, 3, none⟩ = some x3 ∧ u.cell? ⟨b, 4, none⟩ = some x4 ∧
  u.cell? ⟨c, 0, none⟩ = some y0 ∧ u.cell? ⟨c, 1, none⟩ = some y1 ∧ u.cell? ⟨c, 2, none⟩ = some y2 ∧ u.cell? ⟨c, 3, none⟩ = some y3 ∧ u.cell? ⟨c, 4, none⟩ = some y4

theorem two_of {w u : World} {b c : Nat} {x0 x1 x2 x3 x4 y0 y1 y2 y3 y4 : Value} {t t' : TypeId} (hb : w.heap[b]? = some (.cells #[x0, x1, x2, x3, x4] t (0, 0))) (hc : w.heap[c]? = some (.cells #[y0, y1, y2, y3, y4] t' (0, 0))) (hB : Below w.heap.size w u) : Two b c x0 x1 x2 x3 x4 y0 y1 y2 y3 y4 u := by
  have hb' : u.heap[b]? = _ := (hB.block b (blk_lt hb)).trans hb
  have hc' : u.heap[c]? = _ := (hB.block c (blk_lt hc)).trans hc
  exact ⟨blk_cell hb' 0, blk_cell hb' 1, blk_cell hb' 2, blk_cell hb' 3, blk_cell hb' 4, blk_cell hc' 0, blk_cell hc' 1, blk_cell hc' 2, blk_cell hc' 3, blk_cell hc' 4⟩

end Go.Proofs.Ytoikglgnmjjpcab

namespace Go.Proofs.Ytoikglgnmjjpcab
open Go.RowKit
set_option linter.unusedVariables false

def pickC (c : Int) : Int := (if c < 0 then -(c + 1) else c) % 4096

theorem pickC_range (c : Int) : 0 ≤ pickC c ∧ pickC c < 4096 := by unfold pickC; omega

set_option maxHeartbeats 400000 in
theorem choose_any (c : Int) (w : World) (h : -9223372036854775808 ≤ c ∧ c ≤ 9223372036854775807) :
    Calls Try.prog 14 #[.int .i64 c, .int .i64 4096] w fun e w' => e = .returned (.int .i64 (pickC c)) ∧ w' = w := by
  by_cases h0 : c < 0
  · go_enter Try.func14, Try.ntmps14
    go_wp2
    go_ret
    refine ⟨ret_int ?_, rfl⟩
    have e : (c + 1).tmod 4096 = -((-(c + 1)).tmod 4096) := by rw [Int.neg_tmod]; omega
    rw [e, Int.tmod_eq_emod_of_nonneg (by omega), pickC, if_pos h0]
    omega
  · go_enter Try.func14, Try.ntmps14
    go_wp2
    go_ret
    refine ⟨ret_int ?_, rfl⟩
    rw [pickC, if_neg (by omega)]

theorem IntsAt.take {w : World} {a : Option Addr} {l : List Int} (h : IntsAt w a l) (n : Nat) : IntsAt w a (l.take n) := by
  rcases h with h | ⟨b, off, rfl, hlt, h⟩
  · left; rw [h]; simp
  · refine Or.inr ⟨b, off, rfl, hlt, fun j z hz => h j z ?_⟩
    rw [List.getElem?_take] at hz
    split at hz
    · exact hz
    · cases hz

end Go.Proofs.Ytoikglgnmjjpcab

namespace Go.Proofs.Ytoikglgnmjjpcab
open Go.RowKit
set_option linter.unusedVariables false

/-- What Run answers: nothing where something is wrong. -/
def res (r : Int) (ns : List Nd) (inp : List Int) (fuel : Int) : St := if rerr r ns inp.length fuel = 0 then fin r ns inp fuel else st0 0 []

theorem stp_out (x : Nd) (s : St) : s.out <+: (stp x s).out ∧ (stp x s).out.length ≤ s.out.length + 1 := by
  unfold stp; repeat' split
  all_goals simp

theorem stp_cts (x : Nd) (s : St) : (stp x s).cts.length ≤ s.cts.length + 1 := by
  unfold stp; repeat' split
  all_goals (try simp)
  exact omore_len _ _

theorem runN_out {ns : List Nd} : ∀ (n : Nat) (s : St), s.out <+: (runN ns n s).out ∧ (runN ns n s).out.length ≤ s.out.length + n
  | 0, s => by simp [runN]
  | n + 1, s => by
    simp only [runN]
    split
    · simp
    · split
      · rename_i x _
        have h1 := runN_out (ns := ns) n (stp x s)
        have h2 := stp_out x s
        exact ⟨h2.1.trans h1.1, by omega⟩
      · simp

theorem runN_cts {ns : List Nd} : ∀ (n : Nat) (s : St), (runN ns n s).cts.length ≤ s.cts.length + n
  | 0, s => by simp [runN]
  | n + 1, s => by
    simp only [runN]
    split
    · omega
    · split
      · rename_i x _
        have h1 := runN_cts (ns := ns) n (stp x s)
        have h2 := stp_cts x s
        omega
      · omega

theorem runN_steps {r : Int} {ns : List Nd} (ok : ∀ x ∈ ns, NodeOk r ns.length x) : ∀ (n : Nat) (s : St), s.pc < ns.length → s.steps ≤ (runN ns n s).steps ∧ ((runN ns n s).ended = false → (runN ns n s).steps = s.steps + n)
  | 0, s, h => by simp [runN]
  | n + 1, s, h => by
    simp only [runN]
    split
    · rename_i he; simp [he]
    · rw [List.getElem?_eq_getElem h]
      have h1 := runN_steps ok n _ (stp_pc (ok _ (List.getElem_mem h)) s)
      rw [stp_steps] at h1
      exact ⟨by have := h1.1; simp only; omega, fun he => by have := h1.2 he; simp only at this ⊢; omega⟩

theorem rerr_zero {r : Int} {ns : List Nd} {il : Nat} {fuel : Int} (h : rerr r ns il fuel = 0) : chk r ns = 0 ∧ il ≤ 256 ∧ 0 ≤ fuel ∧ fuel ≤ 131072 := by
  unfold rerr at h
  split at h
  · split at h
    · omega
    · split at h
      · omega
      · omega
  · rename_i hc; exact absurd h hc

theorem res_len (r : Int) (ns : List Nd) (inp : List Int) (fuel : Int) : (res r ns inp fuel).out.length ≤ 131072 ∧ (res r ns inp fuel).cts.length ≤ 131072 := by
  unfold res
  split
  · rename_i h
    have hz := rerr_zero h
    have h1 := (runN_out (ns := ns) fuel.toNat (st0 r.toNat inp)).2
    have h2 := runN_cts (ns := ns) fuel.toNat (st0 r.toNat inp)
    simp only [st0, List.length_nil] at h1 h2
    constructor
    · show (runN ns fuel.toNat (st0 r.toNat inp)).out.length ≤ _
      simp only [st0]; omega
    · show (runN ns fuel.toNat (st0 r.toNat inp)).cts.length ≤ _
      simp only [st0]; omega
  · simp [st0]

theorem run_any (r : Int) (a : Option Addr) (cap : Nat) (ns : List Nd) (ia : Option Addr) (ic : Nat) (inp : List Int) (fuel : Int) (w : World) (hN : SlN w a ns) (hI : IntsAt w ia inp) (hic : inp.length ≤ ic) (hil : inp.length ≤ 9223372036854775807) :
    Calls Try.prog 15 #[.agg #[.int .i64 r, .slice a ns.length cap], .slice ia inp.length ic, .int .i64 fuel] w fun e w' => ∃ ao co ac cc, e = .returned (.tuple #[.agg #[.slice ao (res r ns inp fuel).out.length co, .int .i64 (res r ns inp fuel).ret, .bool (res r ns inp fuel).ended, .int .i64 (res r ns inp fuel).steps, .slice ac (res r ns inp fuel).cts.length cc], .int .i64 (rerr r ns inp.length fuel)]) ∧
      IntsAt w' ao (res r ns inp fuel).out ∧ CtsAt w' ac (res r ns inp fuel).cts ∧ Below w.heap.size w w' ∧ (res r ns inp fuel).out.length ≤ co ∧ ∀ (A : List Nat) (u : World), Keeps A w' u → (∀ x ∈ A, x < w.heap.size) → IntsAt u ao (res r ns inp fuel).out ∧ CtsAt u ac (res r ns inp fuel).cts := by
  by_cases h : rerr r ns inp.length fuel = 0
  · obtain ⟨b, off, rfl, hNb⟩ := hN.some (chk_zero (rerr_zero h).1).1.1
    have e : res r ns inp fuel = fin r ns inp fuel := by rw [res, if_pos h]
    rw [e, h]
    exact run_fit r b off cap ns ia ic inp fuel w hNb hI hic h
  · have e : res r ns inp fuel = st0 0 [] := by rw [res, if_neg h]
    rw [e]
    refine (run_wrong r a cap ns ia inp.length ic fuel w hN hil h).mono ?_
    rintro e w' ⟨rfl, hb⟩
    exact ⟨none, 0, none, 0, rfl, Or.inl rfl, Or.inl rfl, hb, by simp [st0], fun _ _ _ _ => ⟨Or.inl rfl, Or.inl rfl⟩⟩

theorem run_at {w0 : World} (r : Int) (a : Option Addr) (cap : Nat) (ns : List Nd) (ia : Option Addr) (ic : Nat) (inp : List Int) (fuel : Int) (w : World) (hN : SlN w0 a ns) (hI : IntsAt w0 ia inp) (hic : inp.length ≤ ic) (hil : inp.length ≤ 9223372036854775807) (hB : Below w0.heap.size w0 w) :
    Calls Try.prog 15 #[.agg #[.int .i64 r, .slice a ns.length cap], .slice ia inp.length ic, .int .i64 fuel] w fun e w' => ∃ ao co ac cc, e = .returned (.tuple #[.agg #[.slice ao (res r ns inp fuel).out.length co, .int .i64 (res r ns inp fuel).ret, .bool (res r ns inp fuel).ended, .int .i64 (res r ns inp fuel).steps, .slice ac (res r ns inp fuel).cts.length cc], .int .i64 (rerr r ns inp.length fuel)]) ∧
      IntsAt w' ao (res r ns inp fuel).out ∧ CtsAt w' ac (res r ns inp fuel).cts ∧ Below w.heap.size w w' ∧ (res r ns inp fuel).out.length ≤ co ∧ (∀ (A : List Nat) (u : World), Keeps A w' u → (∀ x ∈ A, x < w.heap.size) → IntsAt u ao (res r ns inp fuel).out ∧ CtsAt u ac (res r ns inp fuel).cts) ∧ Below w0.heap.size w0 w' := by
  refine (run_any r a cap ns ia ic inp fuel w (hN.below hB) (hI.below hB) hic hil).mono ?_
  rintro e w' ⟨ao, co, ac, cc, rfl, hI', hC', hb', hco, hQ⟩
  exact ⟨ao, co, ac, cc, rfl, hI', hC', hb', hco, hQ, hB.trans (hb'.mono hB.size)⟩

theorem run_at1 (r : Int) (a : Option Addr) (cap : Nat) (ns : List Nd) (ia : Option Addr) (ic : Nat) (inp : List Int) (fuel : Int) (W : World) (hN : SlN W a ns) (hI : IntsAt W ia inp) (hic : inp.length ≤ ic) (hil : inp.length ≤ 9223372036854775807) :
    Calls Try.prog 15 #[.agg #[.int .i64 r, .slice a ns.length cap], .slice ia inp.length ic, .int .i64 fuel] W.drew fun e w' => ∃ ao co ac cc, e = .returned (.tuple #[.agg #[.slice ao (res r ns inp fuel).out.length co, .int .i64 (res r ns inp fuel).ret, .bool (res r ns inp fuel).ended, .int .i64 (res r ns inp fuel).steps, .slice ac (res r ns inp fuel).cts.length cc], .int .i64 (rerr r ns inp.length fuel)]) ∧
      IntsAt w' ao (res r ns inp fuel).out ∧ CtsAt w' ac (res r ns inp fuel).cts ∧ (res r ns inp fuel).out.length ≤ co ∧ Below W.heap.size W w' := by
  refine (run_at r a cap ns ia ic inp fuel W.drew hN hI hic hil (Below.refl _ W).drew).mono ?_
  rintro e w' ⟨ao, co, ac, cc, rfl, hI', hC', hb', hco, hQ, hB⟩
  exact ⟨ao, co, ac, cc, rfl, hI', hC', hco, hB⟩

/-- The same, a result's own block being made ahead of the call. -/
theorem run_at2 (r : Int) (a : Option Addr) (cap : Nat) (ns : List Nd) (ia : Option Addr) (ic : Nat) (inp : List Int) (fuel : Int) (W : World) (hN : SlN W a ns) (hI : IntsAt W ia inp) (hic : inp.length ≤ ic) (hil : inp.length ≤ 9223372036854775807) :
    Calls Try.prog 15 #[.agg #[.int .i64 r, .slice a ns.length cap], .slice ia inp.length ic, .int .i64 fuel] (W.alloc (.cells #[.slice none 0 0, .int .i64 0, .bool false, .int .i64 0, .slice none 0 0] 42)).drew fun e w' => ∃ ao co ac cc, e = .returned (.tuple #[.agg #[.slice ao (res r ns inp fuel).out.length co, .int .i64 (res r ns inp fuel).ret, .bool (res r ns inp fuel).ended, .int .i64 (res r ns inp fuel).steps, .slice ac (res r ns inp fuel).cts.length cc], .int .i64 (rerr r ns inp.length fuel)]) ∧
      IntsAt w' ao (res r ns inp fuel).out ∧ CtsAt w' ac (res r ns inp fuel).cts ∧ (res r ns inp fuel).out.length ≤ co ∧ Below W.heap.size W w' ∧ w'.heap[W.heap.size]? = some (.cells #[.slice none 0 0, .int .i64 0, .bool false, .int .i64 0, .slice none 0 0] 42 (0, 0)) ∧
      ∀ v0 v1 v2 v3 v4, IntsAt (fill5 w' W.heap.size v0 v1 v2 v3 v4) ao (res r ns inp fuel).out ∧ CtsAt (fill5 w' W.heap.size v0 v1 v2 v3 v4) ac (res r ns inp fuel).cts := by
  refine (run_at r a cap ns ia ic inp fuel _ hN hI hic hil (((Below.refl _ W).alloc (Nat.le_refl _) _).drew)).mono ?_
  rintro e w' ⟨ao, co, ac, cc, rfl, hI', hC', hb', hco, hQ, hB⟩
  refine ⟨ao, co, ac, cc, rfl, hI', hC', hco, hB, ?_, fun v0 v1 v2 v3 v4 => hQ _ _ (fill5_keeps w' W.heap.size v0 v1 v2 v3 v4) ?_⟩
  · rw [hb'.block _ (by show W.heap.size < (W.alloc _).heap.size; simp)]
    exact blk_drew (blk_new rfl)
  · intro x hx
    simp at hx
    subst hx
    show W.heap.size < (W.alloc _).heap.size
    simp

/-- With fuel that is in its bounds an error does not hang on the fuel. -/
theorem rerr_fuel {r : Int} {ns : List Nd} {il : Nat} {f g : Int} (hf : 0 ≤ f ∧ f ≤ 131072) (hg : 0 ≤ g ∧ g ≤ 131072) : rerr r ns il f = rerr r ns il g := by
  unfold rerr
  rw [if_neg (c := f < 0 ∨ 131072 < f) (by omega), if_neg (c := g < 0 ∨ 131072 < g) (by omega)]

theorem more_ended {r : Int} {ns : List Nd} {inp : List Int} {f g : Int} (hf : 0 ≤ f) (hg : f ≤ g) (h : rerr r ns inp.length f = 0) (h' : rerr r ns inp.length g = 0) (he : (res r ns inp f).ended = true) : res r ns inp g = res r ns inp f := by
  have hc := (rerr_zero h).1
  have hcz := chk_zero hc
  have e1 : res r ns inp f = fin r ns inp f := by rw [res, if_pos h]
  have e2 : res r ns inp g = fin r ns inp g := by rw [res, if_pos h']
  rw [e1] at he ⊢
  rw [e2]
  exact runN_stop (r := r) (fun x hx => node_ok hc hx) f.toNat g.toNat (by omega) (st0 r.toNat inp) (by simp [st0]; omega) he

theorem more_going {r : Int} {ns : List Nd} {inp : List Int} {f g : Int} (hf : 0 ≤ f) (hg : f ≤ g) (h : rerr r ns inp.length f = 0) (h' : rerr r ns inp.length g = 0) (he : (res r ns inp f).ended = false) : ((res r ns inp f).steps : Int) = f ∧ (res r ns inp f).out <+: (res r ns inp g).out ∧ f ≤ ((res r ns inp g).steps : Int) := by
  have hc := (rerr_zero h).1
  have hcz := chk_zero hc
  have e1 : res r ns inp f = fin r ns inp f := by rw [res, if_pos h]
  have e2 : res r ns inp g = fin r ns inp g := by rw [res, if_pos h']
  rw [e1] at he ⊢
  rw [e2]
  have ok : ∀ x ∈ ns, NodeOk r ns.length x := fun x hx => node_ok hc hx
  have hp : (st0 r.toNat inp).pc < ns.length := by simp [st0]; omega
  have q1 := (runN_steps ok f.toNat _ hp).2 he
  have e : runN ns g.toNat (st0 r.toNat inp) = runN ns (g.toNat - f.toNat) (runN ns f.toNat (st0 r.toNat inp)) := by
    rw [← runN_add f.toNat _ _ (fun k _ => runN_pc ok k _ hp)]; congr 1; omega
  have q2 := (runN_out (ns := ns) (g.toNat - f.toNat) (runN ns f.toNat (st0 r.toNat inp))).1
  have q3 := (runN_steps ok (g.toNat - f.toNat) _ (runN_pc ok f.toNat _ hp)).1
  rw [← e] at q2 q3
  have q0 : (st0 r.toNat inp).steps = 0 := rfl
  refine ⟨?_, q2, ?_⟩
  · show ((runN ns f.toNat (st0 r.toNat inp)).steps : Int) = f
    omega
  · show f ≤ ((runN ns g.toNat (st0 r.toNat inp)).steps : Int)
    omega
end Go.Proofs.Ytoikglgnmjjpcab

namespace Go.Proofs.Ytoikglgnmjjpcab
open Go.RowKit
set_option linter.unusedVariables false

/-- The second run's result lies in memory. -/
structure Got (σ : St) (er : Int) (W wx : World) (v12 v13 : Value) : Prop where
  blk : ∃ b ao co ac cc, v12 = .pointer (some ⟨b, 0, none⟩) ∧ wx.heap[b]? = some (.cells #[.slice ao σ.out.length co, .int .i64 σ.ret, .bool σ.ended, .int .i64 σ.steps, .slice ac σ.cts.length cc] 42 (0, 0)) ∧ IntsAt wx ao σ.out ∧ CtsAt wx ac σ.cts ∧ σ.out.length ≤ co
  val : v13 = .int .i64 er
  below : Below W.heap.size W wx

end Go.Proofs.Ytoikglgnmjjpcab

namespace Go.Proofs.Ytoikglgnmjjpcab
open Go.RowKit
set_option linter.unusedVariables false
set_option linter.unusedSimpArgs false

def pickF (c : Int) : Int := (if c < 0 then -(c + 1) else c) % 400

theorem pickF_range (c : Int) : 0 ≤ pickF c ∧ pickF c < 400 := by unfold pickF; omega

set_option maxHeartbeats 400000 in
theorem choose400_any (c : Int) (w : World) (h : -9223372036854775808 ≤ c ∧ c ≤ 9223372036854775807) :
    Calls Try.prog 14 #[.int .i64 c, .int .i64 400] w fun e w' => e = .returned (.int .i64 (pickF c)) ∧ w' = w := by
  by_cases h0 : c < 0
  · go_enter Try.func14, Try.ntmps14
    go_wp2
    go_ret
    refine ⟨ret_int ?_, rfl⟩
    have e : (c + 1).tmod 400 = -((-(c + 1)).tmod 400) := by rw [Int.neg_tmod]; omega
    rw [e, Int.tmod_eq_emod_of_nonneg (by omega), pickF, if_pos h0]
    omega
  · go_enter Try.func14, Try.ntmps14
    go_wp2
    go_ret
    refine ⟨ret_int ?_, rfl⟩
    rw [pickF, if_neg (by omega)]

set_option maxHeartbeats 400000 in
theorem few_any (ia : Option Addr) (ic : Nat) (inp : List Int) (w : World) (hic : inp.length ≤ ic) (hil : inp.length ≤ 9223372036854775807) :
    Calls Try.prog 16 #[.slice ia inp.length ic] w fun e w' => e = .returned (.slice ia (inp.take 256).length ic) ∧ w' = w := by
  by_cases h0 : 256 < inp.length
  · have e : (inp.take 256).length = 256 := by simp; omega
    have h1 : (256 : Int) < (inp.length : Int) := by omega
    have h2 : (256 : Int) ≤ (ic : Int) := by omega
    rw [e]
    go_enter Try.func16, Try.ntmps16
    go_wp2
    go_ret
    exact ⟨by simp, rfl⟩
  · have e : inp.take 256 = inp := List.take_of_length_le (by omega)
    have h1 : ¬ (256 : Int) < (inp.length : Int) := by omega
    rw [e]
    go_enter Try.func16, Try.ntmps16
    go_wp2
    go_ret
    exact ⟨by simp, rfl⟩

/-- What the document asks of three runs. -/
structure Doing (σa σb σc : St) : Prop where
  b1 : σb.ended = true → σa.ended = true ∧ σa.ret = σb.ret ∧ σa.out = σb.out
  b2 : σb.out <+: σa.out
  c1 : σa.ended = true → σc.ended = true ∧ σa.ret = σc.ret ∧ σa.out = σc.out
  c2 : σa.out <+: σc.out

theorem sameInts_dr {W : World} (a b : Option Addr) (ca cb : Nat) (xs ys : List Int) (u : World) (hu : ∃ k, u = W.drewN k) (hx : IntsAt W a xs) (hy : IntsAt W b ys) (hl : xs.length ≤ 140737488351232) (hl' : ys.length ≤ 140737488351232) (he : xs = ys) :
    Calls Try.prog 12 #[.slice a xs.length ca, .slice b ys.length cb] u fun e w' => e = .returned (.bool true) ∧ ∃ k, w' = W.drewN k := by
  obtain ⟨k, rfl⟩ := hu
  refine (sameInts_any a b ca cb xs ys _ (hx.below (below_drewN (Below.refl _ _) k)) (hy.below (below_drewN (Below.refl _ _) k)) hl hl').mono ?_
  rintro e w1 ⟨rfl, n, rfl⟩
  subst he
  exact ⟨by simp, k + n, by rw [World.drewN_drewN]⟩

/-- Three results lie in memory. -/
theorem three_of {wc u : World} {b1 b2 b3 : Nat} {x1 x2 x3 : Obj} (h1 : wc.heap[b1]? = some x1) (h2 : wc.heap[b2]? = some x2) (h3 : wc.heap[b3]? = some x3) (hB : Below wc.heap.size wc u) : u.heap[b1]? = some x1 ∧ u.heap[b2]? = some x2 ∧ u.heap[b3]? = some x3 :=
  ⟨(hB.block _ (Array.getElem?_eq_some_iff.1 h1).1).trans h1, (hB.block _ (Array.getElem?_eq_some_iff.1 h2).1).trans h2, (hB.block _ (Array.getElem?_eq_some_iff.1 h3).1).trans h3⟩

end Go.Proofs.Ytoikglgnmjjpcab

