/-
  hoistwayref.TimesOf and SameCounts, walked.
-/
import Derived.Test.YtoikglgnmjjpcaaRT
namespace Go.Proofs.Ytoikglgnmjjpcaa
open Go.RowKit
set_option linter.unusedVariables false

set_option maxHeartbeats 1000000 in
theorem timesOf_any (v0 v1 v2 v3 : Value) (a : Option Addr) (cap : Nat) (l : List Ct) (t : Tm) (w : World) (hC : CtsAt w a l) (hl : l.length ≤ 9223372036854775807) :
    Calls Try.prog 28 #[.agg #[v0, v1, v2, v3, .slice a l.length cap], .agg #[.int .i64 t.op, .int .i64 t.a, .int .i64 t.b]] w fun e w' => e = .returned (.int .i64 (tmo l t)) ∧ Below w.heap.size w w' := by
  go_enter Try.func28, Try.ntmps28
  go_wp2
  have hb0 : Below w.heap.size w ((w.alloc (.cells #[v0, v1, v2, v3, .slice a l.length cap] 42)).alloc (.cells #[.int .i64 t.op, .int .i64 t.a, .int .i64 t.b] 36)) := ((Below.refl _ w).alloc (Nat.le_refl _) _).alloc (by simp) _
  have hs0 : ((w.alloc (.cells #[v0, v1, v2, v3, .slice a l.length cap] 42)).alloc (.cells #[.int .i64 t.op, .int .i64 t.a, .int .i64 t.b] 36)).heap.size = w.heap.size + 2 := by simp
  have hk0 : ((w.alloc (.cells #[v0, v1, v2, v3, .slice a l.length cap] 42)).alloc (.cells #[.int .i64 t.op, .int .i64 t.a, .int .i64 t.b] 36)).heap[w.heap.size + 1]? = some (.cells #[.int .i64 t.op, .int .i64 t.a, .int .i64 t.b] 36 (0, 0)) := blk_new (by simp)
  have hr0 : ((w.alloc (.cells #[v0, v1, v2, v3, .slice a l.length cap] 42)).alloc (.cells #[.int .i64 t.op, .int .i64 t.a, .int .i64 t.b] 36)).heap[w.heap.size]? = some (.cells #[v0, v1, v2, v3, .slice a l.length cap] 42 (0, 0)) := blk_alloc _ (blk_new rfl)
  generalize (w.alloc (.cells #[v0, v1, v2, v3, .slice a l.length cap] 42)).alloc (.cells #[.int .i64 t.op, .int .i64 t.a, .int .i64 t.b] 36) = W0 at hb0 hs0 hk0 hr0 ⊢
  have HC := hide (hC.below hb0)
  clear hC
  have t0 := blk_cell hk0 0
  have t1 := blk_cell hk0 1
  have t2 := blk_cell hk0 2
  have r4 := blk_cell hr0 4
  simp at t0 t1 t2 r4
  clear hk0 hr0
  go_loopw [5] (fun i wr => ∃ k : Nat, k ≤ l.length ∧ i = .int .i64 k ∧ (∀ d ∈ l.take k, d.t ≠ t) ∧ ∃ n, wr = W0.drewN n) (fun i _ => l.length - (intOf i).toNat)
  case atStart => exact ⟨0, Nat.zero_le _, rfl, by simp, 0, rfl⟩
  case round =>
    obtain ⟨k, hk, rfl, hn, n, rfl⟩ := hrel
    have HN := hide hn
    clear hn
    by_cases hlt : k < l.length
    · obtain ⟨c, hc⟩ : ∃ c, l[k]? = some c := ⟨l[k], List.getElem?_eq_getElem hlt⟩
      obtain ⟨b, off, rfl, hbl, c0, c1, c2, c3⟩ := HC.out.at hc
      have hlt' : (k : Int) < (l.length : Int) := by omega
      have HX := hide hc
      clear hc
      by_cases e : c.t = t
      · subst e
        go_wp2
        go_quiet (fail)
        go_wp2
        go_ret
        refine ⟨ret_int ?_, below_drewN hb0 (n + nq)⟩
        rw [tmo, ctOf_split HN.out HX.out rfl]; rfl
      · have HE := hide e
        clear e
        have hb' : (c.t.op == t.op && c.t.a == t.a && c.t.b == t.b) = false := by
          have q := HE.out
          cases t; cases hct : c.t
          rw [hct] at q
          simp at q ⊢
          exact q
        by_cases h1 : c.t.op = t.op
        · by_cases h2 : c.t.a = t.a
          · have h3 : ¬ c.t.b = t.b := fun h3 => by simp [h1, h2, h3] at hb'
            have h1' : (c.t.op == t.op) = true := by simp [h1]
            have h2' : (c.t.a == t.a) = true := by simp [h2]
            have h3' : (c.t.b == t.b) = false := by simp [h3]
            clear hb'
            go_wp2
            go_quiet (fail)
            go_wp2
            exact ⟨⟨k + 1, by omega, by go_num, take_more HN.out HX.out HE.out, n + nq, rfl⟩, by simp [intOf]; omega⟩
          · have h1' : (c.t.op == t.op) = true := by simp [h1]
            have h2' : (c.t.a == t.a) = false := by simp [h2]
            clear hb'
            go_wp2
            go_quiet (fail)
            go_wp2
            exact ⟨⟨k + 1, by omega, by go_num, take_more HN.out HX.out HE.out, n + nq, rfl⟩, by simp [intOf]; omega⟩
        · have h1' : (c.t.op == t.op) = false := by simp [h1]
          clear hb'
          go_wp2
          go_quiet (fail)
          go_wp2
          exact ⟨⟨k + 1, by omega, by go_num, take_more HN.out HX.out HE.out, n + nq, rfl⟩, by simp [intOf]; omega⟩
    · have hlt' : ¬ (k : Int) < (l.length : Int) := by omega
      go_wp2
      go_ret
      refine ⟨ret_int ?_, below_drewN hb0 n⟩
      rw [tmo, ctOf_not (fun d hd => HN.out d (by rw [List.take_of_length_le (by omega)]; exact hd))]
      rfl

theorem ct_ne {c d : Ct} (h : c ≠ d) : ¬ (c.t.op = d.t.op ∧ c.t.a = d.t.a ∧ c.t.b = d.t.b ∧ c.n = d.n) := by
  rintro ⟨h1, h2, h3, h4⟩
  apply h
  obtain ⟨⟨a, b, e⟩, n⟩ := c
  obtain ⟨⟨a', b', e'⟩, n'⟩ := d
  simp at h1 h2 h3 h4
  rw [h1, h2, h3, h4]

set_option maxHeartbeats 2000000 in
theorem sameCounts_any (a b : Option Addr) (ca cb : Nat) (xs ys : List Ct) (w : World) (hx : CtsAt w a xs) (hy : CtsAt w b ys) (hl : xs.length ≤ 140737488351232) (hl' : ys.length ≤ 140737488351232) :
    Calls Try.prog 75 #[.slice a xs.length ca, .slice b ys.length cb] w fun e w' => e = .returned (.bool (xs == ys)) ∧ ∃ n, w' = w.drewN n := by
  by_cases hne : xs.length = ys.length
  · have HE : Hid (xs.length = ys.length) := hne
    have h1 : ((xs.length : Int) != (ys.length : Int)) = false := by simp [hne]
    have hle : xs.length ≤ ys.length := by omega
    clear hne
    go_enter Try.func75, Try.ntmps75
    go_wp2
    go_loopw [5] (fun i wr => ∃ k : Nat, k ≤ xs.length ∧ i = .int .i64 k ∧ Hid (xs.take k = ys.take k) ∧ ∃ n, wr = w.drewN n) (fun i _ => xs.length - (intOf i).toNat)
    case atStart => exact ⟨0, Nat.zero_le _, rfl, by show _ = _; simp, 0, rfl⟩
    case round =>
      obtain ⟨k, hk, rfl, hT, n, rfl⟩ := hrel
      by_cases hlt : k < xs.length
      · have hlt2 : k < ys.length := by omega
        obtain ⟨x, gx⟩ := get_lt hlt
        obtain ⟨y, gy⟩ := get_lt hlt2
        obtain ⟨ba, oa, rfl, ha, x0, x1, x2, x3⟩ := hx.at gx
        obtain ⟨bb, ob, rfl, hb, y0, y1, y2, y3⟩ := hy.at gy
        have GX := hide gx
        have GY := hide gy
        clear gx gy
        by_cases hxy : x = y
        · subst hxy
          go_wp2
          go_quiet (fail)
          go_wp2
          go_roundw
          case rel => exact ⟨k + 1, by omega, by go_num, take_eq_succ GX.out GY.out hT.out rfl, n + nq, by first | rfl | (simp only [World.drewN_drewN])⟩
          case measure => simp [intOf]; omega
        · have hq := ct_ne hxy
          have HQ := hide hxy
          clear hxy
          by_cases e1 : x.t.op = y.t.op
          · have e1' : (x.t.op == y.t.op) = true := by simp [e1]
            by_cases e2 : x.t.a = y.t.a
            · have e2' : (x.t.a == y.t.a) = true := by simp [e2]
              by_cases e3 : x.t.b = y.t.b
              · have e3' : (x.t.b == y.t.b) = true := by simp [e3]
                have e4' : (x.n == y.n) = false := by
                  simp; intro e4; exact hq ⟨e1, e2, e3, e4⟩
                clear hq
                go_wp2
                go_quiet (fail)
                go_wp2
                go_ret
                exact ⟨ret_bool (list_ne_at GX.out GY.out HQ.out).symm, n + nq, by first | rfl | (simp only [World.drewN_drewN])⟩
              · have e3' : (x.t.b == y.t.b) = false := by simp [e3]
                clear hq
                go_wp2
                go_quiet (fail)
                go_wp2
                go_ret
                exact ⟨ret_bool (list_ne_at GX.out GY.out HQ.out).symm, n + nq, by first | rfl | (simp only [World.drewN_drewN])⟩
            · have e2' : (x.t.a == y.t.a) = false := by simp [e2]
              clear hq
              go_wp2
              go_quiet (fail)
              go_wp2
              go_ret
              exact ⟨ret_bool (list_ne_at GX.out GY.out HQ.out).symm, n + nq, by first | rfl | (simp only [World.drewN_drewN])⟩
          · have e1' : (x.t.op == y.t.op) = false := by simp [e1]
            clear hq
            go_wp2
            go_quiet (fail)
            go_wp2
            go_ret
            exact ⟨ret_bool (list_ne_at GX.out GY.out HQ.out).symm, n + nq, by first | rfl | (simp only [World.drewN_drewN])⟩
      · go_wp2
        go_ret
        refine ⟨ret_bool ?_, n, rfl⟩
        have e1 : xs = ys := by
          have h := hT.out
          rw [List.take_of_length_le (by omega), List.take_of_length_le (by have := HE.out; omega)] at h; exact h
        simp [e1]
  · have h1 : ((xs.length : Int) != (ys.length : Int)) = true := by simp; omega
    have HE : Hid (¬ xs.length = ys.length) := hne
    clear hne
    go_enter Try.func75, Try.ntmps75
    go_wp2
    go_ret
    exact ⟨ret_bool (list_ne_len HE.out).symm, 0, rfl⟩
end Go.Proofs.Ytoikglgnmjjpcaa
