/-
  run.Times and hoistwayref.TimesOf, walked.
-/
import Derived.Test.YtoikglgnmjjpcaaRQ
namespace Go.Proofs.Ytoikglgnmjjpcaa
open Go.RowKit
set_option linter.unusedVariables false

/-- Where a list of counts lies. -/
def CtsAt (w : World) (a : Option Addr) (l : List Ct) : Prop :=
  l = [] ∨ ∃ b off, a = some ⟨b, off, none⟩ ∧ b < w.heap.size ∧ ∀ (j : Nat) (c : Ct), l[j]? = some c → w.cell? ⟨b, off + j * 4, none⟩ = some (.int .i64 c.t.op) ∧ w.cell? ⟨b, off + j * 4 + 1, none⟩ = some (.int .i64 c.t.a) ∧ w.cell? ⟨b, off + j * 4 + 2, none⟩ = some (.int .i64 c.t.b) ∧ w.cell? ⟨b, off + j * 4 + 3, none⟩ = some (.int .i64 c.n)

theorem CtsAt.below {w w' : World} {a : Option Addr} {l : List Ct} (h : CtsAt w a l) (hb : Below w.heap.size w w') : CtsAt w' a l := by
  rcases h with h | ⟨b, off, rfl, hlt, h⟩
  · exact Or.inl h
  · refine Or.inr ⟨b, off, rfl, Nat.lt_of_lt_of_le hlt hb.size, fun j t ht => ?_⟩
    rw [hb.cell (p := ⟨b, _, none⟩) hlt, hb.cell (p := ⟨b, _, none⟩) hlt, hb.cell (p := ⟨b, _, none⟩) hlt, hb.cell (p := ⟨b, _, none⟩) hlt]
    exact h j t ht

theorem CtsAt.at {w : World} {a : Option Addr} {l : List Ct} (h : CtsAt w a l) {k : Nat} {c : Ct} (hk : l[k]? = some c) : ∃ b off, a = some ⟨b, off, none⟩ ∧ b < w.heap.size ∧ w.cell? ⟨b, off + k * 4, none⟩ = some (.int .i64 c.t.op) ∧ w.cell? ⟨b, off + k * 4 + 1, none⟩ = some (.int .i64 c.t.a) ∧ w.cell? ⟨b, off + k * 4 + 2, none⟩ = some (.int .i64 c.t.b) ∧ w.cell? ⟨b, off + k * 4 + 3, none⟩ = some (.int .i64 c.n) := by
  rcases h with h | ⟨b, off, rfl, hlt, h⟩
  · subst h; simp at hk
  · exact ⟨b, off, rfl, hlt, h k c hk⟩

theorem cts_of_owns {w : World} {base : Nat} {e : TypeId} {v : Value} {l : List Ct} (h : w.ownsRow base e 4 v l.length (l.flatMap encCt)) : ∃ a cap, v = .slice a l.length cap ∧ CtsAt w a l := by
  have hc : ∀ g, v.ownBlock = some g → ∀ j u, (l.flatMap encCt)[j]? = some u → w.cell? ((⟨g, 0, none⟩ : Addr).add j) = some u := fun g hg => h.cells hg
  obtain ⟨_, h⟩ := h
  rcases h with ⟨rfl, h0⟩ | ⟨g, cap, cur, rfl, h1, h2, h3, h4, h5, h6⟩
  · have : l = [] := List.eq_nil_of_length_eq_zero h0
    subst this
    exact ⟨none, 0, rfl, Or.inl rfl⟩
  · refine ⟨_, cap, rfl, Or.inr ⟨g, 0, rfl, (Array.getElem?_eq_some_iff.1 h2).1, ?_⟩⟩
    intro j t ht
    have e : ∀ i, (⟨g, 0, none⟩ : Addr).add i = ⟨g, 0 + i, none⟩ := by intro i; cases i <;> simp [Addr.add]
    have f : ∀ i, i < 4 → ∀ u, (encCt t)[i]? = some u → w.cell? ⟨g, 0 + (j * 4 + i), none⟩ = some u := by
      intro i hi u hu
      have := hc g rfl (j * 4 + i) u (by rw [flat4 l j i t ht hi]; exact hu)
      rwa [e] at this
    exact ⟨f 0 (by omega) _ rfl, f 1 (by omega) _ rfl, f 2 (by omega) _ rfl, f 3 (by omega) _ rfl⟩

/-- How often. -/
def tmo (l : List Ct) (t : Tm) : Int := (ctOf l t).getD 0

theorem ctOf_split {l : List Ct} {t : Tm} {k : Nat} {c : Ct} (h : ∀ d ∈ l.take k, d.t ≠ t) (hk : l[k]? = some c) (hc : c.t = t) : ctOf l t = some c.n := by
  induction l generalizing k with
  | nil => simp at hk
  | cons d l ih =>
    cases k with
    | zero => simp at hk; subst hk; rw [ctOf_cons, if_pos hc]
    | succ k =>
      simp at hk
      rw [ctOf_cons, if_neg (h d (by simp)), ih (k := k) (fun e he => h e (by simp [he])) hk]

theorem ctOf_not {l : List Ct} {t : Tm} (h : ∀ d ∈ l, d.t ≠ t) : ctOf l t = none := by
  induction l with
  | nil => rfl
  | cons d l ih => rw [ctOf_cons, if_neg (h d (by simp)), ih fun e he => h e (by simp [he])]

theorem take_more {l : List Ct} {t : Tm} {k : Nat} {c : Ct} (h : ∀ d ∈ l.take k, d.t ≠ t) (hk : l[k]? = some c) (hc : c.t ≠ t) : ∀ d ∈ l.take (k + 1), d.t ≠ t := by
  rw [List.take_add_one, hk]
  intro d hd
  rw [List.mem_append] at hd
  rcases hd with hd | hd
  · exact h d hd
  · simp at hd; subst hd; exact hc

set_option maxHeartbeats 1000000 in
theorem times_any (v0 v1 v2 v3 : Value) (a : Option Addr) (cap : Nat) (l : List Ct) (t : Tm) (w : World) (hC : CtsAt w a l) (hl : l.length ≤ 9223372036854775807) :
    Calls Try.prog 27 #[.agg #[v0, v1, v2, v3, .slice a l.length cap], .agg #[.int .i64 t.op, .int .i64 t.a, .int .i64 t.b]] w fun e w' => e = .returned (.int .i64 (tmo l t)) ∧ Below w.heap.size w w' := by
  go_enter Try.func27, Try.ntmps27
  go_wp2
  have hb0 : Below w.heap.size w ((w.alloc (.cells #[v0, v1, v2, v3, .slice a l.length cap] 42)).alloc (.cells #[.int .i64 t.op, .int .i64 t.a, .int .i64 t.b] 36)) := ((Below.refl _ w).alloc (Nat.le_refl _) _).alloc (by simp) _
  have hs0 : ((w.alloc (.cells #[v0, v1, v2, v3, .slice a l.length cap] 42)).alloc (.cells #[.int .i64 t.op, .int .i64 t.a, .int .i64 t.b] 36)).heap.size = w.heap.size + 2 := by simp
  have hk0 : ((w.alloc (.cells #[v0, v1, v2, v3, .slice a l.length cap] 42)).alloc (.cells #[.int .i64 t.op, .int .i64 t.a, .int .i64 t.b] 36)).heap[w.heap.size + 1]? = some (.cells #[.int .i64 t.op, .int .i64 t.a, .int .i64 t.b] 36 (0, 0)) := blk_new (by simp)
  generalize (w.alloc (.cells #[v0, v1, v2, v3, .slice a l.length cap] 42)).alloc (.cells #[.int .i64 t.op, .int .i64 t.a, .int .i64 t.b] 36) = W0 at hb0 hs0 hk0 ⊢
  have HC := hide (hC.below hb0)
  clear hC
  go_loopw [10] (fun i wr => ∃ k : Nat, k ≤ l.length ∧ i = .int .i64 k ∧ (∀ d ∈ l.take k, d.t ≠ t) ∧ Below W0.heap.size W0 wr) (fun i _ => l.length - (intOf i).toNat)
  case atStart => exact ⟨0, Nat.zero_le _, rfl, by simp, Below.refl _ _⟩
  case round =>
    obtain ⟨k, hk, rfl, hn, hb⟩ := hrel
    have HN := hide hn
    clear hn
    have t0 : wr.cell? ⟨w.heap.size + 1, 0, none⟩ = some (.int .i64 t.op) := by rw [hb.cell (p := ⟨w.heap.size + 1, 0, none⟩) (by simp; omega), blk_cell hk0]; rfl
    have t1 : wr.cell? ⟨w.heap.size + 1, 1, none⟩ = some (.int .i64 t.a) := by rw [hb.cell (p := ⟨w.heap.size + 1, 1, none⟩) (by simp; omega), blk_cell hk0]; rfl
    have t2 : wr.cell? ⟨w.heap.size + 1, 2, none⟩ = some (.int .i64 t.b) := by rw [hb.cell (p := ⟨w.heap.size + 1, 2, none⟩) (by simp; omega), blk_cell hk0]; rfl
    have hsr := hb.size
    have hBw : Below w.heap.size w wr := hb0.trans (hb.mono hb0.size)
    have HB := hide hBw
    have HBr := hide hb
    have hwr : w.heap.size + 1 < wr.heap.size := by omega
    clear hb hBw hk0
    by_cases hlt : k < l.length
    · obtain ⟨c, hc⟩ : ∃ c, l[k]? = some c := ⟨l[k], List.getElem?_eq_getElem hlt⟩
      obtain ⟨b, off, rfl, hbl, c0, c1, c2, c3⟩ := (HC.out.below HBr.out).at hc
      have hlt' : (k : Int) < (l.length : Int) := by omega
      by_cases e : c.t = t
      · subst e
        go_wp2
        go_ret
        refine ⟨ret_int ?_, HB.out.alloc (by omega) _⟩
        rw [tmo, ctOf_split HN.out hc rfl]; rfl
      · have HE := hide e
        have HX := hide hc
        clear e hc
        go_wp2
        all_goals first
          | refine ⟨⟨k + 1, by omega, by go_num, take_more HN.out HX.out HE.out, HBr.out.alloc (by omega) _⟩, by simp [intOf]; omega⟩
          | skip
        exfalso
        apply HE.out
        cases t; cases hct : c.t
        simp_all
    · have hlt' : ¬ (k : Int) < (l.length : Int) := by omega
      go_wp2
      go_ret
      refine ⟨ret_int ?_, HB.out⟩
      rw [tmo, ctOf_not (fun d hd => HN.out d (by rw [List.take_of_length_le (by omega)]; exact hd))]
      rfl
end Go.Proofs.Ytoikglgnmjjpcaa
