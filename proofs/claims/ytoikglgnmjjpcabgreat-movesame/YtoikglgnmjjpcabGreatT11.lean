/-
  hoistwaylaw.few, choose and does, walked.
  hoistwaylaw.RunMore, walked.
  run.Run whatever it is handed; plain facts on runs with more fuel.
  hoistwaylaw.choose and begins, hoistwayref.SameResults, walked.
  hoistwaylaw.runBegun, walked: the runs of the small program.
  hoistwayref.TimesOf and SameCounts, walked.
  run.Times and hoistwayref.TimesOf, walked.
  graph.Reach where the program is wrong; graph.Trim's parts.
  hoistwayref.ReachOf, walked.
-/
import Derived.Test.YtoikglgnmjjpcabGreatT2
import Derived.Test.YtoikglgnmjjpcabGreatT3
import Derived.Test.YtoikglgnmjjpcabGreatT5
import Derived.Test.YtoikglgnmjjpcabGreatT10
import Derived.Deep.RegionWith
import Derived.Deep.CutRange
import Derived.RangeFuncBox
import Derived.Deep.DeepCutAuto
namespace Go.Proofs.YtoikglgnmjjpcabGreat
open Go.RowKit
set_option linter.unusedVariables false

def CtsAt (w : World) (a : Option Addr) (l : List Ct) : Prop :=
  l = [] ∨ ∃ b off, a = some ⟨b, off, none⟩ ∧ b < w.heap.size ∧ ∀ (j : Nat) (c : Ct), l[j]? = some c → w.cell? ⟨b, off + j * 4, none⟩ = some (.int .i64 c.t.op) ∧ w.cell? ⟨b, off + j * 4 + 1, none⟩ = some (.int .i64 c.t.a) ∧ w.cell? ⟨b, off + j * 4 + 2, none⟩ = some (.int .i64 c.t.b) ∧ w.cell? ⟨b, off + j * 4 + 3, none⟩ = some (.int .i64 c.n)

theorem CtsAt.below {w w' : World} {a : Option Addr} {l : List Ct} (h : CtsAt w a l) (hb : Below w.heap.size w w') : CtsAt w' a l := by
  rcases h with h | ⟨b, off, rfl, hlt, h⟩
  · exact Or.inl h
  · refine Or.inr ⟨b, off, rfl, Nat.lt_of_lt_of_le hlt hb.size, fun j t ht => ?_⟩
    rw [hb.cell (p := ⟨b, _, none⟩) hlt, hb.cell (p := ⟨b, _, none⟩) hlt, hb.cell (p := ⟨b, _, none⟩) hlt, hb.cell (p := ⟨b, _, none⟩) hlt]
    exact h j t ht

theorem CtsAt.at {w : World} {a : Option Addr} {l : List Ct} (h : CtsAt w a l) {k : Nat} {c : Ct} (hk : l[k]? = some c) : ∃ b off, a = some ⟨b, off, none⟩ ∧ b < w.heap.size ∧ w.cell? ⟨b, off + k * 4, none⟩ = some (.int .i64 c.t.op) ∧ w.cell? ⟨b, off + k * 4 + 1, none⟩ = some (.int .i64 c.t.a) ∧ w.cell? ⟨b, off + k * 4 + 2, none⟩ = some (.int .i64 c.t.b) ∧ w.cell? ⟨b, off + k * 4 + 3, none⟩ = some (.int .i64 c.n) := by
  rcases h with h | ⟨b, off, rfl, hlt, h⟩
  · subst h; simp at hk
  · exact ⟨b, off, rfl, hlt, h k c hk⟩

theorem cts_of_owns {w : World} {base : Nat} {e : TypeId} {v : Value} {l : List Ct} (h : w.ownsRow base e 4 v l.length (l.flatMap encCt)) : ∃ a cap, v = .slice a l.length cap ∧ CtsAt w a l := by
  have hc : ∀ g, v.ownBlock = some g → ∀ j u, (l.flatMap encCt)[j]? = some u → w.cell? ((⟨g, 0, none⟩ : Addr).add j) = some u := fun g hg => h.cells hg
  obtain ⟨_, h⟩ := h
  rcases h with ⟨rfl, h0⟩ | ⟨g, cap, cur, rfl, h1, h2, h3, h4, h5, h6⟩
  · have : l = [] := List.eq_nil_of_length_eq_zero h0
    subst this
    exact ⟨none, 0, rfl, Or.inl rfl⟩
  · refine ⟨_, cap, rfl, Or.inr ⟨g, 0, rfl, (Array.getElem?_eq_some_iff.1 h2).1, ?_⟩⟩
    intro j t ht
    have e : ∀ i, (⟨g, 0, none⟩ : Addr).add i = ⟨g, 0 + i, none⟩ := by intro i; cases i <;> simp [Addr.add]
    have f : ∀ i, i < 4 → ∀ u, (encCt t)[i]? = some u → w.cell? ⟨g, 0 + (j * 4 + i), none⟩ = some u := by
      intro i hi u hu
      have := hc g rfl (j * 4 + i) u (by rw [flat4 l j i t ht hi]; exact hu)
      rwa [e] at this
    exact ⟨f 0 (by omega) _ rfl, f 1 (by omega) _ rfl, f 2 (by omega) _ rfl, f 3 (by omega) _ rfl⟩

def tmo (l : List Ct) (t : Tm) : Int := (ctOf l t).getD 0

theorem ctOf_split {l : List Ct} {t : Tm} {k : Nat} {c : Ct} (h : ∀ d ∈ l.take k, d.t ≠ t) (hk : l[k]? = some c) (hc : c.t = t) : ctOf l t = some c.n := by
  induction l generalizing k with
  | nil => simp at hk
  | cons d l ih =>
    cases k with
    | zero => simp at hk; subst hk; rw [ctOf_cons, if_pos hc]
    | succ k =>
      simp at hk
      rw [ctOf_cons, if_neg (h d (by simp)), ih (k := k) (fun e he => h e (by simp [he])) hk]

theorem ctOf_not {l : List Ct} {t : Tm} (h : ∀ d ∈ l, d.t ≠ t) : ctOf l t = none := by
  induction l with
  | nil => rfl
  | cons d l ih => rw [ctOf_cons, if_neg (h d (by simp)), ih fun e he => h e (by simp [he])]

theorem take_more {l : List Ct} {t : Tm} {k : Nat} {c : Ct} (h : ∀ d ∈ l.take k, d.t ≠ t) (hk : l[k]? = some c) (hc : c.t ≠ t) : ∀ d ∈ l.take (k + 1), d.t ≠ t := by
  rw [List.take_add_one, hk]
  intro d hd
  rw [List.mem_append] at hd
  rcases hd with hd | hd
  · exact h d hd
  · simp at hd; subst hd; exact hc

set_option maxHeartbeats 1000000 in
theorem times_any (v0 v1 v2 v3 : Value) (a : Option Addr) (cap : Nat) (l : List Ct) (t : Tm) (w : World) (hC : CtsAt w a l) (hl : l.length ≤ 9223372036854775807) :
    Calls Tryz.prog 23 #[.agg #[v0, v1, v2, v3, .slice a l.length cap], .agg #[.int .i64 t.op, .int .i64 t.a, .int .i64 t.b]] w fun e w' => e = .returned (.int .i64 (tmo l t)) ∧ Below w.heap.size w w' := by
  go_enter Tryz.func23, Tryz.ntmps23
  go_wp2
  have hb0 : Below w.heap.size w ((w.alloc (.cells #[v0, v1, v2, v3, .slice a l.length cap] 50)).alloc (.cells #[.int .i64 t.op, .int .i64 t.a, .int .i64 t.b] 26)) := ((Below.refl _ w).alloc (Nat.le_refl _) _).alloc (by simp) _
  have hs0 : ((w.alloc (.cells #[v0, v1, v2, v3, .slice a l.length cap] 50)).alloc (.cells #[.int .i64 t.op, .int .i64 t.a, .int .i64 t.b] 26)).heap.size = w.heap.size + 2 := by simp
  have hk0 : ((w.alloc (.cells #[v0, v1, v2, v3, .slice a l.length cap] 50)).alloc (.cells #[.int .i64 t.op, .int .i64 t.a, .int .i64 t.b] 26)).heap[w.heap.size + 1]? = some (.cells #[.int .i64 t.op, .int .i64 t.a, .int .i64 t.b] 26 (0, 0)) := blk_new (by simp)
  generalize (w.alloc (.cells #[v0, v1, v2, v3, .slice a l.length cap] 50)).alloc (.cells #[.int .i64 t.op, .int .i64 t.a, .int .i64 t.b] 26) = W0 at hb0 hs0 hk0 ⊢
  have HC := hide (hC.below hb0)
  clear hC
  go_loopw [10] (fun i wr => ∃ k : Nat, k ≤ l.length ∧ i = .int .i64 k ∧ (∀ d ∈ l.take k, d.t ≠ t) ∧ Below W0.heap.size W0 wr) (fun i _ => l.length - (intOf i).toNat)
  case atStart => exact ⟨0, Nat.zero_le _, rfl, by simp, Below.refl _ _⟩
  case round =>
    obtain ⟨k, hk, rfl, hn, hb⟩ := hrel
    have HN := hide hn
    clear hn
    have t0 : wr.cell? ⟨w.heap.size + 1, 0, none⟩ = some (.int .i64 t.op) := by rw [hb.cell (p := ⟨w.heap.size + 1, 0, none⟩) (by simp; omega), blk_cell hk0]; rfl
    have t1 : wr.cell? ⟨w.heap.size + 1, 1, none⟩ = some (.int .i64 t.a) := by rw [hb.cell (p := ⟨w.heap.size + 1, 1, none⟩) (by simp; omega), blk_cell hk0]; rfl
    have t2 : wr.cell? ⟨w.heap.size + 1, 2, none⟩ = some (.int .i64 t.b) := by rw [hb.cell (p := ⟨w.heap.size + 1, 2, none⟩) (by simp; omega), blk_cell hk0]; rfl
    have hsr := hb.size
    have hBw : Below w.heap.size w wr := hb0.trans (hb.mono hb0.size)
    have HB := hide hBw
    have HBr := hide hb
    have hwr : w.heap.size + 1 < wr.heap.size := by omega
    clear hb hBw hk0
    by_cases hlt : k < l.length
    · obtain ⟨c, hc⟩ : ∃ c, l[k]? = some c := ⟨l[k], List.getElem?_eq_getElem hlt⟩
      obtain ⟨b, off, rfl, hbl, c0, c1, c2, c3⟩ := (HC.out.below HBr.out).at hc
      have hlt' : (k : Int) < (l.length : Int) := by omega
      by_cases e : c.t = t
      · subst e
        go_wp2
        go_ret
        refine ⟨ret_int ?_, HB.out.alloc (by omega) _⟩
        rw [tmo, ctOf_split HN.out hc rfl]; rfl
      · have HE := hide e
        have HX := hide hc
        clear e hc
        go_wp2
        all_goals first
          | refine ⟨⟨k + 1, by omega, by go_num, take_more HN.out HX.out HE.out, HBr.out.alloc (by omega) _⟩, by simp [intOf]; omega⟩
          | skip
        exfalso
        apply HE.out
        cases t; cases hct : c.t
        simp_all
    · have hlt' : ¬ (k : Int) < (l.length : Int) := by omega
      go_wp2
      go_ret
      refine ⟨ret_int ?_, HB.out⟩
      rw [tmo, ctOf_not (fun d hd => HN.out d (by rw [List.take_of_length_le (by omega)]; exact hd))]
      rfl
end Go.Proofs.YtoikglgnmjjpcabGreat

namespace Go.Proofs.YtoikglgnmjjpcabGreat
open Go.RowKit
set_option linter.unusedVariables false

end Go.Proofs.YtoikglgnmjjpcabGreat

namespace Go.Proofs.YtoikglgnmjjpcabGreat
open Go.RowKit
set_option linter.unusedVariables false

theorem in_two {w : World} {b : Nat} {x y : Int} (hb : b < w.heap.size) (h0 : w.cell? ⟨b, 0, none⟩ = some (.int .i64 x)) (h1 : w.cell? ⟨b, 1, none⟩ = some (.int .i64 y)) : InAt w w.heap.size (some ⟨b, 0, none⟩) [x, y] := by
  refine Or.inr ⟨b, 0, rfl, hb, ?_⟩
  intro j z hz
  match j, hz with
  | 0, hz => simp at hz; subst hz; exact h0
  | 1, hz => simp at hz; subst hz; exact h1
  | j + 2, hz => simp at hz

theorem run_fit (r : Int) (nb noff cap : Nat) (ns : List Nd) (ia : Option Addr) (ic : Nat) (inp : List Int) (fuel : Int) (w : World) (hN : NodesAt w nb noff ns) (hI : InAt w w.heap.size ia inp) (hic : inp.length ≤ ic) (hw : rerr r ns inp.length fuel = 0) :
    Calls Tryz.prog 22 #[.agg #[.int .i64 r, .slice (some ⟨nb, noff, none⟩) ns.length cap], .slice ia inp.length ic, .int .i64 fuel] w fun e w' => ∃ ao co ac cc, e = .returned (.tuple #[.agg #[.slice ao (fin r ns inp fuel).out.length co, .int .i64 (fin r ns inp fuel).ret, .bool (fin r ns inp fuel).ended, .int .i64 (fin r ns inp fuel).steps, .slice ac (fin r ns inp fuel).cts.length cc], .int .i64 0]) ∧
      IntsAt w' ao (fin r ns inp fuel).out ∧ CtsAt w' ac (fin r ns inp fuel).cts ∧ Below w.heap.size w w' ∧ (fin r ns inp fuel).out.length ≤ co ∧ ∀ (A : List Nat) (u : World), Keeps A w' u → (∀ x ∈ A, x < w.heap.size) → IntsAt u ao (fin r ns inp fuel).out ∧ CtsAt u ac (fin r ns inp fuel).cts := by
  refine (run_ok r nb noff cap ns ia ic inp fuel w hN hI hic hw).mono ?_
  rintro e w' ⟨vo, vc, rfl, h1, h2, hb⟩
  have hle : ∀ a c, vo = .slice a (fin r ns inp fuel).out.length c → (fin r ns inp fuel).out.length ≤ c := by
    intro a c hv
    rcases h1.2 with ⟨q, h0⟩ | ⟨g, cap', cur, q, _, _, q2, _⟩
    · omega
    · rw [q] at hv; injection hv with e1 e2 e3; omega
  obtain ⟨ao, co, rfl, hI'⟩ := ints_of_owns h1
  obtain ⟨ac, cc, rfl, hC⟩ := cts_of_owns h2
  refine ⟨ao, co, ac, cc, rfl, hI', hC, hb, hle _ _ rfl, fun A u K hA => ?_⟩
  obtain ⟨a1, c1, e1, hI1⟩ := ints_of_owns (K.owns h1 hA)
  obtain ⟨a2, c2, e2, hC2⟩ := cts_of_owns (K.owns h2 hA)
  injection e1 with e1
  injection e2 with e2
  subst e1 e2
  exact ⟨hI1, hC2⟩

theorem times_lit {w0 : World} (v0 v1 v2 v3 : Value) (a : Option Addr) (cap : Nat) (n : Int) (W : World) (hC : CtsAt w0 a [⟨⟨3, 0, 1⟩, n⟩]) (hB : Below w0.heap.size w0 W) :
    Calls Tryz.prog 23 #[.agg #[v0, v1, v2, v3, .slice a 1 cap], .agg #[.int .i64 3, .int .i64 0, .int .i64 1]] W fun e w' => e = .returned (.int .i64 n) ∧ Below w0.heap.size w0 w' := by
  refine (times_any v0 v1 v2 v3 a cap [⟨⟨3, 0, 1⟩, n⟩] ⟨3, 0, 1⟩ W (hC.below hB) (by simp)).mono ?_
  rintro e w' ⟨rfl, hb⟩
  exact ⟨by simp [tmo, ctOf], hB.trans (hb.mono hB.size)⟩

end Go.Proofs.YtoikglgnmjjpcabGreat

namespace Go.Proofs.YtoikglgnmjjpcabGreat
open Go.RowKit
set_option linter.unusedVariables false

def pickC (c : Int) : Int := (if c < 0 then -(c + 1) else c) % 4096

set_option maxHeartbeats 400000 in
theorem choose_any (c : Int) (w : World) (h : -9223372036854775808 ≤ c ∧ c ≤ 9223372036854775807) :
    Calls Tryz.prog 17 #[.int .i64 c, .int .i64 4096] w fun e w' => e = .returned (.int .i64 (pickC c)) ∧ w' = w := by
  by_cases h0 : c < 0
  · go_enter Tryz.func17, Tryz.ntmps17
    go_wp2
    go_ret
    refine ⟨ret_int ?_, rfl⟩
    have e : (c + 1).tmod 4096 = -((-(c + 1)).tmod 4096) := by rw [Int.neg_tmod]; omega
    rw [e, Int.tmod_eq_emod_of_nonneg (by omega), pickC, if_pos h0]
    omega
  · go_enter Tryz.func17, Tryz.ntmps17
    go_wp2
    go_ret
    refine ⟨ret_int ?_, rfl⟩
    rw [pickC, if_neg (by omega)]

theorem IntsAt.take {w : World} {a : Option Addr} {l : List Int} (h : IntsAt w a l) (n : Nat) : IntsAt w a (l.take n) := by
  rcases h with h | ⟨b, off, rfl, hlt, h⟩
  · left; rw [h]; simp
  · refine Or.inr ⟨b, off, rfl, hlt, fun j z hz => h j z ?_⟩
    rw [List.getElem?_take] at hz
    split at hz
    · exact hz
    · cases hz

set_option maxHeartbeats 1000000 in
theorem begins_any (a b : Option Addr) (ca cb : Nat) (xs ys : List Int) (w : World) (hx : IntsAt w a xs) (hy : IntsAt w b ys) (hl : xs.length ≤ 140737488351232) (hl' : ys.length ≤ 140737488351232) (hca : xs.length ≤ ca) (hp : ys <+: xs) :
    Calls Tryz.prog 47 #[.slice a xs.length ca, .slice b ys.length cb] w fun e w' => e = .returned (.bool true) ∧ Below w.heap.size w w' := by
  have hle := hp.length_le
  have ht : xs.take ys.length = ys := (List.prefix_iff_eq_take.1 hp).symm
  have hle' : (ys.length : Int) ≤ (xs.length : Int) := by omega
  go_enter Tryz.func47, Tryz.ntmps47
  go_wp2_with fail
  have hT := hx.take ys.length
  rw [ht] at hT
  refine (sameInts_any a b ca cb ys ys w hT hy hl' hl').mono ?_
  rintro e w1 ⟨rfl, n, rfl⟩
  go_wp2
  go_ret
  exact ⟨by simp, below_drewN (Below.refl _ _) n⟩

end Go.Proofs.YtoikglgnmjjpcabGreat

namespace Go.Proofs.YtoikglgnmjjpcabGreat
open Go.RowKit
set_option linter.unusedVariables false

def res (r : Int) (ns : List Nd) (inp : List Int) (fuel : Int) : St := if rerr r ns inp.length fuel = 0 then fin r ns inp fuel else st0 0 []

theorem stp_out (x : Nd) (s : St) : s.out <+: (stp x s).out ∧ (stp x s).out.length ≤ s.out.length + 1 := by
  unfold stp; repeat' split
  all_goals simp

theorem stp_cts (x : Nd) (s : St) : (stp x s).cts.length ≤ s.cts.length + 1 := by
  unfold stp; repeat' split
  all_goals (try simp)
  exact omore_len _ _

theorem runN_out {ns : List Nd} : ∀ (n : Nat) (s : St), s.out <+: (runN ns n s).out ∧ (runN ns n s).out.length ≤ s.out.length + n
  | 0, s => by simp [runN]
  | n + 1, s => by
    simp only [runN]
    split
    · simp
    · split
      · rename_i x _
        have h1 := runN_out (ns := ns) n (stp x s)
        have h2 := stp_out x s
        exact ⟨h2.1.trans h1.1, by omega⟩
      · simp

theorem runN_cts {ns : List Nd} : ∀ (n : Nat) (s : St), (runN ns n s).cts.length ≤ s.cts.length + n
  | 0, s => by simp [runN]
  | n + 1, s => by
    simp only [runN]
    split
    · omega
    · split
      · rename_i x _
        have h1 := runN_cts (ns := ns) n (stp x s)
        have h2 := stp_cts x s
        omega
      · omega

theorem rerr_zero {r : Int} {ns : List Nd} {il : Nat} {fuel : Int} (h : rerr r ns il fuel = 0) : chk r ns = 0 ∧ il ≤ 256 ∧ 0 ≤ fuel ∧ fuel ≤ 131072 := by
  unfold rerr at h
  split at h
  · split at h
    · omega
    · split at h
      · omega
      · omega
  · rename_i hc; exact absurd h hc

theorem res_len (r : Int) (ns : List Nd) (inp : List Int) (fuel : Int) : (res r ns inp fuel).out.length ≤ 131072 ∧ (res r ns inp fuel).cts.length ≤ 131072 := by
  unfold res
  split
  · rename_i h
    have hz := rerr_zero h
    have h1 := (runN_out (ns := ns) fuel.toNat (st0 r.toNat inp)).2
    have h2 := runN_cts (ns := ns) fuel.toNat (st0 r.toNat inp)
    simp only [st0, List.length_nil] at h1 h2
    constructor
    · show (runN ns fuel.toNat (st0 r.toNat inp)).out.length ≤ _
      simp only [st0]; omega
    · show (runN ns fuel.toNat (st0 r.toNat inp)).cts.length ≤ _
      simp only [st0]; omega
  · simp [st0]

theorem run_any (r : Int) (a : Option Addr) (cap : Nat) (ns : List Nd) (ia : Option Addr) (ic : Nat) (inp : List Int) (fuel : Int) (w : World) (hN : SlN w a ns) (hI : IntsAt w ia inp) (hic : inp.length ≤ ic) (hil : inp.length ≤ 9223372036854775807) :
    Calls Tryz.prog 22 #[.agg #[.int .i64 r, .slice a ns.length cap], .slice ia inp.length ic, .int .i64 fuel] w fun e w' => ∃ ao co ac cc, e = .returned (.tuple #[.agg #[.slice ao (res r ns inp fuel).out.length co, .int .i64 (res r ns inp fuel).ret, .bool (res r ns inp fuel).ended, .int .i64 (res r ns inp fuel).steps, .slice ac (res r ns inp fuel).cts.length cc], .int .i64 (rerr r ns inp.length fuel)]) ∧
      IntsAt w' ao (res r ns inp fuel).out ∧ CtsAt w' ac (res r ns inp fuel).cts ∧ Below w.heap.size w w' ∧ (res r ns inp fuel).out.length ≤ co ∧ ∀ (A : List Nat) (u : World), Keeps A w' u → (∀ x ∈ A, x < w.heap.size) → IntsAt u ao (res r ns inp fuel).out ∧ CtsAt u ac (res r ns inp fuel).cts := by
  by_cases h : rerr r ns inp.length fuel = 0
  · obtain ⟨b, off, rfl, hNb⟩ := hN.some (chk_zero (rerr_zero h).1).1.1
    have e : res r ns inp fuel = fin r ns inp fuel := by rw [res, if_pos h]
    rw [e, h]
    exact run_fit r b off cap ns ia ic inp fuel w hNb hI hic h
  · have e : res r ns inp fuel = st0 0 [] := by rw [res, if_neg h]
    rw [e]
    refine (run_wrong r a cap ns ia inp.length ic fuel w hN hil h).mono ?_
    rintro e w' ⟨rfl, hb⟩
    exact ⟨none, 0, none, 0, rfl, Or.inl rfl, Or.inl rfl, hb, by simp [st0], fun _ _ _ _ => ⟨Or.inl rfl, Or.inl rfl⟩⟩

end Go.Proofs.YtoikglgnmjjpcabGreat

namespace Go.Proofs.YtoikglgnmjjpcabGreat
open Go.RowKit
set_option linter.unusedVariables false

end Go.Proofs.YtoikglgnmjjpcabGreat

namespace Go.Proofs.YtoikglgnmjjpcabGreat
open Go.RowKit
set_option linter.unusedVariables false
set_option linter.unusedSimpArgs false

def pickF (c : Int) : Int := (if c < 0 then -(c + 1) else c) % 400

theorem pickF_range (c : Int) : 0 ≤ pickF c ∧ pickF c < 400 := by unfold pickF; omega

set_option maxHeartbeats 400000 in
theorem choose400_any (c : Int) (w : World) (h : -9223372036854775808 ≤ c ∧ c ≤ 9223372036854775807) :
    Calls Tryz.prog 17 #[.int .i64 c, .int .i64 400] w fun e w' => e = .returned (.int .i64 (pickF c)) ∧ w' = w := by
  by_cases h0 : c < 0
  · go_enter Tryz.func17, Tryz.ntmps17
    go_wp2
    go_ret
    refine ⟨ret_int ?_, rfl⟩
    have e : (c + 1).tmod 400 = -((-(c + 1)).tmod 400) := by rw [Int.neg_tmod]; omega
    rw [e, Int.tmod_eq_emod_of_nonneg (by omega), pickF, if_pos h0]
    omega
  · go_enter Tryz.func17, Tryz.ntmps17
    go_wp2
    go_ret
    refine ⟨ret_int ?_, rfl⟩
    rw [pickF, if_neg (by omega)]

set_option maxHeartbeats 400000 in
theorem few_any (ia : Option Addr) (ic : Nat) (inp : List Int) (w : World) (hic : inp.length ≤ ic) (hil : inp.length ≤ 9223372036854775807) :
    Calls Tryz.prog 19 #[.slice ia inp.length ic] w fun e w' => e = .returned (.slice ia (inp.take 256).length ic) ∧ w' = w := by
  by_cases h0 : 256 < inp.length
  · have e : (inp.take 256).length = 256 := by simp; omega
    have h1 : (256 : Int) < (inp.length : Int) := by omega
    have h2 : (256 : Int) ≤ (ic : Int) := by omega
    rw [e]
    go_enter Tryz.func19, Tryz.ntmps19
    go_wp2
    go_ret
    exact ⟨by simp, rfl⟩
  · have e : inp.take 256 = inp := List.take_of_length_le (by omega)
    have h1 : ¬ (256 : Int) < (inp.length : Int) := by omega
    rw [e]
    go_enter Tryz.func19, Tryz.ntmps19
    go_wp2
    go_ret
    exact ⟨by simp, rfl⟩

structure Doing (σa σb σc : St) : Prop where
  b1 : σb.ended = true → σa.ended = true ∧ σa.ret = σb.ret ∧ σa.out = σb.out
  b2 : σb.out <+: σa.out
  c1 : σa.ended = true → σc.ended = true ∧ σa.ret = σc.ret ∧ σa.out = σc.out
  c2 : σa.out <+: σc.out

theorem sameInts_dr {W : World} (a b : Option Addr) (ca cb : Nat) (xs ys : List Int) (u : World) (hu : ∃ k, u = W.drewN k) (hx : IntsAt W a xs) (hy : IntsAt W b ys) (hl : xs.length ≤ 140737488351232) (hl' : ys.length ≤ 140737488351232) (he : xs = ys) :
    Calls Tryz.prog 46 #[.slice a xs.length ca, .slice b ys.length cb] u fun e w' => e = .returned (.bool true) ∧ ∃ k, w' = W.drewN k := by
  obtain ⟨k, rfl⟩ := hu
  refine (sameInts_any a b ca cb xs ys _ (hx.below (below_drewN (Below.refl _ _) k)) (hy.below (below_drewN (Below.refl _ _) k)) hl hl').mono ?_
  rintro e w1 ⟨rfl, n, rfl⟩
  subst he
  exact ⟨by simp, k + n, by rw [World.drewN_drewN]⟩

set_option maxHeartbeats 1000000 in
theorem begins_dr {W : World} (a b : Option Addr) (ca cb : Nat) (xs ys : List Int) (u : World) (hu : ∃ k, u = W.drewN k) (hx : IntsAt W a xs) (hy : IntsAt W b ys) (hl : xs.length ≤ 140737488351232) (hl' : ys.length ≤ 140737488351232) (hca : xs.length ≤ ca) (hp : ys <+: xs) :
    Calls Tryz.prog 47 #[.slice a xs.length ca, .slice b ys.length cb] u fun e w' => e = .returned (.bool true) ∧ ∃ k, w' = W.drewN k := by
  obtain ⟨k, rfl⟩ := hu
  have hle := hp.length_le
  have ht : xs.take ys.length = ys := (List.prefix_iff_eq_take.1 hp).symm
  have hle' : (ys.length : Int) ≤ (xs.length : Int) := by omega
  have hT := hx.take ys.length
  rw [ht] at hT
  have HT := hide (hT.below (below_drewN (Below.refl _ _) k))
  have HY := hide (hy.below (below_drewN (Below.refl _ _) k))
  clear hx hy hT hp ht
  generalize hV : W.drewN k = V at HT HY ⊢
  go_enter Tryz.func47, Tryz.ntmps47
  go_wp2_with fail
  refine (sameInts_any a b ca cb ys ys V HT.out HY.out hl' hl').mono ?_
  rintro e w1 ⟨rfl, n, rfl⟩
  go_wp2
  go_ret
  refine ⟨by simp, k + n, ?_⟩
  rw [← hV, World.drewN_drewN]

set_option maxHeartbeats 16000000 in
set_option maxRecDepth 100000 in
theorem does_any (r r' : Int) (a b : Option Addr) (ca cb : Nat) (ns ms : List Nd) (ia : Option Addr) (ic : Nat) (inp : List Int) (n : Int) (w : World) (hN : SlN w a ns) (hM : SlN w b ms) (hI : IntsAt w ia inp) (hic : inp.length ≤ ic) (hil : inp.length ≤ 9223372036854775807)
    (hn0 : 0 ≤ n) (hn1 : n < 400) (hml : ms.length ≤ 256) (h1 : rerr r ns inp.length n = 0) (h2 : rerr r' ms inp.length n = 0) (h3 : rerr r' ms inp.length (n * ((ms.length : Int) + 1) + ms.length) = 0)
    (hD : Doing (res r ns inp n) (res r' ms inp n) (res r' ms inp (n * ((ms.length : Int) + 1) + ms.length))) :
    Calls Tryz.prog 18 #[.agg #[.int .i64 r, .slice a ns.length ca], .agg #[.int .i64 r', .slice b ms.length cb], .slice ia inp.length ic, .int .i64 n] w fun e w' => e = .returned (.bool true) ∧ Below w.heap.size w w' := by
  have hK0 : 0 ≤ n * ((ms.length : Int) + 1) := Int.mul_nonneg hn0 (by omega)
  have hK1 : n * ((ms.length : Int) + 1) ≤ 400 * 257 := Int.le_trans (Int.mul_le_mul_of_nonneg_right (by omega) (by omega)) (Int.mul_le_mul_of_nonneg_left (by omega) (by omega))
  have HWW := hide (show wrap64 (wrap64 (n * ((ms.length : Int) + 1)) + (ms.length : Int)) = n * ((ms.length : Int) + 1) + ms.length by unfold wrap64; omega)
  have hml' : (ms.length : Int) + 1 ≤ 257 := by omega
  have HK := hide (And.intro hK0 hK1)
  have H1 := hide h1
  have H2 := hide h2
  have H3 := hide h3
  have HD := hide hD
  clear h1 h2 h3 hD hK0 hK1
  go_enter Tryz.func18, Tryz.ntmps18
  go_wp2_with fail
  have hb0 : Below w.heap.size w ((w.alloc (.cells #[.int .i64 r, .slice a ns.length ca] 24)).alloc (.cells #[.int .i64 r', .slice b ms.length cb] 24)) := ((Below.refl _ w).alloc (Nat.le_refl _) _).alloc (by simp) _
  have hp0 : ((w.alloc (.cells #[.int .i64 r, .slice a ns.length ca] 24)).alloc (.cells #[.int .i64 r', .slice b ms.length cb] 24)).heap[w.heap.size]? = some (.cells #[.int .i64 r, .slice a ns.length ca] 24 (0, 0)) := (Below.heap_alloc _ _ _ (by simp)).trans (World.alloc_heap_new w _)
  have hq0 : ((w.alloc (.cells #[.int .i64 r, .slice a ns.length ca] 24)).alloc (.cells #[.int .i64 r', .slice b ms.length cb] 24)).heap[w.heap.size + 1]? = some (.cells #[.int .i64 r', .slice b ms.length cb] 24 (0, 0)) := by
    have := World.alloc_heap_new (w.alloc (.cells #[.int .i64 r, .slice a ns.length ca] 24)) (.cells #[.int .i64 r', .slice b ms.length cb] 24)
    rwa [World.size_alloc] at this
  generalize ((w.alloc (.cells #[.int .i64 r, .slice a ns.length ca] 24)).alloc (.cells #[.int .i64 r', .slice b ms.length cb] 24)) = W0 at hb0 hp0 hq0 ⊢
  have HN := hide (hN.below hb0)
  have HM := hide (hM.below hb0)
  have HI := hide (hI.below hb0)
  have HB0 := hide hb0
  clear hN hM hI hb0
  refine (run_any r a ca ns ia ic inp n W0 HN.out HI.out hic hil).mono ?_
  rintro e w1 ⟨aoa, coa, aca, cca, rfl, hI1, hC1, hb1, hco1, _⟩
  rw [H1.out]
  generalize hσa : res r ns inp n = σa at *
  have Hσa := hide hσa
  clear hσa
  go_upto_region 2 with fail
  have hx : Below w1.heap.size w1 (w1.alloc (.cells #[.slice aoa σa.out.length coa, .int .i64 σa.ret, .bool σa.ended, .int .i64 σa.steps, .slice aca σa.cts.length cca] 50)) := (Below.refl _ w1).alloc (Nat.le_refl _) _
  have hra : (w1.alloc (.cells #[.slice aoa σa.out.length coa, .int .i64 σa.ret, .bool σa.ended, .int .i64 σa.steps, .slice aca σa.cts.length cca] 50)).heap[w1.heap.size]? = some (.cells #[.slice aoa σa.out.length coa, .int .i64 σa.ret, .bool σa.ended, .int .i64 σa.steps, .slice aca σa.cts.length cca] 50 (0, 0)) := World.alloc_heap_new w1 _
  have hBa : Below W0.heap.size W0 (w1.alloc (.cells #[.slice aoa σa.out.length coa, .int .i64 σa.ret, .bool σa.ended, .int .i64 σa.steps, .slice aca σa.cts.length cca] 50)) := hb1.trans (hx.mono hb1.size)
  replace hp0 := (hBa.block _ (blk_lt hp0)).trans hp0
  replace hq0 := (hBa.block _ (blk_lt hq0)).trans hq0
  have HIa := hide (hI1.below hx)
  have HOa := hide hco1
  generalize (w1.alloc (.cells #[.slice aoa σa.out.length coa, .int .i64 σa.ret, .bool σa.ended, .int .i64 σa.steps, .slice aca σa.cts.length cca] 50)) = W1 at hBa hra HIa hp0 hq0 ⊢
  generalize w1.heap.size = Ra at hra ⊢
  clear hx hC1 hI1 hb1 hco1
  have p0 := blk_cell hq0 0
  have p1 := blk_cell hq0 1
  simp at p0 p1
  have pl := blk_lt hq0
  have HBa := hide hBa
  have Hra := hide hra
  have Hq := hide hq0
  clear hBa hra hq0 hp0
  go_upto_region 3 with (go_at_call 22; refine (run_any r' b cb ms ia ic inp n W1 (HM.out.below HBa.out) (HI.out.below HBa.out) hic hil).mono ?_; rintro e w2 ⟨aob, cob, acb, ccb, rfl, hI2, hC2, hb2, hco2, _⟩; rw [H2.out]; generalize hσb : res r' ms inp n = σb at *; have Hσb := hide hσb; clear hσb)
  have hra := Hra.out
  have hq0 := Hq.out
  clear Hra Hq p0 p1 pl
  have hx : Below w2.heap.size w2 (w2.alloc (.cells #[.slice aob σb.out.length cob, .int .i64 σb.ret, .bool σb.ended, .int .i64 σb.steps, .slice acb σb.cts.length ccb] 50)) := (Below.refl _ w2).alloc (Nat.le_refl _) _
  have hrb : (w2.alloc (.cells #[.slice aob σb.out.length cob, .int .i64 σb.ret, .bool σb.ended, .int .i64 σb.steps, .slice acb σb.cts.length ccb] 50)).heap[w2.heap.size]? = some (.cells #[.slice aob σb.out.length cob, .int .i64 σb.ret, .bool σb.ended, .int .i64 σb.steps, .slice acb σb.cts.length ccb] 50 (0, 0)) := World.alloc_heap_new w2 _
  have hBb : Below W1.heap.size W1 (w2.alloc (.cells #[.slice aob σb.out.length cob, .int .i64 σb.ret, .bool σb.ended, .int .i64 σb.steps, .slice acb σb.cts.length ccb] 50)) := hb2.trans (hx.mono hb2.size)
  replace hra := (hBb.block _ (blk_lt hra)).trans hra
  replace hq0 := (hBb.block _ (blk_lt hq0)).trans hq0
  have HIb := hide (hI2.below hx)
  have HOb := hide hco2
  generalize (w2.alloc (.cells #[.slice aob σb.out.length cob, .int .i64 σb.ret, .bool σb.ended, .int .i64 σb.steps, .slice acb σb.cts.length ccb] 50)) = W2 at hBb hrb HIb hra hq0 ⊢
  generalize w2.heap.size = Rb at hrb ⊢
  clear hx hC2 hI2 hb2 hco2
  have p0 := blk_cell hq0 0
  have p1 := blk_cell hq0 1
  simp at p0 p1
  have pl := blk_lt hq0
  have HBab := hide (HBa.out.trans (hBb.mono HBa.out.size))
  have HBb := hide hBb
  have Hra := hide hra
  have Hrb := hide hrb
  clear hBb hra hrb hq0
  go_upto_region 4 with (go_at_call 22; rw [HWW.out]; refine (run_any r' b cb ms ia ic inp _ W2 (HM.out.below HBab.out) (HI.out.below HBab.out) hic hil).mono ?_; rintro e w3 ⟨aoc, coc, acc, ccc, rfl, hI3, hC3, hb3, hco3, _⟩; rw [H3.out]; generalize hσc : res r' ms inp (n * ((ms.length : Int) + 1) + ms.length) = σc at *; have Hσc := hide hσc; clear hσc)
  have hra := Hra.out
  have hrb := Hrb.out
  clear Hra Hrb p0 p1 pl
  have hx : Below w3.heap.size w3 (w3.alloc (.cells #[.slice aoc σc.out.length coc, .int .i64 σc.ret, .bool σc.ended, .int .i64 σc.steps, .slice acc σc.cts.length ccc] 50)) := (Below.refl _ w3).alloc (Nat.le_refl _) _
  have hrc : (w3.alloc (.cells #[.slice aoc σc.out.length coc, .int .i64 σc.ret, .bool σc.ended, .int .i64 σc.steps, .slice acc σc.cts.length ccc] 50)).heap[w3.heap.size]? = some (.cells #[.slice aoc σc.out.length coc, .int .i64 σc.ret, .bool σc.ended, .int .i64 σc.steps, .slice acc σc.cts.length ccc] 50 (0, 0)) := World.alloc_heap_new w3 _
  have hBc : Below W2.heap.size W2 (w3.alloc (.cells #[.slice aoc σc.out.length coc, .int .i64 σc.ret, .bool σc.ended, .int .i64 σc.steps, .slice acc σc.cts.length ccc] 50)) := hb3.trans (hx.mono hb3.size)
  replace hra := (hBc.block _ (blk_lt hra)).trans hra
  replace hrb := (hBc.block _ (blk_lt hrb)).trans hrb
  have HIc := hide (hI3.below hx)
  have HOc := hide hco3
  generalize (w3.alloc (.cells #[.slice aoc σc.out.length coc, .int .i64 σc.ret, .bool σc.ended, .int .i64 σc.steps, .slice acc σc.cts.length ccc] 50)) = W3 at hBc hrc HIc hra hrb ⊢
  generalize w3.heap.size = Rc at hrc ⊢
  clear hx hC3 hI3 hb3 hco3
  have HIa' := hide (HIa.out.below (HBb.out.trans (hBc.mono HBb.out.size)))
  have HIb' := hide (HIb.out.below hBc)
  have HBW := hide (HB0.out.trans ((HBab.out.trans (hBc.mono HBab.out.size)).mono HB0.out.size))
  have HLa := hide (res_len r ns inp n)
  have HLb := hide (res_len r' ms inp n)
  have HLc := hide (res_len r' ms inp (n * ((ms.length : Int) + 1) + ms.length))
  rw [Hσa.out] at HLa
  rw [Hσb.out] at HLb
  rw [Hσc.out] at HLc
  have HF := hide HBW.out
  have ka0 := blk_cell hra 0
  have ka1 := blk_cell hra 1
  have ka2 := blk_cell hra 2
  have kb0 := blk_cell hrb 0
  have kb1 := blk_cell hrb 1
  have kb2 := blk_cell hrb 2
  have kc0 := blk_cell hrc 0
  have kc1 := blk_cell hrc 1
  have kc2 := blk_cell hrc 2
  simp at ka0 ka1 ka2 kb0 kb1 kb2 kc0 kc1 kc2
  have kla := blk_lt hra
  have klb := blk_lt hrb
  have klc := blk_lt hrc
  clear hra hrb hrc hBc HIa HIb HBa HBab HBb HN HM HI HB0 Hσa Hσb Hσc HWW HK
  obtain ⟨D1, D2, D3, D4⟩ := HD.out
  have HD1 := hide D1
  have HD2 := hide D2
  have HD3 := hide D3
  have HD4 := hide D4
  clear D1 D2 D3 D4 HD
  cases eb : σb.ended
  · cases ea : σa.ended
    · rw [eb] at kb2
      rw [ea] at ka2
      clear eb ea
      go_wp2_with fail
      refine (begins_dr aoa aob coa cob σa.out σb.out _ ⟨0, rfl⟩ HIa'.out HIb'.out (by have := HLa.out; omega) (by have := HLb.out; omega) HOa.out HD2.out).mono ?_
      rintro e wx ⟨rfl, m, rfl⟩
      go_wp2_with fail
      refine (begins_dr aoc aoa coc coa σc.out σa.out _ ⟨_, rfl⟩ HIc.out HIa'.out (by have := HLc.out; omega) (by have := HLa.out; omega) HOc.out HD4.out).mono ?_
      rintro e wx ⟨rfl, m, rfl⟩
      go_wp2
      go_ret
      exact ⟨by simp, below_drewN HF.out _⟩
    · rw [eb] at kb2
      clear eb
      have hc := HD3.out ea
      have ec := hc.1
      have oc := hide hc.2.2
      rw [ea] at ka2
      rw [ec] at kc2
      rw [← hc.2.1] at kc1
      clear hc ec ea
      go_wp2_with fail
      refine (begins_dr aoa aob coa cob σa.out σb.out _ ⟨0, rfl⟩ HIa'.out HIb'.out (by have := HLa.out; omega) (by have := HLb.out; omega) HOa.out HD2.out).mono ?_
      rintro e wx ⟨rfl, m, rfl⟩
      go_wp2_with fail
      refine (sameInts_dr aoa aoc coa coc σa.out σc.out _ ⟨_, rfl⟩ HIa'.out HIc.out (by have := HLa.out; omega) (by have := HLc.out; omega) oc.out).mono ?_
      rintro e wx ⟨rfl, m, rfl⟩
      go_wp2_with fail
      refine (begins_dr aoc aoa coc coa σc.out σa.out _ ⟨_, rfl⟩ HIc.out HIa'.out (by have := HLc.out; omega) (by have := HLa.out; omega) HOc.out HD4.out).mono ?_
      rintro e wx ⟨rfl, m, rfl⟩
      go_wp2
      go_ret
      exact ⟨by simp, below_drewN HF.out _⟩
  · have hb := HD1.out eb
    have ea := hb.1
    have ob := hide hb.2.2
    rw [← hb.2.1] at kb1
    clear hb
    rw [eb] at kb2
    clear eb
    have hc := HD3.out ea
    have ec := hc.1
    have oc := hide hc.2.2
    rw [ea] at ka2
    rw [ec] at kc2
    rw [← hc.2.1] at kc1
    clear hc ec ea
    go_wp2_with fail
    refine (sameInts_dr aoa aob coa cob σa.out σb.out _ ⟨0, rfl⟩ HIa'.out HIb'.out (by have := HLa.out; omega) (by have := HLb.out; omega) ob.out).mono ?_
    rintro e wx ⟨rfl, m, rfl⟩
    go_wp2_with fail
    refine (begins_dr aoa aob coa cob σa.out σb.out _ ⟨_, rfl⟩ HIa'.out HIb'.out (by have := HLa.out; omega) (by have := HLb.out; omega) HOa.out HD2.out).mono ?_
    rintro e wx ⟨rfl, m, rfl⟩
    go_wp2_with fail
    refine (sameInts_dr aoa aoc coa coc σa.out σc.out _ ⟨_, rfl⟩ HIa'.out HIc.out (by have := HLa.out; omega) (by have := HLc.out; omega) oc.out).mono ?_
    rintro e wx ⟨rfl, m, rfl⟩
    go_wp2_with fail
    refine (begins_dr aoc aoa coc coa σc.out σa.out _ ⟨_, rfl⟩ HIc.out HIa'.out (by have := HLc.out; omega) (by have := HLa.out; omega) HOc.out HD4.out).mono ?_
    rintro e wx ⟨rfl, m, rfl⟩
    go_wp2
    go_ret
    exact ⟨by simp, below_drewN HF.out _⟩
end Go.Proofs.YtoikglgnmjjpcabGreat


namespace Go.Proofs.YtoikglgnmjjpcabGreat
open Go.RowKit
set_option linter.unusedVariables false

end Go.Proofs.YtoikglgnmjjpcabGreat

namespace Go.Proofs.YtoikglgnmjjpcabGreat
open Go.RowKit Go.Shelf
set_option linter.unusedVariables false

set_option maxHeartbeats 1000000 in
theorem reach_err (r : Int) (a : Option Addr) (cap : Nat) (ns : List Nd) (w : World) (hN : SlN w a ns) (hc : chk r ns ≠ 0) :
    Calls Tryz.prog 58 #[.agg #[.int .i64 r, .slice a ns.length cap]] w fun e w' => e = .returned (.tuple #[.slice none 0 0, .int .i64 (chk r ns)]) ∧ Below w.heap.size w w' := by
  have hb0 : Below w.heap.size w (w.alloc (.cells #[.int .i64 r, .slice a ns.length cap] 24)) := (Below.refl _ w).alloc (Nat.le_refl _) _
  have hck := check_any r a cap ns _ (hN.below hb0)
  have hcb : (chk r ns != 0) = true := by simpa using hc
  have HCK := hide hck
  clear hck hc
  generalize chk r ns = c at hcb HCK ⊢
  go_enter Tryz.func58, Tryz.ntmps58
  go_wp2_with fail
  refine HCK.out.mono ?_
  rintro e w1 ⟨rfl, hb1⟩
  have hs1 := hb1.size
  simp only [World.size_alloc] at hs1 hb1
  have hB1 : Below w.heap.size w w1 := hb0.trans (hb1.mono (by omega))
  go_wp2
  go_ret2
  exact ⟨rfl, hB1⟩

theorem reach_any (r : Int) (b off cap : Nat) (ns : List Nd) (w : World) (hN : NodesAt w b off ns) (hc : chk r ns = 0) :
    Calls Tryz.prog 58 #[.agg #[.int .i64 r, .slice (some ⟨b, off, none⟩) ns.length cap]] w fun e w' => ∃ v, e = .returned (.tuple #[v, .int .i64 0]) ∧ w'.ownsRow w.heap.size 4 1 v ns.length ((rchL ns).map Value.bool) ∧ Below w.heap.size w w' :=
  callsIn_wide.1 (reach_ok r b off cap ns w hN hc)

set_option maxHeartbeats 1000000 in
theorem trim_err (r : Int) (a : Option Addr) (cap : Nat) (ns : List Nd) (w : World) (hN : SlN w a ns) (hc : chk r ns ≠ 0) :
    Calls Tryz.prog 25 #[.agg #[.int .i64 r, .slice a ns.length cap]] w fun e w' => e = .returned (.tuple #[.agg #[.int .i64 0, .slice none 0 0], .int .i64 (chk r ns)]) ∧ Below w.heap.size w w' := by
  have hb0 : Below w.heap.size w ((w.alloc (.cells #[.int .i64 r, .slice a ns.length cap] 24)).alloc (.cells #[.int .i64 0, .slice none 0 0] 24)) := ((Below.refl _ w).alloc (Nat.le_refl _) _).alloc (by simp) _
  have hck := reach_err r a cap ns _ (hN.below hb0) hc
  have hcb : (chk r ns != 0) = true := by simpa using hc
  have HCK := hide hck
  clear hck hc
  generalize chk r ns = c at hcb HCK ⊢
  go_enter Tryz.func25, Tryz.ntmps25
  go_wp2_with fail
  refine HCK.out.mono ?_
  rintro e w1 ⟨rfl, hb1⟩
  have hs1 := hb1.size
  have hk : w1.heap[w.heap.size + 1]? = some (.cells #[.int .i64 0, .slice none 0 0] 24 (0, 0)) := by
    rw [hb1.block _ (by simp)]
    have := World.alloc_heap_new (w.alloc (.cells #[.int .i64 r, .slice a ns.length cap] 24)) (.cells #[.int .i64 0, .slice none 0 0] 24)
    rwa [World.size_alloc] at this
  simp only [World.size_alloc] at hs1 hb1
  have hB1 : Below w.heap.size w w1 := hb0.trans (hb1.mono (by omega))
  have z0 := blk_cell hk 0
  have z1 := blk_cell hk 1
  have f0 := blk_frozen hk 0
  have f1 := blk_frozen hk 1
  simp at z0 z1
  go_wp2
  refine bodyPost_ret (v := .tuple #[.agg #[.int .i64 0, .slice none 0 0], .int .i64 c]) ?_ rfl ⟨rfl, (hB1.setCell (p := ⟨w.heap.size + 1, 0, none⟩) (by simp) _).setCell (p := ⟨w.heap.size + 1, 1, none⟩) (by simp) _⟩
  have hk2 : ((w1.setCell ⟨w.heap.size + 1, 0, none⟩ (.int .i64 0)).setCell ⟨w.heap.size + 1, 1, none⟩ (.slice none 0 0)).heap[w.heap.size + 1]? = some (.cells #[.int .i64 0, .slice none 0 0] 24 (0, 0)) := by
    rw [blk_set _ (blk_set _ hk)]; simp
  have y0 := blk_cell hk2 0
  have y1 := blk_cell hk2 1
  simp at y0 y1
  simp [results, Tryz.results25, go_sem, y0, y1]

end Go.Proofs.YtoikglgnmjjpcabGreat

