/-
  prog.Next and prog.Ahead, walked.
-/
import Derived.Test.YtkfbgejcoeeecaaI
namespace Go.Proofs.Ytkfbgejcoeeecaa
open Go.RowKit
set_option linter.unusedVariables false

theorem chk_zero {r : Int} {ns : List Nd} (h : chk r ns = 0) : (1 ≤ ns.length ∧ ns.length ≤ 256) ∧ (1 ≤ r ∧ r ≤ 64) ∧ (∀ x ∈ ns, kn x.op = true) ∧ (∀ x ∈ ns, fieldsOk (inB r ns.length) x = true) ∧ (∀ x ∈ ns, fieldsOk noF x = true) := by
  unfold chk at h
  split at h
  · rename_i h1
    rw [Bool.and_eq_true, wi_iff, wi_iff] at h1
    split at h
    · rename_i h2
      split at h
      · rename_i h3
        split at h
        · rename_i h4
          rw [List.all_eq_true] at h2 h3 h4
          exact ⟨by omega, h1.2, h2, h3, h4⟩
        · omega
      · omega
    · omega
  · omega

theorem k3_val {op : Int} (h : kn op = true) : k3 op = if op = 12 then 0 else 3 := by
  have := wi_iff.1 h
  unfold k3
  by_cases h12 : op = 12
  · subst h12; rfl
  · rw [if_neg h12, if_pos (wi_true (by omega) (by omega))]

theorem then_ok {r : Int} {ns : List Nd} (h : chk r ns = 0) {x : Nd} (hx : x ∈ ns) (h12 : x.op ≠ 12) : 1 ≤ x.t ∧ x.t ≤ (ns.length : Int) - 1 := by
  obtain ⟨_, _, hk, hi, _⟩ := chk_zero h
  have h1 := hi x hx
  simp only [fieldsOk, kvs, List.all_cons, List.all_nil, Bool.and_true, Bool.and_eq_true] at h1
  have h3 := h1.2.2.2.1
  rw [k3_val (hk x hx), if_neg h12] at h3
  simpa [inB, wi] using h3

theorem else_ok {r : Int} {ns : List Nd} (h : chk r ns = 0) {x : Nd} (hx : x ∈ ns) (h11 : x.op = 11) : 1 ≤ x.e ∧ x.e ≤ (ns.length : Int) - 1 := by
  obtain ⟨_, _, hk, hi, _⟩ := chk_zero h
  have h1 := hi x hx
  simp only [fieldsOk, kvs, List.all_cons, List.all_nil, Bool.and_true, Bool.and_eq_true] at h1
  have h4 := h1.2.2.2.2
  simp only [k4, if_pos h11] at h4
  simpa [inB, wi] using h4

theorem exl_ok {r : Int} {ns : List Nd} (h : chk r ns = 0) {x : Nd} (hx : x ∈ ns) : exl x = pick (ldB x) ns.length :=
  exl_pick x ns.length ((chk_zero h).2.2.1 x hx) (then_ok h hx) (else_ok h hx)

/-- The nodes where node n goes on; none where something is wrong. -/
def nexts (r : Int) (ns : List Nd) (n : Int) : List Int := if chkN r ns n = 0 then match ns[n.toNat]? with | some x => pick (ldB x) ns.length | none => [] else []
def aheads (r : Int) (ns : List Nd) (n : Int) : List Int := if chkN r ns n = 0 then pick (ahB ns n.toNat) ns.length else []

theorem chkN_zero {r : Int} {ns : List Nd} {n : Int} (h : chkN r ns n = 0) : chk r ns = 0 ∧ ∃ k : Nat, n = k ∧ k < ns.length := by
  unfold chkN at h
  split at h
  · rename_i h1
    split at h
    · rename_i h2
      rw [wi_iff] at h2
      exact ⟨h1, n.toNat, by omega, by omega⟩
    · omega
  · rename_i h1; exact absurd h h1

set_option maxHeartbeats 1000000 in
theorem next_any (r : Int) (a : Option Addr) (cap : Nat) (ns : List Nd) (n : Int) (w : World) (hN : SlN w a ns) (hl : ns.length ≤ 9223372036854775807) :
    Calls Try.prog 7 #[.agg #[.int .i64 r, .slice a ns.length cap], .int .i64 n] w fun e w' => ∃ a' cap', e = .returned (.tuple #[.slice a' (nexts r ns n).length cap', .int .i64 (chkN r ns n)]) ∧ IntsAt w' a' (nexts r ns n) ∧ Below w.heap.size w w' := by
  have hN1 : SlN (w.alloc (.cells #[.int .i64 r, .slice a ns.length cap] 24)) a ns := hN.below ((Below.refl w.heap.size w).alloc (Nat.le_refl _) _)
  by_cases hc : chkN r ns n = 0
  · obtain ⟨h0, k, rfl, hk⟩ := chkN_zero hc
    obtain ⟨x, hx⟩ := get_lt hk
    obtain ⟨b, off, rfl, hNb⟩ := hN.some (by omega)
    have hnx : nexts r ns (k : Int) = exl x := by
      simp only [nexts, hc, if_true, Int.toNat_natCast, hx]
      exact (exl_ok h0 (List.mem_of_getElem? hx)).symm
    rw [hnx, hc]
    go_enter Try.func7, Try.ntmps7
    go_wp2_with fail
    refine (checkNode_any r _ cap ns _ _ hN1 hl).mono ?_
    rintro e w1 ⟨rfl, hb1⟩
    have hs1 := hb1.size
    simp only [World.size_alloc] at hs1 hb1
    have hB1 : Below w.heap.size w w1 := ((Below.refl _ _).alloc (Nat.le_refl _) _).trans (hb1.mono (by omega))
    have q1 : w1.cell? ⟨w.heap.size, 1, none⟩ = some (.slice (some ⟨b, off, none⟩) ns.length cap) := by rw [hb1.cell (p := ⟨w.heap.size, 1, none⟩) (by simp)]; simp
    have hs1' : w.heap.size < w1.heap.size := by omega
    have hN2 := hNb.below hB1 hNb.lt
    have hlt2 := hN2.lt
    have c0 := hN2.c0 k x hx
    have c1 := hN2.c1 k x hx
    have c2 := hN2.c2 k x hx
    have c3 := hN2.c3 k x hx
    have c4 := hN2.c4 k x hx
    have c5 := hN2.c5 k x hx
    clear hb1 hx hnx hN2 hN1 hNb
    rw [hc]
    clear hc h0
    go_wp2_with fail
    refine (exits_any x _).mono ?_
    rintro e w2 ⟨a2, cap2, rfl, hI, hb2⟩
    go_wp2
    go_ret2
    exact ⟨a2, cap2, rfl, hI, hB1.trans (hb2.mono (by omega))⟩
  · have hnx : nexts r ns n = [] := by simp [nexts, hc]
    rw [hnx]
    have hb : (chkN r ns n != 0) = true := by simp [hc]
    clear hc hnx
    go_enter Try.func7, Try.ntmps7
    go_wp2_with fail
    refine (checkNode_any r _ cap ns _ _ hN1 hl).mono ?_
    rintro e w1 ⟨rfl, hb1⟩
    have hs1 := hb1.size
    simp only [World.size_alloc] at hs1 hb1
    have hB1 : Below w.heap.size w w1 := ((Below.refl _ _).alloc (Nat.le_refl _) _).trans (hb1.mono (by omega))
    go_wp2
    go_ret2
    exact ⟨none, 0, rfl, Or.inl rfl, hB1⟩
end Go.Proofs.Ytkfbgejcoeeecaa
