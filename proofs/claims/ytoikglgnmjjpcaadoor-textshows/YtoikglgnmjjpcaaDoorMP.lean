/-
  What is right of a program: plain functions and facts.
-/
import Derived.Test.YtoikglgnmjjpcaaDoorQ
namespace Go.Proofs.YtoikglgnmjjpcaaDoor

/-- The first closure of Check: is a field's number within its bounds? -/
def inB (r : Int) (len : Nat) (k v : Int) : Bool := if k = 1 then wi v 0 (r - 1) else if k = 3 then wi v 1 ((len : Int) - 1) else true

/-- The second closure of Check. -/
def noF (k v : Int) : Bool := k != 0 || v == 0

/-- The kinds of a node's fields, in their order, beside what the fields hold. -/
def kvs (x : Nd) : List (Int × Int) := [(k0 x.op, x.d), (k1 x.op, x.a), (k2 x.op, x.b), (k3 x.op, x.t), (k4 x.op, x.e)]

def fieldsOk (R : Int → Int → Bool) (x : Nd) : Bool := (kvs x).all fun p => R p.1 p.2

/-- What Check answers. -/
def chk (r : Int) (ns : List Nd) : Int :=
  if wi ns.length 1 256 && wi r 1 64 then
    if ns.all (fun x => kn x.op) then
      if ns.all (fieldsOk (inB r ns.length)) then
        if ns.all (fieldsOk noF) then 0 else 1
      else 3
    else 4
  else 2

theorem chk_zero {r : Int} {ns : List Nd} (h : chk r ns = 0) : (1 ≤ ns.length ∧ ns.length ≤ 256) ∧ (1 ≤ r ∧ r ≤ 64) ∧ (∀ x ∈ ns, kn x.op = true) ∧ (∀ x ∈ ns, fieldsOk (inB r ns.length) x = true) ∧ (∀ x ∈ ns, fieldsOk noF x = true) := by
  unfold chk at h
  split at h
  · rename_i h1
    rw [Bool.and_eq_true, wi_iff, wi_iff] at h1
    split at h
    · rename_i h2
      split at h
      · rename_i h3
        split at h
        · rename_i h4
          rw [List.all_eq_true] at h2 h3 h4
          exact ⟨by omega, h1.2, h2, h3, h4⟩
        · omega
      · omega
    · omega
  · omega

theorem k3_val {op : Int} (h : kn op = true) : k3 op = if op = 12 then 0 else 3 := by
  have := wi_iff.1 h
  unfold k3
  by_cases h12 : op = 12
  · subst h12; rfl
  · rw [if_neg h12, if_pos (wi_true (by omega) (by omega))]

theorem then_ok {r : Int} {ns : List Nd} (h : chk r ns = 0) {x : Nd} (hx : x ∈ ns) (h12 : x.op ≠ 12) : 1 ≤ x.t ∧ x.t ≤ (ns.length : Int) - 1 := by
  obtain ⟨_, _, hk, hi, _⟩ := chk_zero h
  have h1 := hi x hx
  simp only [fieldsOk, kvs, List.all_cons, List.all_nil, Bool.and_true, Bool.and_eq_true] at h1
  have h3 := h1.2.2.2.1
  rw [k3_val (hk x hx), if_neg h12] at h3
  simpa [inB, wi] using h3

theorem else_ok {r : Int} {ns : List Nd} (h : chk r ns = 0) {x : Nd} (hx : x ∈ ns) (h11 : x.op = 11) : 1 ≤ x.e ∧ x.e ≤ (ns.length : Int) - 1 := by
  obtain ⟨_, _, hk, hi, _⟩ := chk_zero h
  have h1 := hi x hx
  simp only [fieldsOk, kvs, List.all_cons, List.all_nil, Bool.and_true, Bool.and_eq_true] at h1
  have h4 := h1.2.2.2.2
  simp only [k4, if_pos h11] at h4
  simpa [inB, wi] using h4

theorem exl_ok {r : Int} {ns : List Nd} (h : chk r ns = 0) {x : Nd} (hx : x ∈ ns) : exl x = pick (ldB x) ns.length :=
  exl_pick x ns.length ((chk_zero h).2.2.1 x hx) (then_ok h hx) (else_ok h hx)

/-- What is wrong with a program and a node's number. -/
def chkN (r : Int) (ns : List Nd) (n : Int) : Int := if chk r ns = 0 then if wi n 0 ((ns.length : Int) - 1) then 0 else 3 else chk r ns

/-- The nodes where node n goes on; none where something is wrong. -/
def nexts (r : Int) (ns : List Nd) (n : Int) : List Int := if chkN r ns n = 0 then match ns[n.toNat]? with | some x => pick (ldB x) ns.length | none => [] else []
def aheads (r : Int) (ns : List Nd) (n : Int) : List Int := if chkN r ns n = 0 then pick (ahB ns n.toNat) ns.length else []

theorem chkN_zero {r : Int} {ns : List Nd} {n : Int} (h : chkN r ns n = 0) : chk r ns = 0 ∧ ∃ k : Nat, n = k ∧ k < ns.length := by
  unfold chkN at h
  split at h
  · rename_i h1
    split at h
    · rename_i h2
      rw [wi_iff] at h2
      exact ⟨h1, n.toNat, by omega, by omega⟩
    · omega
  · rename_i h1; exact absurd h h1

/-- What a right program's node is. -/
structure NodeOk (r : Int) (len : Nat) (x : Nd) : Prop where
  op : 0 ≤ x.op ∧ x.op ≤ 12
  d : 1 ≤ x.op → x.op ≤ 9 → 0 ≤ x.d ∧ x.d < r
  a : x.op ≠ 0 → x.op ≠ 1 → x.op ≠ 9 → 0 ≤ x.a ∧ x.a < r
  b : 3 ≤ x.op → x.op ≤ 8 → 0 ≤ x.b ∧ x.b < r
  t : 0 ≤ x.t ∧ x.t < len
  e : x.op = 11 → 0 ≤ x.e ∧ x.e < len

theorem node_ok {r : Int} {ns : List Nd} (h : chk r ns = 0) {x : Nd} (hx : x ∈ ns) : NodeOk r ns.length x := by
  obtain ⟨hl, hr, hk, hi, hn⟩ := chk_zero h
  have hop := wi_iff.1 (hk x hx)
  have h1 := hi x hx
  have h2 := hn x hx
  simp only [fieldsOk, kvs, List.all_cons, List.all_nil, Bool.and_true, Bool.and_eq_true] at h1 h2
  obtain ⟨q0, q1, q2, q3, q4⟩ := h1
  obtain ⟨n0, n1, n2, n3, n4⟩ := h2
  refine ⟨hop, fun a b => ?_, fun a b c => ?_, fun a b => ?_, ?_, fun a => ?_⟩
  · simp only [k0, wi_true a b, if_true, inB] at q0
    have := wi_iff.1 q0; omega
  · have e : (wi x.op 2 8 || wi x.op 10 12) = true := by
      rw [Bool.or_eq_true, wi_iff, wi_iff]; omega
    simp only [k1, if_neg b, e, if_true, inB] at q1
    have := wi_iff.1 q1; omega
  · simp only [k2, wi_true a b, if_true, inB] at q2
    have := wi_iff.1 q2; omega
  · by_cases e : x.op = 12
    · rw [k3_val (hk x hx), if_pos e] at n3
      simp [noF] at n3
      omega
    · have := then_ok h hx e; omega
  · have := else_ok h hx a; omega

end Go.Proofs.YtoikglgnmjjpcaaDoor
