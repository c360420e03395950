/-
  live: the live registers, reckoned.
  live: behind and rising, walked.
  live.uses, live.sets and live.mayDie, walked.
-/
import Derived.Test.YtoikglgnmjjpcabA
import Derived.Test.YtoikglgnmjjpcabRB
import Derived.Test.YtoikglgnmjjpcabGP
import Derived.Laws.BitsAllLaws
import Derived.RangeFuncBox
import Derived.Test.YtoikglgnmjjpcabMC
import Derived.Deep.Upon
import Derived.Deep.RegionHeld3
import Derived.Deep.DeepCutAuto
namespace Go.Proofs.Ytoikglgnmjjpcab
open Go.RowKit
set_option linter.unusedVariables false
set_option linter.unusedSimpArgs false

theorem ofInt_bv (m : BitVec 64) : BitVec.ofInt 64 (m.toNat : Int) = m := by
  rw [BitVec.ofInt_natCast, BitVec.ofNat_toNat, BitVec.setWidth_eq]
theorem wrap_bv (m : BitVec 64) : IntKind.u64.wrap (m.toNat : Int) = (m.toNat : Int) := by
  have := m.isLt
  rw [IntKind.wrap_u64]; omega
theorem bits_or (m n : BitVec 64) : bits .or .u64 (m.toNat : Int) (n.toNat : Int) = ((m ||| n).toNat : Int) := by
  show IntKind.u64.wrap ((BitVec.ofInt 64 (m.toNat : Int) ||| BitVec.ofInt 64 (n.toNat : Int)).toNat : Int) = _
  rw [ofInt_bv, ofInt_bv, wrap_bv]
theorem or_zero (m : BitVec 64) : bits .or .u64 0 (m.toNat : Int) = (m.toNat : Int) := by
  have := bits_or 0#64 m
  rw [BitVec.zero_or] at this
  exact this
theorem bits_andNot (m n : BitVec 64) : bits .andNot .u64 (m.toNat : Int) (n.toNat : Int) = ((m &&& ~~~n).toNat : Int) := by
  show IntKind.u64.wrap ((BitVec.ofInt 64 (m.toNat : Int) &&& ~~~BitVec.ofInt 64 (n.toNat : Int)).toNat : Int) = _
  rw [ofInt_bv, ofInt_bv, wrap_bv]
theorem bits_and (m n : BitVec 64) : bits .and .u64 (m.toNat : Int) (n.toNat : Int) = ((m &&& n).toNat : Int) := by
  show IntKind.u64.wrap ((BitVec.ofInt 64 (m.toNat : Int) &&& BitVec.ofInt 64 (n.toNat : Int)).toNat : Int) = _
  rw [ofInt_bv, ofInt_bv, wrap_bv]
theorem shl_bit {a : Int} (h : 0 ≤ a ∧ a < 64) : IntKind.u64.wrap (2 ^ a.toNat) = ((bitM a).toNat : Int) := by
  have h1 : a.toNat < 64 := by omega
  have e : (bitM a).toNat = 2 ^ a.toNat := by
    simp only [bitM, BitVec.toNat_shiftLeft, BitVec.toNat_ofNat]
    rw [Nat.shiftLeft_eq, Nat.mod_eq_of_lt (a := 1) (by decide), Nat.one_mul, Nat.mod_eq_of_lt (Nat.pow_lt_pow_right (by decide) h1)]
  have := wrap_bv (bitM a)
  rw [e] at this ⊢
  rw [← this]; norm_cast
theorem shr_bit (m : BitVec 64) (j : Nat) : bits .and .u64 ((m.toNat : Int) / 2 ^ j) 1 = if m.getLsbD j then 1 else 0 := by
  have e : (m.toNat : Int) / 2 ^ j = ((m >>> j).toNat : Int) := by
    rw [BitVec.toNat_ushiftRight, Nat.shiftRight_eq_div_pow]; norm_cast
  have e1 : (1 : Int) = ((1#64).toNat : Int) := rfl
  rw [e, e1, bits_and]
  have : (m >>> j) &&& 1#64 = if m.getLsbD j then 1#64 else 0#64 := by
    apply BitVec.eq_of_getLsbD_eq
    intro i hi
    rw [BitVec.getLsbD_and, BitVec.getLsbD_ushiftRight]
    by_cases h0 : i = 0
    · subst h0; cases h : m.getLsbD j <;> simp
    · cases h : m.getLsbD j <;> simp [h0]
  rw [this]
  cases m.getLsbD j <;> rfl

set_option maxHeartbeats 2000000 in
theorem mayDie_any (x : Nd) (w : World) :
    Calls Try.prog 24 #[.agg #[.int .i64 x.op, .int .i64 x.d, .int .i64 x.a, .int .i64 x.b, .int .i64 x.t, .int .i64 x.e]] w fun e w' => e = .returned (.bool (wi x.op 1 8)) ∧ Below w.heap.size w w' := by
  have hb0 : Below w.heap.size w (w.alloc (.cells #[.int .i64 x.op, .int .i64 x.d, .int .i64 x.a, .int .i64 x.b, .int .i64 x.t, .int .i64 x.e] 53)) := (Below.refl _ w).alloc (Nat.le_refl _) _
  by_cases h1 : 1 ≤ x.op
  · go_enter Try.func24, Try.ntmps24
    go_wp2
    go_ret
    exact ⟨ret_bool (by simp [wi, h1]), hb0⟩
  · go_enter Try.func24, Try.ntmps24
    go_wp2
    go_ret
    exact ⟨ret_bool (by simp [wi]; omega), hb0⟩

theorem usA_k1 (x : Nd) : k1 x.op = 1 ↔ usA x = true := by
  unfold k1 usA
  by_cases h : x.op = 1
  · simp [h, wi]
  · rw [if_neg h]
    have e : (wi x.op 2 8 || wi x.op 10 12) = (x.op == 2 || wi x.op 3 8 || wi x.op 10 12) := by
      congr 1
      by_cases h2 : x.op = 2
      · simp [h2, wi]
      · have : (x.op == 2) = false := by simp [h2]
        rw [this, Bool.false_or]
        simp only [wi]
        congr 1
        simp; omega
    rw [e]
    cases (x.op == 2 || wi x.op 3 8 || wi x.op 10 12) <;> simp
theorem usB_k2 (x : Nd) : k2 x.op = 1 ↔ usB x = true := by
  unfold k2 usB
  cases wi x.op 3 8 <;> simp

set_option maxHeartbeats 4000000 in
theorem uses_any (x : Nd) (w : World) (ha : usA x = true → 0 ≤ x.a ∧ x.a < 64) (hb : usB x = true → 0 ≤ x.b ∧ x.b < 64) :
    Calls Try.prog 41 #[.agg #[.int .i64 x.op, .int .i64 x.d, .int .i64 x.a, .int .i64 x.b, .int .i64 x.t, .int .i64 x.e]] w fun e w' => e = .returned (.int .u64 ((useM x).toNat : Int)) ∧ Below w.heap.size w w' := by
  have hb0 : Below w.heap.size w (w.alloc (.cells #[.int .i64 x.op, .int .i64 x.d, .int .i64 x.a, .int .i64 x.b, .int .i64 x.t, .int .i64 x.e] 53)) := (Below.refl _ w).alloc (Nat.le_refl _) _
  have hn : (w.alloc (.cells #[.int .i64 x.op, .int .i64 x.d, .int .i64 x.a, .int .i64 x.b, .int .i64 x.t, .int .i64 x.e] 53)).heap[w.heap.size]? = some (.cells #[.int .i64 x.op, .int .i64 x.d, .int .i64 x.a, .int .i64 x.b, .int .i64 x.t, .int .i64 x.e] 53 (0, 0)) := World.alloc_heap_new w _
  go_enter Try.func41, Try.ntmps41
  go_wp2_with fail
  generalize (w.alloc (.cells #[.int .i64 x.op, .int .i64 x.d, .int .i64 x.a, .int .i64 x.b, .int .i64 x.t, .int .i64 x.e] 53)) = W at hb0 hn ⊢
  refine (of_any _ _).mono ?_
  rintro e w1 ⟨rfl, hb1⟩
  have hn1 := (hb1.block _ (blk_lt hn)).trans hn
  have c2 := blk_cell hn1 2
  have c3 := blk_cell hn1 3
  simp at c2 c3
  have cl := blk_lt hn1
  have HB := hide (hb0.trans (hb1.mono hb0.size))
  clear hn hn1 hb1 hb0
  have HA := hide (usA_k1 x)
  have HBB := hide (usB_k2 x)
  have hA' := ha
  have hB' := hb
  have HU : Hid (useM x = (if usA x then bitM x.a else 0#64) ||| (if usB x then bitM x.b else 0#64)) := rfl
  have Ha := hide ha
  have Hb := hide hb
  clear ha hb hA' hB'
  generalize k0 x.op = K0
  generalize k1 x.op = K1 at HA ⊢
  generalize k2 x.op = K2 at HBB ⊢
  generalize k3 x.op = K3
  generalize k4 x.op = K4
  generalize kn x.op = KN
  generalize usA x = ua at HA HU Ha
  generalize usB x = ub at HBB HU Hb
  by_cases h1 : K1 = 1
  · have e1 : ua = true := HA.out.1 h1
    have r1 := Ha.out e1
    have hk1 : (K1 == 1) = true := by simp [h1]
    have r10 := r1.1
    have r11 : x.a ≤ 64 := by omega
    have H1 := hide e1
    have R1 := hide r1
    clear h1 e1 r1
    by_cases h2 : K2 = 1
    · have e2 : ub = true := HBB.out.1 h2
      have r2 := Hb.out e2
      have hk2 : (K2 == 1) = true := by simp [h2]
      have r20 := r2.1
      have r21 : x.b ≤ 64 := by omega
      have H2 := hide e2
      have R2 := hide r2
      clear h2 e2 r2
      go_wp2
      go_ret
      exact ⟨ret_int (by rw [shl_bit R1.out, shl_bit R2.out, or_zero, bits_or, HU.out, H1.out, H2.out]; rfl), HB.out.alloc HB.out.size _⟩
    · have e2 : ub = false := by cases h : ub; rfl; exact absurd (HBB.out.2 h) h2
      have hk2 : (K2 == 1) = false := by simp [h2]
      have H2 := hide e2
      clear h2 e2
      go_wp2
      go_ret
      exact ⟨ret_int (by rw [shl_bit R1.out, or_zero, HU.out, H1.out, H2.out]; simp), HB.out.alloc HB.out.size _⟩
  · have e1 : ua = false := by cases h : ua; rfl; exact absurd (HA.out.2 h) h1
    have hk1 : (K1 == 1) = false := by simp [h1]
    have H1 := hide e1
    clear h1 e1
    by_cases h2 : K2 = 1
    · have e2 : ub = true := HBB.out.1 h2
      have r2 := Hb.out e2
      have hk2 : (K2 == 1) = true := by simp [h2]
      have r20 := r2.1
      have r21 : x.b ≤ 64 := by omega
      have H2 := hide e2
      have R2 := hide r2
      clear h2 e2 r2
      go_wp2
      go_ret
      exact ⟨ret_int (by rw [shl_bit R2.out, or_zero, HU.out, H1.out, H2.out]; simp), HB.out.alloc HB.out.size _⟩
    · have e2 : ub = false := by cases h : ub; rfl; exact absurd (HBB.out.2 h) h2
      have hk2 : (K2 == 1) = false := by simp [h2]
      have H2 := hide e2
      clear h2 e2
      go_wp2
      go_ret
      exact ⟨ret_int (by rw [HU.out, H1.out, H2.out]; simp), HB.out.alloc HB.out.size _⟩

set_option maxHeartbeats 2000000 in
theorem shapeSets_any (x : Nd) (w : World) :
    Calls Try.prog 42 #[.agg #[.int .i64 x.op, .int .i64 x.d, .int .i64 x.a, .int .i64 x.b, .int .i64 x.t, .int .i64 x.e]] w fun e w' => ∃ z, e = .returned (.tuple #[.int .i64 z, .bool (wi x.op 1 9)]) ∧ (wi x.op 1 9 = true → z = x.d) ∧ Below w.heap.size w w' := by
  have hb0 : Below w.heap.size w (w.alloc (.cells #[.int .i64 x.op, .int .i64 x.d, .int .i64 x.a, .int .i64 x.b, .int .i64 x.t, .int .i64 x.e] 53)) := (Below.refl _ w).alloc (Nat.le_refl _) _
  have hn : (w.alloc (.cells #[.int .i64 x.op, .int .i64 x.d, .int .i64 x.a, .int .i64 x.b, .int .i64 x.t, .int .i64 x.e] 53)).heap[w.heap.size]? = some (.cells #[.int .i64 x.op, .int .i64 x.d, .int .i64 x.a, .int .i64 x.b, .int .i64 x.t, .int .i64 x.e] 53 (0, 0)) := World.alloc_heap_new w _
  go_enter Try.func42, Try.ntmps42
  go_wp2_with fail
  generalize (w.alloc (.cells #[.int .i64 x.op, .int .i64 x.d, .int .i64 x.a, .int .i64 x.b, .int .i64 x.t, .int .i64 x.e] 53)) = W at hb0 hn ⊢
  refine (of_any _ _).mono ?_
  rintro e w1 ⟨rfl, hb1⟩
  have hn1 := (hb1.block _ (blk_lt hn)).trans hn
  have c1 := blk_cell hn1 1
  simp at c1
  have cl := blk_lt hn1
  have HB := hide (hb0.trans (hb1.mono hb0.size))
  clear hn hn1 hb1 hb0
  have HK : Hid (k0 x.op = if wi x.op 1 9 then 1 else 0) := rfl
  generalize k0 x.op = K at HK ⊢
  cases hw : wi x.op 1 9
  · obtain rfl : K = 0 := by rw [HK.out, hw]; rfl
    have HQ := hide hw
    clear hw
    go_wp2
    go_ret2
    exact ⟨0, by rw [HQ.out]; rfl, (fun h => by rw [HQ.out] at h; cases h), HB.out.alloc HB.out.size _⟩
  · obtain rfl : K = 1 := by rw [HK.out, hw]; rfl
    have HQ := hide hw
    clear hw
    go_wp2
    go_ret2
    exact ⟨x.d, by rw [HQ.out]; rfl, (fun _ => rfl), HB.out.alloc HB.out.size _⟩

set_option maxHeartbeats 2000000 in
theorem lsets_any (x : Nd) (w : World) (hd : wi x.op 1 9 = true → 0 ≤ x.d ∧ x.d < 64) :
    Calls Try.prog 25 #[.agg #[.int .i64 x.op, .int .i64 x.d, .int .i64 x.a, .int .i64 x.b, .int .i64 x.t, .int .i64 x.e]] w fun e w' => e = .returned (.int .u64 ((setM x).toNat : Int)) ∧ Below w.heap.size w w' := by
  have hb0 : Below w.heap.size w (w.alloc (.cells #[.int .i64 x.op, .int .i64 x.d, .int .i64 x.a, .int .i64 x.b, .int .i64 x.t, .int .i64 x.e] 53)) := (Below.refl _ w).alloc (Nat.le_refl _) _
  go_enter Try.func25, Try.ntmps25
  go_wp2_with fail
  generalize (w.alloc (.cells #[.int .i64 x.op, .int .i64 x.d, .int .i64 x.a, .int .i64 x.b, .int .i64 x.t, .int .i64 x.e] 53)) = W at hb0 ⊢
  refine (shapeSets_any x W).mono ?_
  rintro e w1 ⟨z, rfl, hz, hb1⟩
  have HB := hide (hb0.trans (hb1.mono hb0.size))
  clear hb1 hb0
  cases hw : wi x.op 1 9
  · have HQ := hide hw
    clear hw hz hd
    go_wp2
    go_ret
    exact ⟨ret_int (by rw [setM, HQ.out]; rfl), HB.out⟩
  · have e := hz hw
    subst e
    have r1 := hd hw
    have HQ := hide hw
    have R1 := hide r1
    have r10 := r1.1
    have r11 : x.d ≤ 64 := by omega
    clear hw hz hd r1
    go_wp2
    go_ret
    exact ⟨ret_int (by rw [shl_bit R1.out, setM, HQ.out]; rfl), HB.out⟩
end Go.Proofs.Ytoikglgnmjjpcab

namespace Go.Proofs.Ytoikglgnmjjpcab
open Go.RowKit Go.Shelf
set_option linter.unusedVariables false
set_option linter.unusedSimpArgs false

/-- The registers of each node lie at the place a, as bits. -/
def MasksAt (w : World) (b : Nat) (L : List (BitVec 64)) : Prop := b < w.heap.size ∧ ∀ (j : Nat), j < L.length → w.cell? ⟨b, j, none⟩ = some (.int .u64 ((L.getD j 0#64).toNat : Int))

theorem MasksAt.below {w w' : World} {b : Nat} {L : List (BitVec 64)} (h : MasksAt w b L) (hb : Below w.heap.size w w') : MasksAt w' b L :=
  ⟨Nat.lt_of_lt_of_le h.1 hb.size, fun j hj => (hb.cell (p := ⟨b, j, none⟩) h.1).trans (h.2 j hj)⟩

theorem behM_take_succ (L : List (BitVec 64)) (l : List Nat) {k m : Nat} (h : l[k]? = some m) : behM L (l.take (k + 1)) = behM L (l.take k) ||| L.getD m 0#64 := by
  unfold behM
  rw [List.take_add_one, h, List.foldl_append]; rfl

set_option maxHeartbeats 4000000 in
set_option maxRecDepth 100000 in
theorem behind_any (ns : List Nd) (L : List (BitVec 64)) (na : Option Addr) (nl nc ab n rb lb : Nat) (F : Nat → List Nat) (w : World) (hR : RowsR w rb ns.length F) (hL : MasksAt w lb L) (hl : L.length = ns.length) (hn : n < ns.length) (h256 : ns.length ≤ 256) (hF : ∀ m ∈ F n, m < ns.length) (hFl : (F n).length ≤ 256) :
    Calls Try.prog 26 #[.agg #[.slice na nl nc, .slice (some ⟨rb, 0, none⟩) ns.length ns.length, .slice (some ⟨ab, 0, none⟩) ns.length ns.length], .int .i64 n, .slice (some ⟨lb, 0, none⟩) ns.length ns.length] w fun e w' => e = .returned (.int .u64 ((behM L (F n)).toNat : Int)) ∧ Below w.heap.size w w' := by
  obtain ⟨ra, rc, hrc, hI⟩ := hR.row n hn
  have hrl := hR.lt
  have hni : (n : Int) < (ns.length : Int) := by omega
  have hb0 : Below w.heap.size w (w.alloc (.cells #[.slice na nl nc, .slice (some ⟨rb, 0, none⟩) ns.length ns.length, .slice (some ⟨ab, 0, none⟩) ns.length ns.length] 58)) := (Below.refl _ w).alloc (Nat.le_refl _) _
  have hbx : (w.alloc (.cells #[.slice na nl nc, .slice (some ⟨rb, 0, none⟩) ns.length ns.length, .slice (some ⟨ab, 0, none⟩) ns.length ns.length] 58)).heap[w.heap.size]? = some (.cells #[.slice na nl nc, .slice (some ⟨rb, 0, none⟩) ns.length ns.length, .slice (some ⟨ab, 0, none⟩) ns.length ns.length] 58 (0, 0)) := World.alloc_heap_new w _
  have hrc1 := (hb0.cell (p := ⟨rb, n, none⟩) hrl).trans hrc
  have hI1 := hI.below hb0
  have hL1 := hL.below hb0
  have hrl1 := Nat.lt_of_lt_of_le hrl hb0.size
  go_enter Try.func26, Try.ntmps26
  go_upto_region 1 with fail
  generalize (w.alloc (.cells #[.slice na nl nc, .slice (some ⟨rb, 0, none⟩) ns.length ns.length, .slice (some ⟨ab, 0, none⟩) ns.length ns.length] 58)) = W at hb0 hbx hrc1 hI1 hL1 hrl1 ⊢
  have q1 := blk_cell hbx 1
  simp at q1
  have ql := blk_lt hbx
  have HI := hide hI1
  have HL := hide hL1
  have HB := hide hb0
  have HFN := hide hF
  have HLL := hide hl
  clear hI1 hL1 hb0 hbx hR hL hI hrc hF hl hrl
  go_wp2_with fail
  go_loopw [7, 16] (fun v i wr => ∃ k : Nat, k ≤ (F n).length ∧ i = .int .i64 k ∧ v = .int .u64 ((behM L ((F n).take k)).toNat : Int) ∧ wr = W) (fun v i _ => (F n).length - (intOf i).toNat)
  case atStart => exact ⟨0, Nat.zero_le _, rfl, rfl, rfl⟩
  case round =>
    obtain ⟨k, hk, rfl, rfl, rfl⟩ := hrel
    by_cases hlt : k < (F n).length
    · obtain ⟨m, hm⟩ := get_lt hlt
      have hpos : k < (ints (F n)).length := by rw [ints_len]; exact hlt
      obtain ⟨ib, io, rfl, hil, hic⟩ := HI.out.at hpos
      have c1 := hic k (m : Int) (by simp [ints, hm])
      have hmn := HFN.out m (List.mem_of_getElem? hm)
      have c2 := HL.out.2 m (by rw [HLL.out]; exact hmn)
      have c2l := HL.out.1
      have hmi : (m : Int) < (ns.length : Int) := by omega
      have hki : (k : Int) < ((F n).length : Int) := by omega
      have HM := hide (behM_take_succ L (F n) hm)
      have HO := hide (bits_or (behM L ((F n).take k)) (L.getD m 0#64))
      clear hic hm hpos
      generalize behM L ((F n).take k) = B at HM HO ⊢
      generalize L.getD m 0#64 = D at HM HO c2
      go_wp2
      go_roundw
      case rel => exact ⟨k + 1, by omega, by go_num, by rw [HM.out, ← HO.out], by first | rfl | trivial⟩
      case measure => simp [intOf]; omega
    · have hke : k = (F n).length := by omega
      subst hke
      rw [List.take_length]
      go_wp2
      go_ret
      exact ⟨rfl, HB.out⟩

/-- The bits that are set, rising. -/
def bitL (m : BitVec 64) (k : Nat) : List Nat := (List.range k).filter fun j => m.getLsbD j
theorem bitL_yes {m : BitVec 64} {k : Nat} (h : m.getLsbD k = true) : bitL m (k + 1) = bitL m k ++ [k] := by simp [bitL, List.range_succ, List.filter_append, h]
theorem bitL_no {m : BitVec 64} {k : Nat} (h : m.getLsbD k = false) : bitL m (k + 1) = bitL m k := by simp [bitL, List.range_succ, List.filter_append, h]
theorem bitL_len (m : BitVec 64) (k : Nat) : (bitL m k).length ≤ k := Nat.le_trans (List.length_filter_le _ _) (by simp)
theorem ints_one (l : List Nat) (k : Nat) : (ints (l ++ [k])).map (Value.int .i64) = (ints l).map (Value.int .i64) ++ [.int .i64 k] := by simp [ints]

set_option maxHeartbeats 4000000 in
set_option maxRecDepth 100000 in
theorem rising_any (m : BitVec 64) (w : World) :
    Calls Try.prog 23 #[.int .u64 (m.toNat : Int)] w fun e w' => ∃ v, e = .returned v ∧ w'.ownsRow w.heap.size 3 1 v (bitL m 64).length ((ints (bitL m 64)).map (Value.int .i64)) ∧ Below w.heap.size w w' := by
  obtain ⟨i0, hi, hz0, hz1, hz2⟩ := info_parts info_int
  go_enter Try.func23, Try.ntmps23
  go_wp2_with fail
  go_loopw [3, 5] (fun v i wr => ∃ k : Nat, k ≤ 64 ∧ i = .int .i64 k ∧ wr.ownsRow w.heap.size 3 1 v (bitL m k).length ((ints (bitL m k)).map (Value.int .i64)) ∧ Below w.heap.size w wr) (fun v i _ => 64 - (intOf i).toNat)
  case atStart => exact ⟨0, Nat.zero_le _, rfl, World.ownsRow_nil _ _ _ _, Below.refl _ _⟩
  case round =>
    obtain ⟨k, hk, rfl, hown, hb⟩ := hrel
    have HO := hide hown
    have HB := hide hb
    have hsz := hb.size
    clear hown hb
    by_cases hlt : k < 64
    · have hk0 : (0 : Int) ≤ (k : Int) := by omega
      have hk1 : (k : Int) < 64 := by omega
      have hk2 : (k : Int) ≤ 64 := by omega
      have hq := shr_bit m k
      cases hbt : m.getLsbD k
      · rw [hbt] at hq
        simp only [Bool.false_eq_true, if_false] at hq
        have HL := hide (bitL_no hbt)
        clear hbt
        go_wp2_with fail
        go_roundw
        case rel => exact ⟨k + 1, by omega, by go_num, by rw [HL.out]; exact HO.out, HB.out⟩
        case measure => simp [intOf]; omega
      · rw [hbt] at hq
        simp only [if_true] at hq
        have HL := hide (bitL_yes hbt)
        have HLE := hide (bitL_len m k)
        clear hbt
        have hnew := World.alloc_heap_new wr (.cells #[.int .i64 k] 3)
        have HNW := hide hnew
        clear hnew
        go_wp2_with (at_builtin; refine wpList_append_own _ rfl (.tmp 13) (.tmp 15) 36 rfl w.heap.size 3 i0 (.int .i64 0) 1 8 Try.underlying36 hi hz0 hz1 hz2 rfl (by decide) _ _ _ rfl (HO.out.alloc _) ⟨wr.heap.size, 0, none⟩ 1 1 [.int .i64 k] rfl rfl ?c1 ?c2 ?c3 ?c4 ?c5 ?_)
        case c1 =>
          intro j u hj
          match j, hj with
          | 0, hj => simp at hj; subst hj; exact blk_cell HNW.out 0
        case c2 => intro u hu; simp at hu; subst hu; rfl
        case c3 => have := HLE.out; unfold maxLen; omega
        case c4 => have := HLE.out; omega
        case c5 => simp; omega
        intro v' w3 hown3 hg3 _
        have hlt3 := HO.out.lt
        have hB3 : Below w.heap.size w w3 := (HB.out.alloc hsz _).grown hg3 (by simp; omega) (fun k hk => by have := (hlt3 k hk).1; omega)
        have hown4 : w3.ownsRow w.heap.size 3 1 v' (bitL m (k + 1)).length ((ints (bitL m (k + 1))).map (Value.int .i64)) := by
          rw [HL.out, ints_one]; simpa using hown3
        have H3 := hide (And.intro hown4 hB3)
        clear hown3 hg3 hlt3 hB3 hown4 HO HB
        go_wp2
        go_roundw
        case rel => exact ⟨k + 1, by omega, by go_num, H3.out.1, H3.out.2⟩
        case measure => simp [intOf]; omega
    · have ek : k = 64 := by omega
      subst ek
      go_wp2
      go_ret
      exact ⟨_, rfl, HO.out, HB.out⟩

end Go.Proofs.Ytoikglgnmjjpcab

namespace Go.Proofs.Ytoikglgnmjjpcab
open Go.RowKit Go.Shelf
set_option linter.unusedVariables false
set_option linter.unusedSimpArgs false

/-- The cells of a row of bits. -/
def maskC (L : List (BitVec 64)) : Array Value := (L.map fun m => Value.int .u64 (m.toNat : Int)).toArray
def maskOf : Value → BitVec 64 | .int _ v => BitVec.ofInt 64 v | _ => 0#64
def masksOf (w : World) (b : Nat) : List (BitVec 64) := match w.heap[b]? with | some (.cells cs _ _) => cs.toList.map maskOf | _ => []
def lenV : Value → Nat | .slice _ n _ => n | _ => 0

theorem masksOf_of {w : World} {b : Nat} {L : List (BitVec 64)} {t : TypeId} {fr : Nat × Nat} (h : w.heap[b]? = some (.cells (maskC L) t fr)) : masksOf w b = L := by
  simp only [masksOf, h, maskC]
  rw [List.map_map]
  have : (maskOf ∘ fun m : BitVec 64 => Value.int .u64 (m.toNat : Int)) = id := by
    funext m; exact ofInt_bv m
  rw [this]; simp

theorem info_reg : (Try.prog.info? 62).map (fun i => (i.zero, i.size, i.bytes)) = some (some (.int .u64 0), 1, 8) := by kernel_rfl
theorem made_masks (n : Nat) : madeCells #[Value.int .u64 0] n = maskC (List.replicate n 0#64) := by
  apply Array.ext'
  rw [toList_madeCells_one]
  simp [maskC]

theorem maskC_get {L : List (BitVec 64)} {n : Nat} (h : n < L.length) : (maskC L)[n]? = some (.int .u64 ((L.getD n 0#64).toNat : Int)) := by
  simp [maskC, h]
theorem maskC_set (L : List (BitVec 64)) (n : Nat) (m : BitVec 64) : (maskC L).setIfInBounds n (.int .u64 (m.toNat : Int)) = maskC (L.set n m) := by
  simp only [maskC, List.setIfInBounds_toArray, List.map_set]
theorem masksAt_of {w : World} {b : Nat} {L : List (BitVec 64)} {t : TypeId} (h : w.heap[b]? = some (.cells (maskC L) t (0, 0))) : MasksAt w b L :=
  ⟨blk_lt h, fun j hj => by rw [blk_cell h, maskC_get hj]⟩

/-- The last one is taken off. -/
theorem owns_popN {w : World} {base : Nat} {e : TypeId} {g cap n : Nat} {xs : List Value} {v : Value} (h : w.ownsRow base e 1 (.slice (some ⟨g, 0, none⟩) (n + 1) cap) (n + 1) (xs ++ [v])) : w.ownsRow base e 1 (.slice (some ⟨g, 0, none⟩) n cap) n xs := by
  obtain ⟨hl, h⟩ := h
  simp only [List.length_append, List.length_singleton, Nat.mul_one] at hl
  refine ⟨by omega, ?_⟩
  rcases h with ⟨q, _⟩ | ⟨g', cap', cur, q, a1, a2, a3, a4, a5, a6⟩
  · cases q
  · cases q
    refine Or.inr ⟨g, cap, cur, rfl, a1, a2, by omega, a4, a5, ?_⟩
    simp only [Nat.mul_one] at a6 ⊢
    have h2 := congrArg (List.take n) a6
    rw [List.take_take, Nat.min_eq_left (by omega)] at h2
    rw [h2, List.take_append_of_le_length (by omega), List.take_of_length_le (by omega)]

theorem append_zeroN (w : World) (ty : TypeId) (base a : Option Addr) (sLen sCap c : Nat) (hle : sLen ≤ sCap) :
    (Builtin.append_ #[36, 36] ty #[.slice base sLen sCap, .slice a 0 c]).run Try.prog w = .ok (.slice base sLen sCap) w := by
  obtain ⟨i0, hi, hz0, hz1, hz2⟩ := info_parts info_int
  refine run_append_nothing w 36 36 ty 3 i0 Try.underlying36 hi base sLen sCap hle _ ⟨Or.inl ⟨_, Try.underlying36⟩, fun w' => by simp [Builtin.lenOf], ?_, ?_, by simp, by simp⟩
  · cases a <;> simp [Builtin.firstCells, loadCells, loadCellsFrom]
  · cases a <;> simp [Builtin.firstCells, loadCells, loadCellsFrom]

theorem wpList_append_zeroN {w : World} {ops : Array Oper} {rest : List Oper} {o : Oper} {a : Act} {Q : Exit → Act → World → Prop} (hgd : o.guard = none) (s x : Operand)
    (ho : o.op = .call { callee := .builtin .append, args := #[s, x], argTypes := #[36, 36] }) (base ra : Option Addr) (sLen sCap c : Nat) (hs : a.eval s = .slice base sLen sCap) (hx : a.eval x = .slice ra 0 c) (hle : sLen ≤ sCap)
    (h : wpList Try.prog ops Q rest (a.put o.dst (.slice base sLen sCap)) w) : wpList Try.prog ops Q (o :: rest) a w := by
  refine wpList_plain hgd fun K hK => ?_
  have hr := append_zeroN w o.type base ra sLen sCap c hle
  unfold Oper.wp execOp
  simp only [ho, resolve, invoke, builtin, Sem.run_bind, Sem.run_pure, Result.andThen_ok, List.map_toArray, List.map_cons, List.map_nil, hs, hx, hr]
  exact hK _ _ h

theorem addr_addN (b o j : Nat) : (⟨b, o, none⟩ : Addr).add j = ⟨b, o + j, none⟩ := by
  cases j <;> simp [Addr.add]
theorem ints_appendN (l m : List Nat) : ints (l ++ m) = ints l ++ ints m := by simp [ints]
theorem nxl_few (ns : List Nd) (n : Nat) : (nxl ns n).length ≤ ns.length := Nat.le_trans (List.length_filter_le _ _) (by simp)
theorem ahl_few (ns : List Nd) (n : Nat) : (ahl ns n).length ≤ ns.length := Nat.le_trans (List.length_filter_le _ _) (by simp)

/-- A cell of a block that lies below. -/
theorem cell_ofN {W u : World} {g : Nat} {cs : Array Value} {t : TypeId} {v : Value} (h : W.heap[g]? = some (.cells cs t (0, 0))) (hB : Below W.heap.size W u) (i : Nat) (hv : cs[i]? = some v) : u.cell? ⟨g, i, none⟩ = some v := by
  rw [(hB.cell (p := ⟨g, i, none⟩) (blk_lt h)), blk_cell h i]; exact hv

theorem full_useA {r : Int} {len : Nat} {x : Nd} (hF : Full r len x) (hr : r ≤ 64) (h : usA x = true) : 0 ≤ x.a ∧ x.a < 64 := by
  simp only [usA, Bool.or_eq_true, beq_iff_eq] at h
  have h' : x.op = 2 ∨ (3 ≤ x.op ∧ x.op ≤ 8) ∨ (10 ≤ x.op ∧ x.op ≤ 12) := by
    rcases h with (h | h) | h
    · exact Or.inl h
    · exact Or.inr (Or.inl (wi_iff.1 h))
    · exact Or.inr (Or.inr (wi_iff.1 h))
  have := hF.a (by omega) (by omega) (by omega)
  omega
theorem full_useB {r : Int} {len : Nat} {x : Nd} (hF : Full r len x) (hr : r ≤ 64) (h : usB x = true) : 0 ≤ x.b ∧ x.b < 64 := by
  have h := wi_iff.1 h
  have := hF.b h.1 h.2
  omega
theorem full_set {r : Int} {len : Nat} {x : Nd} (hF : Full r len x) (hr : r ≤ 64) (h : wi x.op 1 9 = true) : 0 ≤ x.d ∧ x.d < 64 := by
  have h := wi_iff.1 h
  have := hF.d h.1 h.2
  omega

theorem few_start {k : Nat} (hk : k ≤ 256) : (List.range k).length + left (List.replicate k 0#64) * k ≤ k + 64 * 256 * 256 := by
  have h1 := left_le (List.replicate k 0#64)
  rw [List.length_replicate] at h1
  have h2 : left (List.replicate k 0#64) * k ≤ 64 * 256 * 256 := Nat.mul_le_mul (Nat.le_trans h1 (Nat.mul_le_mul_left _ hk)) hk
  rw [List.length_range]
  omega
theorem few_turn {a b k c B : Nat} (h1 : a + 1 + b * k ≤ B) (h2 : c + 1 ≤ b) (d : Nat) (h3 : d ≤ k) : a + d + c * k ≤ B := by
  have := Nat.mul_le_mul_right k h2
  rw [Nat.succ_mul] at this
  omega
theorem less_turn {a b k c : Nat} (h2 : c + 1 ≤ b) (d : Nat) (h3 : d ≤ k) : a + d + c * (k + 1) < a + 1 + b * (k + 1) := by
  have := Nat.mul_le_mul_right (k + 1) h2
  rw [Nat.succ_mul] at this
  omega

set_option maxHeartbeats 16000000 in
set_option maxRecDepth 100000 in
theorem live_any (r : Int) (ns : List Nd) (nb no ncap rb ab : Nat) (w : World) (hN : NodesAt w nb no ns) (hc : chk r ns = 0) (hR : RowsR w rb ns.length (nxl ns)) (hA : RowsR w ab ns.length (ahl ns)) :
    Calls Try.prog 22 #[.agg #[.slice (some ⟨nb, no, none⟩) ns.length ncap, .slice (some ⟨rb, 0, none⟩) ns.length ns.length, .slice (some ⟨ab, 0, none⟩) ns.length ns.length]] w fun e w' => ∃ lb L, e = .returned (.slice (some ⟨lb, 0, none⟩) ns.length ns.length) ∧ w.heap.size ≤ lb ∧ IsL ns L ∧ w'.heap[lb]? = some (.cells (maskC L) 62 (0, 0)) ∧ Below w.heap.size w w' := by
  obtain ⟨i0, hi, hz0, hz1, hz2⟩ := info_parts info_int
  have hl := (chk_full hc).1
  have hr := (chk_full hc).2.1.2
  have hms : ∀ W : World, Sem.run Try.prog (Instr.makeSlice 56 (.int .i64 (ns.length : Int)) (.int .i64 (ns.length : Int))) W = .ok (.slice (some ⟨W.heap.size, 0, none⟩) ns.length ns.length) (W.alloc (.cells (madeCells #[.int .u64 0] ns.length) 62)) := fun W => run_make_row' 56 62 _ 8 Try.underlying56 info_reg rfl .i64 .i64 ns.length (by omega) (by omega) W
  have hb0 : Below w.heap.size w (w.alloc (.cells #[.slice (some ⟨nb, no, none⟩) ns.length ncap, .slice (some ⟨rb, 0, none⟩) ns.length ns.length, .slice (some ⟨ab, 0, none⟩) ns.length ns.length] 58)) := (Below.refl _ w).alloc (Nat.le_refl _) _
  have hbx : (w.alloc (.cells #[.slice (some ⟨nb, no, none⟩) ns.length ncap, .slice (some ⟨rb, 0, none⟩) ns.length ns.length, .slice (some ⟨ab, 0, none⟩) ns.length ns.length] 58)).heap[w.heap.size]? = some (.cells #[.slice (some ⟨nb, no, none⟩) ns.length ncap, .slice (some ⟨rb, 0, none⟩) ns.length ns.length, .slice (some ⟨ab, 0, none⟩) ns.length ns.length] 58 (0, 0)) := World.alloc_heap_new w _
  have hN0 := hN.below hb0 hN.lt
  have hR0 := hR.below hb0
  have hA0 := hA.below hb0
  have HC := hide hc
  clear hc hN hR hA
  go_enter Try.func22, Try.ntmps22
  go_upto_region 1 with fail
  generalize (w.alloc (.cells #[.slice (some ⟨nb, no, none⟩) ns.length ncap, .slice (some ⟨rb, 0, none⟩) ns.length ns.length, .slice (some ⟨ab, 0, none⟩) ns.length ns.length] 58)) = Wq at hb0 hbx hN0 hR0 hA0 ⊢
  have q0 := blk_cell hbx 0
  simp at q0
  have ql := blk_lt hbx
  have HWq := hide hb0
  have HX := hide hbx
  have HN := hide hN0
  have HR := hide hR0
  have HA := hide hA0
  clear hb0 hbx hN0 hR0 hA0
  go_upto_region 3 with fail
  have hB0 : Below Wq.heap.size Wq (Wq.alloc (.cells (madeCells #[.int .u64 0] ns.length) 62)) := (Below.refl _ Wq).alloc (Nat.le_refl _) _
  have hX0 : (Wq.alloc (.cells (madeCells #[.int .u64 0] ns.length) 62)).heap[Wq.heap.size]? = some (.cells (maskC (List.replicate ns.length 0#64)) 62 (0, 0)) := by
    rw [World.alloc_heap_new, made_masks]
  have q0' := (hB0.cell (p := ⟨w.heap.size, 0, none⟩) ql).trans q0
  have ql' := Nat.lt_of_lt_of_le ql hB0.size
  generalize (Wq.alloc (.cells (madeCells #[.int .u64 0] ns.length) 62)) = W0 at hB0 hX0 q0' ql' ⊢
  have HX0 := hide hX0
  have HB0 := hide hB0
  clear hX0 hms hB0 q0 ql
  go_wp2_with fail
  go_loopw [4, 16] (fun v i wr => ∃ k : Nat, k ≤ ns.length ∧ i = .int .i64 k ∧ wr.heap[Wq.heap.size]? = some (.cells (maskC (List.replicate ns.length 0#64)) 62 (0, 0)) ∧ wr.ownsRow (Wq.heap.size + 1) 3 1 v (ints (List.range k)).length ((ints (List.range k)).map (Value.int .i64)) ∧ Below Wq.heap.size Wq wr) (fun v i _ => ns.length - (intOf i).toNat)
  case atStart => exact ⟨0, Nat.zero_le _, rfl, HX0.out, World.ownsRow_nil _ _ _ _, HB0.out⟩
  case round =>
    obtain ⟨k, hk, rfl, hX, hown, hb⟩ := hrel
    have hsz := hb.size
    have hXl := blk_lt hX
    by_cases hlt : k < ns.length
    · have hli : (k : Int) < (ns.length : Int) := by omega
      have HXX := hide hX
      have HO := hide hown
      have HLE := hide (show (ints (List.range k)).length = k by simp [ints])
      have HB := hide hb
      clear hX hown hb
      have HNW := hide (World.alloc_heap_new wr (.cells #[.int .i64 k] 3))
      go_wp2_with (at_builtin; refine wpList_append_own _ rfl (.tmp 19) (.tmp 21) 36 rfl (Wq.heap.size + 1) 3 i0 (.int .i64 0) 1 8 Try.underlying36 hi hz0 hz1 hz2 rfl (by decide) _ _ _ rfl (HO.out.alloc _) ⟨wr.heap.size, 0, none⟩ 1 1 [.int .i64 k] rfl rfl ?c1 ?c2 ?c3 ?c4 ?c5 ?_)
      case c1 =>
        intro j u hj
        match j, hj with
        | 0, hj => simp at hj; subst hj; exact blk_cell HNW.out 0
      case c2 => intro u hu; simp at hu; subst hu; rfl
      case c3 => rw [HLE.out]; unfold maxLen; omega
      case c4 => rw [HLE.out]; omega
      case c5 => simp; omega
      intro v' w3 hown3 hg3 _
      have hlt3 := HO.out.lt
      have hB3 : Below Wq.heap.size Wq w3 := (HB.out.alloc hsz _).grown hg3 (by simp; omega) (fun k hk => by have := (hlt3 k hk).1; omega)
      have hX3 : w3.heap[Wq.heap.size]? = some (.cells (maskC (List.replicate ns.length 0#64)) 62 (0, 0)) := by
        rw [hg3.block _ (by simp; omega) (fun e => by have := (hlt3 _ e.symm).1; omega), Below.heap_alloc _ _ _ hXl]; exact HXX.out
      have hown4 : w3.ownsRow (Wq.heap.size + 1) 3 1 v' (ints (List.range (k + 1))).length ((ints (List.range (k + 1))).map (Value.int .i64)) := by
        rw [List.range_succ, ints_one]; simpa [ints] using hown3
      have H3 := hide (And.intro hX3 (And.intro hown4 hB3))
      clear hown3 hg3 hlt3 hB3 hX3 hown4 HO HXX HB
      go_wp2
      go_roundw
      case rel => exact ⟨k + 1, by omega, by go_num, H3.out.1, H3.out.2.1, H3.out.2.2⟩
      case measure => simp [intOf]; omega
    · have ek : k = ns.length := by omega
      subst ek
      have HS := hide (LS.start ns)
      have HXX := hide hX
      have HO := hide hown
      have HB := hide hb
      clear hX hown hb q0' ql'
      go_wp2_with fail
      go_loopw [4] (fun v wr => ∃ L wk, LS ns L wk ∧ wk.length + left L * ns.length ≤ ns.length + 64 * 256 * 256 ∧ wr.heap[Wq.heap.size]? = some (.cells (maskC L) 62 (0, 0)) ∧ wr.ownsRow (Wq.heap.size + 1) 3 1 v (ints wk).length ((ints wk).map (Value.int .i64)) ∧ Below Wq.heap.size Wq wr) (fun v wr => lenV v + left (masksOf wr Wq.heap.size) * (ns.length + 1))
      case atStart => exact ⟨_, _, HS.out, few_start hl.2, HXX.out, HO.out, HB.out⟩
      case round =>
        clear HS HXX HO HB hXl hsz
        obtain ⟨L, wk, hS, hfew, hX, hown, hb⟩ := hrel
        have hXl := blk_lt hX
        rcases List.eq_nil_or_concat wk with rfl | ⟨wk', n, rfl⟩
        · obtain ⟨va, vc, rfl⟩ := owns_slice hown
          have HXX := hide hX
          have HS := hide hS
          have HB := hide hb
          clear hX hS hb hown
          go_wp2
          go_ret
          exact ⟨Wq.heap.size, L, rfl, HWq.out.size, HS.out.done HC.out, HXX.out, HWq.out.trans (HB.out.mono HWq.out.size)⟩
        · rw [List.concat_eq_append] at hS hown hfew
          have e : (ints (wk' ++ [n])).length = wk'.length + 1 := by simp [ints]
          rw [e, ints_one] at hown
          have hn : n < ns.length := hS.wl n (by simp)
          rw [List.length_append, List.length_singleton] at hfew
          obtain ⟨g, vc, rfl, hgb, hgl, hvc⟩ : ∃ g vc, u4 = .slice (some ⟨g, 0, none⟩) (wk'.length + 1) vc ∧ Wq.heap.size + 1 ≤ g ∧ g < wr.heap.size ∧ wk'.length + 1 ≤ vc := by
            rcases hown.2 with ⟨_, q⟩ | ⟨g, vc, cur, rfl, q1, q2, q3, _⟩
            · omega
            · exact ⟨g, vc, rfl, q1, blk_lt q2, q3⟩
          have hcell : wr.cell? ⟨g, wk'.length, none⟩ = some (.int .i64 n) := by
            have h0 := hown.cells (g := g) rfl wk'.length (.int .i64 n) (by rw [List.getElem?_append_right (by simp [ints])]; simp [ints])
            rwa [addr_addN, Nat.zero_add] at h0
          have hfw : wk'.length < 4200000 := by omega
          have hwrap : IntKind.i64.wrap (((wk'.length + 1 : Nat) : Int) - 1) = (wk'.length : Int) := by
            rw [IntWalk.i64_left]; unfold wrap64; omega
          have hmc : (wk'.length : Int) ≤ (vc : Int) := by omega
          have hni : (n : Int) < (ns.length : Int) := by omega
          have hm0 : (0 : Int) < ((wk'.length + 1 : Nat) : Int) := by omega
          have hNr := HN.out.below hb HN.out.lt
          have hgn := get_nd hn
          have HF := hide (chk_at HC.out hn)
          generalize hxx : nd ns n = x at hgn HF
          have HXE := hide hxx
          have d0 := hNr.c0 n x hgn
          have d1 := hNr.c1 n x hgn
          have d2 := hNr.c2 n x hgn
          have d3 := hNr.c3 n x hgn
          have d4 := hNr.c4 n x hgn
          have d5 := hNr.c5 n x hgn
          have dl := hNr.lt
          have hqr := (hb.block w.heap.size (blk_lt HX.out)).trans HX.out
          have q0 := blk_cell hqr 0
          simp at q0
          have ql := blk_lt hqr
          have hbX : Below wr.heap.size wr (wr.alloc (.cells #[.int .i64 x.op, .int .i64 x.d, .int .i64 x.a, .int .i64 x.b, .int .i64 x.t, .int .i64 x.e] 53)) := (Below.refl _ wr).alloc (Nat.le_refl _) _
          have hxn : (wr.alloc (.cells #[.int .i64 x.op, .int .i64 x.d, .int .i64 x.a, .int .i64 x.b, .int .i64 x.t, .int .i64 x.e] 53)).heap[wr.heap.size]? = some (.cells #[.int .i64 x.op, .int .i64 x.d, .int .i64 x.a, .int .i64 x.b, .int .i64 x.t, .int .i64 x.e] 53 (0, 0)) := World.alloc_heap_new wr _
          have HXX := hide hX
          have HS := hide hS
          have HB := hide hb
          have HO := hide hown
          have HFEW := hide hfew
          have HQR := hide hqr
          clear hX hS hb hown hqr e hfew hNr hgn hxx
          go_upto_region 12 with fail
          have HXW := hide ((hbX.block _ (blk_lt HQR.out)).trans HQR.out)
          have HXX2 := hide ((hbX.block _ hXl).trans HXX.out)
          have HO2 := hide (ownsRow_below HO.out hbX (Nat.le_refl _))
          have HB2 := hide (HB.out.trans (hbX.mono HB.out.size))
          generalize (wr.alloc (.cells #[.int .i64 x.op, .int .i64 x.d, .int .i64 x.a, .int .i64 x.b, .int .i64 x.t, .int .i64 x.e] 53)) = Wx at hxn HXW HXX2 HO2 HB2 ⊢
          have HNB := hide hxn
          have HPS := hide (fun (u : World) (hB : Below Wx.heap.size Wx u) => (show u.cell? ⟨wr.heap.size, 0, none⟩ = some (.int .i64 x.op) ∧ u.cell? ⟨wr.heap.size, 1, none⟩ = some (.int .i64 x.d) ∧ u.cell? ⟨wr.heap.size, 2, none⟩ = some (.int .i64 x.a) ∧ u.cell? ⟨wr.heap.size, 3, none⟩ = some (.int .i64 x.b) ∧ u.cell? ⟨wr.heap.size, 4, none⟩ = some (.int .i64 x.t) ∧ u.cell? ⟨wr.heap.size, 5, none⟩ = some (.int .i64 x.e) ∧ u.cell? ⟨w.heap.size, 0, none⟩ = some (.slice (some ⟨nb, no, none⟩) ns.length ncap) ∧ u.cell? ⟨w.heap.size, 1, none⟩ = some (.slice (some ⟨rb, 0, none⟩) ns.length ns.length) ∧ u.cell? ⟨w.heap.size, 2, none⟩ = some (.slice (some ⟨ab, 0, none⟩) ns.length ns.length) from ⟨cell_ofN HNB.out hB 0 rfl, cell_ofN HNB.out hB 1 rfl, cell_ofN HNB.out hB 2 rfl, cell_ofN HNB.out hB 3 rfl, cell_ofN HNB.out hB 4 rfl, cell_ofN HNB.out hB 5 rfl, cell_ofN HXW.out hB 0 rfl, cell_ofN HXW.out hB 1 rfl, cell_ofN HXW.out hB 2 rfl⟩))
          clear hxn d0 d1 d2 d3 d4 d5 dl q0 ql hcell hbX HQR hXl
          go_cut [8] from 43 to 52 (fun v8 wx => v8 = .int .u64 ((eqM ns L n).toNat : Int) ∧ Below Wx.heap.size Wx wx)
          case first =>
            go_region_held3 (fun u => u.cell? ⟨wr.heap.size, 0, none⟩ = some (.int .i64 x.op) ∧ u.cell? ⟨wr.heap.size, 1, none⟩ = some (.int .i64 x.d) ∧ u.cell? ⟨wr.heap.size, 2, none⟩ = some (.int .i64 x.a) ∧ u.cell? ⟨wr.heap.size, 3, none⟩ = some (.int .i64 x.b) ∧ u.cell? ⟨wr.heap.size, 4, none⟩ = some (.int .i64 x.t) ∧ u.cell? ⟨wr.heap.size, 5, none⟩ = some (.int .i64 x.e) ∧ u.cell? ⟨w.heap.size, 0, none⟩ = some (.slice (some ⟨nb, no, none⟩) ns.length ncap) ∧ u.cell? ⟨w.heap.size, 1, none⟩ = some (.slice (some ⟨rb, 0, none⟩) ns.length ns.length) ∧ u.cell? ⟨w.heap.size, 2, none⟩ = some (.slice (some ⟨ab, 0, none⟩) ns.length ns.length)) (first
              | (with_reducible exact HPS.out _ hB3)
              | (with_reducible exact HPS.out _ hB2)
              | (with_reducible exact HPS.out _ hB1)
              | exact HPS.out _ (Below.refl _ Wx).drew
              | exact HPS.out _ (Below.refl _ Wx)) (first
              | (go_at_call 25; refine (lsets_any x _ (full_set HF.out hr)).mono ?_; rintro e wcc ⟨rfl, hbc⟩; have hB3 : Below Wx.heap.size Wx wcc := hB2.trans (hbc.mono hB2.size))
              | (go_at_call 26; refine (behind_any ns L (some ⟨nb, no, none⟩) ns.length ncap ab n rb Wq.heap.size (nxl ns) _ ((HR.out.below HB2.out).below hB1) ((masksAt_of HXX2.out).below hB1) HS.out.len hn hl.2 (fun m hm => (mem_nxl.1 hm).1) (Nat.le_trans (nxl_few ns n) hl.2)).mono ?_; rintro e wb ⟨rfl, hbb⟩; have hB2 : Below Wx.heap.size Wx wb := hB1.trans (hbb.mono hB1.size))
              | (go_at_call 41; refine (uses_any x _ (full_useA HF.out hr) (full_useB HF.out hr)).mono ?_; rintro e wa ⟨rfl, hba⟩; have hB1 : Below Wx.heap.size Wx wa := (by first | exact (Below.refl _ Wx).drew.trans hba | exact hba)))
            all_goals go_wp2
            all_goals go_meet
            all_goals exact ⟨by rw [bits_andNot, bits_or, ← HXE.out]; rfl, hB3⟩
          case rest =>
            obtain ⟨rfl, hBc⟩ := hcut
            have hX4 := (hBc.block _ (blk_lt HXX2.out)).trans HXX2.out
            have hO4 := ownsRow_below HO2.out hBc (Nat.le_refl _)
            have hB4 := HB2.out.trans (hBc.mono HB2.out.size)
            have hxc4 : wc.cell? ⟨Wq.heap.size, n, none⟩ = some (.int .u64 ((L.getD n 0#64).toNat : Int)) := by rw [blk_cell hX4, maskC_get (by rw [HS.out.len]; exact hn)]
            have hxf4 := blk_frozen hX4 n
            have hXl4 := blk_lt hX4
            have HX4 := hide hX4
            have HO4 := hide hO4
            have HB4 := hide hB4
            clear hX4 hO4 hB4 hBc HXX2 HO2 HB2 HPS HNB HXW HXE HF
            by_cases he : eqM ns L n = L.getD n 0#64
            · rw [he]
              have HE := hide he
              clear he
              generalize ((L.getD n 0#64).toNat : Int) = D at hxc4 ⊢
              go_wp2_with fail
              go_roundw
              case rel => exact ⟨L, wk', HS.out.pop HE.out, by have := HFEW.out; omega, HX4.out, by rw [ints_len]; exact owns_popN HO4.out, HB4.out⟩
              case measure =>
                rw [masksOf_of HX4.out, masksOf_of HXX.out]
                simp [lenV]
            · have hne : (((eqM ns L n).toNat : Int) == ((L.getD n 0#64).toNat : Int)) = false := by
                have : (eqM ns L n).toNat ≠ (L.getD n 0#64).toNat := fun q => he (BitVec.eq_of_toNat_eq q)
                rw [beq_eq_false_iff_ne]
                intro q
                exact this (Int.ofNat.inj q)
              have hne2 : (((eqM ns L n).toNat : Int) != ((L.getD n 0#64).toNat : Int)) = true := by rw [bne, hne]; rfl
              have HE := hide he
              have HST := hide (maskC_set L n (eqM ns L n))
              have HT5 := hide (HS.out.turn HC.out)
              have HLL := hide (left_less HC.out HS.out he)
              have HMW := hide (masksOf_of HXX.out)
              clear he
              generalize hEm : eqM ns L n = E at *
              clear hEm
              generalize ((L.getD n 0#64).toNat : Int) = D at hxc4 hne hne2
              have hni' := hni
              go_upto_region 15 with fail
              have hX5' : (wc.setCell ⟨Wq.heap.size, n, none⟩ (.int .u64 (E.toNat : Int))).heap[Wq.heap.size]? = some (.cells (maskC (L.set n E)) 62 (0, 0)) := by
                rw [blk_set _ HX4.out, HST.out]
              have hO5 : (wc.setCell ⟨Wq.heap.size, n, none⟩ (.int .u64 (E.toNat : Int))).ownsRow (Wq.heap.size + 1) 3 1 (.slice (some ⟨g, 0, none⟩) wk'.length vc) wk'.length ((ints wk').map (Value.int .i64)) := owns_set (owns_popN HO4.out) HX4.out (by decide)
              have hB5 : Below Wq.heap.size Wq (wc.setCell ⟨Wq.heap.size, n, none⟩ (.int .u64 (E.toNat : Int))) := HB4.out.setCell (p := ⟨Wq.heap.size, n, none⟩) (Nat.le_refl _) _
              generalize (wc.setCell ⟨Wq.heap.size, n, none⟩ (.int .u64 (E.toNat : Int))) = W5 at hX5' hO5 hB5 ⊢
              clear HX4 HO4 HB4 hxc4 hxf4 hXl4
              obtain ⟨ra, rc, hrc, hrI⟩ := (HA.out.below hB5).row n hn
              have hrl := (HA.out.below hB5).lt
              have hq5 := (hB5.block _ (blk_lt HX.out)).trans HX.out
              have q2 := blk_cell hq5 2
              simp at q2
              have ql5 := blk_lt hq5
              have HX5 := hide hX5'
              have HO5 := hide hO5
              have HB5 := hide hB5
              have HI := hide hrI
              have hgl5 : g < W5.heap.size := (hO5.lt g rfl).2
              have HAF := hide (ahl_few ns n)
              have hfew5 : wk'.length + (ahl ns n).length < 4200000 := by have := HAF.out; have := HFEW.out; have := few_turn HFEW.out HLL.out _ HAF.out; omega
              clear hX5' hO5 hB5 hrI hq5
              by_cases hz : (ahl ns n).length = 0
              · rw [hz] at hrc
                have HE0 := hide (List.eq_nil_of_length_eq_zero hz)
                clear hz
                go_wp2_with (at_builtin; refine wpList_append_zeroN rfl (.tmp 63) (.tmp 68) rfl (some ⟨g, 0, none⟩) ra wk'.length vc rc rfl rfl (by omega) ?_)
                go_roundw
                case rel => exact ⟨L.set n E, wk' ++ ahl ns n, HT5.out, by rw [List.length_append]; exact few_turn HFEW.out HLL.out _ HAF.out, HX5.out, by rw [HE0.out, List.append_nil, ints_len]; exact HO5.out, HB5.out⟩
                case measure =>
                  rw [masksOf_of HX5.out, HMW.out]
                  have := less_turn (a := wk'.length) (k := ns.length) HLL.out 0 (by omega)
                  simp [lenV] at this ⊢
                  omega
              · have hpos : 0 < (ints (ahl ns n)).length := by rw [ints_len]; omega
                obtain ⟨ib, io, rfl, hal, hac⟩ := HI.out.at hpos
                have HAC := hide hac
                clear hac
                have HFI := hide (ints_len (ahl ns n))
                have hS0 := HB5.out.size
                go_wp2_with (at_builtin; refine wpList_append_own _ rfl (.tmp 63) (.tmp 68) 36 rfl (Wq.heap.size + 1) 3 i0 (.int .i64 0) 1 8 Try.underlying36 hi hz0 hz1 hz2 rfl (by decide) _ _ _ rfl HO5.out ⟨ib, io, none⟩ (ahl ns n).length rc ((ints (ahl ns n)).map (Value.int .i64)) rfl (by simp [ints]) ?c1 ?c2 ?c3 ?c4 ?c5 ?_)
                case c1 =>
                  intro j u hj
                  rw [List.getElem?_map] at hj
                  cases hz2 : (ints (ahl ns n))[j]? with
                  | none => rw [hz2] at hj; cases hj
                  | some z => rw [hz2] at hj; cases hj; rw [addr_addN]; exact HAC.out j z hz2
                case c2 => intro u hu; obtain ⟨z, _, rfl⟩ := List.mem_map.1 hu; rfl
                case c3 => unfold maxLen; omega
                case c4 => omega
                case c5 => have := blk_lt HX5.out; omega
                intro v' w6 hown6 hg6 _
                have hlt6 := HO5.out.lt
                have hB6 : Below Wq.heap.size Wq w6 := HB5.out.grown hg6 (by omega) (fun k hk => by have := (hlt6 k hk).1; omega)
                have hX6 := (hg6.block _ (blk_lt HX5.out) (fun e => by have := (hlt6 _ e.symm).1; omega)).trans HX5.out
                have hown7 : w6.ownsRow (Wq.heap.size + 1) 3 1 v' (ints (wk' ++ ahl ns n)).length ((ints (wk' ++ ahl ns n)).map (Value.int .i64)) := by
                  rw [ints_appendN, List.map_append, List.length_append, ints_len, ints_len]; exact hown6
                have hv : lenV v' = (wk' ++ ahl ns n).length := by
                  obtain ⟨_, _, e⟩ := owns_slice hown7
                  rw [e, lenV, ints_len]
                have H6 := hide (And.intro hX6 (And.intro hown7 (And.intro hB6 hv)))
                clear hown6 hg6 hlt6 hB6 hX6 hown7 hv
                go_wp2_with fail
                go_roundw
                case rel => exact ⟨L.set n E, wk' ++ ahl ns n, HT5.out, by rw [List.length_append]; exact few_turn HFEW.out HLL.out _ HAF.out, H6.out.1, H6.out.2.1, H6.out.2.2.1⟩
                case measure =>
                  rw [masksOf_of H6.out.1, HMW.out]
                  have := less_turn (a := wk'.length) (k := ns.length) HLL.out _ HAF.out
                  have := H6.out.2.2.2
                  simp [lenV] at *
                  omega
end Go.Proofs.Ytoikglgnmjjpcab

