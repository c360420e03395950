/-
  hoistwayref.AheadOf, prog.checkNode, prog.Next and prog.Ahead, walked.
-/
import Derived.Test.YtoikglgnmjjpcaaG
import Derived.Test.YtoikglgnmjjpcaaZ
namespace Go.Proofs.Ytoikglgnmjjpcaa
open Go.RowKit
set_option linter.unusedVariables false

set_option maxHeartbeats 1000000 in
theorem aheadOf_any (r : Int) (b off cap : Nat) (ns : List Nd) (n : Nat) (w : World) (hN : NodesAt w b off ns) (hl : ns.length ≤ 256) :
    Calls Try.prog 17 #[.agg #[.int .i64 r, .slice (some ⟨b, off, none⟩) ns.length cap], .int .i64 n] w fun e w' => ∃ v, e = .returned v ∧ w'.ownsRow w.heap.size 3 1 v (pick (ahB ns n) ns.length).length ((pick (ahB ns n) ns.length).map (Value.int .i64)) ∧ Below w.heap.size w w' := by
  obtain ⟨i0, hi, hz0, hz1, hz2⟩ := info_parts info_int
  go_enter Try.func17, Try.ntmps17
  go_wp2
  have q0 : (w.alloc (.cells #[.int .i64 r, .slice (some ⟨b, off, none⟩) ns.length cap] 24)).cell? ⟨w.heap.size, 0, none⟩ = some (.int .i64 r) := by simp
  have q1 : (w.alloc (.cells #[.int .i64 r, .slice (some ⟨b, off, none⟩) ns.length cap] 24)).cell? ⟨w.heap.size, 1, none⟩ = some (.slice (some ⟨b, off, none⟩) ns.length cap) := by simp
  have hN1 : NodesAt (w.alloc (.cells #[.int .i64 r, .slice (some ⟨b, off, none⟩) ns.length cap] 24)) b off ns := hN.below ((Below.refl w.heap.size w).alloc (Nat.le_refl _) _) hN.lt
  have hB1 : Below w.heap.size w (w.alloc (.cells #[.int .i64 r, .slice (some ⟨b, off, none⟩) ns.length cap] 24)) := (Below.refl w.heap.size w).alloc (Nat.le_refl _) _
  have hS1 : (w.alloc (.cells #[.int .i64 r, .slice (some ⟨b, off, none⟩) ns.length cap] 24)).heap.size = w.heap.size + 1 := by simp
  have hblt := hN.lt
  clear hN
  generalize w.alloc (.cells #[.int .i64 r, .slice (some ⟨b, off, none⟩) ns.length cap] 24) = W at q0 q1 hN1 hB1 hS1 ⊢
  go_loopw [5, 6] (fun v i wr => ∃ k : Nat, k ≤ ns.length ∧ i = .int .i64 k ∧ wr.ownsRow (w.heap.size + 1) 3 1 v (pick (ahB ns n) k).length ((pick (ahB ns n) k).map (Value.int .i64)) ∧ Below (w.heap.size + 1) W wr) (fun _ i _ => ns.length - (intOf i).toNat)
  case atStart => exact ⟨0, Nat.zero_le _, rfl, World.ownsRow_nil _ _ _ _, Below.refl _ _⟩
  case round =>
    obtain ⟨k, hk, rfl, hown, hb⟩ := hrel
    have hsz := hb.size
    have hN2 := hN1.below hb (by omega)
    have p0 : wr.cell? ⟨w.heap.size, 0, none⟩ = some (.int .i64 r) := by rw [hb.cell (p := ⟨w.heap.size, 0, none⟩) (by simp)]; exact q0
    have p1 : wr.cell? ⟨w.heap.size, 1, none⟩ = some (.slice (some ⟨b, off, none⟩) ns.length cap) := by rw [hb.cell (p := ⟨w.heap.size, 1, none⟩) (by simp)]; exact q1
    have hsw : w.heap.size < wr.heap.size := by omega
    by_cases hlt : k < ns.length
    · obtain ⟨y, hy⟩ := get_lt hlt
      have HY := hide hy
      clear hy
      go_wp2_with fail
      refine (leads_any r b off cap ns k n y wr hN2 HY.out).mono ?_
      rintro e w1 ⟨rfl, hb1⟩
      have hs1 := hb1.size
      have hown1 := ownsRow_below hown hb1 (Nat.le_refl _)
      have hB2 : Below (w.heap.size + 1) W w1 := hb.trans (hb1.mono (by omega))
      clear hown hb hb1 p0 p1 hN2
      have hah : ahB ns n k = ldB y n := ahB_at HY.out
      have HA := hide hah
      clear hah
      cases hld : ldB y n
      · go_wp2
        go_roundw
        case rel => exact ⟨k + 1, by omega, by go_num, by rw [pick_no (by rw [HA.out]; exact hld)]; exact hown1, hB2⟩
        case measure => simp [intOf]; omega
      · have hpl := pick_len (ahB ns n) k
        go_wp2_with (at_builtin; refine wpList_append_own _ rfl (.tmp 18) (.tmp 20) 25 rfl (w.heap.size + 1) 3 i0 (.int .i64 0) 1 8 Try.underlying25 hi hz0 hz1 hz2 rfl (by decide) _ _ _ rfl (hown1.alloc _) ⟨w1.heap.size, 0, none⟩ 1 1 [.int .i64 k] rfl rfl ?c1 ?c2 ?c3 ?c4 ?c5 ?_)
        case c1 =>
          intro j u hj
          match j, hj with
          | 0, hj => simp at hj; subst hj; simp [Addr.add]
        case c2 => intro u hu; simp at hu; subst hu; rfl
        case c3 => unfold maxLen; omega
        case c4 => omega
        case c5 => simp; omega
        intro v' w2 hown2 hg2 _
        have hlt1 := hown1.lt
        have hB3 : Below (w.heap.size + 1) W w2 := (hB2.alloc (by omega) _).grown hg2 (by simp; omega) (fun k hk => (hlt1 k hk).1)
        have hown3 : w2.ownsRow (w.heap.size + 1) 3 1 v' (pick (ahB ns n) (k + 1)).length ((pick (ahB ns n) (k + 1)).map (Value.int .i64)) := by
          rw [pick_yes (by rw [HA.out]; exact hld)]; simpa using hown2
        clear hown2 hg2 hlt1 hown1
        go_wp2
        go_roundw
        case rel => exact ⟨k + 1, by omega, by go_num, hown3, hB3⟩
        case measure => simp [intOf]; omega
    · have ek : k = ns.length := by omega
      have HK := hide ek
      clear ek
      go_wp2
      go_ret
      refine ⟨_, rfl, ?_, hB1.trans (hb.mono (by omega))⟩
      rw [← HK.out]
      exact ownsRow_base hown (by omega)

set_option maxHeartbeats 1000000 in
theorem checkNode_any (r : Int) (a : Option Addr) (cap : Nat) (ns : List Nd) (n : Int) (w : World) (hN : SlN w a ns) (hl : ns.length ≤ 9223372036854775807) :
    Calls Try.prog 54 #[.agg #[.int .i64 r, .slice a ns.length cap], .int .i64 n] w fun e w' => e = .returned (.int .i64 (chkN r ns n)) ∧ Below w.heap.size w w' := by
  have HC : Hid (chkN r ns n = if chk r ns = 0 then if wi n 0 ((ns.length : Int) - 1) then 0 else 3 else chk r ns) := rfl
  generalize chkN r ns n = C at HC ⊢
  have hN1 : SlN (w.alloc (.cells #[.int .i64 r, .slice a ns.length cap] 24)) a ns := hN.below ((Below.refl w.heap.size w).alloc (Nat.le_refl _) _)
  go_enter Try.func54, Try.ntmps54
  go_wp2_with fail
  refine (check_any r a cap ns _ hN1).mono ?_
  rintro e w1 ⟨rfl, hb1⟩
  have hs1 := hb1.size
  simp only [World.size_alloc] at hs1 hb1
  have hB1 : Below w.heap.size w w1 := ((Below.refl _ _).alloc (Nat.le_refl _) _).trans (hb1.mono (by omega))
  have q1 : w1.cell? ⟨w.heap.size, 1, none⟩ = some (.slice a ns.length cap) := by rw [hb1.cell (p := ⟨w.heap.size, 1, none⟩) (by simp)]; simp
  have hs1' : w.heap.size < w1.heap.size := by omega
  clear hb1
  by_cases hc : chk r ns = 0
  · rw [hc] at HC ⊢
    cases hw : wi n 0 ((ns.length : Int) - 1)
    · go_wp2_with (go_at_call 66; refine (pwithin_any _ _ _ _).mono ?_; rintro e w' ⟨rfl, rfl⟩)
      go_ret
      refine ⟨ret_int ?_, hB1⟩
      rw [HC.out, hw]; rfl
    · go_wp2_with (go_at_call 66; refine (pwithin_any _ _ _ _).mono ?_; rintro e w' ⟨rfl, rfl⟩)
      go_ret
      refine ⟨ret_int ?_, hB1⟩
      rw [HC.out, hw]; rfl
  · have HZ := hide hc
    have hb : (chk r ns != 0) = true := by simp [hc]
    clear hc
    go_wp2
    go_ret
    refine ⟨ret_int ?_, hB1⟩
    rw [HC.out, if_neg HZ.out]

end Go.Proofs.Ytoikglgnmjjpcaa
