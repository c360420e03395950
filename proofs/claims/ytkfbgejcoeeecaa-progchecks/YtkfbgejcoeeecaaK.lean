/-
  prog.Ahead, walked.
-/
import Derived.Test.YtkfbgejcoeeecaaJ
namespace Go.Proofs.Ytkfbgejcoeeecaa
open Go.RowKit
set_option linter.unusedVariables false

theorem contains_any (a : Option Addr) (cap : Nat) (zs : List Int) (x : Int) (w : World) (h : IntsAt w a zs) (hl : zs.length ≤ 9223372036854775807) :
    Calls Try.prog 28 #[.slice a zs.length cap, .int .i64 x] w fun e w' => e = .returned (.bool (zs.contains x)) ∧ w' = w := by
  rcases h with rfl | ⟨b, off, rfl, hlt, hc⟩
  · exact Try.slices_Contains_int_empty a cap x w
  · have h1 := Try.slices_Contains_int b off zs.length cap zs x w (Nat.le_refl _) hl (fun j hj => hc j _ (by rw [List.getD_eq_getElem?_getD]; rw [List.getElem?_eq_getElem hj]; rfl))
    rwa [List.take_length] at h1

theorem exl_len (x : Nd) : (exl x).length ≤ 2 := by
  unfold exl
  split
  · split
    · simp
    · split <;> simp
  · split <;> simp

set_option maxHeartbeats 1000000 in
theorem ahead_any (r : Int) (a : Option Addr) (cap : Nat) (ns : List Nd) (n : Int) (w : World) (hN : SlN w a ns) (hl : ns.length ≤ 9223372036854775807) :
    Calls Try.prog 8 #[.agg #[.int .i64 r, .slice a ns.length cap], .int .i64 n] w fun e w' => ∃ a' cap', e = .returned (.tuple #[.slice a' (aheads r ns n).length cap', .int .i64 (chkN r ns n)]) ∧ IntsAt w' a' (aheads r ns n) ∧ Below w.heap.size w w' := by
  have hN1 : SlN (w.alloc (.cells #[.int .i64 r, .slice a ns.length cap] 24)) a ns := hN.below ((Below.refl w.heap.size w).alloc (Nat.le_refl _) _)
  by_cases hc : chkN r ns n = 0
  · obtain ⟨h0, nn, rfl, hk⟩ := chkN_zero hc
    obtain ⟨b, off, rfl, hNb⟩ := hN.some (by omega)
    obtain ⟨hl2, _, hkn, _, _⟩ := chk_zero h0
    have hnx : aheads r ns (nn : Int) = pick (ahB ns nn) ns.length := by
      simp only [aheads, hc, if_true, Int.toNat_natCast]
    rw [hnx, hc]
    obtain ⟨i0, hi, hz0, hz1, hz2⟩ := info_parts info_int
    go_enter Try.func8, Try.ntmps8
    go_wp2_with fail
    refine (checkNode_any r _ cap ns _ _ hN1 hl).mono ?_
    rintro e w1 ⟨rfl, hb1⟩
    have hs1 := hb1.size
    simp only [World.size_alloc] at hs1 hb1
    have hB1 : Below w.heap.size w w1 := ((Below.refl _ _).alloc (Nat.le_refl _) _).trans (hb1.mono (by omega))
    have q1 : w1.cell? ⟨w.heap.size, 1, none⟩ = some (.slice (some ⟨b, off, none⟩) ns.length cap) := by rw [hb1.cell (p := ⟨w.heap.size, 1, none⟩) (by simp)]; simp
    have hs1' : w.heap.size < w1.heap.size := by omega
    have hNw := hNb.below hB1 hNb.lt
    have hblt := hNb.lt
    have HK := hide hkn
    clear hb1 hnx hN1 hNb hkn
    rw [hc]
    clear hc h0
    go_wp2
    go_loopw [7, 19] (fun v i wv => ∃ k : Nat, k ≤ ns.length ∧ i = .int .i64 k ∧ wv.ownsRow (w.heap.size + 1) 3 1 v (pick (ahB ns nn) k).length ((pick (ahB ns nn) k).map (Value.int .i64)) ∧ Below (w.heap.size + 1) w1 wv) (fun _ i _ => ns.length - (intOf i).toNat)
    case atStart => exact ⟨0, Nat.zero_le _, rfl, World.ownsRow_nil _ _ _ _, Below.refl _ _⟩
    case round =>
      obtain ⟨k, hk, rfl, hown, hb⟩ := hrel
      have hsz := hb.size
      have hN2 := hNw.below hb (by omega)
      have hlt2 := hN2.lt
      have hsw : w.heap.size < wr.heap.size := by omega
      by_cases hlt : k < ns.length
      · obtain ⟨x, hx⟩ := get_lt hlt
        have c0 := hN2.c0 k x hx
        have c1 := hN2.c1 k x hx
        have c2 := hN2.c2 k x hx
        have c3 := hN2.c3 k x hx
        have c4 := hN2.c4 k x hx
        have c5 := hN2.c5 k x hx
        have hah : ahB ns nn k = (exl x).contains (nn : Int) := by rw [ahB_at hx, exl_contains x (HK.out x (List.mem_of_getElem? hx)) nn]
        have HA := hide hah
        have hel := exl_len x
        clear hx hN2 hah
        go_wp2_with fail
        refine (exits_any x _).mono ?_
        rintro e w2 ⟨a2, cap2, rfl, hI, hb2⟩
        have hs2 := hb2.size
        simp only [World.size_alloc] at hs2 hb2
        have hown2 := ownsRow_below (hown.alloc _) hb2 (by simp)
        have hB2 : Below (w.heap.size + 1) w1 w2 := (hb.alloc (by omega) _).trans (hb2.mono (by omega))
        clear hown hb2 c0 c1 c2 c3 c4 c5
        go_wp2_with fail
        refine (contains_any a2 cap2 (exl x) nn w2 hI (by omega)).mono ?_
        rintro e w3 ⟨rfl, rfl⟩
        clear hI
        generalize (exl x).contains (nn : Int) = bb at HA ⊢
        cases bb
        · go_wp2
          go_roundw
          case rel => exact ⟨k + 1, by omega, by go_num, by rw [pick_no HA.out]; exact hown2, hB2⟩
          case measure => simp [intOf]; omega
        · have hpl := pick_len (ahB ns nn) k
          go_wp2_with (at_builtin; refine wpList_append_own _ rfl (.tmp 28) (.tmp 30) 25 rfl (w.heap.size + 1) 3 i0 (.int .i64 0) 1 8 Try.underlying25 hi hz0 hz1 hz2 rfl (by decide) _ _ _ rfl (hown2.alloc _) ⟨w3.heap.size, 0, none⟩ 1 1 [.int .i64 k] rfl rfl ?c1 ?c2 ?c3 ?c4 ?c5 ?_)
          case c1 =>
            intro j u hj
            match j, hj with
            | 0, hj => simp at hj; subst hj; simp [Addr.add]
          case c2 => intro u hu; simp at hu; subst hu; rfl
          case c3 => unfold maxLen; omega
          case c4 => omega
          case c5 => simp; omega
          intro v' w4 hown4 hg4 _
          have hlt1 := hown2.lt
          have hB4 : Below (w.heap.size + 1) w1 w4 := (hB2.alloc (by omega) _).grown hg4 (by simp; omega) (fun k hk => (hlt1 k hk).1)
          have hown5 : w4.ownsRow (w.heap.size + 1) 3 1 v' (pick (ahB ns nn) (k + 1)).length ((pick (ahB ns nn) (k + 1)).map (Value.int .i64)) := by
            rw [pick_yes HA.out]; simpa using hown4
          clear hown4 hg4 hlt1 hown2
          go_wp2
          go_roundw
          case rel => exact ⟨k + 1, by omega, by go_num, hown5, hB4⟩
          case measure => simp [intOf]; omega
      · have ek : k = ns.length := by omega
        have HE := hide ek
        clear ek hN2
        go_wp2
        go_ret2
        rw [HE.out] at hown
        obtain ⟨a2, cap2, hv, hI⟩ := ints_of_owns hown
        refine ⟨a2, cap2, ?_, hI, hB1.trans (hb.mono (by omega))⟩
        rw [← hv]; rfl
  · have hnx : aheads r ns n = [] := by simp [aheads, hc]
    rw [hnx]
    have hb : (chkN r ns n != 0) = true := by simp [hc]
    clear hc hnx
    go_enter Try.func8, Try.ntmps8
    go_wp2_with fail
    refine (checkNode_any r _ cap ns _ _ hN1 hl).mono ?_
    rintro e w1 ⟨rfl, hb1⟩
    have hs1 := hb1.size
    simp only [World.size_alloc] at hs1 hb1
    have hB1 : Below w.heap.size w w1 := ((Below.refl _ _).alloc (Nat.le_refl _) _).trans (hb1.mono (by omega))
    go_wp2
    go_ret2
    exact ⟨none, 0, rfl, Or.inl rfl, hB1⟩
end Go.Proofs.Ytkfbgejcoeeecaa
