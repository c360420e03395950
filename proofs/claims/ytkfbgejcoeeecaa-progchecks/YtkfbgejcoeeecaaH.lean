/-
  prog.exits, walked: it answers the places where a node goes on, in order, each once.
-/
import Derived.Test.YtkfbgejcoeeecaaG
import Derived.Test.YtkfbgejcoeeecaaR
import Derived.Test.YtkfbgejcoeeecaaSh
import Derived.Sort.OwnSortedInts
namespace Go.Proofs.Ytkfbgejcoeeecaa
open Go.RowKit
set_option linter.unusedVariables false

open Go.Sort Go.Lib in
/-- Behind slices.Compact the cells hold what is kept. -/
theorem ints_putRow {w : World} {g cap q : Nat} {e : TypeId} {cur : Array Value} {ts rest : List Int} (hb : w.heap[g]? = some (.cells cur e (0, 0))) (hl : (ts ++ rest).length ≤ cap) (h2 : cap ≤ maxLen) (h3 : cur.size = cap * 1) :
    IntsAt (putRow (Value.int .i64) (Sort.ahead w q) g 0 (ts ++ rest).toArray) (some ⟨g, 0, none⟩) ts := by
  have h := ownsRow_sortedI (w := w) (n := q) (os := #[]) (base := 0) (ss := ts ++ rest) (ts := ts ++ rest) rfl (Nat.zero_le _) hb hl h2 h3
  rw [grow_empty] at h
  obtain ⟨a, c, hv, hI⟩ := ints_of_owns h
  cases hv
  rcases hI with h0 | ⟨b, off, e, hlt, hc⟩
  · rw [List.append_eq_nil_iff] at h0; exact Or.inl h0.1
  · refine Or.inr ⟨b, off, e, hlt, fun j z hz => hc j z ?_⟩
    rw [List.getElem?_append_left (List.getElem?_eq_some_iff.1 hz).1]; exact hz

set_option maxHeartbeats 2000000 in
set_option maxRecDepth 100000 in
theorem exits_any (x : Nd) (w : World) :
    Calls Try.prog 27 #[.agg #[.int .i64 x.op, .int .i64 x.d, .int .i64 x.a, .int .i64 x.b, .int .i64 x.t, .int .i64 x.e]] w fun e w' => ∃ a cap, e = .returned (.slice a (exl x).length cap) ∧ IntsAt w' a (exl x) ∧ Below w.heap.size w w' := by
  obtain ⟨i0, hi, hz0, hz1, hz2⟩ := info_parts info_int
  go_enter Try.func27, Try.ntmps27
  go_wp2_with fail
  refine (of_any _ _).mono ?_
  rintro e w1 ⟨rfl, hb1⟩
  have hs1 := hb1.size
  simp only [World.size_alloc] at hs1 hb1
  have hB : Below w.heap.size w w1 := ((Below.refl _ _).alloc (Nat.le_refl _) _).trans (hb1.mono (by omega))
  have d : ∀ o, o < 6 → w1.cell? ⟨w.heap.size, o, none⟩ = #[Value.int .i64 x.op, .int .i64 x.d, .int .i64 x.a, .int .i64 x.b, .int .i64 x.t, .int .i64 x.e][o]? := by
    intro o _; rw [hb1.cell (p := ⟨w.heap.size, o, none⟩) (by simp)]; simp
  have d0 := d 0 (by omega)
  have d1 := d 1 (by omega)
  have d2 := d 2 (by omega)
  have d3 := d 3 (by omega)
  have d4 := d 4 (by omega)
  have d5 := d 5 (by omega)
  simp at d0 d1 d2 d3 d4 d5
  clear hb1 d
  have hw1 : w.heap.size < w1.heap.size := by omega
  go_wp2_with fail
  refine (values_any _ _ _ _ _ _ _).mono ?_
  rintro e w2 ⟨rfl, hb2⟩
  have hs2 := hb2.size
  simp only [World.size_alloc] at hs2 hb2
  have hB2 : Below w.heap.size w w2 := (hB.alloc (by omega) _).trans (hb2.mono (by omega))
  have kc : ∀ o, w2.cell? ⟨w1.heap.size, o, none⟩ = #[Value.int .i64 (k0 x.op), .int .i64 (k1 x.op), .int .i64 (k2 x.op), .int .i64 (k3 x.op), .int .i64 (k4 x.op)][o]? := by
    intro o; rw [hb2.cell (p := ⟨w1.heap.size, o, none⟩) (by simp)]; simp
  clear hb2 d0 d1 d2 d3 d4 d5
  have KC := hide kc
  clear kc
  go_wp2
  go_loopw [3, 16] (fun v j wv => ∃ m : Nat, m ≤ 5 ∧ j = .int .i64 m ∧ wv.ownsRow (w1.heap.size + 1) 3 1 v (exs x m).length ((exs x m).map (Value.int .i64)) ∧ Hid (exs x m = [] → v = .slice none 0 0) ∧ Below (w1.heap.size + 1) w2 wv) (fun _ j _ => 5 - (intOf j).toNat)
  case atStart => exact ⟨0, Nat.zero_le _, rfl, World.ownsRow_nil _ _ _ _, fun _ => rfl, Below.refl _ _⟩
  case round =>
    obtain ⟨m, hm, rfl, hown, hnil, hv⟩ := hrel
    have hvs := hv.size
    have kc' : ∀ o, wr.cell? ⟨w1.heap.size, o, none⟩ = #[Value.int .i64 (k0 x.op), .int .i64 (k1 x.op), .int .i64 (k2 x.op), .int .i64 (k3 x.op), .int .i64 (k4 x.op)][o]? := by
      intro o; rw [hv.cell (p := ⟨w1.heap.size, o, none⟩) (by simp)]; exact KC.out o
    have kc0 := kc' 0
    have kc1 := kc' 1
    have kc2 := kc' 2
    have kc3 := kc' 3
    have kc4 := kc' 4
    simp at kc0 kc1 kc2 kc3 kc4
    clear kc'
    match m, hm with
    | 0, _ =>
      have i0 := idx5_0
      have hne := k0_ne x.op
      go_wp2
      go_roundw
      case rel => exact ⟨1, by omega, by go_num, hown, hnil, hv⟩
      case measure => simp [intOf]
    | 1, _ =>
      have i0 := idx5_1
      have hne := k1_ne x.op
      go_wp2
      go_roundw
      case rel => exact ⟨2, by omega, by go_num, hown, hnil, hv⟩
      case measure => simp [intOf]
    | 2, _ =>
      have i0 := idx5_2
      have hne := k2_ne x.op
      go_wp2
      go_roundw
      case rel => exact ⟨3, by omega, by go_num, hown, hnil, hv⟩
      case measure => simp [intOf]
    | 3, _ =>
      have i3 := idx5_3
      by_cases h3 : k3 x.op = 3
      · have hne : (k3 x.op == 3) = true := by simp [h3]
        have H3 := hide h3
        clear h3
        go_wp2_with (at_builtin; refine wpList_append_own _ rfl (.tmp 24) (.tmp 26) 25 rfl (w1.heap.size + 1) 3 i0 (.int .i64 0) 1 8 Try.underlying25 hi hz0 hz1 hz2 rfl (by decide) _ _ _ rfl (hown.alloc _) ⟨wr.heap.size, 0, none⟩ 1 1 [.int .i64 x.t] rfl rfl ?c1 ?c2 ?c3 ?c4 ?c5 ?_)
        case c1 =>
          intro j u hj
          match j, hj with
          | 0, hj => simp at hj; subst hj; simp [Addr.add]
        case c2 => intro u hu; simp at hu; subst hu; rfl
        case c3 => simp [exs, maxLen]
        case c4 => simp [exs]
        case c5 => simp; omega
        intro v' wa hown2 hg2 _
        have hlt1 := hown.lt
        have hB3 : Below (w1.heap.size + 1) w2 wa := (hv.alloc (by omega) _).grown hg2 (by simp; omega) (fun k hk => (hlt1 k hk).1)
        have hown3 : wa.ownsRow (w1.heap.size + 1) 3 1 v' (exs x 4).length ((exs x 4).map (Value.int .i64)) := by
          simp only [exs, E3, H3.out, if_true]; simpa [exs] using hown2
        clear hown2 hg2 hlt1 hown
        go_wp2
        go_roundw
        case rel => exact ⟨4, by omega, by go_num, hown3, (by intro h; simp [exs, E3, H3.out] at h), hB3⟩
        case measure => simp [intOf]
      · have hne : (k3 x.op == 3) = false := by simp [h3]
        have H3 := hide h3
        clear h3
        go_wp2
        go_roundw
        case rel => exact ⟨4, by omega, by go_num, by simpa [exs, E3, H3.out] using hown, (by intro _; exact hnil.out rfl), hv⟩
        case measure => simp [intOf]
    | 4, _ =>
      have i4 := idx5_4
      by_cases h4 : k4 x.op = 3
      · have hne : (k4 x.op == 3) = true := by simp [h4]
        have H4 := hide h4
        have hle := exs_len x 4
        clear h4
        go_wp2_with (at_builtin; refine wpList_append_own _ rfl (.tmp 24) (.tmp 26) 25 rfl (w1.heap.size + 1) 3 i0 (.int .i64 0) 1 8 Try.underlying25 hi hz0 hz1 hz2 rfl (by decide) _ _ _ rfl (hown.alloc _) ⟨wr.heap.size, 0, none⟩ 1 1 [.int .i64 x.e] rfl rfl ?c1 ?c2 ?c3 ?c4 ?c5 ?_)
        case c1 =>
          intro j u hj
          match j, hj with
          | 0, hj => simp at hj; subst hj; simp [Addr.add]
        case c2 => intro u hu; simp at hu; subst hu; rfl
        case c3 => unfold maxLen; omega
        case c4 => omega
        case c5 => simp; omega
        intro v' wa hown2 hg2 _
        have hlt1 := hown.lt
        have hB3 : Below (w1.heap.size + 1) w2 wa := (hv.alloc (by omega) _).grown hg2 (by simp; omega) (fun k hk => (hlt1 k hk).1)
        have hown3 : wa.ownsRow (w1.heap.size + 1) 3 1 v' (exs x 5).length ((exs x 5).map (Value.int .i64)) := by
          simp only [exs, E4, H4.out, if_true]; simpa [exs] using hown2
        clear hown2 hg2 hlt1 hown
        go_wp2
        go_roundw
        case rel => exact ⟨5, by omega, by go_num, hown3, (by intro h; simp [exs, E4, H4.out] at h), hB3⟩
        case measure => simp [intOf]
      · have hne : (k4 x.op == 3) = false := by simp [h4]
        have H4 := hide h4
        clear h4
        go_wp2
        go_roundw
        case rel => exact ⟨5, by omega, by go_num, by simpa [exs, E4, H4.out] using hown, (by intro h; exact hnil.out (by simpa [exs, E4, H4.out] using h)), hv⟩
        case measure => simp [intOf]
    | 5, _ =>
      have hBw : Below w.heap.size w wr := hB2.trans (hv.mono (by omega))
      have hle := exs_len x 5
      by_cases he : exs x 5 = []
      · have hv0 := hnil.out he
        have hx0 := exs_nil he
        have HX0 := hide hx0
        subst hv0
        clear hown hnil kc0 kc1 kc2 kc3 kc4 he hx0
        go_wp2_with (first | (go_at_call 49; refine (Try.slices_Sort_int_none _ _ _).mono ?_; rintro e w' ⟨rfl, rfl⟩) | (go_at_call 50; refine (Try.slices_Compact_int_empty _ _ _).mono ?_; rintro e w' ⟨rfl, rfl⟩))
        go_ret
        exact ⟨none, 0, by rw [HX0.out]; rfl, by rw [HX0.out]; exact Or.inl rfl, hBw⟩
      · obtain ⟨hlen, hcase⟩ := hown
        rcases hcase with ⟨_, h0⟩ | ⟨g, cap, cur, hv5, hbase, hblk, hcap, hmax, hcs, htake⟩
        · exact absurd (List.eq_nil_of_length_eq_zero h0) he
        subst hv5
        have hxl := exl_eq x
        have HXL := hide hxl
        rw [Nat.mul_one] at htake hlen
        have hH := holds_of_blockI hblk htake
        have hgl : g < wr.heap.size := (Array.getElem?_eq_some_iff.1 hblk).1
        have hc1 := Try.slices_Sort_int g 0 cap (exs x 5) wr hH hgl (by omega)
        have HB := hide hblk
        clear hnil kc0 kc1 kc2 kc3 kc4 he hxl hlen htake hH hblk
        go_wp2_with fail
        refine hc1.mono ?_
        rintro e w3 ⟨rfl, n3, os3, hw3⟩
        have hts : ((exs x 5).mergeSort fun x y => decide (x ≤ y)).length = (exs x 5).length := List.length_mergeSort _
        have HW3 := hide hw3
        have hown3 := ownsRow_sortedI (n := n3) (os := os3) hts hbase HB.out hcap hmax hcs
        have hg3 := grownBy_sortedI (w := wr) (g := g) (n := n3) (os := os3) ((exs x 5).mergeSort fun x y => decide (x ≤ y)).toArray
        rw [← hw3] at hown3 hg3
        clear hw3 hc1
        have hxl := HXL.out
        clear HXL
        generalize ((exs x 5).mergeSort fun x y => decide (x ≤ y)) = ts at hts hown3 hg3 hxl HW3
        have HXL := hide hxl
        clear hxl
        obtain ⟨_, hcase⟩ := hown3
        rcases hcase with ⟨hx, _⟩ | ⟨g', cap', cur', hv5, hbase', hblk', hcap', hmax', hcs', htake'⟩
        · cases hx
        cases hv5
        rw [Nat.mul_one, ← hts] at htake'
        have hH' := holds_of_blockI hblk' htake'
        have hc2 := Try.slices_Compact_int g 0 cap ts w3 hH' (by omega) (by omega)
        rw [hts] at hc2
        have HB' := hide hblk'
        have hB3 : Below w.heap.size w w3 := hBw.grown hg3 (by omega) (fun k hk => by cases hk; omega)
        have hs3 := hB3.size
        have HT := hide hts
        clear hblk' htake' hH' hg3 hts
        go_wp2_with fail
        refine hc2.mono ?_
        rintro e w4 ⟨rfl, q, hw4⟩
        have hle := compact_le ts
        have hI := ints_putRow (q := q) (ts := Lib.compact ts) (rest := List.replicate ((exs x 5).length - (Lib.compact ts).length) 0) HB'.out (by have := HT.out; simp; omega) hmax' hcs'
        rw [← hw4] at hI
        have hB4 : Below w.heap.size w w4 := by
          have hg4 := grownBy_sortedI (w := w3) (g := g) (n := q) (os := #[]) (Lib.compact ts ++ List.replicate ((exs x 5).length - (Lib.compact ts).length) 0).toArray
          rw [Sort.grow_empty, ← hw4] at hg4
          exact hB3.grown hg4 (by omega) (fun k hk => by cases hk; omega)
        clear hw4 hc2
        go_wp2
        go_ret
        refine ⟨_, cap, ?_, by rw [HXL.out]; exact hI, hB4⟩
        rw [HXL.out]; rfl
    | n + 6, hm => omega
end Go.Proofs.Ytkfbgejcoeeecaa
