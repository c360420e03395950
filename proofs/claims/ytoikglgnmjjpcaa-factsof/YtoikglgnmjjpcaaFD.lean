/-
  ask.Each, and the survey's each, none, all, walked.
  shape.Sets, Reckons, Keeps and the document's reckonsIt, keepsIt, walked.
  The survey's solve and notReckoning, and the closures of look, walked.
  The survey's down, walked; what lies in memory of a survey.
-/
import Derived.Test.YtoikglgnmjjpcaaMG
namespace Go.Proofs.Ytoikglgnmjjpcaa
open Go.RowKit Go.Shelf
set_option linter.unusedVariables false
set_option linter.unusedSimpArgs false

theorem part_set (R : Nat → Bool) {k n : Nat} (h : k < n) : ((List.range k).map R ++ List.replicate (n - k) false).set k (R k) = (List.range (k + 1)).map R ++ List.replicate (n - (k + 1)) false := by
  obtain ⟨d, hd⟩ : ∃ d, n - k = d + 1 := ⟨n - k - 1, by omega⟩
  have e : n - (k + 1) = d := by omega
  rw [hd, e, List.replicate_succ, List.set_append_right _ _ (by simp)]
  simp [List.range_succ]

theorem part_get (R : Nat → Bool) {k n : Nat} (h : k < n) : (((List.range k).map R ++ List.replicate (n - k) false).map Value.bool).toArray[k]? = some (.bool false) := by
  obtain ⟨d, hd⟩ : ∃ d, n - k = d + 1 := ⟨n - k - 1, by omega⟩
  rw [hd, List.getElem?_toArray, List.getElem?_map, List.getElem?_append_right (by simp)]
  simp

set_option maxHeartbeats 2000000 in
set_option maxRecDepth 100000 in
theorem askEach_any (R : Nat → Bool) (g : Nat) (cb : Array Value) (n : Nat) (w : World) (hn : n ≤ 256)
    (eg : ∀ args w, (callFunc g args).run Try.prog w = .ok (.enter g args) w)
    (hg : ∀ i, i < n → ∀ W : World, Below w.heap.size w W → Calls Try.prog g (#[.int .i64 (i : Int)] ++ cb) W fun e w' => e = .returned (.bool (R i)) ∧ Below W.heap.size W w') :
    Calls Try.prog 133 #[.int .i64 (n : Int), .func (.func g) #[] cb] w fun e w' => ∃ v, e = .returned v ∧ w'.ownsRow w.heap.size 4 1 v n (((List.range n).map R).map Value.bool) ∧ Below w.heap.size w w' := by
  have hms : ∀ W : World, Sem.run Try.prog (Instr.makeSlice 53 (.int .i64 (n : Int)) (.int .i64 (n : Int))) W = .ok (.slice (some ⟨W.heap.size, 0, none⟩) n n) (W.alloc (.cells (madeCells #[.bool false] n) 4)) := fun W => run_make_row' 53 4 _ 1 Try.underlying53 info_boolF rfl .i64 .i64 n (by omega) (by omega) W
  have HG := hide hg
  clear hg
  go_enter Try.func133, Try.ntmps133
  go_wp2
  have hB0 : Below w.heap.size w (w.alloc (.cells (madeCells #[.bool false] n) 4)) := (Below.refl _ w).alloc (Nat.le_refl _) _
  have hX0 : (w.alloc (.cells (madeCells #[.bool false] n) 4)).heap[w.heap.size]? = some (.cells (((List.range 0).map R ++ List.replicate (n - 0) false).map Value.bool).toArray 4 (0, 0)) := by
    rw [World.alloc_heap_new, made_boolsF]; simp
  generalize (w.alloc (.cells (madeCells #[.bool false] n) 4)) = W0 at hB0 hX0 ⊢
  have HX0 := hide hX0
  clear hX0 hms
  go_loopw [11] (fun i wr => ∃ k : Nat, k ≤ n ∧ i = .int .i64 k ∧ wr.heap[w.heap.size]? = some (.cells (((List.range k).map R ++ List.replicate (n - k) false).map Value.bool).toArray 4 (0, 0)) ∧ Below w.heap.size w wr) (fun i _ => n - (intOf i).toNat)
  case atStart => exact ⟨0, Nat.zero_le _, rfl, HX0.out, hB0⟩
  case round =>
    obtain ⟨k, hk, rfl, hX, hb⟩ := hrel
    have hXl := blk_lt hX
    by_cases hlt : k < n
    · have hki : (k : Int) < (n : Int) := by omega
      have HX := hide hX
      have HB := hide hb
      clear hX hb
      go_wp2_with fail
      refine (HG.out k hlt _ HB.out).mono ?_
      rintro e w1 ⟨rfl, hb1⟩
      have hX1 := (hb1.block _ hXl).trans HX.out
      have hxc := blk_cell hX1 k
      rw [part_get R hlt] at hxc
      have hxf := blk_frozen hX1 k
      have hXl1 := blk_lt hX1
      have HX1 := hide hX1
      have HB1 := hide (HB.out.trans (hb1.mono HB.out.size))
      clear hX1 hb1
      go_wp2
      go_roundw
      case rel =>
        refine ⟨k + 1, by omega, by go_num, ?_, HB1.out.setCell (p := ⟨w.heap.size, k, none⟩) (Nat.le_refl _) _⟩
        rw [blk_set _ HX1.out, ← part_set R hlt]
        simp only [List.map_set, List.setIfInBounds_toArray]
      case measure => simp [intOf]; omega
    · have ek : k = n := by omega
      subst ek
      have HX := hide hX
      have HB := hide hb
      clear hX hb
      go_wp2
      go_ret
      refine ⟨_, rfl, ⟨by simp, Or.inr ⟨w.heap.size, k, _, rfl, Nat.le_refl _, HX.out, Nat.le_refl _, by unfold maxLen; omega, by simp, ?_⟩⟩, HB.out⟩
      rw [Nat.mul_one, List.toList_toArray, List.take_of_length_le (by simp)]; simp

set_option maxHeartbeats 2000000 in
set_option maxRecDepth 100000 in
theorem each_any (R : Nat → Bool) (g : Nat) (cb : Array Value) (r : Int) (a : Option Addr) (L cap : Nat) (v2 v3 v4 v5 : Value) (w : World) (hn : L ≤ 256)
    (eg : ∀ args w, (callFunc g args).run Try.prog w = .ok (.enter g args) w)
    (hg : ∀ i, i < L → ∀ W : World, Below w.heap.size w W → Calls Try.prog g (#[.int .i64 (i : Int)] ++ cb) W fun e w' => e = .returned (.bool (R i)) ∧ Below W.heap.size W w') :
    Calls Try.prog 112 #[.agg #[.int .i64 r, .slice a L cap, v2, v3, v4, v5], .func (.func g) #[] cb] w fun e w' => ∃ v, e = .returned v ∧ w'.ownsRow w.heap.size 4 1 v L (((List.range L).map R).map Value.bool) ∧ Below w.heap.size w w' := by
  have hb0 : Below w.heap.size w (w.alloc (.cells #[.int .i64 r, .slice a L cap, v2, v3, v4, v5] 123)) := (Below.refl _ w).alloc (Nat.le_refl _) _
  have hae := askEach_any R g cb L (w.alloc (.cells #[.int .i64 r, .slice a L cap, v2, v3, v4, v5] 123)) hn eg (fun i hi W hW => hg i hi W (hb0.trans (hW.mono hb0.size)))
  have HAE := hide hae
  clear hae hg
  go_enter Try.func112, Try.ntmps112
  go_wp2_with fail
  refine HAE.out.mono ?_
  rintro e w1 ⟨v, rfl, hv, hb1⟩
  have HV := hide hv
  clear hv
  go_wp2
  go_ret
  exact ⟨_, rfl, ownsRow_base HV.out hb0.size, hb0.trans (hb1.mono hb0.size)⟩

set_option maxHeartbeats 1000000 in
theorem none1_any (i : Int) (w : World) : Calls Try.prog 135 #[.int .i64 i] w fun e w' => e = .returned (.bool false) ∧ w' = w := by
  go_enter Try.func135, Try.ntmps135
  go_wp2
  go_ret
  exact ⟨rfl, rfl⟩
set_option maxHeartbeats 1000000 in
theorem all1_any (i : Int) (w : World) : Calls Try.prog 136 #[.int .i64 i] w fun e w' => e = .returned (.bool true) ∧ w' = w := by
  go_enter Try.func136, Try.ntmps136
  go_wp2
  go_ret
  exact ⟨rfl, rfl⟩
theorem map_const (b : Bool) (L : Nat) : (List.range L).map (fun _ => b) = List.replicate L b := by
  induction L with
  | zero => rfl
  | succ n ih => rw [List.range_succ, List.map_append, ih, List.replicate_succ']; rfl

set_option maxHeartbeats 2000000 in
set_option maxRecDepth 100000 in
theorem none_any (r : Int) (a : Option Addr) (L cap : Nat) (v2 v3 v4 v5 : Value) (w : World) (hn : L ≤ 256) :
    Calls Try.prog 118 #[.agg #[.int .i64 r, .slice a L cap, v2, v3, v4, v5]] w fun e w' => ∃ v, e = .returned v ∧ w'.ownsRow w.heap.size 4 1 v L ((nol L).map Value.bool) ∧ Below w.heap.size w w' := by
  have eg : ∀ args w, (callFunc 135 args).run Try.prog w = .ok (.enter 135 args) w := enters_of Try.func135 (by kernel_rfl) rfl
  have hb0 : Below w.heap.size w (w.alloc (.cells #[.int .i64 r, .slice a L cap, v2, v3, v4, v5] 123)) := (Below.refl _ w).alloc (Nat.le_refl _) _
  have hea := each_any (fun _ => false) 135 #[] r a L cap v2 v3 v4 v5 (w.alloc (.cells #[.int .i64 r, .slice a L cap, v2, v3, v4, v5] 123)) hn eg (fun i hi W hW => (none1_any i W).mono (by rintro e w' ⟨rfl, rfl⟩; exact ⟨rfl, Below.refl _ _⟩))
  rw [map_const] at hea
  have HEA := hide hea
  clear hea
  go_enter Try.func118, Try.ntmps118
  go_wp2_with fail
  refine HEA.out.mono ?_
  rintro e w1 ⟨v, rfl, hv, hb1⟩
  have HV := hide hv
  clear hv
  go_wp2
  go_ret
  exact ⟨_, rfl, ownsRow_base HV.out hb0.size, hb0.trans (hb1.mono hb0.size)⟩

set_option maxHeartbeats 2000000 in
set_option maxRecDepth 100000 in
theorem all_any (r : Int) (a : Option Addr) (L cap : Nat) (v2 v3 v4 v5 : Value) (w : World) (hn : L ≤ 256) :
    Calls Try.prog 119 #[.agg #[.int .i64 r, .slice a L cap, v2, v3, v4, v5]] w fun e w' => ∃ v, e = .returned v ∧ w'.ownsRow w.heap.size 4 1 v L ((yesl L).map Value.bool) ∧ Below w.heap.size w w' := by
  have eg : ∀ args w, (callFunc 136 args).run Try.prog w = .ok (.enter 136 args) w := enters_of Try.func136 (by kernel_rfl) rfl
  have hb0 : Below w.heap.size w (w.alloc (.cells #[.int .i64 r, .slice a L cap, v2, v3, v4, v5] 123)) := (Below.refl _ w).alloc (Nat.le_refl _) _
  have hea := each_any (fun _ => true) 136 #[] r a L cap v2 v3 v4 v5 (w.alloc (.cells #[.int .i64 r, .slice a L cap, v2, v3, v4, v5] 123)) hn eg (fun i hi W hW => (all1_any i W).mono (by rintro e w' ⟨rfl, rfl⟩; exact ⟨rfl, Below.refl _ _⟩))
  rw [map_const] at hea
  have HEA := hide hea
  clear hea
  go_enter Try.func119, Try.ntmps119
  go_wp2_with fail
  refine HEA.out.mono ?_
  rintro e w1 ⟨v, rfl, hv, hb1⟩
  have HV := hide hv
  clear hv
  go_wp2
  go_ret
  exact ⟨_, rfl, ownsRow_base HV.out hb0.size, hb0.trans (hb1.mono hb0.size)⟩
end Go.Proofs.Ytoikglgnmjjpcaa

namespace Go.Proofs.Ytoikglgnmjjpcaa
open Go.RowKit Go.Shelf
set_option linter.unusedVariables false
set_option linter.unusedSimpArgs false

set_option maxHeartbeats 2000000 in
theorem sets_any (x : Nd) (w : World) :
    Calls Try.prog 134 #[.agg #[.int .i64 x.op, .int .i64 x.d, .int .i64 x.a, .int .i64 x.b, .int .i64 x.t, .int .i64 x.e]] w fun e w' => ∃ z, e = .returned (.tuple #[.int .i64 z, .bool (wi x.op 1 9)]) ∧ (wi x.op 1 9 = true → z = x.d) ∧ Below w.heap.size w w' := by
  have hb0 : Below w.heap.size w (w.alloc (.cells #[.int .i64 x.op, .int .i64 x.d, .int .i64 x.a, .int .i64 x.b, .int .i64 x.t, .int .i64 x.e] 87)) := (Below.refl _ w).alloc (Nat.le_refl _) _
  have hn : (w.alloc (.cells #[.int .i64 x.op, .int .i64 x.d, .int .i64 x.a, .int .i64 x.b, .int .i64 x.t, .int .i64 x.e] 87)).heap[w.heap.size]? = some (.cells #[.int .i64 x.op, .int .i64 x.d, .int .i64 x.a, .int .i64 x.b, .int .i64 x.t, .int .i64 x.e] 87 (0, 0)) := World.alloc_heap_new w _
  go_enter Try.func134, Try.ntmps134
  go_wp2_with fail
  generalize (w.alloc (.cells #[.int .i64 x.op, .int .i64 x.d, .int .i64 x.a, .int .i64 x.b, .int .i64 x.t, .int .i64 x.e] 87)) = W at hb0 hn ⊢
  refine (of_any _ _).mono ?_
  rintro e w1 ⟨rfl, hb1⟩
  have hn1 := (hb1.block _ (blk_lt hn)).trans hn
  have c1 := blk_cell hn1 1
  simp at c1
  have cl := blk_lt hn1
  have HB := hide (hb0.trans (hb1.mono hb0.size))
  clear hn hn1 hb1 hb0
  have HK : Hid (k0 x.op = if wi x.op 1 9 then 1 else 0) := rfl
  generalize k0 x.op = K at HK ⊢
  cases hw : wi x.op 1 9
  · obtain rfl : K = 0 := by rw [HK.out, hw]; rfl
    have HQ := hide hw
    clear hw
    go_wp2
    go_ret2
    exact ⟨0, by rw [HQ.out]; rfl, (fun h => by rw [HQ.out] at h; cases h), HB.out.alloc HB.out.size _⟩
  · obtain rfl : K = 1 := by rw [HK.out, hw]; rfl
    have HQ := hide hw
    clear hw
    go_wp2
    go_ret2
    exact ⟨x.d, by rw [HQ.out]; rfl, (fun _ => rfl), HB.out.alloc HB.out.size _⟩

set_option maxHeartbeats 4000000 in
theorem keeps_any (x : Nd) (t : Tm) (w : World) :
    Calls Try.prog 116 #[.agg #[.int .i64 x.op, .int .i64 x.d, .int .i64 x.a, .int .i64 x.b, .int .i64 x.t, .int .i64 x.e], .agg #[.int .i64 t.op, .int .i64 t.a, .int .i64 t.b]] w fun e w' => e = .returned (.bool (kpB t x)) ∧ Below w.heap.size w w' := by
  have hb0 : Below w.heap.size w ((w.alloc (.cells #[.int .i64 x.op, .int .i64 x.d, .int .i64 x.a, .int .i64 x.b, .int .i64 x.t, .int .i64 x.e] 87)).alloc (.cells #[.int .i64 t.op, .int .i64 t.a, .int .i64 t.b] 36)) := ((Below.refl _ w).alloc (Nat.le_refl _) _).alloc (by simp) _
  have hn : ((w.alloc (.cells #[.int .i64 x.op, .int .i64 x.d, .int .i64 x.a, .int .i64 x.b, .int .i64 x.t, .int .i64 x.e] 87)).alloc (.cells #[.int .i64 t.op, .int .i64 t.a, .int .i64 t.b] 36)).heap[w.heap.size + 1]? = some (.cells #[.int .i64 t.op, .int .i64 t.a, .int .i64 t.b] 36 (0, 0)) := by
    have := World.alloc_heap_new (w.alloc (.cells #[.int .i64 x.op, .int .i64 x.d, .int .i64 x.a, .int .i64 x.b, .int .i64 x.t, .int .i64 x.e] 87)) (.cells #[.int .i64 t.op, .int .i64 t.a, .int .i64 t.b] 36)
    rwa [World.size_alloc] at this
  go_enter Try.func116, Try.ntmps116
  go_wp2_with fail
  generalize ((w.alloc (.cells #[.int .i64 x.op, .int .i64 x.d, .int .i64 x.a, .int .i64 x.b, .int .i64 x.t, .int .i64 x.e] 87)).alloc (.cells #[.int .i64 t.op, .int .i64 t.a, .int .i64 t.b] 36)) = W at hb0 hn ⊢
  refine (sets_any x _).mono ?_
  rintro e w1 ⟨z, rfl, hz, hb1⟩
  have hn1 := (hb1.block _ (blk_lt hn)).trans hn
  have c1 := blk_cell hn1 1
  have c2 := blk_cell hn1 2
  simp at c1 c2
  have cl := blk_lt hn1
  have HB := hide (hb0.trans (hb1.mono hb0.size))
  clear hn hn1 hb1 hb0
  have HK : Hid (kpB t x = (!wi x.op 1 9 || (x.d != t.a && x.d != t.b))) := rfl
  generalize wi x.op 1 9 = Q at HK hz ⊢
  cases Q
  · go_wp2
    go_ret
    exact ⟨ret_bool (by rw [HK.out]; rfl), HB.out⟩
  · obtain rfl := hz rfl
    by_cases h1 : x.d = t.a
    · go_wp2
      go_ret
      exact ⟨ret_bool (by rw [HK.out]; simp [h1]), HB.out⟩
    · by_cases h2 : x.d = t.b
      · go_wp2
        go_ret
        exact ⟨ret_bool (by rw [HK.out]; simp [h2]), HB.out⟩
      · go_wp2
        go_ret
        exact ⟨ret_bool (by rw [HK.out]; simp [h1, h2]), HB.out⟩

set_option maxHeartbeats 4000000 in
theorem sreckons_any (x : Nd) (t : Tm) (w : World) (ht : 3 ≤ t.op ∧ t.op ≤ 8) :
    Calls Try.prog 114 #[.agg #[.int .i64 x.op, .int .i64 x.d, .int .i64 x.a, .int .i64 x.b, .int .i64 x.t, .int .i64 x.e], .agg #[.int .i64 t.op, .int .i64 t.a, .int .i64 t.b]] w fun e w' => e = .returned (.bool (rcB t x)) ∧ Below w.heap.size w w' := by
  have hb0 : Below w.heap.size w ((w.alloc (.cells #[.int .i64 x.op, .int .i64 x.d, .int .i64 x.a, .int .i64 x.b, .int .i64 x.t, .int .i64 x.e] 87)).alloc (.cells #[.int .i64 t.op, .int .i64 t.a, .int .i64 t.b] 36)) := ((Below.refl _ w).alloc (Nat.le_refl _) _).alloc (by simp) _
  have hn : ((w.alloc (.cells #[.int .i64 x.op, .int .i64 x.d, .int .i64 x.a, .int .i64 x.b, .int .i64 x.t, .int .i64 x.e] 87)).alloc (.cells #[.int .i64 t.op, .int .i64 t.a, .int .i64 t.b] 36)).heap[w.heap.size + 1]? = some (.cells #[.int .i64 t.op, .int .i64 t.a, .int .i64 t.b] 36 (0, 0)) := by
    have := World.alloc_heap_new (w.alloc (.cells #[.int .i64 x.op, .int .i64 x.d, .int .i64 x.a, .int .i64 x.b, .int .i64 x.t, .int .i64 x.e] 87)) (.cells #[.int .i64 t.op, .int .i64 t.a, .int .i64 t.b] 36)
    rwa [World.size_alloc] at this
  have HR : Hid (rcB t x = (x.op == t.op && x.a == t.a && x.b == t.b)) := rfl
  have HT := hide ht
  clear ht
  go_enter Try.func114, Try.ntmps114
  go_wp2_with fail
  generalize ((w.alloc (.cells #[.int .i64 x.op, .int .i64 x.d, .int .i64 x.a, .int .i64 x.b, .int .i64 x.t, .int .i64 x.e] 87)).alloc (.cells #[.int .i64 t.op, .int .i64 t.a, .int .i64 t.b] 36)) = W at hb0 hn ⊢
  by_cases hq : 3 ≤ x.op ∧ x.op ≤ 8
  · refine (term_yes _ _ _ _ _ _ _ hq.1 hq.2).mono ?_
    rintro e w1 ⟨rfl, hb1⟩
    have hn1 := (hb1.block _ (blk_lt hn)).trans hn
    have c0 := blk_cell hn1 0
    have c1 := blk_cell hn1 1
    have c2 := blk_cell hn1 2
    simp at c0 c1 c2
    have cl := blk_lt hn1
    have HB := hide (hb0.trans (hb1.mono hb0.size))
    clear hn hn1 hb1 hb0 hq
    by_cases h1 : x.op = t.op
    · by_cases h2 : x.a = t.a
      · by_cases h3 : x.b = t.b
        · go_wp2
          go_ret
          exact ⟨ret_bool (by rw [HR.out]; simp [h1, h2, h3]), HB.out.alloc HB.out.size _⟩
        · go_wp2
          go_ret
          exact ⟨ret_bool (by rw [HR.out]; simp [h3]), HB.out.alloc HB.out.size _⟩
      · go_wp2
        go_ret
        exact ⟨ret_bool (by rw [HR.out]; simp [h2]), HB.out.alloc HB.out.size _⟩
    · go_wp2
      go_ret
      exact ⟨ret_bool (by rw [HR.out]; simp [h1]), HB.out.alloc HB.out.size _⟩
  · refine (term_no _ _ _ _ _ _ _ (by omega)).mono ?_
    rintro e w1 ⟨rfl, hb1⟩
    have HB := hide (hb0.trans (hb1.mono hb0.size))
    have hne : (x.op == t.op) = false := by have := HT.out; rw [beq_eq_false_iff_ne]; omega
    have HN := hide hne
    clear hn hb1 hb0 hq hne
    go_wp2
    go_ret
    exact ⟨ret_bool (by rw [HR.out, HN.out]; rfl), HB.out.alloc HB.out.size _⟩

set_option maxHeartbeats 4000000 in
theorem reckonsIt_any (x : Nd) (t : Tm) (w : World) :
    Calls Try.prog 93 #[.agg #[.int .i64 x.op, .int .i64 x.d, .int .i64 x.a, .int .i64 x.b, .int .i64 x.t, .int .i64 x.e], .agg #[.int .i64 t.op, .int .i64 t.a, .int .i64 t.b]] w fun e w' => e = .returned (.bool (rcB t x)) ∧ Below w.heap.size w w' := by
  have hb0 : Below w.heap.size w ((w.alloc (.cells #[.int .i64 x.op, .int .i64 x.d, .int .i64 x.a, .int .i64 x.b, .int .i64 x.t, .int .i64 x.e] 87)).alloc (.cells #[.int .i64 t.op, .int .i64 t.a, .int .i64 t.b] 36)) := ((Below.refl _ w).alloc (Nat.le_refl _) _).alloc (by simp) _
  have HR : Hid (rcB t x = (x.op == t.op && x.a == t.a && x.b == t.b)) := rfl
  by_cases h1 : x.op = t.op
  · by_cases h2 : x.a = t.a
    · have h3 : x.b = t.b ∨ ¬ x.b = t.b := Classical.em _
      rcases h3 with h3 | h3
      · go_enter Try.func93, Try.ntmps93
        go_wp2
        go_ret
        exact ⟨ret_bool (by rw [HR.out]; simp [h1, h2, h3]), by simpa [h1, h2, h3] using hb0⟩
      · go_enter Try.func93, Try.ntmps93
        go_wp2
        go_ret
        exact ⟨ret_bool (by rw [HR.out]; simp [h3]), by simpa [h1, h2] using hb0⟩
    · go_enter Try.func93, Try.ntmps93
      go_wp2
      go_ret
      exact ⟨ret_bool (by rw [HR.out]; simp [h2]), by simpa [h1] using hb0⟩
  · go_enter Try.func93, Try.ntmps93
    go_wp2
    go_ret
    exact ⟨ret_bool (by rw [HR.out]; simp [h1]), hb0⟩
end Go.Proofs.Ytoikglgnmjjpcaa

namespace Go.Proofs.Ytoikglgnmjjpcaa
open Go.RowKit Go.Shelf
set_option linter.unusedVariables false
set_option linter.unusedSimpArgs false

set_option maxHeartbeats 4000000 in
theorem keepsIt_any (x : Nd) (t : Tm) (w : World) :
    Calls Try.prog 94 #[.agg #[.int .i64 x.op, .int .i64 x.d, .int .i64 x.a, .int .i64 x.b, .int .i64 x.t, .int .i64 x.e], .agg #[.int .i64 t.op, .int .i64 t.a, .int .i64 t.b]] w fun e w' => e = .returned (.bool (kpB t x)) ∧ Below w.heap.size w w' := by
  have hb0 : Below w.heap.size w ((w.alloc (.cells #[.int .i64 x.op, .int .i64 x.d, .int .i64 x.a, .int .i64 x.b, .int .i64 x.t, .int .i64 x.e] 87)).alloc (.cells #[.int .i64 t.op, .int .i64 t.a, .int .i64 t.b] 36)) := ((Below.refl _ w).alloc (Nat.le_refl _) _).alloc (by simp) _
  have hn : ((w.alloc (.cells #[.int .i64 x.op, .int .i64 x.d, .int .i64 x.a, .int .i64 x.b, .int .i64 x.t, .int .i64 x.e] 87)).alloc (.cells #[.int .i64 t.op, .int .i64 t.a, .int .i64 t.b] 36)).heap[w.heap.size + 1]? = some (.cells #[.int .i64 t.op, .int .i64 t.a, .int .i64 t.b] 36 (0, 0)) := by
    have := World.alloc_heap_new (w.alloc (.cells #[.int .i64 x.op, .int .i64 x.d, .int .i64 x.a, .int .i64 x.b, .int .i64 x.t, .int .i64 x.e] 87)) (.cells #[.int .i64 t.op, .int .i64 t.a, .int .i64 t.b] 36)
    rwa [World.size_alloc] at this
  have hm : ((w.alloc (.cells #[.int .i64 x.op, .int .i64 x.d, .int .i64 x.a, .int .i64 x.b, .int .i64 x.t, .int .i64 x.e] 87)).alloc (.cells #[.int .i64 t.op, .int .i64 t.a, .int .i64 t.b] 36)).heap[w.heap.size]? = some (.cells #[.int .i64 x.op, .int .i64 x.d, .int .i64 x.a, .int .i64 x.b, .int .i64 x.t, .int .i64 x.e] 87 (0, 0)) := (Below.heap_alloc _ _ _ (by simp)).trans (World.alloc_heap_new w _)
  go_enter Try.func94, Try.ntmps94
  go_wp2_with fail
  generalize ((w.alloc (.cells #[.int .i64 x.op, .int .i64 x.d, .int .i64 x.a, .int .i64 x.b, .int .i64 x.t, .int .i64 x.e] 87)).alloc (.cells #[.int .i64 t.op, .int .i64 t.a, .int .i64 t.b] 36)) = W at hb0 hn hm ⊢
  refine (fields_any _ _).mono ?_
  rintro e w1 ⟨rfl, rfl⟩
  have c1 := blk_cell hn 1
  have c2 := blk_cell hn 2
  have d1 := blk_cell hm 1
  simp at c1 c2 d1
  have cl := blk_lt hn
  have dl := blk_lt hm
  have HB := hide hb0
  clear hn hm hb0
  have HK : Hid (kpB t x = (!wi x.op 1 9 || (x.d != t.a && x.d != t.b))) := rfl
  generalize wi x.op 1 9 = Q at HK ⊢
  cases Q
  · go_wp2
    go_ret
    exact ⟨ret_bool (by rw [HK.out]; rfl), HB.out⟩
  · by_cases h1 : x.d = t.a
    · go_wp2
      go_ret
      exact ⟨ret_bool (by rw [HK.out]; simp [h1]), HB.out⟩
    · by_cases h2 : x.d = t.b
      · go_wp2
        go_ret
        exact ⟨ret_bool (by rw [HK.out]; simp [h2]), HB.out⟩
      · go_wp2
        go_ret
        exact ⟨ret_bool (by rw [HK.out]; simp [h1, h2]), HB.out⟩

set_option maxHeartbeats 4000000 in
set_option maxRecDepth 100000 in
theorem ssolve_any (r : Int) (b off cap : Nat) (ns : List Nd) (f : Flw) (a1 a2 a3 a4 : Option Addr) (c1 c2 c3 c4 : Nat) (v2 v3 v4 v5 : Value) (w : World) (hN : NodesAt w b off ns) (hc : fchk r ns f = 0) (h1 : BoolsAt w a1 f.gen) (h2 : BoolsAt w a2 f.pass) (h3 : BoolsAt w a3 f.plus) (h4 : BoolsAt w a4 f.lets) :
    Calls Try.prog 117 #[.agg #[.int .i64 r, .slice (some ⟨b, off, none⟩) ns.length cap, v2, v3, v4, v5], .agg #[.bool f.back, .bool f.empty, .slice a1 f.gen.length c1, .slice a2 f.pass.length c2, .slice a3 f.plus.length c3, .slice a4 f.lets.length c4]] w fun e w' => ∃ v, e = .returned v ∧ w'.ownsRow w.heap.size 4 1 v ns.length ((solve ns f).map Value.bool) ∧ Below w.heap.size w w' := by
  have hb0 : Below w.heap.size w ((w.alloc (.cells #[.int .i64 r, .slice (some ⟨b, off, none⟩) ns.length cap, v2, v3, v4, v5] 123)).alloc (.cells #[.bool f.back, .bool f.empty, .slice a1 f.gen.length c1, .slice a2 f.pass.length c2, .slice a3 f.plus.length c3, .slice a4 f.lets.length c4] 66)) := ((Below.refl _ w).alloc (Nat.le_refl _) _).alloc (by simp) _
  have hsv := solve_right r b off cap ns f a1 a2 a3 a4 c1 c2 c3 c4 _ (hN.below hb0 hN.lt) hc (h1.below hb0) (h2.below hb0) (h3.below hb0) (h4.below hb0)
  have HSV := hide hsv
  clear hsv hN hc h1 h2 h3 h4
  go_enter Try.func117, Try.ntmps117
  go_wp2_with fail
  refine HSV.out.mono ?_
  rintro e w1 ⟨v, rfl, hv, hb1⟩
  have HV := hide hv
  clear hv
  go_wp2
  go_ret
  exact ⟨_, rfl, ownsRow_base HV.out hb0.size, hb0.trans (hb1.mono hb0.size)⟩

set_option maxHeartbeats 2000000 in
theorem notR1_any (m B k : Nat) (rk : List Bool) (ka : Option Addr) (kc : Nat) (w : World) (h4 : w.cell? ⟨B, 4, none⟩ = some (.slice ka k kc)) (hB : B < w.heap.size) (hk : BoolsAt w ka rk) (e1 : rk.length = k) (hm : m < k) :
    Calls Try.prog 137 #[.int .i64 m, .pointer (some ⟨B, 0, none⟩)] w fun e w' => e = .returned (.bool (!bat rk m)) ∧ w' = w := by
  obtain ⟨b3, o3, rfl, l3, v3⟩ := bools_cell hk (k := m) (by omega)
  have hmi : (m : Int) < (k : Int) := by omega
  generalize bat rk m = P at v3 ⊢
  clear hk e1
  go_enter Try.func137, Try.ntmps137
  go_wp2
  go_ret
  exact ⟨rfl, rfl⟩

set_option maxHeartbeats 4000000 in
set_option maxRecDepth 100000 in
theorem notReckoning_any (r : Int) (b off cap : Nat) (ns : List Nd) (rk : List Bool) (ka : Option Addr) (kc : Nat) (v2 v3 v5 : Value) (w : World) (hk : BoolsAt w ka rk) (e1 : rk.length = ns.length) (hn : ns.length ≤ 256) :
    Calls Try.prog 123 #[.agg #[.int .i64 r, .slice (some ⟨b, off, none⟩) ns.length cap, v2, v3, .slice ka ns.length kc, v5]] w fun e w' => ∃ v, e = .returned v ∧ w'.ownsRow w.heap.size 4 1 v ns.length (((List.range ns.length).map fun n => !bat rk n).map Value.bool) ∧ Below w.heap.size w w' := by
  have eg : ∀ args w, (callFunc 137 args).run Try.prog w = .ok (.enter 137 args) w := enters_of Try.func137 (by kernel_rfl) rfl
  have hb0 : Below w.heap.size w (w.alloc (.cells #[.int .i64 r, .slice (some ⟨b, off, none⟩) ns.length cap, v2, v3, .slice ka ns.length kc, v5] 123)) := (Below.refl _ w).alloc (Nat.le_refl _) _
  have hs : (w.alloc (.cells #[.int .i64 r, .slice (some ⟨b, off, none⟩) ns.length cap, v2, v3, .slice ka ns.length kc, v5] 123)).heap[w.heap.size]? = some (.cells #[.int .i64 r, .slice (some ⟨b, off, none⟩) ns.length cap, v2, v3, .slice ka ns.length kc, v5] 123 (0, 0)) := World.alloc_heap_new w _
  have hea := each_any (fun n => !bat rk n) 137 #[.pointer (some ⟨w.heap.size, 0, none⟩)] r (some ⟨b, off, none⟩) ns.length cap v2 v3 (.slice ka ns.length kc) v5 (w.alloc (.cells #[.int .i64 r, .slice (some ⟨b, off, none⟩) ns.length cap, v2, v3, .slice ka ns.length kc, v5] 123)) hn eg (fun i hi W hW => by
    have hs1 := (hW.block _ (blk_lt hs)).trans hs
    refine (notR1_any i w.heap.size ns.length rk ka kc W (by rw [blk_cell hs1]; rfl) (blk_lt hs1) (hk.below (hb0.trans (hW.mono hb0.size))) e1 hi).mono ?_
    rintro e w' ⟨rfl, rfl⟩
    exact ⟨rfl, Below.refl _ _⟩)
  have HEA := hide hea
  clear hea hs
  go_enter Try.func123, Try.ntmps123
  go_wp2_with fail
  refine HEA.out.mono ?_
  rintro e w1 ⟨v, rfl, hv, hb1⟩
  have HV := hide hv
  clear hv
  go_wp2
  go_ret
  exact ⟨_, rfl, ownsRow_base HV.out hb0.size, hb0.trans (hb1.mono hb0.size)⟩

set_option maxHeartbeats 4000000 in
set_option maxRecDepth 100000 in
theorem look1_any (i P T : Nat) (r : Int) (b off cap : Nat) (ns : List Nd) (t : Tm) (w : World) (hN : NodesAt w b off ns) (hi : i < ns.length) (hP : w.heap[P]? = some (.cells #[.int .i64 r, .slice (some ⟨b, off, none⟩) ns.length cap] 24 (0, 0))) (hT : w.heap[T]? = some (.cells #[.int .i64 t.op, .int .i64 t.a, .int .i64 t.b] 36 (0, 0))) (ht : 3 ≤ t.op ∧ t.op ≤ 8) :
    Calls Try.prog 113 #[.int .i64 i, .pointer (some ⟨P, 0, none⟩), .pointer (some ⟨T, 0, none⟩)] w fun e w' => e = .returned (.bool (bat (ns.map (rcB t)) i)) ∧ Below w.heap.size w w' := by
  obtain ⟨x, hx⟩ := get_lt hi
  have hb : bat (ns.map (rcB t)) i = rcB t x := bat_mapn hx
  have hii : (i : Int) < (ns.length : Int) := by omega
  have HS : Hid (∀ u : World, Below w.heap.size w u → u.cell? ⟨P, 0, none⟩ = some (.int .i64 r) ∧ u.cell? ⟨P, 1, none⟩ = some (.slice (some ⟨b, off, none⟩) ns.length cap) ∧ u.cell? ⟨T, 0, none⟩ = some (.int .i64 t.op) ∧ u.cell? ⟨T, 1, none⟩ = some (.int .i64 t.a) ∧ u.cell? ⟨T, 2, none⟩ = some (.int .i64 t.b) ∧ u.cell? ⟨b, off + i * 6, none⟩ = some (.int .i64 x.op) ∧ u.cell? ⟨b, off + i * 6 + 1, none⟩ = some (.int .i64 x.d) ∧ u.cell? ⟨b, off + i * 6 + 2, none⟩ = some (.int .i64 x.a) ∧ u.cell? ⟨b, off + i * 6 + 3, none⟩ = some (.int .i64 x.b) ∧ u.cell? ⟨b, off + i * 6 + 4, none⟩ = some (.int .i64 x.t) ∧ u.cell? ⟨b, off + i * 6 + 5, none⟩ = some (.int .i64 x.e)) := fun u h => by
    have k1 := (h.block _ (blk_lt hP)).trans hP
    have k2 := (h.block _ (blk_lt hT)).trans hT
    have k3 := hN.below h hN.lt
    refine ⟨?_, ?_, ?_, ?_, ?_, k3.c0 i x hx, k3.c1 i x hx, k3.c2 i x hx, k3.c3 i x hx, k3.c4 i x hx, k3.c5 i x hx⟩
    · rw [blk_cell k1]; rfl
    · rw [blk_cell k1]; rfl
    · rw [blk_cell k2]; rfl
    · rw [blk_cell k2]; rfl
    · rw [blk_cell k2]; rfl
  have pl := blk_lt hP
  have tl := blk_lt hT
  have bl := hN.lt
  have HBI := hide hb
  have HT := hide ht
  clear hP hT hN hx hb ht
  go_enter Try.func113, Try.ntmps113
  go_upto_region 1 with fail
  go_region_held3 (fun u => u.cell? ⟨P, 0, none⟩ = some (.int .i64 r) ∧ u.cell? ⟨P, 1, none⟩ = some (.slice (some ⟨b, off, none⟩) ns.length cap) ∧ u.cell? ⟨T, 0, none⟩ = some (.int .i64 t.op) ∧ u.cell? ⟨T, 1, none⟩ = some (.int .i64 t.a) ∧ u.cell? ⟨T, 2, none⟩ = some (.int .i64 t.b) ∧ u.cell? ⟨b, off + i * 6, none⟩ = some (.int .i64 x.op) ∧ u.cell? ⟨b, off + i * 6 + 1, none⟩ = some (.int .i64 x.d) ∧ u.cell? ⟨b, off + i * 6 + 2, none⟩ = some (.int .i64 x.a) ∧ u.cell? ⟨b, off + i * 6 + 3, none⟩ = some (.int .i64 x.b) ∧ u.cell? ⟨b, off + i * 6 + 4, none⟩ = some (.int .i64 x.t) ∧ u.cell? ⟨b, off + i * 6 + 5, none⟩ = some (.int .i64 x.e)) (first
    | (with_reducible refine HS.out _ ?_; first | with_reducible exact hB2 | with_reducible exact (Below.refl _ w).drew | with_reducible exact (Below.refl _ w))) (first
    | (go_at_call 114; refine (sreckons_any x t _ HT.out).mono ?_; rintro e wa ⟨rfl, hba⟩; have hB2 : Below w.heap.size w wa := (by first | exact (Below.refl _ w).drew.trans hba | exact hba)))
  go_wp2
  go_ret
  exact ⟨ret_bool HBI.out.symm, hB2⟩

set_option maxHeartbeats 4000000 in
set_option maxRecDepth 100000 in
theorem look2_any (i P T : Nat) (r : Int) (b off cap : Nat) (ns : List Nd) (t : Tm) (w : World) (hN : NodesAt w b off ns) (hi : i < ns.length) (hP : w.heap[P]? = some (.cells #[.int .i64 r, .slice (some ⟨b, off, none⟩) ns.length cap] 24 (0, 0))) (hT : w.heap[T]? = some (.cells #[.int .i64 t.op, .int .i64 t.a, .int .i64 t.b] 36 (0, 0))) (ht : 3 ≤ t.op ∧ t.op ≤ 8) :
    Calls Try.prog 115 #[.int .i64 i, .pointer (some ⟨P, 0, none⟩), .pointer (some ⟨T, 0, none⟩)] w fun e w' => e = .returned (.bool (bat (ns.map (kpB t)) i)) ∧ Below w.heap.size w w' := by
  obtain ⟨x, hx⟩ := get_lt hi
  have hb : bat (ns.map (kpB t)) i = kpB t x := bat_mapn hx
  have hii : (i : Int) < (ns.length : Int) := by omega
  have HS : Hid (∀ u : World, Below w.heap.size w u → u.cell? ⟨P, 0, none⟩ = some (.int .i64 r) ∧ u.cell? ⟨P, 1, none⟩ = some (.slice (some ⟨b, off, none⟩) ns.length cap) ∧ u.cell? ⟨T, 0, none⟩ = some (.int .i64 t.op) ∧ u.cell? ⟨T, 1, none⟩ = some (.int .i64 t.a) ∧ u.cell? ⟨T, 2, none⟩ = some (.int .i64 t.b) ∧ u.cell? ⟨b, off + i * 6, none⟩ = some (.int .i64 x.op) ∧ u.cell? ⟨b, off + i * 6 + 1, none⟩ = some (.int .i64 x.d) ∧ u.cell? ⟨b, off + i * 6 + 2, none⟩ = some (.int .i64 x.a) ∧ u.cell? ⟨b, off + i * 6 + 3, none⟩ = some (.int .i64 x.b) ∧ u.cell? ⟨b, off + i * 6 + 4, none⟩ = some (.int .i64 x.t) ∧ u.cell? ⟨b, off + i * 6 + 5, none⟩ = some (.int .i64 x.e)) := fun u h => by
    have k1 := (h.block _ (blk_lt hP)).trans hP
    have k2 := (h.block _ (blk_lt hT)).trans hT
    have k3 := hN.below h hN.lt
    refine ⟨?_, ?_, ?_, ?_, ?_, k3.c0 i x hx, k3.c1 i x hx, k3.c2 i x hx, k3.c3 i x hx, k3.c4 i x hx, k3.c5 i x hx⟩
    · rw [blk_cell k1]; rfl
    · rw [blk_cell k1]; rfl
    · rw [blk_cell k2]; rfl
    · rw [blk_cell k2]; rfl
    · rw [blk_cell k2]; rfl
  have pl := blk_lt hP
  have tl := blk_lt hT
  have bl := hN.lt
  have HBI := hide hb
  have HT := hide ht
  clear hP hT hN hx hb ht
  go_enter Try.func115, Try.ntmps115
  go_upto_region 1 with fail
  go_region_held3 (fun u => u.cell? ⟨P, 0, none⟩ = some (.int .i64 r) ∧ u.cell? ⟨P, 1, none⟩ = some (.slice (some ⟨b, off, none⟩) ns.length cap) ∧ u.cell? ⟨T, 0, none⟩ = some (.int .i64 t.op) ∧ u.cell? ⟨T, 1, none⟩ = some (.int .i64 t.a) ∧ u.cell? ⟨T, 2, none⟩ = some (.int .i64 t.b) ∧ u.cell? ⟨b, off + i * 6, none⟩ = some (.int .i64 x.op) ∧ u.cell? ⟨b, off + i * 6 + 1, none⟩ = some (.int .i64 x.d) ∧ u.cell? ⟨b, off + i * 6 + 2, none⟩ = some (.int .i64 x.a) ∧ u.cell? ⟨b, off + i * 6 + 3, none⟩ = some (.int .i64 x.b) ∧ u.cell? ⟨b, off + i * 6 + 4, none⟩ = some (.int .i64 x.t) ∧ u.cell? ⟨b, off + i * 6 + 5, none⟩ = some (.int .i64 x.e)) (first
    | (with_reducible refine HS.out _ ?_; first | with_reducible exact hB2 | with_reducible exact (Below.refl _ w).drew | with_reducible exact (Below.refl _ w))) (first
    | (go_at_call 116; refine (keeps_any x t _).mono ?_; rintro e wa ⟨rfl, hba⟩; have hB2 : Below w.heap.size w wa := (by first | exact (Below.refl _ w).drew.trans hba | exact hba)))
  go_wp2
  go_ret
  exact ⟨ret_bool HBI.out.symm, hB2⟩
end Go.Proofs.Ytoikglgnmjjpcaa

namespace Go.Proofs.Ytoikglgnmjjpcaa
open Go.RowKit Go.Shelf
set_option linter.unusedVariables false
set_option linter.unusedSimpArgs false

/-- What lies in memory of a survey. -/
structure SM (w : World) (ns : List Nd) (t : Tm) (rb1 rb2 : Nat) (ka pa : Option Addr) : Prop where
  nx : RowsR w rb1 ns.length (nxl ns)
  ah : RowsR w rb2 ns.length (ahl ns)
  rk : BoolsAt w ka (rcl ns t)
  kp : BoolsAt w pa (kpl ns t)
theorem SM.below {w w' : World} {ns : List Nd} {t : Tm} {rb1 rb2 : Nat} {ka pa : Option Addr} (h : SM w ns t rb1 rb2 ka pa) (hb : Below w.heap.size w w') : SM w' ns t rb1 rb2 ka pa :=
  ⟨h.nx.below hb, h.ah.below hb, h.rk.below hb, h.kp.below hb⟩

theorem fchk_of {r : Int} {ns : List Nd} {f : Flw} (hc : chk r ns = 0) (h1 : f.gen.length = ns.length) (h2 : f.pass.length = ns.length) (h3 : f.plus.length = ns.length) (h4 : f.lets.length = ns.length) : fchk r ns f = 0 := by
  simp [fchk, hc, fits, h1, h2, h3, h4]
theorem rcl_len (ns : List Nd) (t : Tm) : (rcl ns t).length = ns.length := by simp [rcl]
theorem kpl_len (ns : List Nd) (t : Tm) : (kpl ns t).length = ns.length := by simp [kpl]
theorem nol_len (k : Nat) : (nol k).length = k := by simp [nol]
theorem yesl_len (k : Nat) : (yesl k).length = k := by simp [yesl]
theorem nrcl_len (ns : List Nd) (t : Tm) : (nrcl ns t).length = ns.length := by simp [nrcl]
theorem bothl_len (ns : List Nd) (t : Tm) : (bothl ns t).length = ns.length := by simp [bothl]
theorem nrcl_eq (ns : List Nd) (t : Tm) : ((List.range ns.length).map fun n => !bat (rcl ns t) n) = nrcl ns t := by
  refine bat_ext (by simp [nrcl]) fun n hn => ?_
  have hn' : n < ns.length := by simpa using hn
  obtain ⟨x, hx⟩ := get_lt hn'
  rw [bat_map _ hn', rcl, nrcl, bat_mapn hx, bat_mapn hx]

/-- A row of n that a call has made, to be read. -/
theorem bools_owned {w : World} {base n : Nat} {a : Option Addr} {c : Nat} {zs : List Bool} (h : w.ownsRow base 4 1 (.slice a n c) n (zs.map Value.bool)) (hl : zs.length = n) : BoolsAt w a zs := by
  subst hl
  obtain ⟨_, _, e, hb⟩ := bools_of_owns h
  cases e
  exact hb

theorem ssolveL_any (r : Int) (b off cap : Nat) (ns : List Nd) (f : Flw) (a1 a2 a3 a4 : Option Addr) (c1 c2 c3 c4 : Nat) (v2 v3 v4 v5 : Value) (w : World) (hN : NodesAt w b off ns) (hc : fchk r ns f = 0) (h1 : BoolsAt w a1 f.gen) (h2 : BoolsAt w a2 f.pass) (h3 : BoolsAt w a3 f.plus) (h4 : BoolsAt w a4 f.lets) :
    Calls Try.prog 117 #[.agg #[.int .i64 r, .slice (some ⟨b, off, none⟩) ns.length cap, v2, v3, v4, v5], .agg #[.bool f.back, .bool f.empty, .slice a1 ns.length c1, .slice a2 ns.length c2, .slice a3 ns.length c3, .slice a4 ns.length c4]] w fun e w' => ∃ v, e = .returned v ∧ w'.ownsRow w.heap.size 4 1 v ns.length ((solve ns f).map Value.bool) ∧ Below w.heap.size w w' := by
  have h := ssolve_any r b off cap ns f a1 a2 a3 a4 c1 c2 c3 c4 v2 v3 v4 v5 w hN hc h1 h2 h3 h4
  obtain ⟨_, e1, e2, e3, e4⟩ := fchk_zero hc
  rw [e1, e2, e3, e4] at h
  exact h

set_option maxHeartbeats 8000000 in
set_option maxRecDepth 100000 in
theorem down_any (r : Int) (b off cap : Nat) (ns : List Nd) (t : Tm) (rb1 rb2 : Nat) (ka pa : Option Addr) (kc pc : Nat) (w : World) (hN : NodesAt w b off ns) (hc : chk r ns = 0) (hM : SM w ns t rb1 rb2 ka pa) :
    Calls Try.prog 86 #[.agg #[.int .i64 r, .slice (some ⟨b, off, none⟩) ns.length cap, .slice (some ⟨rb1, 0, none⟩) ns.length ns.length, .slice (some ⟨rb2, 0, none⟩) ns.length ns.length, .slice ka ns.length kc, .slice pa ns.length pc]] w fun e w' => ∃ v, e = .returned v ∧ w'.ownsRow w.heap.size 4 1 v ns.length ((downL ns t).map Value.bool) ∧ Below w.heap.size w w' := by
  have hl := (chk_zero hc).1
  have hfc : fchk r ns (downW ns t) = 0 := fchk_of hc (rcl_len ns t) (kpl_len ns t) (nol_len _) (yesl_len _)
  have hbA : Below w.heap.size w (w.alloc (.cells #[.int .i64 r, .slice (some ⟨b, off, none⟩) ns.length cap, .slice (some ⟨rb1, 0, none⟩) ns.length ns.length, .slice (some ⟨rb2, 0, none⟩) ns.length ns.length, .slice ka ns.length kc, .slice pa ns.length pc] 123)) := (Below.refl _ w).alloc (Nat.le_refl _) _
  have hs : (w.alloc (.cells #[.int .i64 r, .slice (some ⟨b, off, none⟩) ns.length cap, .slice (some ⟨rb1, 0, none⟩) ns.length ns.length, .slice (some ⟨rb2, 0, none⟩) ns.length ns.length, .slice ka ns.length kc, .slice pa ns.length pc] 123)).heap[w.heap.size]? = some (.cells #[.int .i64 r, .slice (some ⟨b, off, none⟩) ns.length cap, .slice (some ⟨rb1, 0, none⟩) ns.length ns.length, .slice (some ⟨rb2, 0, none⟩) ns.length ns.length, .slice ka ns.length kc, .slice pa ns.length pc] 123 (0, 0)) := World.alloc_heap_new w _
  go_enter Try.func86, Try.ntmps86
  go_upto_region 1 with fail
  generalize (w.alloc (.cells #[.int .i64 r, .slice (some ⟨b, off, none⟩) ns.length cap, .slice (some ⟨rb1, 0, none⟩) ns.length ns.length, .slice (some ⟨rb2, 0, none⟩) ns.length ns.length, .slice ka ns.length kc, .slice pa ns.length pc] 123)) = W at hbA hs ⊢
  have HS : Hid (∀ u : World, Below W.heap.size W u → u.cell? ⟨w.heap.size, 0, none⟩ = some (.int .i64 r) ∧ u.cell? ⟨w.heap.size, 1, none⟩ = some (.slice (some ⟨b, off, none⟩) ns.length cap) ∧ u.cell? ⟨w.heap.size, 2, none⟩ = some (.slice (some ⟨rb1, 0, none⟩) ns.length ns.length) ∧ u.cell? ⟨w.heap.size, 3, none⟩ = some (.slice (some ⟨rb2, 0, none⟩) ns.length ns.length) ∧ u.cell? ⟨w.heap.size, 4, none⟩ = some (.slice ka ns.length kc) ∧ u.cell? ⟨w.heap.size, 5, none⟩ = some (.slice pa ns.length pc)) := fun u h => by
    have k1 := (h.block _ (blk_lt hs)).trans hs
    refine ⟨?_, ?_, ?_, ?_, ?_, ?_⟩
    · rw [blk_cell k1]; rfl
    · rw [blk_cell k1]; rfl
    · rw [blk_cell k1]; rfl
    · rw [blk_cell k1]; rfl
    · rw [blk_cell k1]; rfl
    · rw [blk_cell k1]; rfl
  have HSV : Hid (∀ (u : World), Below W.heap.size W u → ∀ (na ya : Option Addr) (nc yc : Nat), BoolsAt u na (nol ns.length) → BoolsAt u ya (yesl ns.length) → Calls Try.prog 117 #[.agg #[.int .i64 r, .slice (some ⟨b, off, none⟩) ns.length cap, .slice (some ⟨rb1, 0, none⟩) ns.length ns.length, .slice (some ⟨rb2, 0, none⟩) ns.length ns.length, .slice ka ns.length kc, .slice pa ns.length pc], .agg #[.bool true, .bool false, .slice ka ns.length kc, .slice pa ns.length pc, .slice na ns.length nc, .slice ya ns.length yc]] u fun e w' => ∃ v, e = .returned v ∧ w'.ownsRow u.heap.size 4 1 v ns.length ((downL ns t).map Value.bool) ∧ Below u.heap.size u w') := fun u h na ya nc yc h3 h4 => by
    have hu := hbA.trans (h.mono hbA.size)
    have hm := hM.below hu
    exact ssolveL_any r b off cap ns (downW ns t) ka pa na ya kc pc nc yc _ _ _ _ u (hN.below hu hN.lt) hfc hm.rk hm.kp h3 h4
  have HW := hide hbA
  have sl := blk_lt hs
  clear hs hbA hM hN hc hfc
  go_region_held3 (fun u => u.cell? ⟨w.heap.size, 0, none⟩ = some (.int .i64 r) ∧ u.cell? ⟨w.heap.size, 1, none⟩ = some (.slice (some ⟨b, off, none⟩) ns.length cap) ∧ u.cell? ⟨w.heap.size, 2, none⟩ = some (.slice (some ⟨rb1, 0, none⟩) ns.length ns.length) ∧ u.cell? ⟨w.heap.size, 3, none⟩ = some (.slice (some ⟨rb2, 0, none⟩) ns.length ns.length) ∧ u.cell? ⟨w.heap.size, 4, none⟩ = some (.slice ka ns.length kc) ∧ u.cell? ⟨w.heap.size, 5, none⟩ = some (.slice pa ns.length pc)) (first
    | (with_reducible refine HS.out _ ?_; first | with_reducible exact hB3 | with_reducible exact hB2 | with_reducible exact hB1 | with_reducible exact (Below.refl _ W).drew | with_reducible exact (Below.refl _ W))) (first
    | (go_at_call 118; refine (none_any r _ ns.length cap _ _ _ _ _ hl.2).mono ?_; rintro e wa ⟨va, rfl, hva, hba⟩; obtain ⟨na, nc, rfl⟩ := owns_slice hva; have hB1 : Below W.heap.size W wa := (by first | exact (Below.refl _ W).drew.trans hba | exact hba))
    | (go_at_call 119; refine (all_any r _ ns.length cap _ _ _ _ _ hl.2).mono ?_; rintro e wb ⟨vb, rfl, hvb, hbb⟩; obtain ⟨ya, yc, rfl⟩ := owns_slice hvb; have hB2 : Below W.heap.size W wb := hB1.trans (hbb.mono hB1.size))
    | (go_at_call 117; refine (HSV.out _ hB2 na ya nc yc (bools_owned (ownsRow_below hva hbb (Nat.le_refl _)) (nol_len _)) (bools_owned hvb (yesl_len _))).mono ?_; rintro e wd ⟨vd, rfl, hvd, hbd⟩; have hB3 : Below W.heap.size W wd := hB2.trans (hbd.mono hB2.size)))
  have HVD := hide hvd
  have HB3 := hide hB3
  have hle : w.heap.size ≤ wb.heap.size := Nat.le_trans HW.out.size hB2.size
  clear hvd hva hvb hba hbb hbd hB1 hB2 hB3
  go_wp2
  go_ret
  exact ⟨_, rfl, ownsRow_base HVD.out hle, HW.out.trans (HB3.out.mono HW.out.size)⟩
end Go.Proofs.Ytoikglgnmjjpcaa

