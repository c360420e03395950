/-
  hoistwayref.Digits, names, line, walked.
-/
import Derived.Test.YtoikglgnmjjpcaaDoorUA
import Derived.Test.YtoikglgnmjjpcaaDoorTH
import Derived.Test.YtoikglgnmjjpcaaDoorE
import Derived.Laws.IdiomStrings
namespace Go.Proofs.YtoikglgnmjjpcaaDoor
open Go.RowKit Go.Maps Go.ChangeMaps
set_option linter.unusedVariables false

theorem ba_size (x : List UInt8) : (ba x).size = x.length := by simp [ba, ByteArray.size]

set_option maxHeartbeats 4000000 in
set_option maxRecDepth 100000 in
theorem digits_lt : ∀ (m : Nat) (n : Int), 2 * n.natAbs + (if n < 0 then 1 else 0) < m → (-9223372036854775808 ≤ n ∧ n ≤ 9223372036854775807) → ∀ w : World,
    Calls Tryd.prog 20 #[.int .i64 n] w fun e w' => e = .returned (.string (ba (Lib.itoa n))) ∧ Below w.heap.size w w'
  | 0, n, h, _ => by omega
  | m + 1, n, hm, hf => by
    intro w
    have ih := digits_lt m
    by_cases h0 : n < 0
    · rw [if_pos h0] at hm
      by_cases h1 : -10 < n
      · have hi := ih (-n) (by rw [if_neg (by omega)]; omega) (by omega)
        have hl := itoa_len20 (n := -n) (by omega)
        have hb : (ba (Lib.itoa (-n))).size ≤ 20 := by rw [ba_size]; exact hl
        have he : ba [45] ++ ba (Lib.itoa (-n)) = ba (Lib.itoa n) := by rw [ba_app, ← itoa_low h0 h1]; rfl
        rw [← he]
        generalize ba (Lib.itoa (-n)) = A at hi hb
        clear ih hl he
        go_enter Tryd.func20, Tryd.ntmps20
        go_wp2_with fail
        refine (hi _).mono ?_
        rintro e w1 ⟨rfl, hb1⟩
        go_wp2_with fail
        go_ret
        exact ⟨rfl, hb1⟩
      · obtain ⟨hq, hr⟩ := td_neg h0
        generalize hqv : -((n.natAbs / 10 : Nat) : Int) = q at hq
        generalize hrv : ((n.natAbs % 10 : Nat) : Int) = r at hr
        have hi1 := ih q (by rw [if_pos (by omega)]; omega) (by omega)
        have hi2 := ih r (by rw [if_neg (by omega)]; omega) (by omega)
        have hb1 : (ba (Lib.itoa q)).size ≤ 20 := by rw [ba_size]; exact itoa_len20 (by omega)
        have hb2 : (ba (Lib.itoa r)).size ≤ 20 := by rw [ba_size]; exact itoa_len20 (by omega)
        have he : ba (Lib.itoa q) ++ ba (Lib.itoa r) = ba (Lib.itoa n) := by rw [ba_app, itoa_neg (n := n) (by omega) (by omega) (by omega)]
        have hq0 : -9223372036854775808 ≤ q ∧ q < 0 := by omega
        have hr0 : 0 ≤ r ∧ r < 10 := by omega
        rw [← he]
        generalize ba (Lib.itoa q) = A at hi1 hb1
        generalize ba (Lib.itoa r) = B at hi2 hb2
        clear ih he hqv hrv hm
        go_enter Tryd.func20, Tryd.ntmps20
        go_wp2_with fail
        refine (hi1 _).mono ?_
        rintro e w1 ⟨rfl, hb3⟩
        go_wp2_with fail
        refine (hi2 _).mono ?_
        rintro e w2 ⟨rfl, hb4⟩
        go_wp2_with fail
        go_ret
        exact ⟨rfl, hb3.trans (hb4.mono hb3.size)⟩
    · rw [if_neg h0] at hm
      by_cases h1 : n < 10
      · rw [itoa_one (by omega) h1]
        clear ih hm
        have hcv : Sem.run Tryd.prog (convert 40 9 (.slice (some ⟨w.heap.size, 0, none⟩) 1 1)) (w.alloc (.cells #[.int .u8 (48 + n)] 5)) = .ok (.string (ba [UInt8.ofNat (48 + n.toNat)])) (w.alloc (.cells #[.int .u8 (48 + n)] 5)) :=
          run_convert_bytes_back _ 40 9 5 ⟨w.heap.size, 0, none⟩ 1 [UInt8.ofNat (48 + n.toNat)] Tryd.underlying40 Tryd.underlying5 Tryd.underlying9 (fun j hj => by
            obtain rfl : j = 0 := by simpa using hj
            show (w.alloc _).cell? ⟨w.heap.size, 0, none⟩ = _
            rw [World.cell?_alloc_mark]
            have : (48 + n.toNat) % 256 = 48 + n.toNat := by omega
            simp [UInt8.toNat_ofNat', this]
            omega)
        go_enter Tryd.func20, Tryd.ntmps20
        go_wp2_with fail
        go_ret
        exact ⟨rfl, (Below.refl _ _).alloc (Nat.le_refl _) _⟩
      · obtain ⟨hq, hr⟩ := td_pos (n := n) (by omega)
        generalize hqv : ((n.natAbs / 10 : Nat) : Int) = q at hq
        generalize hrv : ((n.natAbs % 10 : Nat) : Int) = r at hr
        have hi1 := ih q (by rw [if_neg (by omega)]; omega) (by omega)
        have hi2 := ih r (by rw [if_neg (by omega)]; omega) (by omega)
        have hb1 : (ba (Lib.itoa q)).size ≤ 20 := by rw [ba_size]; exact itoa_len20 (by omega)
        have hb2 : (ba (Lib.itoa r)).size ≤ 20 := by rw [ba_size]; exact itoa_len20 (by omega)
        have he : ba (Lib.itoa q) ++ ba (Lib.itoa r) = ba (Lib.itoa n) := by rw [ba_app, itoa_pos (n := n) (by omega) (by omega) (by omega)]
        have hq0 : 0 ≤ q ∧ q ≤ 9223372036854775807 := by omega
        have hr0 : 0 ≤ r ∧ r < 10 := by omega
        rw [← he]
        generalize ba (Lib.itoa q) = A at hi1 hb1
        generalize ba (Lib.itoa r) = B at hi2 hb2
        clear ih he hqv hrv hm
        go_enter Tryd.func20, Tryd.ntmps20
        go_wp2_with fail
        refine (hi1 _).mono ?_
        rintro e w1 ⟨rfl, hb3⟩
        go_wp2_with fail
        refine (hi2 _).mono ?_
        rintro e w2 ⟨rfl, hb4⟩
        go_wp2_with fail
        go_ret
        exact ⟨rfl, hb3.trans (hb4.mono hb3.size)⟩

theorem digits_any (n : Int) (h : -9223372036854775808 ≤ n ∧ n ≤ 9223372036854775807) (w : World) :
    Calls Tryd.prog 20 #[.int .i64 n] w fun e w' => e = .returned (.string (ba (Lib.itoa n))) ∧ Below w.heap.size w w' := digits_lt _ n (Nat.lt_succ_self _) h w

set_option maxHeartbeats 4000000 in
set_option maxRecDepth 100000 in
theorem names_any (w : World) : Calls Tryd.prog 39 #[] w fun e w' => e = .returned (.slice (some ⟨w.heap.size, 0, none⟩) 13 13) ∧ w'.heap[w.heap.size]? = some (.cells names13 9 (0, 0)) ∧ Below w.heap.size w w' := by
  go_enter Tryd.func39, Tryd.ntmps39
  go_wp2_with fail
  go_ret
  exact ⟨rfl, blkn rfl, (Below.refl _ _).alloc (Nat.le_refl _) _⟩

theorem join_flat (c : UInt8) : ∀ (x : List UInt8) (r : List (List UInt8)), Lib.join (x :: r) [c] = x ++ r.flatMap (fun v => c :: v)
  | x, [] => by rw [Lib.join_one]; simp
  | x, y :: r => by rw [join_cons, join_flat c y r]; simp

theorem line_fl {x : Nd} {D A B T O E : Bool} (hk : kn x.op = true) (h : Fl x.op D A B T O E) : lineW x ++ [10] = nmB x.op ++ ((if D then [32] ++ Lib.itoa x.d else []) ++ ((if A || !E then [32] ++ Lib.itoa x.a else []) ++ ((if B then [32] ++ Lib.itoa x.b else []) ++ ((if T then [32, 116, 111, 32] ++ Lib.itoa x.t else []) ++ ((if O then [32, 101, 108, 115, 101, 32] ++ Lib.itoa x.e else []) ++ [10]))))) := by
  obtain ⟨h1, h2, h3, h4, h5, h6⟩ := h
  have e2 : hasA x.op = (A || !E) := by
    rw [← h2, ← h6]
    unfold hasA
    by_cases q : x.op = 1
    · rw [q]; rfl
    · have hk' := wi_iff.1 hk
      have : wi x.op 1 8 = wi x.op 2 8 := by
        cases q2 : wi x.op 2 8
        · have := wi_no q2
          cases q3 : wi x.op 1 8
          · rfl
          · have := wi_iff.1 q3; omega
        · have := wi_iff.1 q2
          exact wi_iff.2 (by omega)
      rw [this]; simp [q]
  have e4 : hasT x.op = T := by
    rw [← h4]
    unfold hasT
    have hk' := wi_iff.1 hk
    by_cases q : x.op = 12
    · rw [q]; rfl
    · rw [wi_iff.2 (by omega)]; simp [q]
  unfold lineW wordsB
  rw [join_flat, e2, e4, show hasD x.op = D from h1, show hasB x.op = B from h3, show hasE x.op = O from h5]
  simp only [List.flatMap_append, List.append_assoc]
  cases D <;> cases A <;> cases B <;> cases T <;> cases O <;> cases E <;> simp [toW, elW]

theorem node_cells {w : World} {b : Nat} {v0 v1 v2 v3 v4 v5 : Value} {t : TypeId} (h : w.heap[b]? = some (.cells #[v0, v1, v2, v3, v4, v5] t (0, 0))) :
    w.cell? ⟨b, 0, none⟩ = some v0 ∧ w.cell? ⟨b, 1, none⟩ = some v1 ∧ w.cell? ⟨b, 2, none⟩ = some v2 ∧ w.cell? ⟨b, 3, none⟩ = some v3 ∧ w.cell? ⟨b, 4, none⟩ = some v4 ∧ w.cell? ⟨b, 5, none⟩ = some v5 :=
  ⟨blk_cell h 0, blk_cell h 1, blk_cell h 2, blk_cell h 3, blk_cell h 4, blk_cell h 5⟩

theorem c32 : (⟨#[32]⟩ : ByteArray) = ba [32] := rfl
theorem c10 : (⟨#[10]⟩ : ByteArray) = ba [10] := rfl
theorem cto : (⟨#[32, 116, 111, 32]⟩ : ByteArray) = ba [32, 116, 111, 32] := rfl
theorem cel : (⟨#[32, 101, 108, 115, 101, 32]⟩ : ByteArray) = ba [32, 101, 108, 115, 101, 32] := rfl

set_option maxHeartbeats 8000000 in
set_option maxRecDepth 100000 in
theorem line_any (x : Nd) (hx : TxOk x) (w : World) : Calls Tryd.prog 21 #[.agg #[.int .i64 x.op, .int .i64 x.d, .int .i64 x.a, .int .i64 x.b, .int .i64 x.t, .int .i64 x.e]] w fun e w' => e = .returned (.string (ba (lineW x ++ [10]))) ∧ Below w.heap.size w w' := by
  have hkn : kn x.op = true := wi_iff.2 hx.op
  have hop := hx.op
  have hD := digits_any x.d hx.fits.d
  have hA := digits_any x.a hx.fits.a
  have hB := digits_any x.b hx.fits.b
  have hT := digits_any x.t hx.fits.t
  have hO := digits_any x.e hx.fits.e
  have zD : (ba (Lib.itoa x.d)).size ≤ 20 := by rw [ba_size]; exact itoa_len20 hx.fits.d
  have zA : (ba (Lib.itoa x.a)).size ≤ 20 := by rw [ba_size]; exact itoa_len20 hx.fits.a
  have zB : (ba (Lib.itoa x.b)).size ≤ 20 := by rw [ba_size]; exact itoa_len20 hx.fits.b
  have zT : (ba (Lib.itoa x.t)).size ≤ 20 := by rw [ba_size]; exact itoa_len20 hx.fits.t
  have zO : (ba (Lib.itoa x.e)).size ≤ 20 := by rw [ba_size]; exact itoa_len20 hx.fits.e
  have zN : (ba (nmB x.op)).size ≤ 4 := by rw [ba_size]; exact nm_len _
  have hnm := nm_get hop
  have hl := @line_fl x
  obtain ⟨op, d, a, b, t, e⟩ := x
  simp only at *
  clear hx
  generalize hND : ba (Lib.itoa d) = ND at *
  generalize hNA : ba (Lib.itoa a) = NA at *
  generalize hNB : ba (Lib.itoa b) = NB at *
  generalize hNT : ba (Lib.itoa t) = NT at *
  generalize hNO : ba (Lib.itoa e) = NO at *
  generalize hNN : ba (nmB op) = NN at *
  have HH := hide (And.intro hND (And.intro hNA (And.intro hNB (And.intro hNT (And.intro hNO hNN)))))
  clear hND hNA hNB hNT hNO hNN
  have hW : Below w.heap.size w (w.alloc (.cells #[.int .i64 op, .int .i64 d, .int .i64 a, .int .i64 b, .int .i64 t, .int .i64 e] 49)) := (Below.refl _ _).alloc (Nat.le_refl _) _
  have hp : (w.alloc (.cells #[.int .i64 op, .int .i64 d, .int .i64 a, .int .i64 b, .int .i64 t, .int .i64 e] 49)).heap[w.heap.size]? = some (.cells #[.int .i64 op, .int .i64 d, .int .i64 a, .int .i64 b, .int .i64 t, .int .i64 e] 49 (0, 0)) := blkn rfl
  have hS : (w.alloc (.cells #[.int .i64 op, .int .i64 d, .int .i64 a, .int .i64 b, .int .i64 t, .int .i64 e] 49)).heap.size = w.heap.size + 1 := by simp
  have hop0 : 0 ≤ op := hop.1
  have hop1 : op < 13 := by omega
  have hfl := fun (D A B T O E : Bool) (h : Fl op D A B T O E) => fields_fl h
  obtain ⟨D, A, B, T, O, E, h, hcl⟩ : ∃ D A B T O E, Fl op D A B T O E ∧ Hid (Fl op false false false true false true ∨ Fl op true false false true false false ∨ Fl op true true false true false true ∨ Fl op true true true true false true ∨ Fl op true false false true false true ∨ Fl op false true false true false true ∨ Fl op false true false true true true ∨ Fl op false true false false false true) := ⟨_, _, _, _, _, _, ⟨rfl, rfl, rfl, rfl, rfl, rfl⟩, fl_cases hkn⟩
  have hfl := fields_fl h
  have HL := hide (hl hkn h)
  have HF := hide h
  clear hl hkn h
  go_enter Tryd.func21, Tryd.ntmps21
  go_upto_region 2 with (go_at_call 19; refine (hfl _).mono ?_; rintro e w' ⟨rfl, rfl⟩)
  generalize (w.alloc (.cells #[.int .i64 op, .int .i64 d, .int .i64 a, .int .i64 b, .int .i64 t, .int .i64 e] 49)) = W at hW hp hS ⊢
  obtain ⟨n0, n1, n2, n3, n4, n5⟩ := node_cells hp
  have HW := hide hW
  have HP := hide hp
  clear hW hp
  have hWs : w.heap.size < W.heap.size := by omega
  clear hS
  go_region_with (go_at_call 39; refine (names_any _).mono ?_; rintro e V ⟨rfl, hv, hb⟩; have nn : V.cell? ⟨W.heap.size, op.toNat, none⟩ = some (.string NN) := (blk_cell hv op.toNat).trans hnm; have HQ := hide ((hb.block w.heap.size hWs).trans (blk_drew HP.out)); obtain ⟨n0, n1, n2, n3, n4, n5⟩ := node_cells HQ.out; have HV := hide (HW.out.drew.trans (hb.mono HW.out.drew.size)); have hVs : w.heap.size < V.heap.size := blk_lt HQ.out; clear hb hv)
  all_goals
    clear HP HW hfl nn n0 n1 n2 n3 n4 n5
    obtain ⟨n0, n1, n2, n3, n4, n5⟩ := node_cells HQ.out
    rcases hcl.out with q | q | q | q | q | q | q | q
    all_goals
      obtain ⟨g1, g2, g3, g4, g5, g6⟩ := HF.out
      obtain ⟨k1, k2, k3, k4, k5, k6⟩ := q
      rw [k1] at g1
      rw [k2] at g2
      rw [k3] at g3
      rw [k4] at g4
      rw [k5] at g5
      rw [k6] at g6
      subst g1 g2 g3 g4 g5 g6
      clear k1 k2 k3 k4 k5
    all_goals
      clear hcl HF hnm
      go_wp2_with (go_at_call 20; (first | with_reducible refine (hD _).mono ?_ | with_reducible refine (hA _).mono ?_ | with_reducible refine (hB _).mono ?_ | with_reducible refine (hT _).mono ?_ | with_reducible refine (hO _).mono ?_); rintro e X ⟨rfl, hb⟩; have HV := hide (HV.out.trans (hb.mono HV.out.size)); have HQ := hide ((hb.block w.heap.size (blk_lt HQ.out)).trans HQ.out); clear n0 n1 n2 n3 n4 n5 hVs; obtain ⟨n0, n1, n2, n3, n4, n5⟩ := node_cells HQ.out; have hVs : w.heap.size < X.heap.size := blk_lt HQ.out; clear hb)
      go_ret
      refine ⟨?_, HV.out⟩
      rw [HL.out]
      obtain ⟨rfl, rfl, rfl, rfl, rfl, rfl⟩ := HH.out
      simp only [c32, c10, cto, cel, ba_app, if_true, if_false, Bool.false_eq_true, Bool.or_true, Bool.or_false, Bool.not_true, Bool.not_false, List.append_assoc, List.nil_append]
      rfl

end Go.Proofs.YtoikglgnmjjpcaaDoor
