/-
  hoistwayref.TermsOf, walked.
-/
import Derived.Test.YtoikglgnmjjpcaaL
namespace Go.Proofs.Ytoikglgnmjjpcaa
open Go.RowKit
set_option linter.unusedVariables false

theorem any_take_succ {α : Type} {l : List α} {k : Nat} {x : α} (p : α → Bool) (h : l[k]? = some x) : (l.take (k + 1)).any p = ((l.take k).any p || p x) := by
  rw [take_succ_get h, List.any_append]; simp

theorem any_symm (l : List Tm) (t : Tm) : (l.any fun y => decide (y = t)) = l.any fun y => decide (t = y) := by
  congr 1; funext y; exact decide_eq_decide.2 ⟨Eq.symm, Eq.symm⟩

theorem TermsAt.at {w : World} {a : Option Addr} {ts : List Tm} (h : TermsAt w a ts) {k : Nat} (hk : k < ts.length) : ∃ b off, a = some ⟨b, off, none⟩ ∧ b < w.heap.size ∧ ∀ (j : Nat) (t : Tm), ts[j]? = some t → w.cell? ⟨b, off + j * 3, none⟩ = some (.int .i64 t.op) ∧ w.cell? ⟨b, off + j * 3 + 1, none⟩ = some (.int .i64 t.a) ∧ w.cell? ⟨b, off + j * 3 + 2, none⟩ = some (.int .i64 t.b) := by
  rcases h with rfl | h
  · simp at hk
  · exact h

theorem tstep_or (acc : List Tm) (x : Nd) : tstep acc x = if !(!(wi x.op 3 8) || acc.any fun y => decide (y = tmOf x)) then acc ++ [tmOf x] else acc := by
  rw [any_symm]; simp [tstep]

set_option maxHeartbeats 4000000 in
set_option maxRecDepth 100000 in
theorem termsOf_any (r : Int) (b off cap : Nat) (ns : List Nd) (w : World) (hN : NodesAt w b off ns) (hl : ns.length ≤ 256) :
    Calls Try.prog 18 #[.agg #[.int .i64 r, .slice (some ⟨b, off, none⟩) ns.length cap]] w fun e w' => ∃ a' cap', e = .returned (.slice a' (tms ns ns.length).length cap') ∧ TermsAt w' a' (tms ns ns.length) ∧ Below w.heap.size w w' := by
  obtain ⟨i0, hi, hz0, hz1, hz2⟩ := info_parts info_term
  go_enter Try.func18, Try.ntmps18
  go_wp2
  have q0 : (w.alloc (.cells #[.int .i64 r, .slice (some ⟨b, off, none⟩) ns.length cap] 24)).cell? ⟨w.heap.size, 0, none⟩ = some (.int .i64 r) := by simp
  have q1 : (w.alloc (.cells #[.int .i64 r, .slice (some ⟨b, off, none⟩) ns.length cap] 24)).cell? ⟨w.heap.size, 1, none⟩ = some (.slice (some ⟨b, off, none⟩) ns.length cap) := by simp
  have hN1 : NodesAt (w.alloc (.cells #[.int .i64 r, .slice (some ⟨b, off, none⟩) ns.length cap] 24)) b off ns := hN.below ((Below.refl w.heap.size w).alloc (Nat.le_refl _) _) hN.lt
  have hB1 : Below w.heap.size w (w.alloc (.cells #[.int .i64 r, .slice (some ⟨b, off, none⟩) ns.length cap] 24)) := (Below.refl w.heap.size w).alloc (Nat.le_refl _) _
  have hS1 : (w.alloc (.cells #[.int .i64 r, .slice (some ⟨b, off, none⟩) ns.length cap] 24)).heap.size = w.heap.size + 1 := by simp
  have hblt := hN.lt
  clear hN
  generalize w.alloc (.cells #[.int .i64 r, .slice (some ⟨b, off, none⟩) ns.length cap] 24) = W at q0 q1 hN1 hB1 hS1 ⊢
  go_loopw [3, 4] (fun v i wv => ∃ k : Nat, k ≤ ns.length ∧ i = .int .i64 k ∧ wv.ownsRow (w.heap.size + 1) 36 3 v (tms ns k).length ((tms ns k).flatMap encTm) ∧ Below (w.heap.size + 1) W wv) (fun _ i _ => ns.length - (intOf i).toNat)
  case atStart => exact ⟨0, Nat.zero_le _, rfl, World.ownsRow_nil _ _ _ _, Below.refl _ _⟩
  case round =>
    obtain ⟨k, hk, rfl, hown, hb⟩ := hrel
    have hsz := hb.size
    have hN2 := hN1.below hb (by omega)
    have hlt2 := hN2.lt
    have p0 : wr.cell? ⟨w.heap.size, 0, none⟩ = some (.int .i64 r) := by rw [hb.cell (p := ⟨w.heap.size, 0, none⟩) (by simp)]; exact q0
    have p1 : wr.cell? ⟨w.heap.size, 1, none⟩ = some (.slice (some ⟨b, off, none⟩) ns.length cap) := by rw [hb.cell (p := ⟨w.heap.size, 1, none⟩) (by simp)]; exact q1
    have hsw : w.heap.size < wr.heap.size := by omega
    by_cases hlt : k < ns.length
    · obtain ⟨x, hx⟩ := get_lt hlt
      have c0 := hN2.c0 k x hx
      have c1 := hN2.c1 k x hx
      have c2 := hN2.c2 k x hx
      have c3 := hN2.c3 k x hx
      have c4 := hN2.c4 k x hx
      have c5 := hN2.c5 k x hx
      have HT := hide (tms_succ hx)
      have HS := hide (tstep_or (tms ns k) x)
      have htl := tms_len ns k
      clear hx hN2
      have hown2 := (hown.alloc (.cells #[.int .i64 x.op, .int .i64 x.d, .int .i64 x.a, .int .i64 x.b, .int .i64 x.t, .int .i64 x.e] 87)).alloc (.cells #[.int .i64 x.op, .int .i64 x.a, .int .i64 x.b] 36)
      obtain ⟨a3, cap3, hv3, hT3⟩ := terms_of_owns hown2
      rw [hv3] at hown2 ⊢
      have hB2 : Below (w.heap.size + 1) W ((wr.alloc (.cells #[.int .i64 x.op, .int .i64 x.d, .int .i64 x.a, .int .i64 x.b, .int .i64 x.t, .int .i64 x.e] 87)).alloc (.cells #[.int .i64 x.op, .int .i64 x.a, .int .i64 x.b] 36)) := (hb.alloc (by omega) _).alloc (by simp; omega) _
      have t0 : ((wr.alloc (.cells #[.int .i64 x.op, .int .i64 x.d, .int .i64 x.a, .int .i64 x.b, .int .i64 x.t, .int .i64 x.e] 87)).alloc (.cells #[.int .i64 x.op, .int .i64 x.a, .int .i64 x.b] 36)).cell? ⟨wr.heap.size + 1, 0, none⟩ = some (.int .i64 x.op) := by rw [World.cell?_alloc_at _ _ _ _ (by simp)]; rfl
      have t1 : ((wr.alloc (.cells #[.int .i64 x.op, .int .i64 x.d, .int .i64 x.a, .int .i64 x.b, .int .i64 x.t, .int .i64 x.e] 87)).alloc (.cells #[.int .i64 x.op, .int .i64 x.a, .int .i64 x.b] 36)).cell? ⟨wr.heap.size + 1, 1, none⟩ = some (.int .i64 x.a) := by rw [World.cell?_alloc_at _ _ _ _ (by simp)]; rfl
      have t2 : ((wr.alloc (.cells #[.int .i64 x.op, .int .i64 x.d, .int .i64 x.a, .int .i64 x.b, .int .i64 x.t, .int .i64 x.e] 87)).alloc (.cells #[.int .i64 x.op, .int .i64 x.a, .int .i64 x.b] 36)).cell? ⟨wr.heap.size + 1, 2, none⟩ = some (.int .i64 x.b) := by rw [World.cell?_alloc_at _ _ _ _ (by simp)]; rfl
      have hS2 : ((wr.alloc (.cells #[.int .i64 x.op, .int .i64 x.d, .int .i64 x.a, .int .i64 x.b, .int .i64 x.t, .int .i64 x.e] 87)).alloc (.cells #[.int .i64 x.op, .int .i64 x.a, .int .i64 x.b] 36)).heap.size = wr.heap.size + 2 := by simp
      clear hown hv3
      go_wp2_with (go_at_call 63; refine (reckons_any _ _).mono ?_; rintro e w' ⟨rfl, rfl⟩)
      generalize (wr.alloc (.cells #[.int .i64 x.op, .int .i64 x.d, .int .i64 x.a, .int .i64 x.b, .int .i64 x.t, .int .i64 x.e] 87)).alloc (.cells #[.int .i64 x.op, .int .i64 x.a, .int .i64 x.b] 36) = W2 at hown2 hT3 hB2 t0 t1 t2 hS2 ⊢
      clear c0 c1 c2 c3 c4 c5 p0 p1
      generalize (!(wi x.op 3 8)) = is0 at HS ⊢
      go_loopw [7, 8] (fun s j wv => ∃ m : Nat, m ≤ (tms ns k).length ∧ j = .int .i64 m ∧ s = .bool (is0 || ((tms ns k).take m).any fun y => decide (y = tmOf x)) ∧ ∃ n, wv = W2.drewN n) (fun _ j _ => (tms ns k).length - (intOf j).toNat)
      case atStart => exact ⟨0, Nat.zero_le _, rfl, by simp, 0, rfl⟩
      case round =>
        obtain ⟨m, hm, rfl, rfl, n, rfl⟩ := hrel
        by_cases hmt : m < (tms ns k).length
        · obtain ⟨y, hy⟩ := get_lt hmt
          obtain ⟨b4, o4, rfl, hb4, hc4⟩ := hT3.at hmt
          obtain ⟨y0, y1, y2⟩ := hc4 m y hy
          have HY := hide (any_take_succ (fun y => decide (y = tmOf x)) hy)
          have heq : ∀ w, Sem.run Try.prog (binOp .eql 36 (.agg #[.int .i64 y.op, .int .i64 y.a, .int .i64 y.b]) (.agg #[.int .i64 x.op, .int .i64 x.a, .int .i64 x.b])) w = .ok (.bool (decide (y = tmOf x))) w := fun w => eqTm.1 y (tmOf x) w
          clear hy hc4
          generalize (decide (y = tmOf x)) = bq at heq HY
          generalize hq : (is0 || ((tms ns k).take m).any fun y => decide (y = tmOf x)) = q
          have HQ := hide hq
          clear hq
          cases q
          · go_wp2
            go_quiet (fail)
            go_wp2
            go_roundw
            case rel => exact ⟨m + 1, by omega, by go_num, (by rw [HY.out, ← Bool.or_assoc, HQ.out]; first | rfl | simp), n + nq, by first | rfl | (simp only [World.drewN_drewN])⟩
            case measure => simp [intOf]; omega
          · go_wp2
            go_quiet (fail)
            go_wp2
            go_roundw
            case rel => exact ⟨m + 1, by omega, by go_num, (by rw [HY.out, ← Bool.or_assoc, HQ.out]; first | rfl | simp), n + nq, by first | rfl | (simp only [World.drewN_drewN])⟩
            case measure => simp [intOf]; omega
        · have htk : (tms ns k).take m = tms ns k := List.take_of_length_le (by omega)
          rw [htk]
          clear htk
          generalize (is0 || (tms ns k).any fun y => decide (y = tmOf x)) = q at HS ⊢
          have hownD := ownsRow_below hown2 (below_drewN (Below.refl W2.heap.size W2) n) (Nat.le_refl _)
          have hBD : Below (w.heap.size + 1) W (W2.drewN n) := below_drewN hB2 n
          have hSD : W2.heap.size ≤ (W2.drewN n).heap.size := Nat.le_refl _
          rw [hS2] at hSD
          have t0D : (W2.drewN n).cell? _ = _ := t0
          have t1D : (W2.drewN n).cell? _ = _ := t1
          have t2D : (W2.drewN n).cell? _ = _ := t2
          clear hown2 hB2 t0 t1 t2 hT3 hS2
          generalize W2.drewN n = W3 at hownD hBD hSD t0D t1D t2D ⊢
          cases q
          · go_wp2_with (at_builtin; refine wpList_append_own _ rfl (.tmp 49) (.tmp 51) 29 rfl (w.heap.size + 1) 36 i0 _ 3 24 Try.underlying29 hi hz0 hz1 hz2 rfl (by decide) _ _ _ rfl (hownD.alloc _) ⟨W3.heap.size, 0, none⟩ 1 1 [.int .i64 x.op, .int .i64 x.a, .int .i64 x.b] rfl rfl ?c1 ?c2 ?c3 ?c4 ?c5 ?_)
            case c1 =>
              intro j u hj
              match j, hj with
              | 0, hj => simp at hj; subst hj; simp [Addr.add]
              | 1, hj => simp at hj; subst hj; simp [Addr.add]
              | 2, hj => simp at hj; subst hj; simp [Addr.add]
              | j + 3, hj => simp at hj
            case c2 => intro u hu; simp at hu; rcases hu with rfl | rfl | rfl <;> rfl
            case c3 => unfold maxLen; omega
            case c4 => omega
            case c5 => simp; omega
            intro v' w4 hown5 hg4 _
            have hlt1 := hownD.lt
            have hB4 : Below (w.heap.size + 1) W w4 := (hBD.alloc (by omega) _).grown hg4 (by simp; omega) (fun k hk => (hlt1 k hk).1)
            have hown6 : w4.ownsRow (w.heap.size + 1) 36 3 v' (tms ns (k + 1)).length ((tms ns (k + 1)).flatMap encTm) := by
              rw [HT.out, HS.out]; simpa [encTm, tmOf] using hown5
            clear hown5 hg4 hlt1 hownD t0D t1D t2D
            go_wp2
            go_roundw
            case rel => exact ⟨k + 1, by omega, by go_num, hown6, hB4⟩
            case measure => simp [intOf]; omega
          · go_wp2
            go_roundw
            case rel => exact ⟨k + 1, by omega, by go_num, by rw [HT.out, HS.out]; simpa using hownD, hBD⟩
            case measure => simp [intOf]; omega
    · have ek : k = ns.length := by omega
      have HK := hide ek
      clear ek
      go_wp2
      go_ret
      rw [HK.out] at hown
      obtain ⟨a2, cap2, hv, hI⟩ := terms_of_owns hown
      refine ⟨a2, cap2, ?_, hI, hB1.trans (hb.mono (by omega))⟩
      rw [← hv]; rfl
end Go.Proofs.Ytoikglgnmjjpcaa
