/-
  Terms in memory: their comparison, slices.Contains over them, prog.Terms.
-/
import Derived.Test.YtoikglgnmjjpcaaK
import Derived.Test.YtoikglgnmjjpcaaS
import Derived.Laws.StructEq
namespace Go.Proofs.Ytoikglgnmjjpcaa
open Go.RowKit
set_option linter.unusedVariables false

def encTm (t : Tm) : List Value := [.int .i64 t.op, .int .i64 t.a, .int .i64 t.b]
theorem encTm_len (t : Tm) : (encTm t).length = 3 := rfl

theorem eqTm : EqlAt Try.prog 36 (fun x => .agg (encTm x).toArray) (fun x y => decide (x = y)) := by
  refine ⟨fun x y w => ?_, GuardAt.agg _ (by kernel_rfl)⟩
  have u3 := Try.underlying3
  have a3 := Try.isAgg3
  have z3 := Try.sizeOf3
  have hS : Try.prog.underlying 36 = some (.struct (Try.prog.fieldsOf 36)) := by kernel_rfl
  have hp : Try.prog.stoodInHeld 36 = false := by kernel_rfl
  simp only [encTm]
  rw [run_eql_struct, show (10000 : Nat) = 9999 + 1 from rfl, run_equalIn_agg w 9999 36 _ _ hS hp]
  simp only [Program.fieldsOf, Try.underlying36]
  go_simp
  obtain ⟨x1, x2, x3⟩ := x
  obtain ⟨y1, y2, y3⟩ := y
  by_cases h1 : x1 = y1 <;> by_cases h2 : x2 = y2 <;> by_cases h3 : x3 = y3 <;> simp [h1, h2, h3]

/-- The terms ts lie at the place a. -/
def TermsAt (w : World) (a : Option Addr) (ts : List Tm) : Prop :=
  ts = [] ∨ ∃ b off, a = some ⟨b, off, none⟩ ∧ b < w.heap.size ∧ ∀ (j : Nat) (t : Tm), ts[j]? = some t → w.cell? ⟨b, off + j * 3, none⟩ = some (.int .i64 t.op) ∧ w.cell? ⟨b, off + j * 3 + 1, none⟩ = some (.int .i64 t.a) ∧ w.cell? ⟨b, off + j * 3 + 2, none⟩ = some (.int .i64 t.b)

theorem TermsAt.below {w w' : World} {a : Option Addr} {ts : List Tm} (h : TermsAt w a ts) (hb : Below w.heap.size w w') : TermsAt w' a ts := by
  rcases h with h | ⟨b, off, rfl, hlt, h⟩
  · exact Or.inl h
  · refine Or.inr ⟨b, off, rfl, Nat.lt_of_lt_of_le hlt hb.size, fun j t ht => ?_⟩
    rw [hb.cell (p := ⟨b, _, none⟩) hlt, hb.cell (p := ⟨b, _, none⟩) hlt, hb.cell (p := ⟨b, _, none⟩) hlt]
    exact h j t ht

theorem terms_of_owns {w : World} {base : Nat} {e : TypeId} {v : Value} {ts : List Tm} (h : w.ownsRow base e 3 v ts.length (ts.flatMap encTm)) : ∃ a cap, v = .slice a ts.length cap ∧ TermsAt w a ts := by
  have hc : ∀ g, v.ownBlock = some g → ∀ j u, (ts.flatMap encTm)[j]? = some u → w.cell? ((⟨g, 0, none⟩ : Addr).add j) = some u := fun g hg => h.cells hg
  obtain ⟨_, h⟩ := h
  rcases h with ⟨rfl, h0⟩ | ⟨g, cap, cur, rfl, h1, h2, h3, h4, h5, h6⟩
  · have : ts = [] := List.eq_nil_of_length_eq_zero h0
    subst this
    exact ⟨none, 0, rfl, Or.inl rfl⟩
  · refine ⟨_, cap, rfl, Or.inr ⟨g, 0, rfl, (Array.getElem?_eq_some_iff.1 h2).1, ?_⟩⟩
    intro j t ht
    have e : ∀ i, (⟨g, 0, none⟩ : Addr).add i = ⟨g, 0 + i, none⟩ := by intro i; cases i <;> simp [Addr.add]
    have f : ∀ i, i < 3 → ∀ u, (encTm t)[i]? = some u → w.cell? ⟨g, 0 + (j * 3 + i), none⟩ = some u := by
      intro i hi u hu
      have := hc g rfl (j * 3 + i) u (by rw [flat3 encTm encTm_len ts j i t ht hi]; exact hu)
      rwa [e] at this
    exact ⟨f 0 (by omega) _ rfl, f 1 (by omega) _ rfl, f 2 (by omega) _ rfl⟩

theorem info_term : (Try.prog.info? 36).map (fun i => (i.zero, i.size, i.bytes)) = some (some (.agg #[.int .i64 0, .int .i64 0, .int .i64 0]), 3, 24) := by kernel_rfl

set_option maxHeartbeats 1000000 in
theorem containsT_empty (a : Option Addr) (cap : Nat) (t : Tm) (w : World) :
    Calls Try.prog 59 #[.slice a 0 cap, .agg #[.int .i64 t.op, .int .i64 t.a, .int .i64 t.b]] w fun e w' => e = .returned (.bool false) ∧ Below w.heap.size w w' := by
  have hI : ∀ w, Calls Try.prog 99 #[.slice a 0 cap, .agg #[.int .i64 t.op, .int .i64 t.a, .int .i64 t.b]] w fun e w' => e = .returned (.int .i64 (-1)) ∧ Below w.heap.size w w' := by
    intro w
    go_enter Try.func99, Try.ntmps99
    go_wp2
    refine wp_loop_rounds 1 ?_
    rw [rounds_succ]
    go_wp2
    go_ret
    exact ⟨rfl, (Below.refl _ _).alloc (Nat.le_refl _) _⟩
  go_enter Try.func59, Try.ntmps59
  go_wp2_with fail
  refine (hI _).mono ?_
  rintro e w' ⟨rfl, hb⟩
  simp only [World.size_alloc] at hb
  go_wp2
  go_ret
  exact ⟨rfl, ((Below.refl _ _).alloc (Nat.le_refl _) _).trans (hb.mono (by omega))⟩

theorem containsT_any (a : Option Addr) (cap : Nat) (ts : List Tm) (t : Tm) (w : World) (h : TermsAt w a ts) (hl : ts.length ≤ 9223372036854775807) :
    Calls Try.prog 59 #[.slice a ts.length cap, .agg #[.int .i64 t.op, .int .i64 t.a, .int .i64 t.b]] w fun e w' => e = .returned (.bool (ts.any fun y => decide (t = y))) ∧ Below w.heap.size w w' := by
  rcases h with rfl | ⟨b, off, rfl, hlt, hc⟩
  · exact containsT_empty a cap t w
  · have h1 := AnyQ.slices_Contains Try.containsTerm 3 Try.isAgg36 Try.sizeOf36 encTm encTm_len _ eqTm b off ts.length cap ts t w (Nat.le_refl _) hl (fun j hj i v hi => by
      have ht : ts[j]? = some ts[j]! := by rw [List.getElem?_eq_getElem hj, getElem!_pos ts j hj]
      generalize ts[j]! = t' at ht hi
      obtain ⟨q0, q1, q2⟩ := hc j _ ht
      match i, hi with
      | 0, hi => simp [encTm] at hi; subst hi; exact q0
      | 1, hi => simp [encTm] at hi; subst hi; exact q1
      | 2, hi => simp [encTm] at hi; subst hi; exact q2
      | i + 3, hi => simp [encTm] at hi)
    rw [List.take_length] at h1
    exact h1

/-- What Terms answers. -/
def termsL (r : Int) (ns : List Nd) : List Tm := if chk r ns = 0 then tms ns ns.length else []

set_option maxHeartbeats 2000000 in
set_option maxRecDepth 100000 in
theorem terms_any (r : Int) (a : Option Addr) (cap : Nat) (ns : List Nd) (w : World) (hN : SlN w a ns) :
    Calls Try.prog 14 #[.agg #[.int .i64 r, .slice a ns.length cap]] w fun e w' => ∃ a' cap', e = .returned (.tuple #[.slice a' (termsL r ns).length cap', .int .i64 (chk r ns)]) ∧ TermsAt w' a' (termsL r ns) ∧ Below w.heap.size w w' := by
  have hN1 : SlN (w.alloc (.cells #[.int .i64 r, .slice a ns.length cap] 24)) a ns := hN.below ((Below.refl w.heap.size w).alloc (Nat.le_refl _) _)
  by_cases hc : chk r ns = 0
  · obtain ⟨hl2, _, _, _, _⟩ := chk_zero hc
    obtain ⟨b, off, rfl, hNb⟩ := hN.some (by omega)
    have hnx : termsL r ns = tms ns ns.length := by simp only [termsL, hc, if_true]
    rw [hnx, hc]
    obtain ⟨i0, hi, hz0, hz1, hz2⟩ := info_parts info_term
    go_enter Try.func14, Try.ntmps14
    go_wp2_with fail
    refine (check_any r _ cap ns _ hN1).mono ?_
    rintro e w1 ⟨rfl, hb1⟩
    have hs1 := hb1.size
    simp only [World.size_alloc] at hs1 hb1
    have hB1 : Below w.heap.size w w1 := ((Below.refl _ _).alloc (Nat.le_refl _) _).trans (hb1.mono (by omega))
    have q1 : w1.cell? ⟨w.heap.size, 1, none⟩ = some (.slice (some ⟨b, off, none⟩) ns.length cap) := by rw [hb1.cell (p := ⟨w.heap.size, 1, none⟩) (by simp)]; simp
    have hs1' : w.heap.size < w1.heap.size := by omega
    have hNw := hNb.below hB1 hNb.lt
    have hblt := hNb.lt
    clear hb1 hnx hN1 hNb
    rw [hc]
    clear hc
    go_wp2
    go_loopw [5, 18] (fun v i wv => ∃ k : Nat, k ≤ ns.length ∧ i = .int .i64 k ∧ wv.ownsRow (w.heap.size + 1) 36 3 v (tms ns k).length ((tms ns k).flatMap encTm) ∧ Below (w.heap.size + 1) w1 wv) (fun _ i _ => ns.length - (intOf i).toNat)
    case atStart => exact ⟨0, Nat.zero_le _, rfl, World.ownsRow_nil _ _ _ _, Below.refl _ _⟩
    case round =>
      obtain ⟨k, hk, rfl, hown, hb⟩ := hrel
      have hsz := hb.size
      have hN2 := hNw.below hb (by omega)
      have hlt2 := hN2.lt
      have hsw : w.heap.size < wr.heap.size := by omega
      by_cases hlt : k < ns.length
      · obtain ⟨x, hx⟩ := get_lt hlt
        have c0 := hN2.c0 k x hx
        have c1 := hN2.c1 k x hx
        have c2 := hN2.c2 k x hx
        have c3 := hN2.c3 k x hx
        have c4 := hN2.c4 k x hx
        have c5 := hN2.c5 k x hx
        have HT := hide (tms_succ hx)
        have htl := tms_len ns k
        clear hx hN2
        by_cases hop : 3 ≤ x.op ∧ x.op ≤ 8
        · obtain ⟨ho1, ho2⟩ := hop
          have HW := hide (wi_true ho1 ho2)
          go_wp2_with fail
          refine (term_yes _ _ _ _ _ _ _ ho1 ho2).mono ?_
          rintro e w2 ⟨rfl, hb2⟩
          have hs2 := hb2.size
          simp only [World.size_alloc] at hs2 hb2
          have hown2 := (ownsRow_below (hown.alloc _) hb2 (by simp))
          have hB2 : Below (w.heap.size + 1) w1 w2 := (hb.alloc (by omega) _).trans (hb2.mono (by omega))
          have hown3 := hown2.alloc (.cells #[.int .i64 x.op, .int .i64 x.a, .int .i64 x.b] 36)
          obtain ⟨a3, cap3, hv3, hT3⟩ := terms_of_owns hown3
          have HV := hide hv3
          rw [hv3] at hown3
          clear hown hb2 c0 c1 c2 c3 c4 c5 hown2
          rw [hv3]
          clear hv3
          have hcon := containsT_any a3 cap3 (tms ns k) (tmOf x) _ hT3 (by omega)
          have hst := tstep_yes (tms ns k) HW.out
          generalize ((tms ns k).any fun y => decide (tmOf x = y)) = bb at hcon hst
          simp only [tmOf] at hcon
          have HS := hide hst
          clear hst
          go_wp2_with fail
          refine hcon.mono ?_
          rintro e w3 ⟨rfl, hb3⟩
          have hs3 := hb3.size
          have hown4 := ownsRow_below hown3 hb3 (Nat.le_refl _)
          simp only [World.size_alloc] at hs3 hb3
          have hB3 : Below (w.heap.size + 1) w1 w3 := (hB2.alloc (by omega) _).trans (hb3.mono (by omega))
          have t0 : w3.cell? ⟨w2.heap.size, 0, none⟩ = some (.int .i64 x.op) := by rw [hb3.cell (p := ⟨w2.heap.size, 0, none⟩) (by simp)]; simp
          have t1 : w3.cell? ⟨w2.heap.size, 1, none⟩ = some (.int .i64 x.a) := by rw [hb3.cell (p := ⟨w2.heap.size, 1, none⟩) (by simp)]; simp
          have t2 : w3.cell? ⟨w2.heap.size, 2, none⟩ = some (.int .i64 x.b) := by rw [hb3.cell (p := ⟨w2.heap.size, 2, none⟩) (by simp)]; simp
          have hs3' : w2.heap.size < w3.heap.size := by omega
          clear hcon hT3 hown3 hb3
          cases bb
          · go_wp2_with (at_builtin; refine wpList_append_own _ rfl (.tmp 34) (.tmp 36) 29 rfl (w.heap.size + 1) 36 i0 _ 3 24 Try.underlying29 hi hz0 hz1 hz2 rfl (by decide) _ _ _ rfl (hown4.alloc _) ⟨w3.heap.size, 0, none⟩ 1 1 [.int .i64 x.op, .int .i64 x.a, .int .i64 x.b] rfl rfl ?c1 ?c2 ?c3 ?c4 ?c5 ?_)
            case c1 =>
              intro j u hj
              match j, hj with
              | 0, hj => simp at hj; subst hj; simp [Addr.add]
              | 1, hj => simp at hj; subst hj; simp [Addr.add]
              | 2, hj => simp at hj; subst hj; simp [Addr.add]
              | j + 3, hj => simp at hj
            case c2 => intro u hu; simp at hu; rcases hu with rfl | rfl | rfl <;> rfl
            case c3 => unfold maxLen; omega
            case c4 => omega
            case c5 => simp; omega
            intro v' w4 hown5 hg4 _
            have hlt1 := hown4.lt
            have hB4 : Below (w.heap.size + 1) w1 w4 := (hB3.alloc (by omega) _).grown hg4 (by simp; omega) (fun k hk => (hlt1 k hk).1)
            have hown6 : w4.ownsRow (w.heap.size + 1) 36 3 v' (tms ns (k + 1)).length ((tms ns (k + 1)).flatMap encTm) := by
              rw [HT.out, HS.out]; simpa [encTm, tmOf] using hown5
            clear hown5 hg4 hlt1 hown4 t0 t1 t2
            go_wp2
            go_roundw
            case rel => exact ⟨k + 1, by omega, by go_num, hown6, hB4⟩
            case measure => simp [intOf]; omega
          · go_wp2
            go_roundw
            case rel => exact ⟨k + 1, by omega, by go_num, by rw [HT.out, HS.out]; simpa using hown4, hB3⟩
            case measure => simp [intOf]; omega
        · have hop' : x.op < 3 ∨ 8 < x.op := by omega
          have HW := hide (wi_false hop')
          have HS := hide (tstep_no (tms ns k) HW.out)
          clear hop
          go_wp2_with fail
          refine (term_no _ _ _ _ _ _ _ hop').mono ?_
          rintro e w2 ⟨rfl, hb2⟩
          have hs2 := hb2.size
          simp only [World.size_alloc] at hs2 hb2
          have hown2 := (ownsRow_below (hown.alloc _) hb2 (by simp))
          have hB2 : Below (w.heap.size + 1) w1 w2 := (hb.alloc (by omega) _).trans (hb2.mono (by omega))
          clear hown hb2 c0 c1 c2 c3 c4 c5
          go_wp2
          go_roundw
          case rel => exact ⟨k + 1, by omega, by go_num, by rw [HT.out, HS.out]; exact hown2.alloc _, hB2.alloc (by omega) _⟩
          case measure => simp [intOf]; omega
      · have ek : k = ns.length := by omega
        have HE := hide ek
        clear ek hN2
        go_wp2
        go_ret2
        rw [HE.out] at hown
        obtain ⟨a2, cap2, hv, hI⟩ := terms_of_owns hown
        refine ⟨a2, cap2, ?_, hI, hB1.trans (hb.mono (by omega))⟩
        rw [← hv]; rfl
  · have hnx : termsL r ns = [] := by simp [termsL, hc]
    rw [hnx]
    have hb : (chk r ns != 0) = true := by simp [hc]
    clear hc hnx
    go_enter Try.func14, Try.ntmps14
    go_wp2_with fail
    refine (check_any r _ cap ns _ hN1).mono ?_
    rintro e w1 ⟨rfl, hb1⟩
    have hs1 := hb1.size
    simp only [World.size_alloc] at hs1 hb1
    have hB1 : Below w.heap.size w w1 := ((Below.refl _ _).alloc (Nat.le_refl _) _).trans (hb1.mono (by omega))
    go_wp2
    go_ret2
    exact ⟨none, 0, rfl, Or.inl rfl, hB1⟩
end Go.Proofs.Ytoikglgnmjjpcaa
