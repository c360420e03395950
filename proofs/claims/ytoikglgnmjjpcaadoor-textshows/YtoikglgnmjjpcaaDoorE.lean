/-
  hoistwayref.CheckProg, walked: it answers 'chk', whatever it is handed.
-/
import Derived.Test.YtoikglgnmjjpcaaDoorD
namespace Go.Proofs.YtoikglgnmjjpcaaDoor
open Go.RowKit
set_option linter.unusedVariables false

/-- Which of the fields there are, by the operation: eight kinds. -/
def Fl (op : Int) (D A B T O E : Bool) : Prop := wi op 1 9 = D ∧ (wi op 2 8 || wi op 10 12) = A ∧ wi op 3 8 = B ∧ (op != 12) = T ∧ (op == 11) = O ∧ (op != 1) = E

theorem fl_cases {op : Int} (h : kn op = true) : Fl op false false false true false true ∨ Fl op true false false true false false ∨ Fl op true true false true false true ∨ Fl op true true true true false true ∨
    Fl op true false false true false true ∨ Fl op false true false true false true ∨ Fl op false true false true true true ∨ Fl op false true false false false true := by
  rcases op_cases op with (rfl | rfl | rfl | rfl | rfl | rfl | rfl | rfl | rfl | rfl | rfl | rfl | rfl) | hx
  all_goals first | (rw [(kinds_unknown hx).1] at h; cases h) | (simp only [Fl]; decide)

theorem fields_fl {op : Int} {D A B T O E : Bool} (h : Fl op D A B T O E) (w : World) :
    Calls Tryd.prog 19 #[.int .i64 op] w fun e w' => e = .returned (.tuple #[.bool D, .bool A, .bool B, .bool T, .bool O]) ∧ w' = w := by
  obtain ⟨rfl, rfl, rfl, rfl, rfl, rfl⟩ := h
  exact fields_any op w

theorem rng_fl {x : Nd} {D A B T O E : Bool} (r : Int) (len : Nat) (hk : kn x.op = true) (h : Fl x.op D A B T O E) :
    fieldsOk (inB r len) x = ((!D || wi x.d 0 (r - 1)) && (!A || wi x.a 0 (r - 1)) && (!B || wi x.b 0 (r - 1)) && (!T || wi x.t 1 (len - 1)) && (!O || wi x.e 1 (len - 1))) := by
  obtain ⟨op, d, a, b, t, e⟩ := x
  obtain ⟨h1, h2, h3, h4, h5, h6⟩ := h
  simp only at *
  have e0 : inB r len (k0 op) d = (!D || wi d 0 (r - 1)) := by simp only [k0, h1]; cases D <;> simp [inB]
  have e1 : inB r len (k1 op) a = (!A || wi a 0 (r - 1)) := by
    simp only [k1]; by_cases ho : op = 1
    · subst ho; subst h2; simp [inB, wi]
    · rw [if_neg ho, h2]; cases A <;> simp [inB]
  have e2 : inB r len (k2 op) b = (!B || wi b 0 (r - 1)) := by simp only [k2, h3]; cases B <;> simp [inB]
  have e3 : inB r len (k3 op) t = (!T || wi t 1 (len - 1)) := by
    have : wi op 0 11 = T := by
      have hk' := wi_iff.1 hk
      rw [← h4]; by_cases ho : op = 12
      · subst ho; rfl
      · rw [wi_true (by omega) (by omega)]; simp [ho]
    simp only [k3, this]; cases T <;> simp [inB]
  have e4 : inB r len (k4 op) e = (!O || wi e 1 (len - 1)) := by
    simp only [k4]; by_cases ho : op = 11
    · subst ho; subst h5; simp [inB]
    · rw [if_neg ho]; have : O = false := by rw [← h5]; simp [ho]
      subst this; simp [inB]
  simp [fieldsOk, kvs, e0, e1, e2, e3, e4, Bool.and_assoc]

theorem frm_fl {x : Nd} {D A B T O E : Bool} (hk : kn x.op = true) (h : Fl x.op D A B T O E) :
    fieldsOk noF x = ((D || x.d == 0) && (A || !E || x.a == 0) && (B || x.b == 0) && (T || x.t == 0) && (O || x.e == 0)) := by
  obtain ⟨op, d, a, b, t, e⟩ := x
  obtain ⟨h1, h2, h3, h4, h5, h6⟩ := h
  simp only at *
  have e0 : noF (k0 op) d = (D || d == 0) := by simp only [k0, h1]; cases D <;> simp [noF]
  have e1 : noF (k1 op) a = (A || !E || a == 0) := by
    simp only [k1]; by_cases ho : op = 1
    · subst ho; subst h2; subst h6; simp [noF]
    · have : E = true := by rw [← h6]; simp [ho]
      subst this; rw [if_neg ho, h2]; cases A <;> simp [noF]
  have e2 : noF (k2 op) b = (B || b == 0) := by simp only [k2, h3]; cases B <;> simp [noF]
  have e3 : noF (k3 op) t = (T || t == 0) := by
    have : wi op 0 11 = T := by
      have hk' := wi_iff.1 hk
      rw [← h4]; by_cases ho : op = 12
      · subst ho; rfl
      · rw [wi_true (by omega) (by omega)]; simp [ho]
    simp only [k3, this]; cases T <;> simp [noF]
  have e4 : noF (k4 op) e = (O || e == 0) := by
    simp only [k4]; by_cases ho : op = 11
    · subst ho; subst h5; simp [noF]
    · rw [if_neg ho]; have : O = false := by rw [← h5]; simp [ho]
      subst this; simp [noF]
  simp [fieldsOk, kvs, e0, e1, e2, e3, e4, Bool.and_assoc]

set_option maxHeartbeats 1000000 in
set_option maxRecDepth 100000 in
theorem checkProg_many (r : Int) (a : Option Addr) (cap : Nat) (ns : List Nd) (w : World) (h : (wi ns.length 1 256 && wi r 1 64) = false) :
    Calls Tryd.prog 6 #[.agg #[.int .i64 r, .slice a ns.length cap]] w fun e w' => e = .returned (.int .i64 2) ∧ Below w.heap.size w w' := by
  cases h1 : wi ns.length 1 256
  · go_enter Tryd.func6, Tryd.ntmps6
    go_wp2_with (go_at_call 18; refine (rwithin_any _ _ _ _).mono ?_; rintro e w' ⟨rfl, rfl⟩)
    go_ret
    exact ⟨rfl, (Below.refl _ _).alloc (Nat.le_refl _) _⟩
  · have h2 : wi r 1 64 = false := by simpa [h1] using h
    clear h
    go_enter Tryd.func6, Tryd.ntmps6
    go_wp2_with (go_at_call 18; refine (rwithin_any _ _ _ _).mono ?_; rintro e w' ⟨rfl, rfl⟩)
    go_ret
    exact ⟨rfl, (Below.refl _ _).alloc (Nat.le_refl _) _⟩

set_option maxHeartbeats 4000000 in
set_option maxRecDepth 100000 in
theorem checkProg_rest (r : Int) (b off cap : Nat) (ns : List Nd) (w : World) (hN : NodesAt w b off ns) (h1 : wi ns.length 1 256 = true) (h2 : wi r 1 64 = true) :
    Calls Tryd.prog 6 #[.agg #[.int .i64 r, .slice (some ⟨b, off, none⟩) ns.length cap]] w fun e w' => e = .returned (.int .i64 (chk r ns)) ∧ Below w.heap.size w w' := by
  have b1 := wi_iff.1 h1
  have b2 := wi_iff.1 h2
  have hblt := hN.lt
  have hl : ns.length ≤ 256 := by omega
  have HC : Hid (chk r ns = if ns.all (fun x => kn x.op) then if ns.all (fieldsOk (inB r ns.length)) then if ns.all (fieldsOk noF) then 0 else 1 else 3 else 4) := by
    show _ = _; simp [chk, h1, h2]
  generalize chk r ns = C at HC ⊢
  go_enter Tryd.func6, Tryd.ntmps6
  go_wp2_with (go_at_call 18; refine (rwithin_any _ _ _ _).mono ?_; rintro e w' ⟨rfl, rfl⟩)
  clear h1 h2
  have q0 : (w.alloc (.cells #[.int .i64 r, .slice (some ⟨b, off, none⟩) ns.length cap] 24)).cell? ⟨w.heap.size, 0, none⟩ = some (.int .i64 r) := by simp
  have q1 : (w.alloc (.cells #[.int .i64 r, .slice (some ⟨b, off, none⟩) ns.length cap] 24)).cell? ⟨w.heap.size, 1, none⟩ = some (.slice (some ⟨b, off, none⟩) ns.length cap) := by simp
  have hN1 : NodesAt (w.alloc (.cells #[.int .i64 r, .slice (some ⟨b, off, none⟩) ns.length cap] 24)) b off ns := hN.below ((Below.refl w.heap.size w).alloc (Nat.le_refl _) _) hN.lt
  have hB1 : Below w.heap.size w (w.alloc (.cells #[.int .i64 r, .slice (some ⟨b, off, none⟩) ns.length cap] 24)) := (Below.refl w.heap.size w).alloc (Nat.le_refl _) _
  have hS1 : (w.alloc (.cells #[.int .i64 r, .slice (some ⟨b, off, none⟩) ns.length cap] 24)).heap.size = w.heap.size + 1 := by simp
  clear hN
  generalize w.alloc (.cells #[.int .i64 r, .slice (some ⟨b, off, none⟩) ns.length cap] 24) = W at q0 q1 hN1 hB1 hS1 ⊢
  go_loopw [3] (fun i wr => ∃ k : Nat, k ≤ ns.length ∧ i = .int .i64 k ∧ Hid ((ns.take k).all (fun x => kn x.op) = true) ∧ W = wr) (fun i _ => ns.length - (intOf i).toNat)
  case atStart => exact ⟨0, Nat.zero_le _, rfl, rfl, rfl⟩
  case round =>
    obtain ⟨k, hk, rfl, hA, rfl⟩ := hrel
    by_cases hlt : k < ns.length
    · obtain ⟨x, hx⟩ := get_lt hlt
      have c0 := hN1.c0 k x hx
      have HX : Hid (ns[k]? = some x) := hx
      clear hx
      cases hkn : kn x.op
      · have hkn' : wi x.op 0 12 = false := hkn
        go_wp2_with (go_at_call 18; refine (rwithin_any _ _ _ _).mono ?_; rintro e w' ⟨rfl, rfl⟩)
        go_ret
        refine ⟨ret_int ?_, hB1⟩
        rw [HC.out, all_false_at (fun x : Nd => kn x.op) HX.out hkn]; rfl
      · have hkn' : wi x.op 0 12 = true := hkn
        go_wp2_with (go_at_call 18; refine (rwithin_any _ _ _ _).mono ?_; rintro e w' ⟨rfl, rfl⟩)
        go_roundw
        case rel => exact ⟨k + 1, by omega, by go_num, (by show _ = _; rw [all_take_succ _ HX.out, hA.out, hkn]; rfl), by first | rfl | trivial⟩
        case measure => simp [intOf]; omega
    · have hAll : Hid (ns.all (fun x => kn x.op) = true) := by show _ = _; rw [← hA.out, take_all_len (by omega)]
      clear hA
      go_wp2
      clear hlt hk
      go_loopw [4] (fun i wr => ∃ k : Nat, k ≤ ns.length ∧ i = .int .i64 k ∧ Hid ((ns.take k).all (fieldsOk (inB r ns.length)) = true) ∧ Below (w.heap.size + 1) W wr) (fun i _ => ns.length - (intOf i).toNat)
      case atStart => exact ⟨0, Nat.zero_le _, rfl, rfl, Below.refl _ _⟩
      case round =>
        obtain ⟨k, hk, rfl, hA, hb⟩ := hrel
        have hsz := hb.size
        have hB2 : Below w.heap.size w wr := hB1.trans (hb.mono (by omega))
        have hN2 := hN1.below hb (by omega)
        have hlt2 := hN2.lt
        have p0 : wr.cell? ⟨w.heap.size, 0, none⟩ = some (.int .i64 r) := by rw [hb.cell (p := ⟨w.heap.size, 0, none⟩) (by simp)]; exact q0
        have p1 : wr.cell? ⟨w.heap.size, 1, none⟩ = some (.slice (some ⟨b, off, none⟩) ns.length cap) := by rw [hb.cell (p := ⟨w.heap.size, 1, none⟩) (by simp)]; exact q1
        have hsw : w.heap.size < wr.heap.size := by omega
        by_cases hlt : k < ns.length
        · obtain ⟨x, hx⟩ := get_lt hlt
          have c0 := hN2.c0 k x hx
          have c1 := hN2.c1 k x hx
          have c2 := hN2.c2 k x hx
          have c3 := hN2.c3 k x hx
          have c4 := hN2.c4 k x hx
          have c5 := hN2.c5 k x hx
          have HX : Hid (ns[k]? = some x) := hx
          have hkn : kn x.op = true := by have := hAll.out; rw [List.all_eq_true] at this; exact this x (List.mem_of_getElem? hx)
          clear hx
          rcases fl_cases hkn with hf | hf | hf | hf | hf | hf | hf | hf
          all_goals
            have HS : Hid (_ = _) := rng_fl r ns.length hkn hf
            have HF := hide hf
            clear hf hkn hN1 hN2 q0 q1
            as_aux_lemma =>
              go_wp2_with (first | (go_at_call 19; refine (fields_fl HF.out _).mono ?_; rintro e w' ⟨rfl, rfl⟩) | (go_at_call 18; refine (rwithin_any _ _ _ _).mono ?_; rintro e w' ⟨rfl, rfl⟩))
              all_goals
                first
                | (go_ret
                   refine ⟨ret_int ?_, hB2.alloc (by omega) _⟩
                   have hff : fieldsOk (inB r ns.length) x = false := by
                     rw [HS.out]
                     first
                     | (simp [*]; done)
                     | (simp [*]; simpa using ‹(!wi x.e 1 ((ns.length : Int) - 1)) = true›)
                   rw [HC.out, hAll.out, all_false_at (fieldsOk (inB r ns.length)) HX.out hff]; rfl)
                | (go_roundw
                   case rel =>
                     have hff : fieldsOk (inB r ns.length) x = true := by
                       rw [HS.out]
                       first
                       | (simp [*]; done)
                       | (simp [*]; simpa using ‹(!wi x.e 1 ((ns.length : Int) - 1)) = false›)
                     exact ⟨k + 1, by omega, by go_num, (by show _ = _; rw [all_take_succ _ HX.out, hA.out, hff]; rfl), hb.alloc (by omega) _⟩
                   case measure => simp [intOf]; omega)
        · have hAll2 : Hid (ns.all (fieldsOk (inB r ns.length)) = true) := by show _ = _; rw [← hA.out, take_all_len (by omega)]
          clear hA
          go_wp2
          clear hlt hk p0 p1 hN2
          go_loopw [11] (fun i ws => ∃ k : Nat, k ≤ ns.length ∧ i = .int .i64 k ∧ Hid ((ns.take k).all (fieldsOk noF) = true) ∧ Below (w.heap.size + 1) W ws) (fun i _ => ns.length - (intOf i).toNat)
          case atStart => exact ⟨0, Nat.zero_le _, rfl, rfl, hb⟩
          case round =>
            clear hb hsz hB2 hlt2 hsw
            obtain ⟨k, hk, rfl, hA, hb⟩ := hrel
            have hsz := hb.size
            have hB2 : Below w.heap.size w wr := hB1.trans (hb.mono (by omega))
            have hN2 := hN1.below hb (by omega)
            have hlt2 := hN2.lt
            have p1 : wr.cell? ⟨w.heap.size, 1, none⟩ = some (.slice (some ⟨b, off, none⟩) ns.length cap) := by rw [hb.cell (p := ⟨w.heap.size, 1, none⟩) (by simp)]; exact q1
            have hsw : w.heap.size < wr.heap.size := by omega
            by_cases hlt : k < ns.length
            · obtain ⟨x, hx⟩ := get_lt hlt
              have c0 := hN2.c0 k x hx
              have c1 := hN2.c1 k x hx
              have c2 := hN2.c2 k x hx
              have c3 := hN2.c3 k x hx
              have c4 := hN2.c4 k x hx
              have c5 := hN2.c5 k x hx
              have HX : Hid (ns[k]? = some x) := hx
              have hkn : kn x.op = true := by have := hAll.out; rw [List.all_eq_true] at this; exact this x (List.mem_of_getElem? hx)
              clear hx
              rcases fl_cases hkn with hf | hf | hf | hf | hf | hf | hf | hf
              all_goals
                have HS : Hid (_ = _) := frm_fl hkn hf
                have HF := hide hf
                have hE := hf.2.2.2.2.2
                clear hf hkn hN1 hN2 q0 q1
                as_aux_lemma =>
                  go_wp2_with (first | (go_at_call 19; refine (fields_fl HF.out _).mono ?_; rintro e w' ⟨rfl, rfl⟩))
                  all_goals
                    first
                    | (go_ret
                       refine ⟨ret_int ?_, hB2.alloc (by omega) _⟩
                       have hff : fieldsOk noF x = false := by
                         rw [HS.out]
                         first
                         | (simp [*]; done)
                         | (simp [*]; simpa using ‹(x.e != 0) = true›)
                       rw [HC.out, hAll.out, hAll2.out, all_false_at (fieldsOk noF) HX.out hff]; rfl)
                    | (go_roundw
                       case rel =>
                         have hff : fieldsOk noF x = true := by
                           rw [HS.out]
                           first
                           | (simp [*]; done)
                           | (simp [*]; simpa using ‹(x.e != 0) = false›)
                         exact ⟨k + 1, by omega, by go_num, (by show _ = _; rw [all_take_succ _ HX.out, hA.out, hff]; rfl), hb.alloc (by omega) _⟩
                       case measure => simp [intOf]; omega)
            · have hAll3 : Hid (ns.all (fieldsOk noF) = true) := by show _ = _; rw [← hA.out, take_all_len (by omega)]
              clear hA
              go_wp2
              go_ret
              refine ⟨ret_int ?_, hB2⟩
              rw [HC.out, hAll.out, hAll2.out, hAll3.out]; rfl

theorem checkProg_any (r : Int) (a : Option Addr) (cap : Nat) (ns : List Nd) (w : World) (hN : SlN w a ns) :
    Calls Tryd.prog 6 #[.agg #[.int .i64 r, .slice a ns.length cap]] w fun e w' => e = .returned (.int .i64 (chk r ns)) ∧ Below w.heap.size w w' := by
  cases h : (wi ns.length 1 256 && wi r 1 64)
  · have e : chk r ns = 2 := by simp [chk, h]
    rw [e]; exact checkProg_many r a cap ns w h
  · rw [Bool.and_eq_true] at h
    obtain ⟨b, off, rfl, hN'⟩ := hN.some (by have := (wi_iff.1 h.1).1; omega)
    exact checkProg_rest r b off cap ns w hN' h.1 h.2
end Go.Proofs.YtoikglgnmjjpcaaDoor
