/-
  prog.kindsKnown and prog.eachField, walked.
-/
import Derived.Test.YtoikglgnmjjpcaaDoorB
namespace Go.Proofs.YtoikglgnmjjpcaaDoor
open Go.RowKit
set_option linter.unusedVariables false

set_option maxHeartbeats 400000 in
theorem kindsKnown_any (r : Int) (b off cap : Nat) (ns : List Nd) (w : World) (hN : NodesAt w b off ns) (hl : ns.length ≤ 256) :
    Calls Tryd.prog 28 #[.agg #[.int .i64 r, .slice (some ⟨b, off, none⟩) ns.length cap]] w fun e w' => e = .returned (.bool (ns.all fun x => kn x.op)) ∧ Below w.heap.size w w' := by
  go_enter Tryd.func28, Tryd.ntmps28
  go_wp2
  go_loopw [10] (fun i wr => ∃ k : Nat, k ≤ ns.length ∧ i = .int .i64 k ∧ Hid ((ns.take k).all (fun x => kn x.op) = true) ∧ Below w.heap.size w wr) (fun i _ => ns.length - (intOf i).toNat)
  case atStart => exact ⟨0, Nat.zero_le _, rfl, rfl, (Below.refl _ _).alloc (Nat.le_refl _) _⟩
  case round =>
    obtain ⟨k, hk, rfl, hA, hb⟩ := hrel
    have hN' := hN.below hb hN.lt
    have hlt' := hN'.lt
    have hsz := hb.size
    by_cases hlt : k < ns.length
    · obtain ⟨x, hx⟩ := get_lt hlt
      have c0 := hN'.c0 k x hx
      have c1 := hN'.c1 k x hx
      have c2 := hN'.c2 k x hx
      have c3 := hN'.c3 k x hx
      have c4 := hN'.c4 k x hx
      have c5 := hN'.c5 k x hx
      have HX : Hid (ns[k]? = some x) := hx
      clear hx hN'
      go_wp2_with fail
      refine (of_any _ _).mono ?_
      rintro e w1 ⟨rfl, hb1⟩
      have hs1 := hb1.size
      simp only [World.size_alloc] at hs1 hb1
      have hB : Below w.heap.size w w1 := (hb.alloc hsz _).trans (hb1.mono (by omega))
      clear hb1 c0 c1 c2 c3 c4 c5
      cases hkn : kn x.op
      · go_wp2
        go_ret
        exact ⟨ret_bool (all_false_at (fun x : Nd => kn x.op) HX.out hkn).symm, hB.alloc (by omega) _⟩
      · go_wp2
        go_roundw
        case rel => exact ⟨k + 1, by omega, by go_num, (by show _ = _; rw [all_take_succ _ HX.out, hA.out, hkn]; rfl), hB.alloc (by omega) _⟩
        case measure => simp [intOf]; omega
    · go_wp2
      go_ret
      refine ⟨ret_bool ?_, hb⟩
      rw [← hA.out, take_all_len (by omega)]

theorem idx5_0 (a0 a1 a2 a3 a4 : Value) (w : World) : (Instr.index 71 (.agg #[a0, a1, a2, a3, a4]) (.int .i64 0)).run Tryd.prog w = .ok a0 w := by kernel_rfl
theorem idx5_1 (a0 a1 a2 a3 a4 : Value) (w : World) : (Instr.index 71 (.agg #[a0, a1, a2, a3, a4]) (.int .i64 1)).run Tryd.prog w = .ok a1 w := by kernel_rfl
theorem idx5_2 (a0 a1 a2 a3 a4 : Value) (w : World) : (Instr.index 71 (.agg #[a0, a1, a2, a3, a4]) (.int .i64 2)).run Tryd.prog w = .ok a2 w := by kernel_rfl
theorem idx5_3 (a0 a1 a2 a3 a4 : Value) (w : World) : (Instr.index 71 (.agg #[a0, a1, a2, a3, a4]) (.int .i64 3)).run Tryd.prog w = .ok a3 w := by kernel_rfl
theorem idx5_4 (a0 a1 a2 a3 a4 : Value) (w : World) : (Instr.index 71 (.agg #[a0, a1, a2, a3, a4]) (.int .i64 4)).run Tryd.prog w = .ok a4 w := by kernel_rfl

set_option maxHeartbeats 1000000 in
set_option maxRecDepth 100000 in
/-- prog.eachField over a closure that answers R, whatever it lays. -/
theorem eachField_any (R : Int → Int → Bool) (g : Nat) (cb : Array Value) (r : Int) (b off cap : Nat) (ns : List Nd) (w : World) (hN : NodesAt w b off ns) (hl : ns.length ≤ 256)
    (eg : ∀ args w, (callFunc g args).run Tryd.prog w = .ok (.enter g args) w)
    (hg : ∀ (k v : Int) (W : World), Below w.heap.size w W → Calls Tryd.prog g (#[.int .i64 k, .int .i64 v] ++ cb) W fun e w' => e = .returned (.bool (R k v)) ∧ Below W.heap.size W w') :
    Calls Tryd.prog 30 #[.agg #[.int .i64 r, .slice (some ⟨b, off, none⟩) ns.length cap], .func (.func g) #[] cb] w fun e w' => e = .returned (.bool (ns.all (fieldsOk R))) ∧ Below w.heap.size w w' := by
  go_enter Tryd.func30, Tryd.ntmps30
  go_wp2
  go_loopw [14] (fun i wr => ∃ k : Nat, k ≤ ns.length ∧ i = .int .i64 k ∧ Hid ((ns.take k).all (fieldsOk R) = true) ∧ Below w.heap.size w wr) (fun i _ => ns.length - (intOf i).toNat)
  case atStart => exact ⟨0, Nat.zero_le _, rfl, rfl, (Below.refl _ _).alloc (Nat.le_refl _) _⟩
  case round =>
    obtain ⟨k, hk, rfl, hA, hb⟩ := hrel
    have hN' := hN.below hb hN.lt
    have hlt' := hN'.lt
    have hsz := hb.size
    by_cases hlt : k < ns.length
    · obtain ⟨x, hx⟩ := get_lt hlt
      have c0 := hN'.c0 k x hx
      have c1 := hN'.c1 k x hx
      have c2 := hN'.c2 k x hx
      have c3 := hN'.c3 k x hx
      have c4 := hN'.c4 k x hx
      have c5 := hN'.c5 k x hx
      have HX : Hid (ns[k]? = some x) := hx
      clear hx hN'
      go_wp2_with fail
      refine (of_any _ _).mono ?_
      rintro e w1 ⟨rfl, hb1⟩
      have hs1 := hb1.size
      simp only [World.size_alloc] at hs1 hb1
      have hB : Below w.heap.size w w1 := (hb.alloc hsz _).trans (hb1.mono (by omega))
      have d : ∀ o, o < 6 → w1.cell? ⟨wr.heap.size, o, none⟩ = #[Value.int .i64 x.op, .int .i64 x.d, .int .i64 x.a, .int .i64 x.b, .int .i64 x.t, .int .i64 x.e][o]? := by
        intro o _; rw [hb1.cell (p := ⟨wr.heap.size, o, none⟩) (by simp)]; simp
      have d0 := d 0 (by omega)
      have d1 := d 1 (by omega)
      have d2 := d 2 (by omega)
      have d3 := d 3 (by omega)
      have d4 := d 4 (by omega)
      have d5 := d 5 (by omega)
      simp at d0 d1 d2 d3 d4 d5
      clear hb1 c0 c1 c2 c3 c4 c5 d
      have hw1 : wr.heap.size < w1.heap.size := by omega
      go_wp2_with fail
      refine (values_any _ _ _ _ _ _ _).mono ?_
      rintro e w2 ⟨rfl, hb2⟩
      have hs2 := hb2.size
      simp only [World.size_alloc] at hs2 hb2
      have hB2 : Below w.heap.size w w2 := (hB.alloc (by omega) _).trans (hb2.mono (by omega))
      have kc : ∀ o, w2.cell? ⟨w1.heap.size, o, none⟩ = #[Value.int .i64 (k0 x.op), .int .i64 (k1 x.op), .int .i64 (k2 x.op), .int .i64 (k3 x.op), .int .i64 (k4 x.op)][o]? := by
        intro o; rw [hb2.cell (p := ⟨w1.heap.size, o, none⟩) (by simp)]; simp
      clear hb2 d0 d1 d2 d3 d4 d5
      have HG := hide hg
      clear hg
      go_wp2
      go_loopw [26] (fun j wv => ∃ m : Nat, m ≤ 5 ∧ j = .int .i64 m ∧ Hid (((kvs x).take m).all (fun p => R p.1 p.2) = true) ∧ Below (w1.heap.size + 1) w2 wv) (fun j _ => 5 - (intOf j).toNat)
      case atStart => exact ⟨0, Nat.zero_le _, rfl, rfl, Below.refl _ _⟩
      case round =>
        obtain ⟨m, hm, rfl, hM, hv⟩ := hrel
        have hvs := hv.size
        have hBv : Below w.heap.size w wr := hB2.trans (hv.mono (by omega))
        have kc' : ∀ o, wr.cell? ⟨w1.heap.size, o, none⟩ = #[Value.int .i64 (k0 x.op), .int .i64 (k1 x.op), .int .i64 (k2 x.op), .int .i64 (k3 x.op), .int .i64 (k4 x.op)][o]? := by
          intro o; rw [hv.cell (p := ⟨w1.heap.size, o, none⟩) (by simp)]; exact kc o
        have kc0 := kc' 0
        have kc1 := kc' 1
        have kc2 := kc' 2
        have kc3 := kc' 3
        have kc4 := kc' 4
        simp at kc0 kc1 kc2 kc3 kc4
        clear kc' kc
        match m, hm with
        | 0, _ =>
          have i0 := idx5_0
          go_wp2_with fail
          refine (HG.out _ _ _ hBv).mono ?_
          rintro e w3 ⟨rfl, hb3⟩
          have hs3 := hb3.size
          have hB3 : Below w.heap.size w w3 := hBv.trans (hb3.mono (by omega))
          cases hR : R (k0 x.op) x.d
          · go_wp2
            go_ret
            exact ⟨ret_bool (all_false_at (fieldsOk R) HX.out (by simp [fieldsOk, kvs, hR])).symm, hB3⟩
          · go_wp2
            go_roundw
            case rel => exact ⟨1, by omega, by go_num, (by show _ = _; simp [kvs, hR]), hv.trans (hb3.mono (by omega))⟩
            case measure => simp [intOf]
        | 1, _ =>
          have i1 := idx5_1
          go_wp2_with fail
          refine (HG.out _ _ _ hBv).mono ?_
          rintro e w3 ⟨rfl, hb3⟩
          have hs3 := hb3.size
          have hB3 : Below w.heap.size w w3 := hBv.trans (hb3.mono (by omega))
          cases hR : R (k1 x.op) x.a
          · go_wp2
            go_ret
            exact ⟨ret_bool (all_false_at (fieldsOk R) HX.out (by simp [fieldsOk, kvs, hR])).symm, hB3⟩
          · go_wp2
            go_roundw
            case rel => exact ⟨2, by omega, by go_num, (by have := hM.out; show _ = _; simp [kvs] at this ⊢; simp [this, hR]), hv.trans (hb3.mono (by omega))⟩
            case measure => simp [intOf]
        | 2, _ =>
          have i2 := idx5_2
          go_wp2_with fail
          refine (HG.out _ _ _ hBv).mono ?_
          rintro e w3 ⟨rfl, hb3⟩
          have hs3 := hb3.size
          have hB3 : Below w.heap.size w w3 := hBv.trans (hb3.mono (by omega))
          cases hR : R (k2 x.op) x.b
          · go_wp2
            go_ret
            exact ⟨ret_bool (all_false_at (fieldsOk R) HX.out (by simp [fieldsOk, kvs, hR])).symm, hB3⟩
          · go_wp2
            go_roundw
            case rel => exact ⟨3, by omega, by go_num, (by have := hM.out; show _ = _; simp [kvs] at this ⊢; simp [this, hR]), hv.trans (hb3.mono (by omega))⟩
            case measure => simp [intOf]
        | 3, _ =>
          have i3 := idx5_3
          go_wp2_with fail
          refine (HG.out _ _ _ hBv).mono ?_
          rintro e w3 ⟨rfl, hb3⟩
          have hs3 := hb3.size
          have hB3 : Below w.heap.size w w3 := hBv.trans (hb3.mono (by omega))
          cases hR : R (k3 x.op) x.t
          · go_wp2
            go_ret
            exact ⟨ret_bool (all_false_at (fieldsOk R) HX.out (by simp [fieldsOk, kvs, hR])).symm, hB3⟩
          · go_wp2
            go_roundw
            case rel => exact ⟨4, by omega, by go_num, (by have := hM.out; show _ = _; simp [kvs] at this ⊢; simp [this, hR]), hv.trans (hb3.mono (by omega))⟩
            case measure => simp [intOf]
        | 4, _ =>
          have i4 := idx5_4
          go_wp2_with fail
          refine (HG.out _ _ _ hBv).mono ?_
          rintro e w3 ⟨rfl, hb3⟩
          have hs3 := hb3.size
          have hB3 : Below w.heap.size w w3 := hBv.trans (hb3.mono (by omega))
          cases hR : R (k4 x.op) x.e
          · go_wp2
            go_ret
            exact ⟨ret_bool (all_false_at (fieldsOk R) HX.out (by simp [fieldsOk, kvs, hR])).symm, hB3⟩
          · go_wp2
            go_roundw
            case rel => exact ⟨5, by omega, by go_num, (by have := hM.out; show _ = _; simp [kvs] at this ⊢; simp [this, hR]), hv.trans (hb3.mono (by omega))⟩
            case measure => simp [intOf]
        | 5, _ =>
          go_wp2
          go_roundw
          case rel => exact ⟨k + 1, by omega, by go_num, (by have h5 := hM.out; show _ = _; rw [all_take_succ _ HX.out, hA.out]; simpa [fieldsOk, kvs] using h5), hBv⟩
          case measure => simp [intOf]; omega
        | n + 6, hm => omega
    · go_wp2
      go_ret
      refine ⟨ret_bool ?_, hb⟩
      rw [← hA.out, take_all_len (by omega)]
end Go.Proofs.YtoikglgnmjjpcaaDoor
