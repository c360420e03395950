/-
  ask.Every and ask.Each, walked; and what lies in memory of a flow.
-/
import Derived.Test.YtoikglgnmjjpcaaLK
import Derived.Test.YtoikglgnmjjpcaaGH
namespace Go.Proofs.Ytoikglgnmjjpcaa
open Go.RowKit Go.Shelf
set_option linter.unusedVariables false

set_option maxHeartbeats 1000000 in
set_option maxRecDepth 100000 in
/-- ask.Every of numbers, over a closure that answers R of each of them, whatever it lays. -/
theorem everyInt_any (R : Int → Bool) (g : Nat) (cb : Array Value) (a : Option Addr) (cap : Nat) (zs : List Int) (w : World) (hz : IntsAt w a zs) (hl : zs.length ≤ 140737488351232)
    (eg : ∀ args w, (callFunc g args).run Try.prog w = .ok (.enter g args) w)
    (hg : ∀ z ∈ zs, ∀ W : World, Below w.heap.size w W → Calls Try.prog g (#[.int .i64 z] ++ cb) W fun e w' => e = .returned (.bool (R z)) ∧ Below W.heap.size W w') :
    Calls Try.prog 111 #[.slice a zs.length cap, .func (.func g) #[] cb] w fun e w' => e = .returned (.bool (zs.all R)) ∧ Below w.heap.size w w' := by
  go_enter Try.func111, Try.ntmps111
  have HG := hide hg
  clear hg
  go_wp2
  go_loopw [9] (fun i wr => ∃ k : Nat, k ≤ zs.length ∧ i = .int .i64 k ∧ Hid ((zs.take k).all R = true) ∧ Below w.heap.size w wr) (fun i _ => zs.length - (intOf i).toNat)
  case atStart => exact ⟨0, Nat.zero_le _, rfl, rfl, Below.refl _ _⟩
  case round =>
    obtain ⟨k, hk, rfl, hA, hb⟩ := hrel
    have hsz := hb.size
    by_cases hlt : k < zs.length
    · obtain ⟨z, hz'⟩ := get_lt hlt
      have hI := hz.below hb
      obtain ⟨b, off, rfl, hbl, hc⟩ := hI.at hlt
      have c0 := hc k z hz'
      have HX : Hid (zs[k]? = some z) := hz'
      have hm : z ∈ zs := List.mem_of_getElem? hz'
      clear hz' hc hI
      go_wp2_with fail
      refine (HG.out z hm _ hb).mono ?_
      rintro e w1 ⟨rfl, hb1⟩
      have hB : Below w.heap.size w w1 := hb.trans (hb1.mono hsz)
      cases hR : R z
      · go_wp2
        go_ret
        exact ⟨ret_bool (all_false_at R HX.out hR).symm, hB⟩
      · go_wp2
        go_roundw
        case rel => exact ⟨k + 1, by omega, by go_num, (by show _ = _; rw [all_take_succ _ HX.out, hA.out, hR]; rfl), hB⟩
        case measure => simp [intOf]; omega
    · go_wp2
      go_ret
      refine ⟨ret_bool ?_, hb⟩
      rw [← hA.out, take_all_len (by omega)]

set_option maxHeartbeats 1000000 in
set_option maxRecDepth 100000 in
/-- ask.Every of four rows of yes and no, over a closure that answers R of how many there are. -/
theorem everyRow_any (R : Int → Bool) (g : Nat) (cb : Array Value) (b cap : Nat) (vs : List (Option Addr × Nat × Nat)) (w : World) (hb0 : b < w.heap.size) (hv : ∀ (j : Nat) (v : Option Addr × Nat × Nat), vs[j]? = some v → w.cell? ⟨b, j, none⟩ = some (.slice v.1 v.2.1 v.2.2)) (hl : vs.length ≤ 140737488351232)
    (eg : ∀ args w, (callFunc g args).run Try.prog w = .ok (.enter g args) w)
    (hg : ∀ v ∈ vs, ∀ W : World, Below w.heap.size w W → Calls Try.prog g (#[.slice v.1 v.2.1 v.2.2] ++ cb) W fun e w' => e = .returned (.bool (R v.2.1)) ∧ Below W.heap.size W w') :
    Calls Try.prog 83 #[.slice (some ⟨b, 0, none⟩) vs.length cap, .func (.func g) #[] cb] w fun e w' => e = .returned (.bool (vs.all fun v => R v.2.1)) ∧ Below w.heap.size w w' := by
  go_enter Try.func83, Try.ntmps83
  have HG := hide hg
  have HV := hide hv
  clear hg hv
  go_wp2
  go_loopw [9] (fun i wr => ∃ k : Nat, k ≤ vs.length ∧ i = .int .i64 k ∧ Hid ((vs.take k).all (fun v => R v.2.1) = true) ∧ Below w.heap.size w wr) (fun i _ => vs.length - (intOf i).toNat)
  case atStart => exact ⟨0, Nat.zero_le _, rfl, rfl, Below.refl _ _⟩
  case round =>
    obtain ⟨k, hk, rfl, hA, hb⟩ := hrel
    have hsz := hb.size
    by_cases hlt : k < vs.length
    · obtain ⟨v, hv'⟩ := get_lt hlt
      have c0 := (hb.cell (p := ⟨b, k, none⟩) hb0).trans (HV.out k v hv')
      have hbl : b < wr.heap.size := Nat.lt_of_lt_of_le hb0 hsz
      have HX : Hid (vs[k]? = some v) := hv'
      have hm : v ∈ vs := List.mem_of_getElem? hv'
      clear hv'
      go_wp2_with fail
      refine (HG.out v hm _ hb).mono ?_
      rintro e w1 ⟨rfl, hb1⟩
      have hB : Below w.heap.size w w1 := hb.trans (hb1.mono hsz)
      cases hR : R v.2.1
      · go_wp2
        go_ret
        exact ⟨ret_bool (all_false_at (fun v : Option Addr × Nat × Nat => R v.2.1) HX.out hR).symm, hB⟩
      · go_wp2
        go_roundw
        case rel => exact ⟨k + 1, by omega, by go_num, (by show _ = _; rw [all_take_succ _ HX.out, hA.out, hR]; rfl), hB⟩
        case measure => simp [intOf]; omega
    · go_wp2
      go_ret
      refine ⟨ret_bool ?_, hb⟩
      rw [← hA.out, take_all_len (by omega)]
end Go.Proofs.Ytoikglgnmjjpcaa
