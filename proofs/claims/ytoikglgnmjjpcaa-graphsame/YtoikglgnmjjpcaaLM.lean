/-
  graph.Reach where the program is wrong; graph.Trim's parts.
  hoistwayref.ReachOf, walked.
-/
import Derived.Test.YtoikglgnmjjpcaaLI
import Derived.Test.YtoikglgnmjjpcaaGV
import Derived.Test.YtoikglgnmjjpcaaLK
import Derived.Deep.DeepCutAuto
import Derived.Test.YtoikglgnmjjpcaaLH
namespace Go.Proofs.Ytoikglgnmjjpcaa
open Go.RowKit
set_option linter.unusedVariables false

theorem info_bool' : (Try.prog.info? 4).map (fun i => (i.zero, i.size, i.bytes)) = some (some (.bool false), 1, 1) := by kernel_rfl

theorem made_bools' (n : Nat) : madeCells #[Value.bool false] n = ((List.replicate n false).map Value.bool).toArray := by
  apply Array.ext'
  rw [toList_madeCells_one]
  simp

theorem brow_cell {w : World} {q m : Nat} {x : List Bool} (h : w.heap[q]? = some (.cells (x.map Value.bool).toArray 4 (0, 0))) (hm : m < x.length) : w.cell? ⟨q, m, none⟩ = some (.bool (bat x m)) := by
  rw [blk_cell h]
  rw [List.getElem?_toArray, List.getElem?_map, get_bat hm]; rfl

theorem brow_set {w : World} {q : Nat} {x : List Bool} (h : w.heap[q]? = some (.cells (x.map Value.bool).toArray 4 (0, 0))) (m : Nat) (b : Bool) : (w.setCell ⟨q, m, none⟩ (.bool b)).heap[q]? = some (.cells ((x.set m b).map Value.bool).toArray 4 (0, 0)) := by
  rw [blk_set _ h]; simp only [List.map_set, List.setIfInBounds_toArray]

set_option maxRecDepth 100000 in
set_option maxHeartbeats 4000000 in
theorem reachOf_any (r : Int) (b off cap : Nat) (ns : List Nd) (w : World) (hN : NodesAt w b off ns) (hc : chk r ns = 0) :
    Calls Try.prog 34 #[.agg #[.int .i64 r, .slice (some ⟨b, off, none⟩) ns.length cap]] w fun e w' => ∃ v, e = .returned v ∧ w'.ownsRow w.heap.size 4 1 v ns.length ((rchL ns).map Value.bool) ∧ Below w.heap.size w w' := by
  have hl := (chk_zero hc).1
  have hms : ∀ W : World, Sem.run Try.prog (Instr.makeSlice 53 (.int .i64 (ns.length : Int)) (.int .i64 (ns.length : Int))) W = .ok (.slice (some ⟨W.heap.size, 0, none⟩) ns.length ns.length) (W.alloc (.cells (madeCells #[.bool false] ns.length) 4)) := fun W => run_make_row' 53 4 _ 1 Try.underlying53 info_bool' rfl .i64 .i64 ns.length (by omega) (by omega) W
  go_enter Try.func34, Try.ntmps34
  go_upto_region 2 with fail
  have hB0 : Below w.heap.size w ((w.alloc (.cells #[.int .i64 r, .slice (some ⟨b, off, none⟩) ns.length cap] 24)).alloc (.cells (madeCells #[.bool false] ns.length) 4)) := ((Below.refl _ w).alloc (Nat.le_refl _) _).alloc (by simp) _
  have p1 : ((w.alloc (.cells #[.int .i64 r, .slice (some ⟨b, off, none⟩) ns.length cap] 24)).alloc (.cells (madeCells #[.bool false] ns.length) 4)).cell? ⟨w.heap.size, 1, none⟩ = some (.slice (some ⟨b, off, none⟩) ns.length cap) := by simp
  have hr0 : ((w.alloc (.cells #[.int .i64 r, .slice (some ⟨b, off, none⟩) ns.length cap] 24)).alloc (.cells (madeCells #[.bool false] ns.length) 4)).heap[w.heap.size + 1]? = some (.cells ((List.replicate ns.length false).map Value.bool).toArray 4 (0, 0)) := by
    have := World.alloc_heap_new (w.alloc (.cells #[.int .i64 r, .slice (some ⟨b, off, none⟩) ns.length cap] 24)) (.cells (madeCells #[.bool false] ns.length) 4)
    rw [World.size_alloc] at this
    rw [this, made_bools']
  generalize ((w.alloc (.cells #[.int .i64 r, .slice (some ⟨b, off, none⟩) ns.length cap] 24)).alloc (.cells (madeCells #[.bool false] ns.length) 4)) = W0 at hB0 p1 hr0 ⊢
  have hposn : 0 < ns.length := by omega
  have hpos : (0 : Int) < (ns.length : Int) := by omega
  have k0 := brow_cell (m := 0) hr0 (by rw [List.length_replicate]; exact hposn)
  have f0 := blk_frozen hr0 0
  go_upto_region 3 with fail
  have hr1 := brow_set hr0 0 true
  have hB1 : Below w.heap.size w (W0.setCell ⟨w.heap.size + 1, 0, none⟩ (.bool true)) := hB0.setCell (p := ⟨w.heap.size + 1, 0, none⟩) (by simp) _
  have p2 : (W0.setCell ⟨w.heap.size + 1, 0, none⟩ (.bool true)).cell? ⟨w.heap.size, 1, none⟩ = some (.slice (some ⟨b, off, none⟩) ns.length cap) := by
    have h := ((Below.refl (w.heap.size + 1) W0).setCell (p := ⟨w.heap.size + 1, 0, none⟩) (Nat.le_refl _) (.bool true)).cell (p := ⟨w.heap.size, 1, none⟩) (by simp)
    exact h.trans p1
  generalize W0.setCell ⟨w.heap.size + 1, 0, none⟩ (.bool true) = W1 at hr1 hB1 p2 ⊢
  clear hB0 p1 hr0 k0 f0
  go_wp2
  go_loopw [4] (fun i wr => ∃ t : Nat, t ≤ ns.length ∧ i = .int .i64 t ∧ wr.heap[w.heap.size + 1]? = some (.cells ((markN ns t).map Value.bool).toArray 4 (0, 0)) ∧ wr.cell? ⟨w.heap.size, 1, none⟩ = some (.slice (some ⟨b, off, none⟩) ns.length cap) ∧ Below w.heap.size w wr) (fun i _ => ns.length - (intOf i).toNat)
  case atStart => exact ⟨0, Nat.zero_le _, rfl, hr1, p2, hB1⟩
  case round =>
    obtain ⟨t, ht, rfl, hrow, hp, hB⟩ := hrel
    have hs := hB.size
    have hrl := blk_lt hrow
    have hpl : w.heap.size < wr.heap.size := by omega
    by_cases htl : t < ns.length
    · have hti : (t : Int) < (ns.length : Int) := by omega
      go_wp2
      go_loopw [5] (fun j wv => ∃ n : Nat, n ≤ ns.length ∧ j = .int .i64 n ∧ wv.heap[w.heap.size + 1]? = some (.cells ((markTo ns (markN ns t) n).map Value.bool).toArray 4 (0, 0)) ∧ wv.cell? ⟨w.heap.size, 1, none⟩ = some (.slice (some ⟨b, off, none⟩) ns.length cap) ∧ Below w.heap.size w wv) (fun j _ => ns.length - (intOf j).toNat)
      case atStart => exact ⟨0, Nat.zero_le _, rfl, hrow, hp, hB⟩
      case round =>
        obtain ⟨n, hn, rfl, hrow, hp, hB⟩ := hrel
        have hs := hB.size
        have hrl := blk_lt hrow
        have hpl : w.heap.size < wr.heap.size := by omega
        have hXl : (markTo ns (markN ns t) n).length = ns.length := by rw [markTo_len, markN_len]
        by_cases hnl : n < ns.length
        · have hni : (n : Int) < (ns.length : Int) := by omega
          obtain ⟨y, hy⟩ := get_lt hnl
          have hN1 := hN.below hB hN.lt
          have c0 := hN1.c0 n y hy
          have c1 := hN1.c1 n y hy
          have c2 := hN1.c2 n y hy
          have c3 := hN1.c3 n y hy
          have c4 := hN1.c4 n y hy
          have c5 := hN1.c5 n y hy
          have hblt := hN1.lt
          have hyn := nd_get hy
          have hF := chk_at hc hnl
          rw [hyn] at hF
          have HMK := hide (show markTo ns (markN ns t) (n + 1) = mark ns (markTo ns (markN ns t) n) n from rfl)
          have xn := brow_cell (m := n) hrow (by omega)
          have HROW := hide hrow
          have HF := hide hF
          have HYN := hide hyn
          generalize markTo ns (markN ns t) n = X at HMK xn hXl HROW
          clear hN1 hy hyn hF hrow
          have hal : Below wr.heap.size wr (wr.alloc (.cells #[.int .i64 y.op, .int .i64 y.d, .int .i64 y.a, .int .i64 y.b, .int .i64 y.t, .int .i64 y.e] 87)) := (Below.refl _ wr).alloc (Nat.le_refl _) _
          have HAL := hide hal
          clear hal
          cases hxn : bat X n
          · rw [hxn] at xn
            have HM1 := hide (show mark ns X n = X by
              have e1 : mark1 ns X n = X := by unfold mark1; rw [hxn]; rfl
              unfold mark; rw [e1]; unfold mark2; rw [hxn]; rfl)
            clear hxn
            go_wp2
            go_roundw
            case rel => exact ⟨n + 1, by omega, by go_num, by rw [HMK.out, HM1.out]; exact (HAL.out.block _ hrl).trans HROW.out, (HAL.out.cell (p := ⟨w.heap.size, 1, none⟩) hpl).trans hp, hB.trans (HAL.out.mono hB.size)⟩
            case measure => simp [intOf]; omega
          · rw [hxn] at xn
            by_cases h12 : y.op = 12
            · have HM1 := hide (show mark ns X n = X by
                have e1 : mark1 ns X n = X := by unfold mark1; rw [hxn, HYN.out, h12]; rfl
                unfold mark; rw [e1]; unfold mark2; rw [hxn, HYN.out, h12]; rfl)
              clear hxn
              rw [h12] at c0 HAL
              go_wp2
              go_roundw
              case rel => exact ⟨n + 1, by omega, by go_num, by rw [HMK.out, HM1.out]; exact (HAL.out.block _ hrl).trans (by first | exact HROW.out), (HAL.out.cell (p := ⟨w.heap.size, 1, none⟩) hpl).trans hp, hB.trans (HAL.out.mono hB.size)⟩
              case measure => simp [intOf]; omega
            · have ht := HF.out.t h12
              obtain ⟨tn, htn⟩ := Int.eq_ofNat_of_zero_le (show 0 ≤ y.t by omega)
              have h12b : (y.op != 12) = true := by simp [h12]
              have htl2 : tn < X.length := by omega
              have hti2 : (tn : Int) < (ns.length : Int) := by omega
              rw [htn] at c4 HAL
              have HM1 := hide (show mark1 ns X n = X.set tn true by unfold mark1; rw [hxn, HYN.out, h12b, htn]; rfl)
              have hr2 := HROW.out
              have xt := brow_cell (m := tn) hr2 htl2
              have ft := blk_frozen hr2 tn
              have hr3 : ((wr.setCell ⟨w.heap.size + 1, tn, none⟩ (.bool true)).alloc (.cells #[.int .i64 y.op, .int .i64 y.d, .int .i64 y.a, .int .i64 y.b, .int .i64 (tn : Int), .int .i64 y.e] 87)).heap[w.heap.size + 1]? = _ := (Below.heap_alloc _ _ _ (by simpa using hrl)).trans (brow_set hr2 tn true)
              have hB3 : Below (w.heap.size + 1) wr ((wr.setCell ⟨w.heap.size + 1, tn, none⟩ (.bool true)).alloc (.cells #[.int .i64 y.op, .int .i64 y.d, .int .i64 y.a, .int .i64 y.b, .int .i64 (tn : Int), .int .i64 y.e] 87)) := ((Below.refl (w.heap.size + 1) wr).setCell (p := ⟨w.heap.size + 1, tn, none⟩) (Nat.le_refl _) _).alloc (by simp; omega) _
              have hnb : ((wr.setCell ⟨w.heap.size + 1, tn, none⟩ (.bool true)).alloc (.cells #[.int .i64 y.op, .int .i64 y.d, .int .i64 y.a, .int .i64 y.b, .int .i64 (tn : Int), .int .i64 y.e] 87)).heap[wr.heap.size]? = some (.cells #[.int .i64 y.op, .int .i64 y.d, .int .i64 y.a, .int .i64 y.b, .int .i64 (tn : Int), .int .i64 y.e] 87 (0, 0)) := by
                have := World.alloc_heap_new (wr.setCell ⟨w.heap.size + 1, tn, none⟩ (.bool true)) (.cells #[.int .i64 y.op, .int .i64 y.d, .int .i64 y.a, .int .i64 y.b, .int .i64 (tn : Int), .int .i64 y.e] 87)
                simpa using this
              have hs3 : wr.heap.size < ((wr.setCell ⟨w.heap.size + 1, tn, none⟩ (.bool true)).alloc (.cells #[.int .i64 y.op, .int .i64 y.d, .int .i64 y.a, .int .i64 y.b, .int .i64 (tn : Int), .int .i64 y.e] 87)).heap.size := blk_lt hnb
              have HR3 := hide hr3
              have HNB := hide hnb
              have HB3 := hide hB3
              have hxset : bat (X.set tn true) n = true := by rw [bat_set htl2]; split; rfl; exact hxn
              have HXS := hide hxset
              clear hr3 hnb hB3 hxset hxn h12
              go_upto_region 12 with fail
              clear hr2 xt ft xn c0 c1 c2 c3 c4 c5
              generalize ((wr.setCell ⟨w.heap.size + 1, tn, none⟩ (.bool true)).alloc (.cells #[.int .i64 y.op, .int .i64 y.d, .int .i64 y.a, .int .i64 y.b, .int .i64 (tn : Int), .int .i64 y.e] 87)) = W2 at HR3 HNB HB3 hs3 ⊢
              have n0 := blk_cell HNB.out 0
              have n5 := blk_cell HNB.out 5
              simp at n0 n5
              have hr2 := HR3.out
              have xn2 := brow_cell (m := n) hr2 (by rw [List.length_set]; omega)
              rw [HXS.out] at xn2
              clear hr2
              have hp2 := (HB3.out.cell (p := ⟨w.heap.size, 1, none⟩) (by simp)).trans hp
              by_cases h11 : y.op = 11
              · have he := HF.out.e h11
                obtain ⟨en, hen⟩ := Int.eq_ofNat_of_zero_le (show 0 ≤ y.e by omega)
                have hel : en < (X.set tn true).length := by rw [List.length_set]; omega
                have hei : (en : Int) < (ns.length : Int) := by omega
                have HM2 := hide (show mark ns X n = (X.set tn true).set en true by
                  unfold mark; rw [HM1.out]; unfold mark2; rw [HXS.out, HYN.out, h11, hen]; rfl)
                rw [hen] at n5
                rw [h11] at n0
                have hr2 := HR3.out
                have xe := brow_cell (m := en) hr2 hel
                have fe := blk_frozen hr2 en
                have HR4 := hide (brow_set hr2 en true)
                have HB4 := hide (HB3.out.setCell (p := ⟨w.heap.size + 1, en, none⟩) (Nat.le_refl _) (.bool true))
                clear hr2
                go_wp2
                go_roundw
                case rel => exact ⟨n + 1, by omega, by go_num, by rw [HMK.out, HM2.out]; exact HR4.out, (HB4.out.cell (p := ⟨w.heap.size, 1, none⟩) (by simp)).trans hp, hB.trans (HB4.out.mono (by omega))⟩
                case measure => simp [intOf]; omega
              · have h11b : (y.op == 11) = false := by simp [h11]
                have HM2 := hide (show mark ns X n = X.set tn true by
                  unfold mark; rw [HM1.out]; unfold mark2; rw [HXS.out, HYN.out, h11b]; rfl)
                clear h11
                go_wp2
                go_roundw
                case rel => exact ⟨n + 1, by omega, by go_num, by rw [HMK.out, HM2.out]; exact HR3.out, hp2, hB.trans (HB3.out.mono (by omega))⟩
                case measure => simp [intOf]; omega
        · have en : n = ns.length := by omega
          have HEN := hide en
          have HROW := hide hrow
          clear en hrow
          go_wp2
          go_roundw
          case rel => exact ⟨t + 1, by omega, by go_num, by rw [show markN ns (t + 1) = markTo ns (markN ns t) ns.length from rfl, ← HEN.out]; exact HROW.out, hp, hB⟩
          case measure => simp [intOf]; omega
    · have et : t = ns.length := by omega
      have HT := hide et
      clear et
      go_wp2
      go_ret
      refine ⟨_, rfl, ⟨by simp [rchL_len], Or.inr ⟨w.heap.size + 1, ns.length, _, rfl, by omega, hrow, Nat.le_refl _, by unfold maxLen; omega, by simp [markN_len], ?_⟩⟩, hB⟩
      rw [HT.out, markN_done hc, Nat.mul_one]
      exact List.take_of_length_le (by simp [rchL_len])
end Go.Proofs.Ytoikglgnmjjpcaa

namespace Go.Proofs.Ytoikglgnmjjpcaa
open Go.RowKit Go.Shelf
set_option linter.unusedVariables false

set_option maxHeartbeats 1000000 in
theorem reach_err (r : Int) (a : Option Addr) (cap : Nat) (ns : List Nd) (w : World) (hN : SlN w a ns) (hc : chk r ns ≠ 0) :
    Calls Try.prog 31 #[.agg #[.int .i64 r, .slice a ns.length cap]] w fun e w' => e = .returned (.tuple #[.slice none 0 0, .int .i64 (chk r ns)]) ∧ Below w.heap.size w w' := by
  have hb0 : Below w.heap.size w (w.alloc (.cells #[.int .i64 r, .slice a ns.length cap] 24)) := (Below.refl _ w).alloc (Nat.le_refl _) _
  have hck := check_any r a cap ns _ (hN.below hb0)
  have hcb : (chk r ns != 0) = true := by simpa using hc
  have HCK := hide hck
  clear hck hc
  generalize chk r ns = c at hcb HCK ⊢
  go_enter Try.func31, Try.ntmps31
  go_wp2_with fail
  refine HCK.out.mono ?_
  rintro e w1 ⟨rfl, hb1⟩
  have hs1 := hb1.size
  simp only [World.size_alloc] at hs1 hb1
  have hB1 : Below w.heap.size w w1 := hb0.trans (hb1.mono (by omega))
  go_wp2
  go_ret2
  exact ⟨rfl, hB1⟩

theorem reach_any (r : Int) (b off cap : Nat) (ns : List Nd) (w : World) (hN : NodesAt w b off ns) (hc : chk r ns = 0) :
    Calls Try.prog 31 #[.agg #[.int .i64 r, .slice (some ⟨b, off, none⟩) ns.length cap]] w fun e w' => ∃ v, e = .returned (.tuple #[v, .int .i64 0]) ∧ w'.ownsRow w.heap.size 4 1 v ns.length ((rchL ns).map Value.bool) ∧ Below w.heap.size w w' :=
  callsIn_wide.1 (reach_ok r b off cap ns w hN hc)

set_option maxHeartbeats 1000000 in
theorem trim_err (r : Int) (a : Option Addr) (cap : Nat) (ns : List Nd) (w : World) (hN : SlN w a ns) (hc : chk r ns ≠ 0) :
    Calls Try.prog 32 #[.agg #[.int .i64 r, .slice a ns.length cap]] w fun e w' => e = .returned (.tuple #[.agg #[.int .i64 0, .slice none 0 0], .int .i64 (chk r ns)]) ∧ Below w.heap.size w w' := by
  have hb0 : Below w.heap.size w ((w.alloc (.cells #[.int .i64 r, .slice a ns.length cap] 24)).alloc (.cells #[.int .i64 0, .slice none 0 0] 24)) := ((Below.refl _ w).alloc (Nat.le_refl _) _).alloc (by simp) _
  have hck := reach_err r a cap ns _ (hN.below hb0) hc
  have hcb : (chk r ns != 0) = true := by simpa using hc
  have HCK := hide hck
  clear hck hc
  generalize chk r ns = c at hcb HCK ⊢
  go_enter Try.func32, Try.ntmps32
  go_wp2_with fail
  refine HCK.out.mono ?_
  rintro e w1 ⟨rfl, hb1⟩
  have hs1 := hb1.size
  have hk : w1.heap[w.heap.size + 1]? = some (.cells #[.int .i64 0, .slice none 0 0] 24 (0, 0)) := by
    rw [hb1.block _ (by simp)]
    have := World.alloc_heap_new (w.alloc (.cells #[.int .i64 r, .slice a ns.length cap] 24)) (.cells #[.int .i64 0, .slice none 0 0] 24)
    rwa [World.size_alloc] at this
  simp only [World.size_alloc] at hs1 hb1
  have hB1 : Below w.heap.size w w1 := hb0.trans (hb1.mono (by omega))
  have z0 := blk_cell hk 0
  have z1 := blk_cell hk 1
  have f0 := blk_frozen hk 0
  have f1 := blk_frozen hk 1
  simp at z0 z1
  go_wp2
  refine bodyPost_ret (v := .tuple #[.agg #[.int .i64 0, .slice none 0 0], .int .i64 c]) ?_ rfl ⟨rfl, (hB1.setCell (p := ⟨w.heap.size + 1, 0, none⟩) (by simp) _).setCell (p := ⟨w.heap.size + 1, 1, none⟩) (by simp) _⟩
  have hk2 : ((w1.setCell ⟨w.heap.size + 1, 0, none⟩ (.int .i64 0)).setCell ⟨w.heap.size + 1, 1, none⟩ (.slice none 0 0)).heap[w.heap.size + 1]? = some (.cells #[.int .i64 0, .slice none 0 0] 24 (0, 0)) := by
    rw [blk_set _ (blk_set _ hk)]; simp
  have y0 := blk_cell hk2 0
  have y1 := blk_cell hk2 1
  simp at y0 y1
  simp [results, Try.results32, go_sem, y0, y1]

end Go.Proofs.Ytoikglgnmjjpcaa

