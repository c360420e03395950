/-
  flow.Solve, walked: the loops.
-/
import Derived.Test.YtoikglgnmjjpcaaMF
namespace Go.Proofs.Ytoikglgnmjjpcaa
open Go.RowKit Go.Shelf
set_option linter.unusedVariables false

set_option maxHeartbeats 4000000 in
set_option maxRecDepth 100000 in
theorem solve_wrong (r : Int) (a : Option Addr) (cap : Nat) (ns : List Nd) (f : Flw) (a1 a2 a3 a4 : Option Addr) (c1 c2 c3 c4 : Nat) (w : World) (hN : SlN w a ns) (hc : fchk r ns f ≠ 0) :
    Calls Try.prog 42 #[.agg #[.int .i64 r, .slice a ns.length cap], .agg #[.bool f.back, .bool f.empty, .slice a1 f.gen.length c1, .slice a2 f.pass.length c2, .slice a3 f.plus.length c3, .slice a4 f.lets.length c4]] w fun e w' => e = .returned (.tuple #[.slice none 0 0, .int .i64 (fchk r ns f)]) ∧ Below w.heap.size w w' := by
  have hbA : Below w.heap.size w ((w.alloc (.cells #[.int .i64 r, .slice a ns.length cap] 24)).alloc (.cells #[.bool f.back, .bool f.empty, .slice a1 f.gen.length c1, .slice a2 f.pass.length c2, .slice a3 f.plus.length c3, .slice a4 f.lets.length c4] 66)) := ((Below.refl _ w).alloc (Nat.le_refl _) _).alloc (by simp) _
  have hck := fun W (h : Below w.heap.size w W) => fcheck_any r a cap ns f a1 a2 a3 a4 c1 c2 c3 c4 W (hN.below h)
  generalize fchk r ns f = C at hck hc ⊢
  have HCK := hide hck
  clear hck
  have hCb : (C == 0) = false := by simp [hc]
  go_enter Try.func42, Try.ntmps42
  go_upto_region 1 with fail
  generalize HG : ((w.alloc (.cells #[.int .i64 r, .slice a ns.length cap] 24)).alloc (.cells #[.bool f.back, .bool f.empty, .slice a1 f.gen.length c1, .slice a2 f.pass.length c2, .slice a3 f.plus.length c3, .slice a4 f.lets.length c4] 66)) = W
  have hp : W.heap[w.heap.size]? = some (.cells #[.int .i64 r, .slice a ns.length cap] 24 (0, 0)) := by rw [← HG]; exact (Below.heap_alloc _ _ _ (by simp)).trans (World.alloc_heap_new w _)
  have hf : W.heap[w.heap.size + 1]? = some (.cells #[.bool f.back, .bool f.empty, .slice a1 f.gen.length c1, .slice a2 f.pass.length c2, .slice a3 f.plus.length c3, .slice a4 f.lets.length c4] 66 (0, 0)) := by
    rw [← HG]
    have := World.alloc_heap_new (w.alloc (.cells #[.int .i64 r, .slice a ns.length cap] 24)) (.cells #[.bool f.back, .bool f.empty, .slice a1 f.gen.length c1, .slice a2 f.pass.length c2, .slice a3 f.plus.length c3, .slice a4 f.lets.length c4] 66)
    rwa [World.size_alloc] at this
  rw [HG] at hbA
  clear HG
  have p0 := blk_cell hp 0
  have p1 := blk_cell hp 1
  have q0 := blk_cell hf 0
  have q1 := blk_cell hf 1
  have q2 := blk_cell hf 2
  have q3 := blk_cell hf 3
  have q4 := blk_cell hf 4
  have q5 := blk_cell hf 5
  simp at p0 p1 q0 q1 q2 q3 q4 q5
  have pl := blk_lt hp
  have ql := blk_lt hf
  have HW := hide hbA
  clear hp hf hbA
  go_wp2_with fail
  refine (HCK.out _ HW.out).mono ?_
  rintro e w1 ⟨rfl, hb1⟩
  go_wp2
  go_ret2
  exact ⟨rfl, HW.out.trans (hb1.mono HW.out.size)⟩

set_option maxHeartbeats 8000000 in
set_option maxRecDepth 100000 in
theorem solve_right (r : Int) (b off cap : Nat) (ns : List Nd) (f : Flw) (a1 a2 a3 a4 : Option Addr) (c1 c2 c3 c4 : Nat) (w : World) (hN : NodesAt w b off ns) (hc : fchk r ns f = 0) (h1 : BoolsAt w a1 f.gen) (h2 : BoolsAt w a2 f.pass) (h3 : BoolsAt w a3 f.plus) (h4 : BoolsAt w a4 f.lets) :
    Calls Try.prog 42 #[.agg #[.int .i64 r, .slice (some ⟨b, off, none⟩) ns.length cap], .agg #[.bool f.back, .bool f.empty, .slice a1 f.gen.length c1, .slice a2 f.pass.length c2, .slice a3 f.plus.length c3, .slice a4 f.lets.length c4]] w fun e w' => ∃ v, e = .returned (.tuple #[v, .int .i64 0]) ∧ w'.ownsRow w.heap.size 4 1 v ns.length ((solve ns f).map Value.bool) ∧ Below w.heap.size w w' := by
  obtain ⟨i0, hi, hz0, hz1, hz2⟩ := info_parts info_int
  have hbA : Below w.heap.size w ((w.alloc (.cells #[.int .i64 r, .slice (some ⟨b, off, none⟩) ns.length cap] 24)).alloc (.cells #[.bool f.back, .bool f.empty, .slice a1 f.gen.length c1, .slice a2 f.pass.length c2, .slice a3 f.plus.length c3, .slice a4 f.lets.length c4] 66)) := ((Below.refl _ w).alloc (Nat.le_refl _) _).alloc (by simp) _
  have hck := fun W (h : Below w.heap.size w W) => fcheck_any r (some ⟨b, off, none⟩) cap ns f a1 a2 a3 a4 c1 c2 c3 c4 W (Or.inr ⟨b, off, rfl, hN.below h hN.lt⟩)
  have hlo := fun W (h : Below w.heap.size w W) => layOut_any r b off cap ns f a1 a2 a3 a4 c1 c2 c3 c4 W (hN.below h hN.lt) hc (h1.below h) (h2.below h) (h3.below h) (h4.below h)
  rw [hc] at hck
  have hl := (chk_zero (fchk_zero hc).1).1
  have HCK := hide hck
  have HLO := hide hlo
  clear hck hlo hc h1 h2 h3 h4 hN
  go_enter Try.func42, Try.ntmps42
  go_upto_region 1 with fail
  generalize HG : ((w.alloc (.cells #[.int .i64 r, .slice (some ⟨b, off, none⟩) ns.length cap] 24)).alloc (.cells #[.bool f.back, .bool f.empty, .slice a1 f.gen.length c1, .slice a2 f.pass.length c2, .slice a3 f.plus.length c3, .slice a4 f.lets.length c4] 66)) = W
  have hp : W.heap[w.heap.size]? = some (.cells #[.int .i64 r, .slice (some ⟨b, off, none⟩) ns.length cap] 24 (0, 0)) := by rw [← HG]; exact (Below.heap_alloc _ _ _ (by simp)).trans (World.alloc_heap_new w _)
  have hf : W.heap[w.heap.size + 1]? = some (.cells #[.bool f.back, .bool f.empty, .slice a1 f.gen.length c1, .slice a2 f.pass.length c2, .slice a3 f.plus.length c3, .slice a4 f.lets.length c4] 66 (0, 0)) := by
    rw [← HG]
    have := World.alloc_heap_new (w.alloc (.cells #[.int .i64 r, .slice (some ⟨b, off, none⟩) ns.length cap] 24)) (.cells #[.bool f.back, .bool f.empty, .slice a1 f.gen.length c1, .slice a2 f.pass.length c2, .slice a3 f.plus.length c3, .slice a4 f.lets.length c4] 66)
    rwa [World.size_alloc] at this
  rw [HG] at hbA
  clear HG
  have p0 := blk_cell hp 0
  have p1 := blk_cell hp 1
  have q0 := blk_cell hf 0
  have q1 := blk_cell hf 1
  have q2 := blk_cell hf 2
  have q3 := blk_cell hf 3
  have q4 := blk_cell hf 4
  have q5 := blk_cell hf 5
  simp at p0 p1 q0 q1 q2 q3 q4 q5
  have pl := blk_lt hp
  have ql := blk_lt hf
  have HW := hide hbA
  have HP := hide hp
  have HF := hide hf
  clear hp hf hbA
  go_wp2_with fail
  refine (HCK.out _ HW.out).mono ?_
  rintro e w1 ⟨rfl, hb1⟩
  have HW1 := hide (HW.out.trans (hb1.mono HW.out.size))
  have hp1 := (hb1.block _ pl).trans HP.out
  have hf1 := (hb1.block _ ql).trans HF.out
  clear p0 p1 q0 q1 q2 q3 q4 q5 pl ql hb1 HP HF HW HCK
  have p0 := blk_cell hp1 0
  have p1 := blk_cell hp1 1
  have q0 := blk_cell hf1 0
  have q1 := blk_cell hf1 1
  have q2 := blk_cell hf1 2
  have q3 := blk_cell hf1 3
  have q4 := blk_cell hf1 4
  have q5 := blk_cell hf1 5
  simp at p0 p1 q0 q1 q2 q3 q4 q5
  have pl := blk_lt hp1
  have ql := blk_lt hf1
  have HP := hide hp1
  clear hp1 hf1
  have hms : ∀ W : World, Sem.run Try.prog (Instr.makeSlice 53 (.int .i64 (ns.length : Int)) (.int .i64 (ns.length : Int))) W = .ok (.slice (some ⟨W.heap.size, 0, none⟩) ns.length ns.length) (W.alloc (.cells (madeCells #[.bool false] ns.length) 4)) := fun W => run_make_row' 53 4 _ 1 Try.underlying53 info_boolF rfl .i64 .i64 ns.length (by omega) (by omega) W
  go_upto_region 5 with (go_at_call 79; refine (HLO.out _ HW1.out).mono ?_; rintro e w2 ⟨rb1, rb2, rfl, hQ, hb2⟩)
  have hbQ : Below w2.heap.size w2 (w2.alloc (.cells #[.bool f.back, .bool f.empty, .slice a1 f.gen.length c1, .slice a2 f.pass.length c2, .slice a3 f.plus.length c3, .slice a4 f.lets.length c4, .slice (some ⟨rb1, 0, none⟩) ns.length ns.length, .slice (some ⟨rb2, 0, none⟩) ns.length ns.length] 115)) := (Below.refl _ w2).alloc (Nat.le_refl _) _
  have hq : (w2.alloc (.cells #[.bool f.back, .bool f.empty, .slice a1 f.gen.length c1, .slice a2 f.pass.length c2, .slice a3 f.plus.length c3, .slice a4 f.lets.length c4, .slice (some ⟨rb1, 0, none⟩) ns.length ns.length, .slice (some ⟨rb2, 0, none⟩) ns.length ns.length] 115)).heap[w2.heap.size]? = some (.cells #[.bool f.back, .bool f.empty, .slice a1 f.gen.length c1, .slice a2 f.pass.length c2, .slice a3 f.plus.length c3, .slice a4 f.lets.length c4, .slice (some ⟨rb1, 0, none⟩) ns.length ns.length, .slice (some ⟨rb2, 0, none⟩) ns.length ns.length] 115 (0, 0)) := World.alloc_heap_new w2 _
  generalize (w2.alloc (.cells #[.bool f.back, .bool f.empty, .slice a1 f.gen.length c1, .slice a2 f.pass.length c2, .slice a3 f.plus.length c3, .slice a4 f.lets.length c4, .slice (some ⟨rb1, 0, none⟩) ns.length ns.length, .slice (some ⟨rb2, 0, none⟩) ns.length ns.length] 115)) = Wq at hbQ hq ⊢
  have hp2 := (hbQ.block _ (Nat.lt_of_lt_of_le pl hb2.size)).trans ((hb2.block _ pl).trans HP.out)
  have HQ := hide (hQ.below hbQ)
  have HWq := hide (HW1.out.trans ((hb2.trans (hbQ.mono hb2.size)).mono HW1.out.size))
  clear p0 p1 q0 q1 q2 q3 q4 q5 pl ql hQ HP hb2 hbQ HW1 HLO
  have p1 := blk_cell hp2 1
  simp at p1
  have pl := blk_lt hp2
  have HQB := hide hq
  clear hq hp2
  generalize w2.heap.size = QB at HQB ⊢
  go_wp2_with fail
  have hB0 : Below Wq.heap.size Wq (Wq.alloc (.cells (madeCells #[.bool false] ns.length) 4)) := (Below.refl _ Wq).alloc (Nat.le_refl _) _
  have hX0 : (Wq.alloc (.cells (madeCells #[.bool false] ns.length) 4)).heap[Wq.heap.size]? = some (.cells ((List.replicate 0 true ++ List.replicate (ns.length - 0) false).map Value.bool).toArray 4 (0, 0)) := by
    rw [World.alloc_heap_new, made_boolsF]; simp
  generalize (Wq.alloc (.cells (madeCells #[.bool false] ns.length) 4)) = W0 at hB0 hX0 ⊢
  have HX0 := hide hX0
  clear hX0 hms p1 pl
  go_loopw [9, 27] (fun v i wr => ∃ k : Nat, k ≤ ns.length ∧ i = .int .i64 k ∧ wr.heap[Wq.heap.size]? = some (.cells ((List.replicate k true ++ List.replicate (ns.length - k) false).map Value.bool).toArray 4 (0, 0)) ∧ wr.ownsRow (Wq.heap.size + 1) 3 1 v (ints (List.range k)).length ((ints (List.range k)).map (Value.int .i64)) ∧ Below Wq.heap.size Wq wr) (fun _ i _ => ns.length - (intOf i).toNat)
  case atStart => exact ⟨0, Nat.zero_le _, rfl, HX0.out, World.ownsRow_nil _ _ _ _, hB0⟩
  case round =>
    obtain ⟨k, hk, rfl, hX, hown, hb⟩ := hrel
    have hsz := hb.size
    have hXl := blk_lt hX
    by_cases hlt : k < ns.length
    · have hxc := blk_cell hX k
      rw [repl_get hlt] at hxc
      have hxf := blk_frozen hX k
      have hli : (k : Int) < (ns.length : Int) := by omega
      have HX := hide hX
      have HO := hide hown
      have hlen : (ints (List.range k)).length = k := by simp [ints]
      have HB := hide hb
      clear hX hown hb
      have hown2 : (wr.setCell ⟨Wq.heap.size, k, none⟩ (.bool true)).ownsRow (Wq.heap.size + 1) 3 1 u9 (ints (List.range k)).length ((ints (List.range k)).map (Value.int .i64)) := owns_set HO.out HX.out (by decide)
      have HO2 := hide hown2
      have HLE := hide hlen
      have hnew := World.alloc_heap_new (wr.setCell ⟨Wq.heap.size, k, none⟩ (.bool true)) (.cells #[.int .i64 k] 3)
      rw [show (wr.setCell ⟨Wq.heap.size, k, none⟩ (.bool true)).heap.size = wr.heap.size by simp] at hnew
      have HNW := hide hnew
      clear hnew
      clear hown2 hlen
      go_wp2_with (at_builtin; refine wpList_append_own _ rfl (.tmp 33) (.tmp 35) 25 rfl (Wq.heap.size + 1) 3 i0 (.int .i64 0) 1 8 Try.underlying25 hi hz0 hz1 hz2 rfl (by decide) _ _ _ rfl (HO2.out.alloc _) ⟨wr.heap.size, 0, none⟩ 1 1 [.int .i64 k] rfl rfl ?c1 ?c2 ?c3 ?c4 ?c5 ?_)
      case c1 =>
        intro j u hj
        match j, hj with
        | 0, hj => simp at hj; subst hj; exact blk_cell HNW.out 0
      case c2 => intro u hu; simp at hu; subst hu; rfl
      case c3 => rw [HLE.out]; unfold maxLen; omega
      case c4 => rw [HLE.out]; omega
      case c5 => simp; omega
      intro v' w3 hown3 hg3 _
      have hlt3 := HO2.out.lt
      have hbS : Below Wq.heap.size Wq (wr.setCell ⟨Wq.heap.size, k, none⟩ (.bool true)) := HB.out.setCell (p := ⟨Wq.heap.size, k, none⟩) (by simp) _
      have hB3 : Below Wq.heap.size Wq w3 := (hbS.alloc (by simpa using hsz) _).grown hg3 (by simp; omega) (fun k hk => by have := (hlt3 k hk).1; omega)
      have hX3 : w3.heap[Wq.heap.size]? = some (.cells ((List.replicate (k + 1) true ++ List.replicate (ns.length - (k + 1)) false).map Value.bool).toArray 4 (0, 0)) := by
        rw [hg3.block _ (by simp; omega) (fun e => by have := (hlt3 _ e.symm).1; omega), Below.heap_alloc _ _ _ (by simpa using hXl), blk_set _ HX.out, ← repl_set hlt]
        simp only [List.map_set, List.setIfInBounds_toArray]
      have hown4 : w3.ownsRow (Wq.heap.size + 1) 3 1 v' (ints (List.range (k + 1))).length ((ints (List.range (k + 1))).map (Value.int .i64)) := by
        rw [List.range_succ, ints_snoc]; simpa using hown3
      have H3 := hide (And.intro hX3 (And.intro hown4 hB3))
      clear hown3 hg3 hlt3 hbS hB3 hX3 hown4 HO HO2 HX HB
      go_wp2
      go_roundw
      case rel => exact ⟨k + 1, by omega, by go_num, H3.out.1, H3.out.2.1, H3.out.2.2⟩
      case measure => simp [intOf]; omega
    · have ek : k = ns.length := by omega
      subst ek
      have hS := Stk.start (sayF ns f) ns.length
      have hX' : wr.heap[Wq.heap.size]? = some (.cells ((List.replicate ns.length true).map Value.bool).toArray 4 (0, 0)) := by rw [hX]; simp
      have HX := hide hX'
      have HO := hide hown
      have HB := hide hb
      clear hX hX' hown hb
      go_wp2_with fail
      go_loopw [9] (fun v wr => ∃ x wk, Stk (sayF ns f) ns.length x wk ∧ wr.heap[Wq.heap.size]? = some (.cells (x.map Value.bool).toArray 4 (0, 0)) ∧ wr.ownsRow (Wq.heap.size + 1) 3 1 v (ints wk).length ((ints wk).map (Value.int .i64)) ∧ Below Wq.heap.size Wq wr) (fun v wr => lenV v + truesAt wr Wq.heap.size * (ns.length + 1))
      case atStart => exact ⟨_, _, hS, HX.out, HO.out, HB.out⟩
      case round =>
        clear hS HX HO HB hXl hsz
        obtain ⟨x, wk, hS, hX, hown, hb⟩ := hrel
        have hXl := blk_lt hX
        have hxl := hS.on.len
        rcases List.eq_nil_or_concat wk with rfl | ⟨wk', n, rfl⟩
        · obtain ⟨va, vc, rfl⟩ := owns_slice hown
          have HX := hide hX
          have HS := hide hS
          have HB := hide hb
          clear hX hS hb hown
          go_wp2
          go_ret2
          have hG := HS.out.done.eq_gr (sayF_mono ns f)
          refine ⟨_, rfl, ?_, HWq.out.trans (HB.out.mono HWq.out.size)⟩
          rw [show solve ns f = x from hG.symm]
          exact ⟨by simp [hxl], Or.inr ⟨Wq.heap.size, ns.length, _, rfl, HWq.out.size, HX.out, Nat.le_refl _, by unfold maxLen; omega, by simp [hxl], by simp [List.take_of_length_le, hxl]⟩⟩
        · rw [List.concat_eq_append] at hS hown
          have e : (ints (wk' ++ [n])).length = wk'.length + 1 := by simp [ints]
          rw [e, ints_snoc, List.map_append] at hown
          have hn : n < ns.length := hS.lt n (by simp)
          obtain ⟨g, vc, rfl, hgb, hgl, hvc⟩ : ∃ g vc, u9 = .slice (some ⟨g, 0, none⟩) (wk'.length + 1) vc ∧ Wq.heap.size + 1 ≤ g ∧ g < wr.heap.size ∧ wk'.length + 1 ≤ vc := by
            rcases hown.2 with ⟨_, q⟩ | ⟨g, vc, cur, rfl, q1, q2, q3, _⟩
            · omega
            · exact ⟨g, vc, rfl, q1, blk_lt q2, q3⟩
          have hcell : wr.cell? ⟨g, wk'.length, none⟩ = some (.int .i64 n) := by
            have h0 := hown.cells (g := g) rfl wk'.length (.int .i64 n) (by rw [List.getElem?_append_right (by simp [ints])]; simp [ints])
            rwa [addr_add, Nat.zero_add] at h0
          have hfew : wk'.length < 70000 := by
            have h0 := hS.few
            have h5 : ns.length * (ns.length + 1) ≤ 256 * 257 := Nat.mul_le_mul (by omega) (by omega)
            simp at h0
            omega
          have hwrap : IntKind.i64.wrap (((wk'.length + 1 : Nat) : Int) - 1) = (wk'.length : Int) := by
            rw [IntWalk.i64_left]; unfold wrap64; omega
          have hmc : (wk'.length : Int) ≤ (vc : Int) := by omega
          have hni : (n : Int) < (ns.length : Int) := by omega
          have hxc : wr.cell? ⟨Wq.heap.size, n, none⟩ = some (.bool (bat x n)) := by
            rw [blk_cell hX, List.getElem?_toArray, List.getElem?_map, get_bat (by omega)]; rfl
          have hqr := (hb.block QB (blk_lt HQB.out)).trans HQB.out
          have hql := blk_lt hqr
          have q0 := blk_cell hqr 0
          have q1 := blk_cell hqr 1
          have q2 := blk_cell hqr 2
          have q3 := blk_cell hqr 3
          have q4 := blk_cell hqr 4
          have q5 := blk_cell hqr 5
          have q6 := blk_cell hqr 6
          have q7 := blk_cell hqr 7
          simp at q0 q1 q2 q3 q4 q5 q6 q7
          have hbx : BoolsAt wr (some ⟨Wq.heap.size, 0, none⟩) x := Or.inr ⟨Wq.heap.size, 0, rfl, hXl, fun j z hz => by rw [Nat.zero_add, blk_cell hX, List.getElem?_toArray, List.getElem?_map, hz]; rfl⟩
          have hsy := says_any ns f a1 a2 a3 a4 (some ⟨Wq.heap.size, 0, none⟩) c1 c2 c3 c4 ns.length rb1 rb2 n x wr (HQ.out.below hb) hbx hxl hn hl.2
          rw [hxl] at hsy
          have HSY := hide hsy
          have HX := hide hX
          have HS := hide hS
          have HB := hide hb
          have HO := hide hown
          have HQR := hide hqr
          have hm0 : (0 : Int) < ((wk'.length + 1 : Nat) : Int) := by omega
          clear hsy hX hS hb hown hqr hbx e hxl
          cases hxn : bat x n
          · rw [hxn] at hxc
            have HXN := hide hxn
            clear hxn
            go_wp2_with fail
            go_roundw
            case rel => exact ⟨x, wk', HS.out.pop (Or.inl HXN.out), HX.out, by rw [ints_len]; exact owns_pop HO.out, HB.out⟩
            case measure => simp [lenV]
          · rw [hxn] at hxc
            have HXN := hide hxn
            clear hxn
            go_wp2_with fail
            refine HSY.out.mono ?_
            rintro e w4 ⟨rfl, hb4⟩
            have hX4 := (hb4.block _ hXl).trans HX.out
            have hO4 := ownsRow_below HO.out hb4 (Nat.le_refl _)
            have hB4 := HB.out.trans (hb4.mono HB.out.size)
            cases hsay : sayF ns f (bat x) n
            · have hxc4 := (hb4.cell (p := ⟨Wq.heap.size, n, none⟩) hXl).trans hxc
              have hxf4 := blk_frozen hX4 n
              have hXl4 := blk_lt hX4
              have HX4 := hide hX4
              have HO4 := hide hO4
              have HB4 := hide hB4
              have HSA := hide hsay
              clear hX4 hO4 hB4 hsay q0 q1 q2 q3 q4 q5 q6 q7 hxc hcell hb4
              go_upto_region 18 with fail
              have hX5 := blk_set (i := n) (.bool false) HX4.out
              have hX5' : (w4.setCell ⟨Wq.heap.size, n, none⟩ (.bool false)).heap[Wq.heap.size]? = some (.cells ((x.set n false).map Value.bool).toArray 4 (0, 0)) := by
                rw [hX5]; simp only [List.map_set, List.setIfInBounds_toArray]
              have hO5 : (w4.setCell ⟨Wq.heap.size, n, none⟩ (.bool false)).ownsRow (Wq.heap.size + 1) 3 1 (.slice (some ⟨g, 0, none⟩) wk'.length vc) wk'.length ((ints wk').map (Value.int .i64)) := owns_set (owns_pop HO4.out) HX4.out (by decide)
              have hB5 : Below Wq.heap.size Wq (w4.setCell ⟨Wq.heap.size, n, none⟩ (.bool false)) := HB4.out.setCell (p := ⟨Wq.heap.size, n, none⟩) (Nat.le_refl _) _
              generalize (w4.setCell ⟨Wq.heap.size, n, none⟩ (.bool false)) = W5 at hX5' hO5 hB5 ⊢
              clear hX5 HX4 HO4 HB4 hxc4 hxf4 hXl4 HSY HQR
              have hS5 := HS.out.turn (sayF_mono ns f) (asks_of ns f) HXN.out HSA.out
              have hless := HS.out.less (asks_of ns f) HXN.out
              have hfew5 : (wk' ++ ask ns f n).length < 70000 := by
                have h0 := hS5.few
                have h5 : ns.length * (ns.length + 1) ≤ 256 * 257 := Nat.mul_le_mul (by omega) (by omega)
                omega
              have hQ5 := HQ.out.below hB5
              obtain ⟨ra, rc, hrc, hrI⟩ := hQ5.askers.row n hn
              have hrl := hQ5.askers.lt
              have hq5 := (hB5.block QB (blk_lt HQB.out)).trans HQB.out
              have q7 := blk_cell hq5 7
              simp at q7
              have ql5 := blk_lt hq5
              have HX5 := hide hX5'
              have HO5 := hide hO5
              have HB5 := hide hB5
              have HS5 := hide hS5
              have HL := hide hless
              have HI := hide hrI
              have hgl5 : g < W5.heap.size := (hO5.lt g rfl).2
              have HT := hide (truesAt_of HX.out)
              clear hX5' hO5 hB5 hS5 hless hrI hQ5 hq5
              simp only [List.length_append] at hfew5
              by_cases hz : (ask ns f n).length = 0
              · rw [hz] at hrc
                have he : ask ns f n = [] := List.eq_nil_of_length_eq_zero hz
                have HE := hide he
                clear he hz
                go_wp2_with (at_builtin; refine wpList_append_zero rfl (.tmp 66) (.tmp 71) rfl (some ⟨g, 0, none⟩) ra wk'.length vc rc rfl rfl (by omega) ?_)
                go_roundw
                case rel => exact ⟨x.set n false, wk' ++ ask ns f n, HS5.out, HX5.out, by rw [HE.out, List.append_nil, ints_len]; exact HO5.out, HB5.out⟩
                case measure =>
                  rw [truesAt_of HX5.out, HT.out]
                  have := HL.out
                  rw [HE.out] at this
                  simp [lenV] at this ⊢
                  omega
              · have hpos : 0 < (ints (ask ns f n)).length := by rw [ints_len]; omega
                obtain ⟨ab, ao, rfl, hal, hac⟩ := HI.out.at hpos
                have HAC := hide hac
                clear hac
                have hfi : (ints (ask ns f n)).length = (ask ns f n).length := ints_len _
                have HFI := hide hfi
                clear hfi
                have hS0 := HB5.out.size
                go_wp2_with (at_builtin; refine wpList_append_own _ rfl (.tmp 66) (.tmp 71) 25 rfl (Wq.heap.size + 1) 3 i0 (.int .i64 0) 1 8 Try.underlying25 hi hz0 hz1 hz2 rfl (by decide) _ _ _ rfl HO5.out ⟨ab, ao, none⟩ (ask ns f n).length rc ((ints (ask ns f n)).map (Value.int .i64)) rfl (by simp [ints]) ?c1 ?c2 ?c3 ?c4 ?c5 ?_)
                case c1 =>
                  intro j u hj
                  rw [List.getElem?_map] at hj
                  cases hz2 : (ints (ask ns f n))[j]? with
                  | none => rw [hz2] at hj; cases hj
                  | some z => rw [hz2] at hj; cases hj; rw [addr_add]; exact HAC.out j z hz2
                case c2 => intro u hu; obtain ⟨z, _, rfl⟩ := List.mem_map.1 hu; rfl
                case c3 => unfold maxLen; omega
                case c4 => omega
                case c5 => have := blk_lt HX5.out; omega
                intro v' w6 hown6 hg6 _
                have hlt6 := HO5.out.lt
                have hB6 : Below Wq.heap.size Wq w6 := HB5.out.grown hg6 (by omega) (fun k hk => by have := (hlt6 k hk).1; omega)
                have hX6 := (hg6.block _ (blk_lt HX5.out) (fun e => by have := (hlt6 _ e.symm).1; omega)).trans HX5.out
                have hown7 : w6.ownsRow (Wq.heap.size + 1) 3 1 v' (ints (wk' ++ ask ns f n)).length ((ints (wk' ++ ask ns f n)).map (Value.int .i64)) := by
                  rw [ints_append, List.map_append, List.length_append, ints_len, ints_len]; exact hown6
                have hv : lenV v' = (wk' ++ ask ns f n).length := by
                  obtain ⟨_, _, e⟩ := owns_slice hown7
                  rw [e, lenV, ints_len]
                have H6 := hide (And.intro hX6 (And.intro hown7 (And.intro hB6 hv)))
                clear hown6 hg6 hlt6 hB6 hX6 hown7 hv
                go_wp2_with fail
                go_roundw
                case rel => exact ⟨x.set n false, wk' ++ ask ns f n, HS5.out, H6.out.1, H6.out.2.1, H6.out.2.2.1⟩
                case measure =>
                  rw [truesAt_of H6.out.1, HT.out]
                  have := HL.out
                  have := H6.out.2.2.2
                  simp [lenV] at *
                  omega
            · have HX4 := hide hX4
              have HO4 := hide hO4
              have HB4 := hide hB4
              have HSA := hide hsay
              clear hX4 hO4 hB4 hsay q0 q1 q2 q3 q4 q5 q6 q7 hxc hcell
              go_wp2_with fail
              go_roundw
              case rel => exact ⟨x, wk', HS.out.pop (Or.inr HSA.out), HX4.out, by rw [ints_len]; exact owns_pop HO4.out, HB4.out⟩
              case measure =>
                rw [truesAt_of HX4.out, truesAt_of HX.out]
                simp [lenV]
end Go.Proofs.Ytoikglgnmjjpcaa
