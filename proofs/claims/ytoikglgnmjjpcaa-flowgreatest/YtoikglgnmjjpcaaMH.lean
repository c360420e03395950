/-
  flow.Holds, walked.
-/
import Derived.Test.YtoikglgnmjjpcaaMG
namespace Go.Proofs.Ytoikglgnmjjpcaa
open Go.RowKit Go.Shelf
set_option linter.unusedVariables false

/-- Is it an answer of the flow? -/
def hold (ns : List Nd) (f : Flw) (x : List Bool) : Bool := (List.range ns.length).all fun n => bat x n == sayF ns f (bat x) n
theorem range_all_false {p : Nat → Bool} {k L : Nat} (hk : k < L) (h : p k = false) : (List.range L).all p = false := by
  rw [List.all_eq_false]; exact ⟨k, by simpa using hk, by simp [h]⟩
theorem range_all_succ {p : Nat → Bool} {k : Nat} (h0 : (List.range k).all p = true) (h : p k = true) : (List.range (k + 1)).all p = true := by
  rw [List.range_succ, List.all_append, h0]; simp [h]

theorem ret_pair {a b : Bool} {c d : Int} (h1 : a = b) (h2 : c = d) : Ending.returned (.tuple #[.bool a, .int .i64 c]) = .returned (.tuple #[.bool b, .int .i64 d]) := by rw [h1, h2]

set_option maxHeartbeats 4000000 in
set_option maxRecDepth 100000 in
theorem holds_wrong (r : Int) (a : Option Addr) (cap : Nat) (ns : List Nd) (f : Flw) (a1 a2 a3 a4 : Option Addr) (c1 c2 c3 c4 : Nat) (xv : Value) (w : World) (hN : SlN w a ns) (hc : fchk r ns f ≠ 0) :
    Calls Try.prog 43 #[.agg #[.int .i64 r, .slice a ns.length cap], .agg #[.bool f.back, .bool f.empty, .slice a1 f.gen.length c1, .slice a2 f.pass.length c2, .slice a3 f.plus.length c3, .slice a4 f.lets.length c4], xv] w fun e w' => e = .returned (.tuple #[.bool false, .int .i64 (fchk r ns f)]) ∧ Below w.heap.size w w' := by
  have hbA : Below w.heap.size w ((w.alloc (.cells #[.int .i64 r, .slice a ns.length cap] 24)).alloc (.cells #[.bool f.back, .bool f.empty, .slice a1 f.gen.length c1, .slice a2 f.pass.length c2, .slice a3 f.plus.length c3, .slice a4 f.lets.length c4] 66)) := ((Below.refl _ w).alloc (Nat.le_refl _) _).alloc (by simp) _
  have hck := fun W (h : Below w.heap.size w W) => fcheck_any r a cap ns f a1 a2 a3 a4 c1 c2 c3 c4 W (hN.below h)
  generalize fchk r ns f = C at hck hc ⊢
  have HCK := hide hck
  clear hck
  have hCb : (C == 0) = false := by simp [hc]
  go_enter Try.func43, Try.ntmps43
  go_upto_region 1 with fail
  generalize HG : ((w.alloc (.cells #[.int .i64 r, .slice a ns.length cap] 24)).alloc (.cells #[.bool f.back, .bool f.empty, .slice a1 f.gen.length c1, .slice a2 f.pass.length c2, .slice a3 f.plus.length c3, .slice a4 f.lets.length c4] 66)) = W
  have hp : W.heap[w.heap.size]? = some (.cells #[.int .i64 r, .slice a ns.length cap] 24 (0, 0)) := by rw [← HG]; exact (Below.heap_alloc _ _ _ (by simp)).trans (World.alloc_heap_new w _)
  have hf : W.heap[w.heap.size + 1]? = some (.cells #[.bool f.back, .bool f.empty, .slice a1 f.gen.length c1, .slice a2 f.pass.length c2, .slice a3 f.plus.length c3, .slice a4 f.lets.length c4] 66 (0, 0)) := by
    rw [← HG]
    have := World.alloc_heap_new (w.alloc (.cells #[.int .i64 r, .slice a ns.length cap] 24)) (.cells #[.bool f.back, .bool f.empty, .slice a1 f.gen.length c1, .slice a2 f.pass.length c2, .slice a3 f.plus.length c3, .slice a4 f.lets.length c4] 66)
    rwa [World.size_alloc] at this
  rw [HG] at hbA
  clear HG
  have p0 := blk_cell hp 0
  have p1 := blk_cell hp 1
  have q0 := blk_cell hf 0
  have q1 := blk_cell hf 1
  have q2 := blk_cell hf 2
  have q3 := blk_cell hf 3
  have q4 := blk_cell hf 4
  have q5 := blk_cell hf 5
  simp at p0 p1 q0 q1 q2 q3 q4 q5
  have pl := blk_lt hp
  have ql := blk_lt hf
  have HW := hide hbA
  clear hp hf hbA
  go_wp2_with fail
  refine (HCK.out _ HW.out).mono ?_
  rintro e w1 ⟨rfl, hb1⟩
  go_wp2
  go_ret2
  exact ⟨rfl, HW.out.trans (hb1.mono HW.out.size)⟩


set_option maxHeartbeats 8000000 in
set_option maxRecDepth 100000 in
theorem holds_right (r : Int) (b off cap : Nat) (ns : List Nd) (f : Flw) (a1 a2 a3 a4 xa : Option Addr) (c1 c2 c3 c4 xc : Nat) (x : List Bool) (w : World) (hN : NodesAt w b off ns) (hc : fchk r ns f = 0) (h1 : BoolsAt w a1 f.gen) (h2 : BoolsAt w a2 f.pass) (h3 : BoolsAt w a3 f.plus) (h4 : BoolsAt w a4 f.lets) (hx : BoolsAt w xa x) :
    Calls Try.prog 43 #[.agg #[.int .i64 r, .slice (some ⟨b, off, none⟩) ns.length cap], .agg #[.bool f.back, .bool f.empty, .slice a1 f.gen.length c1, .slice a2 f.pass.length c2, .slice a3 f.plus.length c3, .slice a4 f.lets.length c4], .slice xa x.length xc] w fun e w' => e = .returned (.tuple #[.bool (if x.length = ns.length then hold ns f x else false), .int .i64 (if x.length = ns.length then 0 else 1)]) ∧ Below w.heap.size w w' := by
  have hbA : Below w.heap.size w ((w.alloc (.cells #[.int .i64 r, .slice (some ⟨b, off, none⟩) ns.length cap] 24)).alloc (.cells #[.bool f.back, .bool f.empty, .slice a1 f.gen.length c1, .slice a2 f.pass.length c2, .slice a3 f.plus.length c3, .slice a4 f.lets.length c4] 66)) := ((Below.refl _ w).alloc (Nat.le_refl _) _).alloc (by simp) _
  have hck := fun W (h : Below w.heap.size w W) => fcheck_any r (some ⟨b, off, none⟩) cap ns f a1 a2 a3 a4 c1 c2 c3 c4 W (Or.inr ⟨b, off, rfl, hN.below h hN.lt⟩)
  have hlo := fun W (h : Below w.heap.size w W) => layOut_any r b off cap ns f a1 a2 a3 a4 c1 c2 c3 c4 W (hN.below h hN.lt) hc (h1.below h) (h2.below h) (h3.below h) (h4.below h)
  rw [hc] at hck
  have hl := (chk_zero (fchk_zero hc).1).1
  have HCK := hide hck
  have HLO := hide hlo
  have HXX := hide hx
  clear hck hlo hc h1 h2 h3 h4 hN hx
  go_enter Try.func43, Try.ntmps43
  go_upto_region 1 with fail
  generalize HG : ((w.alloc (.cells #[.int .i64 r, .slice (some ⟨b, off, none⟩) ns.length cap] 24)).alloc (.cells #[.bool f.back, .bool f.empty, .slice a1 f.gen.length c1, .slice a2 f.pass.length c2, .slice a3 f.plus.length c3, .slice a4 f.lets.length c4] 66)) = W
  have hp : W.heap[w.heap.size]? = some (.cells #[.int .i64 r, .slice (some ⟨b, off, none⟩) ns.length cap] 24 (0, 0)) := by rw [← HG]; exact (Below.heap_alloc _ _ _ (by simp)).trans (World.alloc_heap_new w _)
  have hf : W.heap[w.heap.size + 1]? = some (.cells #[.bool f.back, .bool f.empty, .slice a1 f.gen.length c1, .slice a2 f.pass.length c2, .slice a3 f.plus.length c3, .slice a4 f.lets.length c4] 66 (0, 0)) := by
    rw [← HG]
    have := World.alloc_heap_new (w.alloc (.cells #[.int .i64 r, .slice (some ⟨b, off, none⟩) ns.length cap] 24)) (.cells #[.bool f.back, .bool f.empty, .slice a1 f.gen.length c1, .slice a2 f.pass.length c2, .slice a3 f.plus.length c3, .slice a4 f.lets.length c4] 66)
    rwa [World.size_alloc] at this
  rw [HG] at hbA
  clear HG
  have p0 := blk_cell hp 0
  have p1 := blk_cell hp 1
  have q0 := blk_cell hf 0
  have q1 := blk_cell hf 1
  have q2 := blk_cell hf 2
  have q3 := blk_cell hf 3
  have q4 := blk_cell hf 4
  have q5 := blk_cell hf 5
  simp at p0 p1 q0 q1 q2 q3 q4 q5
  have pl := blk_lt hp
  have ql := blk_lt hf
  have HW := hide hbA
  have HP := hide hp
  have HF := hide hf
  clear hp hf hbA
  go_wp2_with fail
  refine (HCK.out _ HW.out).mono ?_
  rintro e w1 ⟨rfl, hb1⟩
  have HW1 := hide (HW.out.trans (hb1.mono HW.out.size))
  have hp1 := (hb1.block _ pl).trans HP.out
  have hf1 := (hb1.block _ ql).trans HF.out
  clear p0 p1 q0 q1 q2 q3 q4 q5 pl ql hb1 HP HF HW HCK
  have p0 := blk_cell hp1 0
  have p1 := blk_cell hp1 1
  have q0 := blk_cell hf1 0
  have q1 := blk_cell hf1 1
  have q2 := blk_cell hf1 2
  have q3 := blk_cell hf1 3
  have q4 := blk_cell hf1 4
  have q5 := blk_cell hf1 5
  simp at p0 p1 q0 q1 q2 q3 q4 q5
  have pl := blk_lt hp1
  have ql := blk_lt hf1
  clear hp1 hf1
  by_cases hxl : x.length = ns.length
  · have HXL := hide hxl
    have hxi : (x.length : Int) = (ns.length : Int) := by omega
    have HXI := hide hxi
    rw [hxl]
    clear hxl hxi
    go_upto_region 7 with (go_at_call 79; refine (HLO.out _ HW1.out).mono ?_; rintro e w2 ⟨rb1, rb2, rfl, hQ, hb2⟩)
    have hbQ : Below w2.heap.size w2 (w2.alloc (.cells #[.bool f.back, .bool f.empty, .slice a1 f.gen.length c1, .slice a2 f.pass.length c2, .slice a3 f.plus.length c3, .slice a4 f.lets.length c4, .slice (some ⟨rb1, 0, none⟩) ns.length ns.length, .slice (some ⟨rb2, 0, none⟩) ns.length ns.length] 115)) := (Below.refl _ w2).alloc (Nat.le_refl _) _
    have hq : (w2.alloc (.cells #[.bool f.back, .bool f.empty, .slice a1 f.gen.length c1, .slice a2 f.pass.length c2, .slice a3 f.plus.length c3, .slice a4 f.lets.length c4, .slice (some ⟨rb1, 0, none⟩) ns.length ns.length, .slice (some ⟨rb2, 0, none⟩) ns.length ns.length] 115)).heap[w2.heap.size]? = some (.cells #[.bool f.back, .bool f.empty, .slice a1 f.gen.length c1, .slice a2 f.pass.length c2, .slice a3 f.plus.length c3, .slice a4 f.lets.length c4, .slice (some ⟨rb1, 0, none⟩) ns.length ns.length, .slice (some ⟨rb2, 0, none⟩) ns.length ns.length] 115 (0, 0)) := World.alloc_heap_new w2 _
    generalize (w2.alloc (.cells #[.bool f.back, .bool f.empty, .slice a1 f.gen.length c1, .slice a2 f.pass.length c2, .slice a3 f.plus.length c3, .slice a4 f.lets.length c4, .slice (some ⟨rb1, 0, none⟩) ns.length ns.length, .slice (some ⟨rb2, 0, none⟩) ns.length ns.length] 115)) = Wq at hbQ hq ⊢
    have HQ := hide (hQ.below hbQ)
    have HWq := hide (HW1.out.trans ((hb2.trans (hbQ.mono hb2.size)).mono HW1.out.size))
    have HXq := hide (HXX.out.below HWq.out)
    clear p0 p1 q0 q1 q2 q3 q4 q5 pl ql hQ hb2 hbQ HW1 HLO HXX
    have HQB := hide hq
    clear hq
    generalize w2.heap.size = QB at HQB ⊢
    go_wp2_with fail
    go_loopw [29] (fun i wr => ∃ k : Nat, k ≤ ns.length ∧ i = .int .i64 k ∧ Hid (((List.range k).all fun n => bat x n == sayF ns f (bat x) n) = true) ∧ Below Wq.heap.size Wq wr) (fun i _ => ns.length - (intOf i).toNat)
    case atStart => exact ⟨0, Nat.zero_le _, rfl, rfl, Below.refl _ _⟩
    case round =>
      obtain ⟨k, hk, rfl, hA, hb⟩ := hrel
      by_cases hlt : k < ns.length
      · have hqr := (hb.block QB (blk_lt HQB.out)).trans HQB.out
        have hql := blk_lt hqr
        have q0 := blk_cell hqr 0
        have q1 := blk_cell hqr 1
        have q2 := blk_cell hqr 2
        have q3 := blk_cell hqr 3
        have q4 := blk_cell hqr 4
        have q5 := blk_cell hqr 5
        have q6 := blk_cell hqr 6
        have q7 := blk_cell hqr 7
        simp at q0 q1 q2 q3 q4 q5 q6 q7
        have hxr := HXq.out.below hb
        obtain ⟨bx, ox, rfl, lx, vx⟩ := bools_cell hxr (k := k) (by rw [HXL.out]; exact hlt)
        have hki : (k : Int) < (ns.length : Int) := by omega
        have hsy := says_any ns f a1 a2 a3 a4 (some ⟨bx, ox, none⟩) c1 c2 c3 c4 xc rb1 rb2 k x wr (HQ.out.below hb) hxr HXL.out hlt hl.2
        rw [HXL.out] at hsy
        generalize hZ : bat x k = Z at vx
        generalize hY : sayF ns f (bat x) k = Y at hsy
        have HSY := hide hsy
        have HZ := hide hZ
        have HY := hide hY
        have HB := hide hb
        clear hsy hZ hY hxr hqr hb
        go_wp2_with fail
        refine HSY.out.mono ?_
        rintro e w4 ⟨rfl, hb4⟩
        have HB4 := hide (HB.out.trans (hb4.mono HB.out.size))
        clear hb4 q0 q1 q2 q3 q4 q5 q6 q7
        by_cases hzy : Z = Y
        · subst hzy
          go_wp2
          go_roundw
          case rel => exact ⟨k + 1, by omega, by go_num, (range_all_succ hA.out (by rw [HZ.out, HY.out]; simp)), HB4.out⟩
          case measure => simp [intOf]; omega
        · have hh : hold ns f x = false := range_all_false hlt (by rw [HZ.out, HY.out]; simp [hzy])
          have HH := hide hh
          clear hh
          cases Z <;> cases Y
          · exact absurd rfl hzy
          · clear hzy
            go_wp2
            go_ret2
            exact ⟨ret_pair (by simp [HH.out]) (by simp), HWq.out.trans (HB4.out.mono HWq.out.size)⟩
          · clear hzy
            go_wp2
            go_ret2
            exact ⟨ret_pair (by simp [HH.out]) (by simp), HWq.out.trans (HB4.out.mono HWq.out.size)⟩
          · exact absurd rfl hzy
      · have ek : k = ns.length := by omega
        subst ek
        have HB := hide hb
        clear hb
        go_wp2
        go_ret2
        have hh : hold ns f x = true := hA.out
        exact ⟨ret_pair (by simp [hh]) (by simp), HWq.out.trans (HB.out.mono HWq.out.size)⟩
  · have hxi : ¬ ((x.length : Int) = (ns.length : Int)) := by omega
    have HXN := hide hxl
    clear hxl
    go_wp2
    go_ret2
    exact ⟨ret_pair (by simp) (by simp), HW1.out⟩
end Go.Proofs.Ytoikglgnmjjpcaa
