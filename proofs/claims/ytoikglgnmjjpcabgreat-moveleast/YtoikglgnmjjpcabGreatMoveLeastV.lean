/-
  Whatever program, term, places, numbers and fuel hoistwaylaw.MoveLeast is handed, it returns true and leaves its arguments as they were: a run that ends reckons the term just as often as by Busy's places, and no more often than by any Rival's, of the program trimmed and with its edges split. No condition.
  hoistwaylaw.MoveLeast, walked.
-/
import Derived.Test.YtoikglgnmjjpcabGreatX13
namespace Go.Proofs.YtoikglgnmjjpcabGreat
open Go.RowKit Go.Shelf
set_option linter.unusedVariables false
set_option linter.unusedSimpArgs false

set_option maxHeartbeats 400000 in
def pickH (c : Int) : Int := (if c < 0 then -(c + 1) else c) % 100

theorem pickH_range (c : Int) : 0 ≤ pickH c ∧ pickH c < 100 := by unfold pickH; omega

set_option maxHeartbeats 400000 in
theorem choose100_any (c : Int) (w : World) (h : -9223372036854775808 ≤ c ∧ c ≤ 9223372036854775807) :
    Calls Tryz.prog 17 #[.int .i64 c, .int .i64 100] w fun e w' => e = .returned (.int .i64 (pickH c)) ∧ w' = w := by
  by_cases h0 : c < 0
  · go_enter Tryz.func17, Tryz.ntmps17
    go_wp2
    go_ret
    refine ⟨ret_int ?_, rfl⟩
    have e : (c + 1).tmod 100 = -((-(c + 1)).tmod 100) := by rw [Int.neg_tmod]; omega
    rw [e, Int.tmod_eq_emod_of_nonneg (by omega), pickH, if_pos h0]
    omega
  · go_enter Tryz.func17, Tryz.ntmps17
    go_wp2
    go_ret
    refine ⟨ret_int ?_, rfl⟩
    rw [pickH, if_neg (by omega)]


set_option maxHeartbeats 8000000 in
set_option maxRecDepth 100000 in
theorem moveLeast_wrong (r : Int) (a : Option Addr) (cap : Nat) (ns : List Nd) (t : Tm) (ba : Option Addr) (bc : Nat) (put : List Bool) (ia : Option Addr) (ic : Nat) (inp : List Int) (fuel : Int) (w : World) (hN : SlN w a ns) (hP : BoolsAt w ba put) (hpc : put.length ≤ bc) (hpl : put.length ≤ 9223372036854775807) (hI : IntsAt w ia inp) (hic : inp.length ≤ ic) (hil : inp.length ≤ 9223372036854775807) (hf : -9223372036854775808 ≤ fuel ∧ fuel ≤ 9223372036854775807) (hc : chk r ns ≠ 0) :
    Calls Tryz.prog 6 #[.agg #[.int .i64 r, .slice a ns.length cap], .agg #[.int .i64 t.op, .int .i64 t.a, .int .i64 t.b], .slice ba put.length bc, .slice ia inp.length ic, .int .i64 fuel] w fun e w' => e = .returned (.bool true) ∧ Below w.heap.size w w' := by
  have HTR := hide (fun W (h : Below w.heap.size w W) => trim_err r a cap ns W (hN.below h) hc)
  have hcb : (chk r ns == 0) = false := by simp [hc]
  have hcn : (chk r ns != 0) = true := by simp [hc]
  clear hc hN
  generalize chk r ns = C at *
  have hb0 : Below w.heap.size w ((w.alloc (.cells #[.int .i64 r, .slice a ns.length cap] 24)).alloc (.cells #[.int .i64 t.op, .int .i64 t.a, .int .i64 t.b] 26)) := ((Below.refl _ w).alloc (Nat.le_refl _) _).alloc (by simp) _
  have hp0 : ((w.alloc (.cells #[.int .i64 r, .slice a ns.length cap] 24)).alloc (.cells #[.int .i64 t.op, .int .i64 t.a, .int .i64 t.b] 26)).heap[w.heap.size]? = some (.cells #[.int .i64 r, .slice a ns.length cap] 24 (0, 0)) := by
    have := World.alloc_heap_new w (.cells #[.int .i64 r, .slice a ns.length cap] 24)
    exact (Below.heap_alloc _ _ _ (by simp; try omega)).trans this
  have ht0 : ((w.alloc (.cells #[.int .i64 r, .slice a ns.length cap] 24)).alloc (.cells #[.int .i64 t.op, .int .i64 t.a, .int .i64 t.b] 26)).heap[w.heap.size + 1]? = some (.cells #[.int .i64 t.op, .int .i64 t.a, .int .i64 t.b] 26 (0, 0)) := by
    have := World.alloc_heap_new (w.alloc (.cells #[.int .i64 r, .slice a ns.length cap] 24)) (.cells #[.int .i64 t.op, .int .i64 t.a, .int .i64 t.b] 26)
    simp only [World.size_alloc] at this
    exact this
  go_enter Tryz.func6, Tryz.ntmps6
  go_upto_region 1 with fail
  generalize ((w.alloc (.cells #[.int .i64 r, .slice a ns.length cap] 24)).alloc (.cells #[.int .i64 t.op, .int .i64 t.a, .int .i64 t.b] 26)) = W0 at hb0 hp0 ht0 ⊢
  have HB := hide hb0
  have HP := hide hp0
  have HT := hide ht0
  clear hb0 hp0 ht0
  have p0 := blk_cell HP.out 0
  have p1 := blk_cell HP.out 1
  simp at p0 p1
  have pl := blk_lt HP.out
  go_wp2_with fail
  refine (HTR.out _ HB.out).mono ?_
  rintro e w1 ⟨rfl, hb1⟩
  have hb1' := hb1.alloc hb1.size (.cells #[.int .i64 0, .slice none 0 0] 24)
  replace HB := hide (HB.out.trans (hb1'.mono HB.out.size))
  clear hb1 hb1' p0 p1 pl HTR
  go_upto_region 2 with fail
  generalize (w1.alloc (.cells #[.int .i64 0, .slice none 0 0] 24)) = W1 at HB ⊢
  generalize w1.heap.size = QB
  go_wp2_with fail
  refine (moveBegun_any _).mono ?_
  rintro e w9 ⟨rfl, hb9⟩
  go_wp2
  go_ret
  exact ⟨by first | rfl | simp, HB.out.trans (hb9.mono HB.out.size)⟩

theorem trim_fitS (r : Int) (a : Option Addr) (cap : Nat) (ns : List Nd) (w : World) (hN : SlN w a ns) (hc : chk r ns = 0) :
    Calls Tryz.prog 25 #[.agg #[.int .i64 r, .slice a ns.length cap]] w fun e w' => ∃ tb tq tc, e = .returned (.tuple #[.agg #[.int .i64 r, .slice (some ⟨tb, tq, none⟩) (trimN ns).length tc], .int .i64 0]) ∧ NodesAt w' tb tq (trimN ns) ∧ Below w.heap.size w w' := by
  obtain ⟨b, off, rfl, hNb⟩ := hN.some (chk_zero hc).1.1
  exact trim_fit r b off cap ns w hNb hc

theorem split_both (r : Int) (b off cap : Nat) (ns : List Nd) (w : World) (hN : NodesAt w b off ns) (hc : chk r ns = 0) :
    Calls Tryz.prog 26 #[.agg #[.int .i64 r, .slice (some ⟨b, off, none⟩) ns.length cap]] w fun e w' => ∃ q sa sl sc er, e = .returned (.tuple #[.agg #[.int .i64 q, .slice sa sl sc], .int .i64 er]) ∧ Below w.heap.size w w' := by
  by_cases hl : (splitN ns).length ≤ 256
  · refine (split_fit r b off cap ns w hN hc hl).mono ?_
    rintro e w' ⟨tb, tq, tc, rfl, _, hB⟩
    exact ⟨_, _, _, _, _, rfl, hB⟩
  · refine (split_long r b off cap ns w hN hc (by omega)).mono ?_
    rintro e w' ⟨rfl, hB⟩
    exact ⟨_, _, _, _, _, rfl, hB⟩

set_option maxHeartbeats 8000000 in
set_option maxRecDepth 100000 in
theorem moveLeast_err (r : Int) (a : Option Addr) (cap : Nat) (ns : List Nd) (t : Tm) (ba : Option Addr) (bc : Nat) (put : List Bool) (ia : Option Addr) (ic : Nat) (inp : List Int) (fuel : Int) (w : World) (hN : SlN w a ns) (hP : BoolsAt w ba put) (hpc : put.length ≤ bc) (hpl : put.length ≤ 9223372036854775807) (hI : IntsAt w ia inp) (hic : inp.length ≤ ic) (hil : inp.length ≤ 9223372036854775807) (hf : -9223372036854775808 ≤ fuel ∧ fuel ≤ 9223372036854775807) (hc : chk r ns = 0) (he : oneE r (trimN ns) t ≠ 0) :
    Calls Tryz.prog 6 #[.agg #[.int .i64 r, .slice a ns.length cap], .agg #[.int .i64 t.op, .int .i64 t.a, .int .i64 t.b], .slice ba put.length bc, .slice ia inp.length ic, .int .i64 fuel] w fun e w' => e = .returned (.bool true) ∧ Below w.heap.size w w' := by
  have HN := hide hN
  have HC := hide hc
  have HTR := hide (fun W (h : Below w.heap.size w W) => trim_fitS r a cap ns W (hN.below h) hc)
  have HSP := hide (fun (W : World) (tb tq tc : Nat) (h : NodesAt W tb tq (trimN ns)) => split_both r tb tq tc (trimN ns) W h (trim_chk hc))
  have HON : Hid (∀ (W : World) (tb tq tc : Nat), NodesAt W tb tq (trimN ns) → Calls Tryz.prog 9 #[.agg #[.int .i64 r, .slice (some ⟨tb, tq, none⟩) (trimN ns).length tc], .agg #[.int .i64 t.op, .int .i64 t.a, .int .i64 t.b]] W fun e w' => e = .returned (.tuple #[.agg #[.int .i64 0, .slice none 0 0], .int .i64 (oneE r (trimN ns) t)]) ∧ Below W.heap.size W w') := fun W tb tq tc h => by
    refine (one_any r _ tc (trimN ns) t W (Or.inr ⟨tb, tq, rfl, h⟩)).mono ?_
    rintro e w' ⟨h, hB⟩
    rcases h with ⟨_, rfl⟩ | ⟨q, _⟩
    · exact ⟨rfl, hB⟩
    · exact absurd q he
  have hcb : (oneE r (trimN ns) t == 0) = false := by simp [he]
  have hcn : (oneE r (trimN ns) t != 0) = true := by simp [he]
  clear he hN hc
  generalize oneE r (trimN ns) t = C at *
  generalize trimN ns = us at *
  have hb0 : Below w.heap.size w ((w.alloc (.cells #[.int .i64 r, .slice a ns.length cap] 24)).alloc (.cells #[.int .i64 t.op, .int .i64 t.a, .int .i64 t.b] 26)) := ((Below.refl _ w).alloc (Nat.le_refl _) _).alloc (by simp) _
  have hp0 : ((w.alloc (.cells #[.int .i64 r, .slice a ns.length cap] 24)).alloc (.cells #[.int .i64 t.op, .int .i64 t.a, .int .i64 t.b] 26)).heap[w.heap.size]? = some (.cells #[.int .i64 r, .slice a ns.length cap] 24 (0, 0)) := by
    have := World.alloc_heap_new w (.cells #[.int .i64 r, .slice a ns.length cap] 24)
    exact (Below.heap_alloc _ _ _ (by simp; try omega)).trans this
  have ht0 : ((w.alloc (.cells #[.int .i64 r, .slice a ns.length cap] 24)).alloc (.cells #[.int .i64 t.op, .int .i64 t.a, .int .i64 t.b] 26)).heap[w.heap.size + 1]? = some (.cells #[.int .i64 t.op, .int .i64 t.a, .int .i64 t.b] 26 (0, 0)) := by
    have := World.alloc_heap_new (w.alloc (.cells #[.int .i64 r, .slice a ns.length cap] 24)) (.cells #[.int .i64 t.op, .int .i64 t.a, .int .i64 t.b] 26)
    simp only [World.size_alloc] at this
    exact this
  go_enter Tryz.func6, Tryz.ntmps6
  go_upto_region 1 with fail
  generalize ((w.alloc (.cells #[.int .i64 r, .slice a ns.length cap] 24)).alloc (.cells #[.int .i64 t.op, .int .i64 t.a, .int .i64 t.b] 26)) = W0 at hb0 hp0 ht0 ⊢
  have HB := hide hb0
  have HP := hide hp0
  have HT := hide ht0
  clear hb0 hp0 ht0
  have p0 := blk_cell HP.out 0
  have p1 := blk_cell HP.out 1
  simp at p0 p1
  have pl := blk_lt HP.out
  go_wp2_with fail
  refine (HTR.out _ HB.out).mono ?_
  rintro e w1 ⟨tb, tq, tc, rfl, hS1, hb1⟩
  have hx : Below w1.heap.size w1 (w1.alloc (.cells #[.int .i64 r, .slice (some ⟨tb, tq, none⟩) us.length tc] 24)) := (Below.refl _ w1).alloc (Nat.le_refl _) _
  have hq : (w1.alloc (.cells #[.int .i64 r, .slice (some ⟨tb, tq, none⟩) us.length tc] 24)).heap[w1.heap.size]? = some (.cells #[.int .i64 r, .slice (some ⟨tb, tq, none⟩) us.length tc] 24 (0, 0)) := World.alloc_heap_new w1 _
  have hb' := hb1.trans (hx.mono hb1.size)
  replace HB := hide (HB.out.trans (hb'.mono HB.out.size))
  replace HT := hide ((hb'.block _ (blk_lt HT.out)).trans HT.out)
  have HU := hide (hS1.below hx hS1.lt)
  clear hb1 hb' hx hS1 HP p0 p1 pl
  go_upto_region 4 with fail
  generalize (w1.alloc (.cells #[.int .i64 r, .slice (some ⟨tb, tq, none⟩) us.length tc] 24)) = W1 at HB HT HU hq ⊢
  generalize w1.heap.size = PB at hq ⊢
  have HQ := hide hq
  clear hq
  have q0 := blk_cell HQ.out 0
  have q1 := blk_cell HQ.out 1
  simp at q0 q1
  have ql := blk_lt HQ.out
  have t0 := blk_cell HT.out 0
  have t1 := blk_cell HT.out 1
  have t2 := blk_cell HT.out 2
  simp at t0 t1 t2
  have tl := blk_lt HT.out
  go_wp2_with fail
  refine (HON.out _ tb tq tc HU.out).mono ?_
  rintro e w2 ⟨rfl, hb2⟩
  have hx : Below w2.heap.size w2 (w2.alloc (.cells #[.int .i64 0, .slice none 0 0] 24)) := (Below.refl _ w2).alloc (Nat.le_refl _) _
  have hq : (w2.alloc (.cells #[.int .i64 0, .slice none 0 0] 24)).heap[w2.heap.size]? = some (.cells #[.int .i64 0, .slice none 0 0] 24 (0, 0)) := World.alloc_heap_new w2 _
  have hb' := hb2.trans (hx.mono hb2.size)
  replace HB := hide (HB.out.trans (hb'.mono HB.out.size))
  replace HQ := hide ((hb'.block _ (blk_lt HQ.out)).trans HQ.out)
  replace HU := hide (HU.out.below hb' HU.out.lt)
  clear hb2 hb' hx HT HON q0 q1 ql t0 t1 t2 tl
  go_upto_region 5 with fail
  generalize (w2.alloc (.cells #[.int .i64 0, .slice none 0 0] 24)) = W2 at HB HQ HU hq ⊢
  generalize w2.heap.size = OB at hq ⊢
  have HO := hide hq
  clear hq
  have q0 := blk_cell HQ.out 0
  have q1 := blk_cell HQ.out 1
  simp at q0 q1
  have ql := blk_lt HQ.out
  go_wp2_with fail
  refine (HSP.out _ tb tq tc HU.out).mono ?_
  rintro e w3 ⟨sq, sa, sl, sc, er, rfl, hb3⟩
  have hb3' := hb3.alloc hb3.size (.cells #[.int .i64 sq, .slice sa sl sc] 24)
  replace HB := hide (HB.out.trans (hb3'.mono HB.out.size))
  clear hb3 hb3' q0 q1 ql HSP HO HQ HU
  go_upto_region 6 with fail
  generalize hW : (w3.alloc (.cells #[.int .i64 sq, .slice sa sl sc] 24)) = W3 at HB ⊢
  clear hW
  generalize w3.heap.size = SB
  go_wp2_with fail
  refine (moveBegun_any _).mono ?_
  rintro e w9 ⟨rfl, hb9⟩
  go_wp2
  go_ret
  exact ⟨by first | rfl | simp, HB.out.trans (hb9.mono HB.out.size)⟩

set_option maxHeartbeats 40000000 in
set_option maxRecDepth 100000 in
theorem moveLeast_right (r : Int) (a : Option Addr) (cap : Nat) (ns : List Nd) (t : Tm) (ba : Option Addr) (bc : Nat) (put : List Bool) (ia : Option Addr) (ic : Nat) (inp : List Int) (fuel : Int) (w : World) (hN : SlN w a ns) (hP : BoolsAt w ba put) (hpc : put.length ≤ bc) (hpl : put.length ≤ 9223372036854775807) (hI : IntsAt w ia inp) (hic : inp.length ≤ ic) (hil : inp.length ≤ 9223372036854775807) (hf : -9223372036854775808 ≤ fuel ∧ fuel ≤ 9223372036854775807) (hc : chk r ns = 0) (he : oneE r (trimN ns) t = 0) :
    Calls Tryz.prog 6 #[.agg #[.int .i64 r, .slice a ns.length cap], .agg #[.int .i64 t.op, .int .i64 t.a, .int .i64 t.b], .slice ba put.length bc, .slice ia inp.length ic, .int .i64 fuel] w fun e w' => e = .returned (.bool true) ∧ Below w.heap.size w w' := by
  have HFEW := hide (fun u => few_any ia ic inp u hic hil)
  have hJ := hI.take 256
  have hj256 : (inp.take 256).length ≤ 256 := by simp; omega
  have hjc : (inp.take 256).length ≤ ic := by simp; omega
  have hjl : (inp.take 256).length ≤ 9223372036854775807 := by omega
  generalize inp.take 256 = jn at HFEW hJ hj256 hjc hjl
  have hpf := pickH_range fuel
  have ho := oneE_ok he
  have hcm := ho.next
  have hml := (chk_full hcm).1
  have hidm := trim_idem hc
  have hsl : (splitN (trimN ns)).length ≤ 256 := by have := ho.len; unfold oneQ at this; rwa [hidm] at this
  have hcs := split_chk (trim_chk hc) hsl
  have hs1 := (chk_full hcs).1
  have htk : tchk r (splitN (trimN ns)) t = 0 := by rw [tchk_tmE hcs]; exact ok_tmE ho.tm
  have HTC := hide htk
  have HCM := hide hcm
  have HLS : Hid (∀ F : Int, 0 ≤ F → F ≤ 32768 → rerr (oneR (trimN ns) t r) (oneN (trimN ns) t r) jn.length F = 0 → Least r (splitN (trimN ns)) t jn (res (oneR (trimN ns) t r) (oneN (trimN ns) t r) jn F)) := fun F h0 h1 h2 => least_of ho hidm hj256 h0 h1 h2
  have HN := hide hN
  have HJ := hide hJ
  have HU := hide hP
  have HTR := hide (fun W (h : Below w.heap.size w W) => trim_fitS r a cap ns W (hN.below h) hc)
  have HSP := hide (fun (W : World) (tb tq tc : Nat) (h : NodesAt W tb tq (trimN ns)) => split_fit r tb tq tc (trimN ns) W h (trim_chk hc) hsl)
  have HON : Hid (∀ (W : World) (tb tq tc : Nat), NodesAt W tb tq (trimN ns) → Calls Tryz.prog 9 #[.agg #[.int .i64 r, .slice (some ⟨tb, tq, none⟩) (trimN ns).length tc], .agg #[.int .i64 t.op, .int .i64 t.a, .int .i64 t.b]] W fun e w' => ∃ gb gc, e = .returned (.tuple #[.agg #[.int .i64 (oneR (trimN ns) t r), .slice (some ⟨gb, 0, none⟩) (List.length (oneN (trimN ns) t r)) gc], .int .i64 0]) ∧ SlN w' (some ⟨gb, 0, none⟩) (oneN (trimN ns) t r) ∧ Below W.heap.size W w') := fun W tb tq tc h => by
    refine (one_any r _ tc (trimN ns) t W (Or.inr ⟨tb, tq, rfl, h⟩)).mono ?_
    rintro e w' ⟨h, hB⟩
    rcases h with ⟨q, _⟩ | ⟨_, gb, gc, rfl, hV⟩
    · exact absurd he q
    · exact ⟨gb, gc, rfl, Or.inr ⟨gb, 0, rfl, len_row hV hml.1⟩, hB⟩
  clear he ho hcm hidm hcs htk hN hI hJ hP hil hc hsl
  generalize oneN (trimN ns) t r = ms at *
  generalize oneR (trimN ns) t r = q at *
  generalize splitN (trimN ns) = ss at *
  generalize trimN ns = us at *
  have hb0 : Below w.heap.size w ((w.alloc (.cells #[.int .i64 r, .slice a ns.length cap] 24)).alloc (.cells #[.int .i64 t.op, .int .i64 t.a, .int .i64 t.b] 26)) := ((Below.refl _ w).alloc (Nat.le_refl _) _).alloc (by simp) _
  have hp0 : ((w.alloc (.cells #[.int .i64 r, .slice a ns.length cap] 24)).alloc (.cells #[.int .i64 t.op, .int .i64 t.a, .int .i64 t.b] 26)).heap[w.heap.size]? = some (.cells #[.int .i64 r, .slice a ns.length cap] 24 (0, 0)) := by
    have := World.alloc_heap_new w (.cells #[.int .i64 r, .slice a ns.length cap] 24)
    exact (Below.heap_alloc _ _ _ (by simp; try omega)).trans this
  have ht0 : ((w.alloc (.cells #[.int .i64 r, .slice a ns.length cap] 24)).alloc (.cells #[.int .i64 t.op, .int .i64 t.a, .int .i64 t.b] 26)).heap[w.heap.size + 1]? = some (.cells #[.int .i64 t.op, .int .i64 t.a, .int .i64 t.b] 26 (0, 0)) := by
    have := World.alloc_heap_new (w.alloc (.cells #[.int .i64 r, .slice a ns.length cap] 24)) (.cells #[.int .i64 t.op, .int .i64 t.a, .int .i64 t.b] 26)
    simp only [World.size_alloc] at this
    exact this
  go_enter Tryz.func6, Tryz.ntmps6
  go_upto_region 1 with fail
  generalize ((w.alloc (.cells #[.int .i64 r, .slice a ns.length cap] 24)).alloc (.cells #[.int .i64 t.op, .int .i64 t.a, .int .i64 t.b] 26)) = W0 at hb0 hp0 ht0 ⊢
  have HB := hide hb0
  have HP := hide hp0
  have HT := hide ht0
  clear hb0 hp0 ht0
  have p0 := blk_cell HP.out 0
  have p1 := blk_cell HP.out 1
  simp at p0 p1
  have pl := blk_lt HP.out
  go_wp2_with fail
  refine (HTR.out _ HB.out).mono ?_
  rintro e w1 ⟨tb, tq, tc, rfl, hS1, hb1⟩
  have hx : Below w1.heap.size w1 (w1.alloc (.cells #[.int .i64 r, .slice (some ⟨tb, tq, none⟩) us.length tc] 24)) := (Below.refl _ w1).alloc (Nat.le_refl _) _
  have hq : (w1.alloc (.cells #[.int .i64 r, .slice (some ⟨tb, tq, none⟩) us.length tc] 24)).heap[w1.heap.size]? = some (.cells #[.int .i64 r, .slice (some ⟨tb, tq, none⟩) us.length tc] 24 (0, 0)) := World.alloc_heap_new w1 _
  have hb' := hb1.trans (hx.mono hb1.size)
  replace HB := hide (HB.out.trans (hb'.mono HB.out.size))
  replace HT := hide ((hb'.block _ (blk_lt HT.out)).trans HT.out)
  have HV := hide (hS1.below hx hS1.lt)
  clear hb1 hb' hx hS1 HP HTR p0 p1 pl
  go_upto_region 4 with fail
  generalize (w1.alloc (.cells #[.int .i64 r, .slice (some ⟨tb, tq, none⟩) us.length tc] 24)) = W1 at HB HT HV hq ⊢
  generalize w1.heap.size = PB at hq ⊢
  have HQ := hide hq
  clear hq
  have q0 := blk_cell HQ.out 0
  have q1 := blk_cell HQ.out 1
  simp at q0 q1
  have ql := blk_lt HQ.out
  have t0 := blk_cell HT.out 0
  have t1 := blk_cell HT.out 1
  have t2 := blk_cell HT.out 2
  simp at t0 t1 t2
  have tl := blk_lt HT.out
  go_wp2_with fail
  refine (HON.out _ tb tq tc HV.out).mono ?_
  rintro e w2 ⟨gb, gc, rfl, hS2, hb2⟩
  have hx : Below w2.heap.size w2 (w2.alloc (.cells #[.int .i64 q, .slice (some ⟨gb, 0, none⟩) (List.length ms) gc] 24)) := (Below.refl _ w2).alloc (Nat.le_refl _) _
  have hq : (w2.alloc (.cells #[.int .i64 q, .slice (some ⟨gb, 0, none⟩) (List.length ms) gc] 24)).heap[w2.heap.size]? = some (.cells #[.int .i64 q, .slice (some ⟨gb, 0, none⟩) (List.length ms) gc] 24 (0, 0)) := World.alloc_heap_new w2 _
  have hb' := hb2.trans (hx.mono hb2.size)
  replace HB := hide (HB.out.trans (hb'.mono HB.out.size))
  replace HQ := hide ((hb'.block _ (blk_lt HQ.out)).trans HQ.out)
  replace HT := hide ((hb'.block _ (blk_lt HT.out)).trans HT.out)
  replace HV := hide (HV.out.below hb' HV.out.lt)
  have HM := hide (hS2.below hx)
  clear hb2 hb' hx hS2 HON q0 q1 ql t0 t1 t2 tl
  go_upto_region 5 with fail
  generalize (w2.alloc (.cells #[.int .i64 q, .slice (some ⟨gb, 0, none⟩) (List.length ms) gc] 24)) = W2 at HB HQ HT HV HM hq ⊢
  generalize w2.heap.size = OB at hq ⊢
  have HO := hide hq
  clear hq
  have q0 := blk_cell HQ.out 0
  have q1 := blk_cell HQ.out 1
  simp at q0 q1
  have ql := blk_lt HQ.out
  go_wp2_with fail
  refine (HSP.out _ tb tq tc HV.out).mono ?_
  rintro e w3 ⟨sb, sq, sc, rfl, hS3, hb3⟩
  have hx : Below w3.heap.size w3 (w3.alloc (.cells #[.int .i64 r, .slice (some ⟨sb, sq, none⟩) ss.length sc] 24)) := (Below.refl _ w3).alloc (Nat.le_refl _) _
  have hq : (w3.alloc (.cells #[.int .i64 r, .slice (some ⟨sb, sq, none⟩) ss.length sc] 24)).heap[w3.heap.size]? = some (.cells #[.int .i64 r, .slice (some ⟨sb, sq, none⟩) ss.length sc] 24 (0, 0)) := World.alloc_heap_new w3 _
  have hb' := hb3.trans (hx.mono hb3.size)
  replace HB := hide (HB.out.trans (hb'.mono HB.out.size))
  replace HT := hide ((hb'.block _ (blk_lt HT.out)).trans HT.out)
  replace HO := hide ((hb'.block _ (blk_lt HO.out)).trans HO.out)
  replace HM := hide (HM.out.below hb')
  have HS := hide (hS3.below hx hS3.lt)
  clear hb3 hb' hx hS3 HSP HV HQ q0 q1 ql
  go_upto_region 8 with fail
  generalize (w3.alloc (.cells #[.int .i64 r, .slice (some ⟨sb, sq, none⟩) ss.length sc] 24)) = W3 at HB HT HO HM HS hq ⊢
  generalize w3.heap.size = SB at hq ⊢
  have HSB := hide hq
  clear hq
  go_upto_region 9 with (go_at_call 17; refine (choose100_any fuel _ hf).mono ?_; rintro e w3 ⟨rfl, hw3⟩; subst w3)
  generalize pickH fuel = n at hpf ⊢
  have n0 := hpf.1
  have n1 := hpf.2
  clear hpf hf
  have hK0 : 0 ≤ n * ((ms.length : Int) + 1) := Int.mul_nonneg n0 (by omega)
  have hK1 : n * ((ms.length : Int) + 1) ≤ 99 * 257 := Int.le_trans (Int.mul_le_mul_of_nonneg_right (by omega) (by omega)) (Int.mul_le_mul_of_nonneg_left (by omega) (by omega))
  have HWW := hide (show IntKind.i64.wrap (n * IntKind.i64.wrap ((ms.length : Int) + 1)) = n * ((ms.length : Int) + 1) by rw [IntWalk.i64_left, IntWalk.i64_left, IntWalk.wrap64_in ((ms.length : Int) + 1) (by omega), IntWalk.wrap64_in _ (by omega)])
  have HE2 := hide (rerr_ok (r := q) (ns := ms) (il := jn.length) (n := n * ((ms.length : Int) + 1)) HCM.out hj256 hK0 (by omega))
  have HLT := hide (res_len q ms jn (n * ((ms.length : Int) + 1)))
  have HLE := hide (HLS.out _ hK0 (by omega) HE2.out)
  clear hK0 hK1 HLS
  generalize n * ((ms.length : Int) + 1) = F at HWW HE2 HLT HLE
  have HNk := hide HM.out
  have HJk := hide (HJ.out.below HB.out)
  have HPK := hide (fun (u : World) (hB : Below W3.heap.size W3 u) => (show u.cell? ⟨OB, 0, none⟩ = some (.int .i64 q) ∧ u.cell? ⟨OB, 1, none⟩ = some (.slice (some ⟨gb, 0, none⟩) (List.length ms) gc) from ⟨(hB.cell (p := ⟨OB, 0, none⟩) (blk_lt HO.out)).trans (blk_cell HO.out 0), (hB.cell (p := ⟨OB, 1, none⟩) (blk_lt HO.out)).trans (blk_cell HO.out 1)⟩))
  go_cut [18, 19] from 61 to 72 (fun v1 v2 wx => Got (res q ms jn F) (rerr q ms jn.length F) W3 wx v1 v2)
  case first =>
    go_region_held3 (fun u => u.cell? ⟨OB, 0, none⟩ = some (.int .i64 q) ∧ u.cell? ⟨OB, 1, none⟩ = some (.slice (some ⟨gb, 0, none⟩) (List.length ms) gc)) (first | (with_reducible exact HPK.out _ hB3) | (refine HPK.out _ ?_ <;> ((repeat with_reducible first | exact hB3 | exact Below.refl _ _ | refine Below.drew ?_ | refine Below.alloc ?_ ?_ _) <;> (first | exact hB3.size | exact Nat.le_refl _ | simp))) | exact HPK.out _ (hB3.trans (fill5_below (Nat.le_refl _) hB3.size _ _ _ _ _))) (first
      | (go_at_call 19; refine (HFEW.out _).mono ?_; rintro e w' ⟨rfl, hw'⟩; subst w')
      | (go_at_call 22; rw [HWW.out]; refine (run_at2 q (some ⟨gb, 0, none⟩) gc ms ia ic jn F W3 HNk.out HJk.out hjc hjl).mono ?_; rintro e w3 ⟨ao3, co3, ac3, cc3, rfl, hI3, hC3, hco3, hB3, hk3, hQ3⟩; have z0 : w3.cell? ⟨W3.heap.size, 0, none⟩ = some (.slice none 0 0) := blk_cell hk3 0; have f0 := blk_frozen hk3 0; have z1 : w3.cell? ⟨W3.heap.size, 1, none⟩ = some (.int .i64 0) := blk_cell hk3 1; have f1 := blk_frozen hk3 1; have z2 : w3.cell? ⟨W3.heap.size, 2, none⟩ = some (.bool false) := blk_cell hk3 2; have f2 := blk_frozen hk3 2; have z3 : w3.cell? ⟨W3.heap.size, 3, none⟩ = some (.int .i64 0) := blk_cell hk3 3; have f3 := blk_frozen hk3 3; have z4 : w3.cell? ⟨W3.heap.size, 4, none⟩ = some (.slice none 0 0) := blk_cell hk3 4; have f4 := blk_frozen hk3 4; have HX3 := hide (And.intro hI3 (And.intro hC3 (And.intro hco3 (And.intro hk3 hQ3)))); have hlt3 := blk_lt hk3; clear hI3 hC3 hco3 hk3 hQ3)
      | (go_at_call 22; rw [HWW.out]; refine (run_at1 q (some ⟨gb, 0, none⟩) gc ms ia ic jn F W3 HNk.out HJk.out hjc hjl).mono ?_; rintro e w3 ⟨ao3, co3, ac3, cc3, rfl, hI3, hC3, hco3, hB3⟩; have HX3 := hide (And.intro hI3 (And.intro hC3 hco3)); clear hI3 hC3 hco3))
    all_goals (go_wp2; go_meet)
    all_goals first
      | exact ⟨⟨_, ao3, co3, ac3, cc3, rfl, fill5_blk HX3.out.2.2.2.1 _ _ _ _ _, (HX3.out.2.2.2.2 _ _ _ _ _).1, (HX3.out.2.2.2.2 _ _ _ _ _).2, HX3.out.2.2.1⟩, rfl, hB3.trans (fill5_below (Nat.le_refl _) hB3.size _ _ _ _ _)⟩
      | exact ⟨⟨_, ao3, co3, ac3, cc3, rfl, blk_new rfl, HX3.out.1.below ((Below.refl _ w3).alloc (Nat.le_refl _) _), HX3.out.2.1.below ((Below.refl _ w3).alloc (Nat.le_refl _) _), HX3.out.2.2⟩, rfl, hB3.alloc hB3.size _⟩
  case rest =>
    obtain ⟨⟨ra, aoa, coa, aca, cca, rfl, hka, hIa, hCa, hcoa⟩, rfl, hBc⟩ := hcut
    rw [HE2.out]
    generalize res q ms jn F = σ at *
    replace HB := hide (HB.out.trans (hBc.mono HB.out.size))
    replace HT := hide ((hBc.block _ (blk_lt HT.out)).trans HT.out)
    replace HSB := hide ((hBc.block _ (blk_lt HSB.out)).trans HSB.out)
    replace HS := hide (HS.out.below hBc HS.out.lt)
    have HRa := hide hka
    have HCa := hide hCa
    clear hka hIa hCa hcoa hBc HNk HJk HPK HO HM
    generalize hW : wc = W4 at *
    clear hW
    have x0 := blk_cell HRa.out 0
    have x1 := blk_cell HRa.out 1
    have x2 := blk_cell HRa.out 2
    have x3 := blk_cell HRa.out 3
    have x4 := blk_cell HRa.out 4
    simp at x0 x1 x2 x3 x4
    have xl := blk_lt HRa.out
    cases hend : σ.ended
    · rw [hend] at x2
      go_wp2_with fail
      refine (moveBegun_any _).mono ?_
      rintro e w9 ⟨rfl, hb9⟩
      go_wp2
      go_ret
      exact ⟨by first | rfl | simp, HB.out.trans (hb9.mono HB.out.size)⟩
    · rw [hend] at x2
      have hRa := HRa.out
      rw [hend] at hRa
      replace HRa := hide hRa
      have HLB := hide (HLE.out.busy hend)
      have HLR := hide (fun put => HLE.out.rival put hend)
      have hl1 := HLT.out.2
      clear hRa HLE HLT
      go_upto_region 14 with fail
      clear x0 x1 x2 x3 x4 xl hend
      have s0 := blk_cell HSB.out 0
      have s1 := blk_cell HSB.out 1
      simp at s0 s1
      have sl := blk_lt HSB.out
      have t0 := blk_cell HT.out 0
      have t1 := blk_cell HT.out 1
      have t2 := blk_cell HT.out 2
      simp at t0 t1 t2
      have tl := blk_lt HT.out
      go_wp2_with fail
      refine (busyL_any r sb sq sc ss t _ HS.out HTC.out).mono ?_
      rintro e w5 ⟨a1, d1, a2, d2, rfl, hx1, hx2, hb5⟩
      have hx : Below w5.heap.size w5 (w5.alloc (.cells #[.slice a1 ss.length d1, .slice a2 ss.length d2] 29)) := (Below.refl _ w5).alloc (Nat.le_refl _) _
      have hq : (w5.alloc (.cells #[.slice a1 ss.length d1, .slice a2 ss.length d2] 29)).heap[w5.heap.size]? = some (.cells #[.slice a1 ss.length d1, .slice a2 ss.length d2] 29 (0, 0)) := World.alloc_heap_new w5 _
      have hb' := hb5.trans (hx.mono hb5.size)
      replace HB := hide (HB.out.trans (hb'.mono HB.out.size))
      replace HT := hide ((hb'.block _ (blk_lt HT.out)).trans HT.out)
      replace HSB := hide ((hb'.block _ (blk_lt HSB.out)).trans HSB.out)
      replace HRa := hide ((hb'.block _ (blk_lt HRa.out)).trans HRa.out)
      replace HS := hide (HS.out.below hb' HS.out.lt)
      replace HCa := hide (HCa.out.below hb')
      have HX1 := hide (hx1.below hx)
      have HX2 := hide (hx2.below hx)
      clear hb5 hb' hx hx1 hx2 s0 s1 sl t0 t1 t2 tl
      go_upto_region 15 with fail
      generalize (w5.alloc (.cells #[.slice a1 ss.length d1, .slice a2 ss.length d2] 29)) = W5 at HB HT HSB HRa HS HCa HX1 HX2 hq ⊢
      generalize w5.heap.size = L1 at hq ⊢
      have HL1 := hide hq
      clear hq
      have s0 := blk_cell HSB.out 0
      have s1 := blk_cell HSB.out 1
      simp at s0 s1
      have sl := blk_lt HSB.out
      have t0 := blk_cell HT.out 0
      have t1 := blk_cell HT.out 1
      have t2 := blk_cell HT.out 2
      simp at t0 t1 t2
      have tl := blk_lt HT.out
      have l0 := blk_cell HL1.out 0
      have l1 := blk_cell HL1.out 1
      simp at l0 l1
      have ll := blk_lt HL1.out
      go_wp2_with fail
      refine (applyL_any r sb sq sc ss t a1 a2 d1 d2 (earlyL ss t) (rcl ss t) _ HS.out HTC.out (by simp [earlyL]) (by simp [rcl]) HX1.out HX2.out (safe_takeOk (busy_safe (tchk_chk HTC.out) t))).mono ?_
      rintro e w6 ⟨g3, q3, m3, c3, e3, rfl, hS3, hD3, hb6⟩
      have hx : Below w6.heap.size w6 (w6.alloc (.cells #[.int .i64 q3, .slice g3 (List.length m3) c3] 24)) := (Below.refl _ w6).alloc (Nat.le_refl _) _
      have hq : (w6.alloc (.cells #[.int .i64 q3, .slice g3 (List.length m3) c3] 24)).heap[w6.heap.size]? = some (.cells #[.int .i64 q3, .slice g3 (List.length m3) c3] 24 (0, 0)) := World.alloc_heap_new w6 _
      have hb' := hb6.trans (hx.mono hb6.size)
      replace HB := hide (HB.out.trans (hb'.mono HB.out.size))
      replace HT := hide ((hb'.block _ (blk_lt HT.out)).trans HT.out)
      replace HSB := hide ((hb'.block _ (blk_lt HSB.out)).trans HSB.out)
      replace HRa := hide ((hb'.block _ (blk_lt HRa.out)).trans HRa.out)
      replace HS := hide (HS.out.below hb' HS.out.lt)
      replace HCa := hide (HCa.out.below hb')
      have HM := hide (hS3.below hx)
      have HD3 := hide (hD3)
      clear hb6 hb' hx hS3 hD3 HX1 HX2 HL1 s0 s1 sl t0 t1 t2 tl l0 l1 ll
      go_upto_region 18 with fail
      generalize (w6.alloc (.cells #[.int .i64 q3, .slice g3 (List.length m3) c3] 24)) = W6 at HB HT HSB HRa HS HCa HM hq ⊢
      generalize w6.heap.size = BB at hq ⊢
      have HBB := hide hq
      clear hq
      go_upto_if 95 with fail
      go_cut [24, 25] from 94 to 118 (fun _ _ wx => Below W6.heap.size W6 wx)
      case first =>
        by_cases he0 : e3 = 0
        · have hc0 : (e3 == 0) = true := by simp [he0]
          obtain ⟨d1, d2, d3⟩ := HD3.out he0
          have hf := HLB.out
          rw [← d2, ← d1] at hf
          have HFF := hide (hf d3)
          have HE3 := hide (rerr_ok (r := q3) (ns := m3) (il := jn.length) (n := 131072) d3 hj256 (by decide) (by decide))
          have HLN3 := hide (res_len q3 m3 jn 131072)
          clear he0 d1 d2 d3 hf
          have HNk := hide HM.out
          have HJk := hide (HJ.out.below HB.out)
          have bl := blk_lt HBB.out
          go_upto_region 19 with fail
          have HPK := hide (fun (u : World) (hB : Below W6.heap.size W6 u) => (show u.cell? ⟨BB, 0, none⟩ = some (.int .i64 q3) ∧ u.cell? ⟨BB, 1, none⟩ = some (.slice g3 (List.length m3) c3) from ⟨(hB.cell (p := ⟨BB, 0, none⟩) (blk_lt HBB.out)).trans (blk_cell HBB.out 0), (hB.cell (p := ⟨BB, 1, none⟩) (blk_lt HBB.out)).trans (blk_cell HBB.out 1)⟩))
          go_cut [24, 25] from 94 to 102 (fun v1 v2 wx => Got (res q3 m3 jn 131072) (rerr q3 m3 jn.length 131072) W6 wx v1 v2)
          case first =>
            go_region_held3 (fun u => u.cell? ⟨BB, 0, none⟩ = some (.int .i64 q3) ∧ u.cell? ⟨BB, 1, none⟩ = some (.slice g3 (List.length m3) c3)) (first | (with_reducible exact HPK.out _ hB3) | (refine HPK.out _ ?_ <;> ((repeat with_reducible first | exact hB3 | exact Below.refl _ _ | refine Below.drew ?_ | refine Below.alloc ?_ ?_ _) <;> (first | exact hB3.size | exact Nat.le_refl _ | simp))) | exact HPK.out _ (hB3.trans (fill5_below (Nat.le_refl _) hB3.size _ _ _ _ _))) (first
              | (go_at_call 19; refine (HFEW.out _).mono ?_; rintro e w' ⟨rfl, hw'⟩; subst w')
              | (go_at_call 22; refine (run_at2 q3 g3 c3 m3 ia ic jn 131072 W6 HNk.out HJk.out hjc hjl).mono ?_; rintro e w3 ⟨ao3, co3, ac3, cc3, rfl, hI3, hC3, hco3, hB3, hk3, hQ3⟩; have z0 : w3.cell? ⟨W6.heap.size, 0, none⟩ = some (.slice none 0 0) := blk_cell hk3 0; have f0 := blk_frozen hk3 0; have z1 : w3.cell? ⟨W6.heap.size, 1, none⟩ = some (.int .i64 0) := blk_cell hk3 1; have f1 := blk_frozen hk3 1; have z2 : w3.cell? ⟨W6.heap.size, 2, none⟩ = some (.bool false) := blk_cell hk3 2; have f2 := blk_frozen hk3 2; have z3 : w3.cell? ⟨W6.heap.size, 3, none⟩ = some (.int .i64 0) := blk_cell hk3 3; have f3 := blk_frozen hk3 3; have z4 : w3.cell? ⟨W6.heap.size, 4, none⟩ = some (.slice none 0 0) := blk_cell hk3 4; have f4 := blk_frozen hk3 4; have HX3 := hide (And.intro hI3 (And.intro hC3 (And.intro hco3 (And.intro hk3 hQ3)))); have hlt3 := blk_lt hk3; clear hI3 hC3 hco3 hk3 hQ3)
              | (go_at_call 22; refine (run_at1 q3 g3 c3 m3 ia ic jn 131072 W6 HNk.out HJk.out hjc hjl).mono ?_; rintro e w3 ⟨ao3, co3, ac3, cc3, rfl, hI3, hC3, hco3, hB3⟩; have HX3 := hide (And.intro hI3 (And.intro hC3 hco3)); clear hI3 hC3 hco3))
            all_goals (go_wp2; go_meet)
            all_goals first
              | exact ⟨⟨_, ao3, co3, ac3, cc3, rfl, fill5_blk HX3.out.2.2.2.1 _ _ _ _ _, (HX3.out.2.2.2.2 _ _ _ _ _).1, (HX3.out.2.2.2.2 _ _ _ _ _).2, HX3.out.2.2.1⟩, rfl, hB3.trans (fill5_below (Nat.le_refl _) hB3.size _ _ _ _ _)⟩
              | exact ⟨⟨_, ao3, co3, ac3, cc3, rfl, blk_new rfl, HX3.out.1.below ((Below.refl _ w3).alloc (Nat.le_refl _) _), HX3.out.2.1.below ((Below.refl _ w3).alloc (Nat.le_refl _) _), HX3.out.2.2⟩, rfl, hB3.alloc hB3.size _⟩
          case rest =>
            obtain ⟨⟨rb, aob, cob, acb, ccb, rfl, hkb, hIb, hCb, hcob⟩, rfl, hBc⟩ := hcut
            rw [HE3.out]
            generalize res q3 m3 jn 131072 = τ at *
            have hten := HFF.out.1
            have hcmp := HFF.out.2
            rw [hten] at hkb
            have HRb := hide hkb
            have HCb := hide hCb
            have HRa2 := hide ((hBc.block _ (blk_lt HRa.out)).trans HRa.out)
            have HT2 := hide ((hBc.block _ (blk_lt HT.out)).trans HT.out)
            have HCa2 := hide (HCa.out.below hBc)
            have HBc := hide hBc
            have hl2 := HLN3.out.2
            clear hkb hIb hCb hcob hBc HNk HJk HPK hten HFF HLN3
            generalize hW : wc = V at *
            clear hW
            have HS2 : Hid (∀ u : World, Below V.heap.size V u → u.cell? ⟨rb, 0, none⟩ = some (.slice aob τ.out.length cob) ∧ u.cell? ⟨rb, 1, none⟩ = some (.int .i64 τ.ret) ∧ u.cell? ⟨rb, 2, none⟩ = some (.bool true) ∧ u.cell? ⟨rb, 3, none⟩ = some (.int .i64 τ.steps) ∧ u.cell? ⟨rb, 4, none⟩ = some (.slice acb τ.cts.length ccb) ∧ u.cell? ⟨ra, 0, none⟩ = some (.slice aoa σ.out.length coa) ∧ u.cell? ⟨ra, 1, none⟩ = some (.int .i64 σ.ret) ∧ u.cell? ⟨ra, 2, none⟩ = some (.bool true) ∧ u.cell? ⟨ra, 3, none⟩ = some (.int .i64 σ.steps) ∧ u.cell? ⟨ra, 4, none⟩ = some (.slice aca σ.cts.length cca) ∧ u.cell? ⟨w.heap.size + 1, 0, none⟩ = some (.int .i64 t.op) ∧ u.cell? ⟨w.heap.size + 1, 1, none⟩ = some (.int .i64 t.a) ∧ u.cell? ⟨w.heap.size + 1, 2, none⟩ = some (.int .i64 t.b)) := fun u h => by
              have k0 := (h.block _ (blk_lt HRb.out)).trans HRb.out
              have k1 := (h.block _ (blk_lt HRa2.out)).trans HRa2.out
              have k2 := (h.block _ (blk_lt HT2.out)).trans HT2.out
              refine ⟨?_, ?_, ?_, ?_, ?_, ?_, ?_, ?_, ?_, ?_, ?_, ?_, ?_⟩
              all_goals first | (rw [blk_cell k0]; rfl) | (rw [blk_cell k1]; rfl) | (rw [blk_cell k2]; rfl)
            have ll1 := blk_lt HRb.out
            have ll2 := blk_lt HRa2.out
            have ll3 := blk_lt HT2.out
            have HTb := hide (fun (u : World) (hB : Below V.heap.size V u) => times_any (.slice aob τ.out.length cob) (.int .i64 τ.ret) (.bool true) (.int .i64 τ.steps) acb ccb τ.cts t u (HCb.out.below hB) (by omega))
            have HTa := hide (fun (u : World) (hB : Below V.heap.size V u) => times_any (.slice aoa σ.out.length coa) (.int .i64 σ.ret) (.bool true) (.int .i64 σ.steps) aca cca σ.cts t u (HCa2.out.below hB) (by omega))
            generalize tmo τ.cts t = TB at HTb hcmp
            generalize tmo σ.cts t = TA at HTa hcmp
            have hne : (TB != TA) = false := by simp [hcmp]
            go_upto_region 20 with fail
            go_cut [118] from 94 to 118 (fun v wx => v = .bool false ∧ Below V.heap.size V wx)
            case first =>
              go_region_held3 (fun u => u.cell? ⟨rb, 0, none⟩ = some (.slice aob τ.out.length cob) ∧ u.cell? ⟨rb, 1, none⟩ = some (.int .i64 τ.ret) ∧ u.cell? ⟨rb, 2, none⟩ = some (.bool true) ∧ u.cell? ⟨rb, 3, none⟩ = some (.int .i64 τ.steps) ∧ u.cell? ⟨rb, 4, none⟩ = some (.slice acb τ.cts.length ccb) ∧ u.cell? ⟨ra, 0, none⟩ = some (.slice aoa σ.out.length coa) ∧ u.cell? ⟨ra, 1, none⟩ = some (.int .i64 σ.ret) ∧ u.cell? ⟨ra, 2, none⟩ = some (.bool true) ∧ u.cell? ⟨ra, 3, none⟩ = some (.int .i64 σ.steps) ∧ u.cell? ⟨ra, 4, none⟩ = some (.slice aca σ.cts.length cca) ∧ u.cell? ⟨w.heap.size + 1, 0, none⟩ = some (.int .i64 t.op) ∧ u.cell? ⟨w.heap.size + 1, 1, none⟩ = some (.int .i64 t.a) ∧ u.cell? ⟨w.heap.size + 1, 2, none⟩ = some (.int .i64 t.b)) (first
                | (with_reducible refine HS2.out _ ?_; first | with_reducible exact hB7 | with_reducible exact hB6 | with_reducible exact (Below.refl _ V).drew | with_reducible exact (Below.refl _ V))) (first
                | (go_at_call_of 23 (Value.agg #[.slice aob τ.out.length cob, .int .i64 τ.ret, .bool true, .int .i64 τ.steps, .slice acb τ.cts.length ccb]); refine (HTb.out _ (by first | exact (Below.refl _ V).drew | exact Below.refl _ V)).mono ?_; rintro e w6 ⟨rfl, hb6⟩; have hB6 : Below V.heap.size V w6 := (by first | exact (Below.refl _ V).drew.trans hb6 | exact hb6))
                | (go_at_call_of 23 (Value.agg #[.slice aoa σ.out.length coa, .int .i64 σ.ret, .bool true, .int .i64 σ.steps, .slice aca σ.cts.length cca]); refine (HTa.out _ hB6).mono ?_; rintro e w7 ⟨rfl, hb7⟩; have hB7 : Below V.heap.size V w7 := hB6.trans (hb7.mono hB6.size)))
              all_goals (go_wp2; go_meet)
              all_goals exact ⟨by first | rfl | (simp; omega) | simp [hcmp], hB7⟩
            case rest =>
              obtain ⟨rfl, hBd⟩ := hcut
              have HBd := hide (HBc.out.trans (hBd.mono HBc.out.size))
              clear hBd
              go_wp2_with fail
              go_meet
              exact HBd.out
        · have hc0 : (e3 == 0) = false := by simp [he0]
          clear he0
          go_wp2_with fail
          go_meet
          exact Below.refl _ _
      case rest =>
        have hBc := hcut
        replace HB := hide (HB.out.trans (hBc.mono HB.out.size))
        replace HT := hide ((hBc.block _ (blk_lt HT.out)).trans HT.out)
        replace HSB := hide ((hBc.block _ (blk_lt HSB.out)).trans HSB.out)
        replace HRa := hide ((hBc.block _ (blk_lt HRa.out)).trans HRa.out)
        replace HS := hide (HS.out.below hBc HS.out.lt)
        replace HCa := hide (HCa.out.below hBc)
        clear hBc hcut HBB HM HD3 HLB
        generalize hW : wc = W7 at *
        clear hW
        have HUk := hide (HU.out.below HB.out)
        clear HU
        go_wp2_with fail
        go_loopw [2] (fun v wr => ∃ (pa : Option Addr) (pc : Nat) (ps : List Bool), v = .slice pa ps.length pc ∧ BoolsAt wr pa ps ∧ ps.length ≤ pc ∧ ps.length ≤ 9223372036854775807 ∧ Below W7.heap.size W7 wr) (fun v _ => ss.length - slLen v)
        case atStart => exact ⟨ba, bc, put, rfl, HUk.out, hpc, hpl, Below.refl _ _⟩
        case round =>
          obtain ⟨pa, pc, ps, rfl, hP, hpc2, hpl2, hb⟩ := hrel
          have HSr := hide ((hb.block _ (blk_lt HSB.out)).trans HSB.out)
          have s1 := blk_cell HSr.out 1
          simp at s1
          have sl := blk_lt HSr.out
          have HBr := hide hb
          clear hb
          by_cases hlt : ps.length < ss.length
          · have hlti : (ps.length : Int) < (ss.length : Int) := by omega
            obtain ⟨v1, w1, hr1, hV1, hb1⟩ := run_app1 wr 27 pa pc ps hP (by omega)
            obtain ⟨g, c, w2, hr2, hP2, hc2, hb2⟩ := run_app2 w1 27 v1 ps ((ps.length : Int) % 3 == 0) hV1 hb1.size (by omega)
            have hlen : (ps ++ [(ps.length : Int) % 3 == 0]).length = ps.length + 1 := by simp
            have HP2 := hide hP2
            have HC2 := hide hc2
            have HLN := hide hlen
            have HB2 := hide (HBr.out.trans ((hb1.trans hb2).mono HBr.out.size))
            have hmeas : ss.length - (ps.length + 1) < ss.length - ps.length := by omega
            clear hV1 hb1 hP hP2 hc2 hb2 hlen
            go_wp2_with (first | (at_builtin; refine wpList_append_run rfl (.tmp 125) (.tmp 126) 27 rfl rfl rfl hr1 ?_) | (at_builtin; refine wpList_append_run rfl (.tmp 127) (.tmp 132) 27 rfl rfl rfl hr2 ?_))
            go_roundw
            case rel => exact ⟨some ⟨g, 0, none⟩, c, ps ++ [(ps.length : Int) % 3 == 0], by rw [HLN.out], HP2.out, HC2.out, by have := HLN.out; omega, HB2.out⟩
            case measure =>
              have := HLN.out
              simp only [slLen]
              omega
          · have hlti : ¬ (ps.length : Int) < (ss.length : Int) := by omega
            obtain ⟨pb, po, rfl, pbl, hpx⟩ := hP.at (k := 0) (by omega)
            have hTl : (ps.take ss.length).length = ss.length := by simp; omega
            have hTB : BoolsAt wr (some ⟨pb, po, none⟩) (ps.take ss.length) := Or.inr ⟨pb, po, rfl, pbl, fun k z hz => hpx k z (by rw [List.getElem?_take] at hz; split at hz <;> simp_all)⟩
            have hBc := HBr.out
            replace HB := hide (HB.out.trans (hBc.mono HB.out.size))
            replace HT := hide ((hBc.block _ (blk_lt HT.out)).trans HT.out)
            replace HRa := hide ((hBc.block _ (blk_lt HRa.out)).trans HRa.out)
            replace HS := hide (HS.out.below hBc HS.out.lt)
            replace HCa := hide (HCa.out.below hBc)
            replace HSB := HSr
            have HTB := hide hTB
            have HTL := hide hTl
            have hcap : (ss.length : Int) ≤ (pc : Int) := by omega
            go_upto_region 24 with fail
            clear hBc hTB hTl hpx hP s1 sl HBr HSr HUk
            generalize ps.take ss.length = pt at HTB HTL
            have HS2 : Hid (∀ u : World, Below wr.heap.size wr u → u.cell? ⟨SB, 0, none⟩ = some (.int .i64 r) ∧ u.cell? ⟨SB, 1, none⟩ = some (.slice (some ⟨sb, sq, none⟩) ss.length sc) ∧ u.cell? ⟨w.heap.size + 1, 0, none⟩ = some (.int .i64 t.op) ∧ u.cell? ⟨w.heap.size + 1, 1, none⟩ = some (.int .i64 t.a) ∧ u.cell? ⟨w.heap.size + 1, 2, none⟩ = some (.int .i64 t.b)) := fun u h => by
              have k0 := (h.block _ (blk_lt HSB.out)).trans HSB.out
              have k1 := (h.block _ (blk_lt HT.out)).trans HT.out
              refine ⟨?_, ?_, ?_, ?_, ?_⟩
              all_goals first | (rw [blk_cell k0]; rfl) | (rw [blk_cell k1]; rfl)
            have l1 := blk_lt HSB.out
            have l2 := blk_lt HT.out
            go_cut [26, 27] from 134 to 144 (fun v1 v2 wx => ∃ (LB : Nat) (a3 a4 : Option Addr) (d3 d4 : Nat), v1 = .pointer (some ⟨LB, 0, none⟩) ∧ v2 = .int .i64 0 ∧ wx.heap[LB]? = some (.cells #[.slice a3 ss.length d3, .slice a4 ss.length d4] 29 (0, 0)) ∧ BoolsAt wx a3 (rivPut ss t pt) ∧ BoolsAt wx a4 (rivTake ss t pt) ∧ Below wr.heap.size wr wx)
            case first =>
              go_region_held3 (fun u => u.cell? ⟨SB, 0, none⟩ = some (.int .i64 r) ∧ u.cell? ⟨SB, 1, none⟩ = some (.slice (some ⟨sb, sq, none⟩) ss.length sc) ∧ u.cell? ⟨w.heap.size + 1, 0, none⟩ = some (.int .i64 t.op) ∧ u.cell? ⟨w.heap.size + 1, 1, none⟩ = some (.int .i64 t.a) ∧ u.cell? ⟨w.heap.size + 1, 2, none⟩ = some (.int .i64 t.b)) (first
                | (with_reducible refine HS2.out _ ?_; first | with_reducible exact hB7 | with_reducible exact hB7.alloc hB7.size _ | with_reducible exact (Below.refl _ wr).drew | with_reducible exact (Below.refl _ wr) | with_reducible exact ((Below.refl _ wr).alloc (Nat.le_refl _) _).drew | with_reducible exact (Below.refl _ wr).drew.alloc (by simp) _ | with_reducible exact (Below.refl _ wr).alloc (Nat.le_refl _) _)
                | (with_reducible refine HS2.out _ ?_; exact below_set2 hB7 (Nat.le_refl _))) (first
                | (go_at_call 21; refine (rival_at2M r sb sq sc ss t (some ⟨pb, po, none⟩) pc pt wr HS.out HTC.out HTB.out HTL.out).mono ?_; rintro e w7 ⟨a3, d3, a4, d4, rfl, hk7, hQ7, hB7⟩; have z0 := blk_cell hk7 0; have z1 := blk_cell hk7 1; simp at z0 z1; have f0 := blk_frozen hk7 0; have f1 := blk_frozen hk7 1; have zl := blk_lt hk7; have HX := hide (And.intro hk7 hQ7); clear hk7 hQ7)
                | (go_at_call 21; refine (rival_at1M r sb sq sc ss t (some ⟨pb, po, none⟩) pc pt wr HS.out HTC.out HTB.out HTL.out).mono ?_; rintro e w7 ⟨a3, d3, a4, d4, rfl, hx1, hx2, hB7⟩; have HX := hide (And.intro hx1 hx2); clear hx1 hx2))
              all_goals (go_wp2; go_meet)
              all_goals first
                | exact ⟨wr.heap.size, a3, a4, d3, d4, rfl, rfl, blk_set2 HX.out.1, (HX.out.2 _ _).1, (HX.out.2 _ _).2, below_set2 hB7 (Nat.le_refl _)⟩
                | exact ⟨w7.heap.size, a3, a4, d3, d4, rfl, rfl, blk_new rfl, HX.out.1.below ((Below.refl _ w7).alloc (Nat.le_refl _) _), HX.out.2.below ((Below.refl _ w7).alloc (Nat.le_refl _) _), hB7.alloc hB7.size _⟩
            case rest =>
              obtain ⟨LB, a3, a4, d3, d4, rfl, rfl, hL, hX1, hX2, hBc⟩ := hcut
              replace HB := hide (HB.out.trans (hBc.mono HB.out.size))
              replace HT := hide ((hBc.block _ (blk_lt HT.out)).trans HT.out)
              replace HRa := hide ((hBc.block _ (blk_lt HRa.out)).trans HRa.out)
              replace HSB := hide ((hBc.block _ (blk_lt HSB.out)).trans HSB.out)
              replace HS := hide (HS.out.below hBc HS.out.lt)
              replace HCa := hide (HCa.out.below hBc)
              have HL1 := hide hL
              have HX1 := hide hX1
              have HX2 := hide hX2
              clear hL hX1 hX2 hBc HS2 l1 l2 HTB
              generalize hW : wc = W8 at *
              clear hW
              go_upto_region 25 with fail
              have s0 := blk_cell HSB.out 0
              have s1 := blk_cell HSB.out 1
              simp at s0 s1
              have sl := blk_lt HSB.out
              have t0 := blk_cell HT.out 0
              have t1 := blk_cell HT.out 1
              have t2 := blk_cell HT.out 2
              simp at t0 t1 t2
              have tl := blk_lt HT.out
              have l0 := blk_cell HL1.out 0
              have l1 := blk_cell HL1.out 1
              simp at l0 l1
              have ll := blk_lt HL1.out
              go_wp2_with fail
              refine (applyL_any r sb sq sc ss t a3 a4 d3 d4 (rivPut ss t pt) (rivTake ss t pt) _ HS.out HTC.out (by simp [rivPut]) (by simp [rivTake]) HX1.out HX2.out (safe_takeOk (rival_safe (tchk_chk HTC.out) t pt))).mono ?_
              rintro e w10 ⟨g4, q4, m4, c4, e4, rfl, hS4, hD4, hb10⟩
              have hx : Below w10.heap.size w10 (w10.alloc (.cells #[.int .i64 q4, .slice g4 (List.length m4) c4] 24)) := (Below.refl _ w10).alloc (Nat.le_refl _) _
              have hq : (w10.alloc (.cells #[.int .i64 q4, .slice g4 (List.length m4) c4] 24)).heap[w10.heap.size]? = some (.cells #[.int .i64 q4, .slice g4 (List.length m4) c4] 24 (0, 0)) := World.alloc_heap_new w10 _
              have hb' := hb10.trans (hx.mono hb10.size)
              replace HB := hide (HB.out.trans (hb'.mono HB.out.size))
              replace HT := hide ((hb'.block _ (blk_lt HT.out)).trans HT.out)
              replace HRa := hide ((hb'.block _ (blk_lt HRa.out)).trans HRa.out)
              replace HCa := hide (HCa.out.below hb')
              have HM := hide (hS4.below hx)
              have HD4 := hide (hD4)
              clear hb10 hb' hx hS4 hD4 HX1 HX2 HL1 HS HSB s0 s1 sl t0 t1 t2 tl l0 l1 ll
              go_upto_region 28 with fail
              generalize (w10.alloc (.cells #[.int .i64 q4, .slice g4 (List.length m4) c4] 24)) = W9 at HB HT HRa HCa HM hq ⊢
              generalize w10.heap.size = CC at hq ⊢
              have HCC := hide hq
              clear hq
              go_upto_if 155 with fail
              go_cut [30, 31] from 154 to 178 (fun _ _ wx => Below W9.heap.size W9 wx)
              case first =>
                by_cases he0 : e4 = 0
                · have hc0 : (e4 == 0) = true := by simp [he0]
                  obtain ⟨d1, d2, d3⟩ := HD4.out he0
                  have hf := HLR.out pt
                  rw [← d2, ← d1] at hf
                  have HFF := hide (hf d3)
                  have HE3 := hide (rerr_ok (r := q4) (ns := m4) (il := jn.length) (n := 131072) d3 hj256 (by decide) (by decide))
                  have HLN3 := hide (res_len q4 m4 jn 131072)
                  clear he0 d1 d2 d3 hf
                  have HNk := hide HM.out
                  have HJk := hide (HJ.out.below HB.out)
                  have bl := blk_lt HCC.out
                  go_upto_region 29 with fail
                  have HPK := hide (fun (u : World) (hB : Below W9.heap.size W9 u) => (show u.cell? ⟨CC, 0, none⟩ = some (.int .i64 q4) ∧ u.cell? ⟨CC, 1, none⟩ = some (.slice g4 (List.length m4) c4) from ⟨(hB.cell (p := ⟨CC, 0, none⟩) (blk_lt HCC.out)).trans (blk_cell HCC.out 0), (hB.cell (p := ⟨CC, 1, none⟩) (blk_lt HCC.out)).trans (blk_cell HCC.out 1)⟩))
                  go_cut [30, 31] from 154 to 162 (fun v1 v2 wx => Got (res q4 m4 jn 131072) (rerr q4 m4 jn.length 131072) W9 wx v1 v2)
                  case first =>
                    go_region_held3 (fun u => u.cell? ⟨CC, 0, none⟩ = some (.int .i64 q4) ∧ u.cell? ⟨CC, 1, none⟩ = some (.slice g4 (List.length m4) c4)) (first | (with_reducible exact HPK.out _ hB3) | (refine HPK.out _ ?_ <;> ((repeat with_reducible first | exact hB3 | exact Below.refl _ _ | refine Below.drew ?_ | refine Below.alloc ?_ ?_ _) <;> (first | exact hB3.size | exact Nat.le_refl _ | simp))) | exact HPK.out _ (hB3.trans (fill5_below (Nat.le_refl _) hB3.size _ _ _ _ _))) (first
                      | (go_at_call 19; refine (HFEW.out _).mono ?_; rintro e w' ⟨rfl, hw'⟩; subst w')
                      | (go_at_call 22; refine (run_at2 q4 g4 c4 m4 ia ic jn 131072 W9 HNk.out HJk.out hjc hjl).mono ?_; rintro e w3 ⟨ao3, co3, ac3, cc3, rfl, hI3, hC3, hco3, hB3, hk3, hQ3⟩; have z0 : w3.cell? ⟨W9.heap.size, 0, none⟩ = some (.slice none 0 0) := blk_cell hk3 0; have f0 := blk_frozen hk3 0; have z1 : w3.cell? ⟨W9.heap.size, 1, none⟩ = some (.int .i64 0) := blk_cell hk3 1; have f1 := blk_frozen hk3 1; have z2 : w3.cell? ⟨W9.heap.size, 2, none⟩ = some (.bool false) := blk_cell hk3 2; have f2 := blk_frozen hk3 2; have z3 : w3.cell? ⟨W9.heap.size, 3, none⟩ = some (.int .i64 0) := blk_cell hk3 3; have f3 := blk_frozen hk3 3; have z4 : w3.cell? ⟨W9.heap.size, 4, none⟩ = some (.slice none 0 0) := blk_cell hk3 4; have f4 := blk_frozen hk3 4; have HX3 := hide (And.intro hI3 (And.intro hC3 (And.intro hco3 (And.intro hk3 hQ3)))); have hlt3 := blk_lt hk3; clear hI3 hC3 hco3 hk3 hQ3)
                      | (go_at_call 22; refine (run_at1 q4 g4 c4 m4 ia ic jn 131072 W9 HNk.out HJk.out hjc hjl).mono ?_; rintro e w3 ⟨ao3, co3, ac3, cc3, rfl, hI3, hC3, hco3, hB3⟩; have HX3 := hide (And.intro hI3 (And.intro hC3 hco3)); clear hI3 hC3 hco3))
                    all_goals (go_wp2; go_meet)
                    all_goals first
                      | exact ⟨⟨_, ao3, co3, ac3, cc3, rfl, fill5_blk HX3.out.2.2.2.1 _ _ _ _ _, (HX3.out.2.2.2.2 _ _ _ _ _).1, (HX3.out.2.2.2.2 _ _ _ _ _).2, HX3.out.2.2.1⟩, rfl, hB3.trans (fill5_below (Nat.le_refl _) hB3.size _ _ _ _ _)⟩
                      | exact ⟨⟨_, ao3, co3, ac3, cc3, rfl, blk_new rfl, HX3.out.1.below ((Below.refl _ w3).alloc (Nat.le_refl _) _), HX3.out.2.1.below ((Below.refl _ w3).alloc (Nat.le_refl _) _), HX3.out.2.2⟩, rfl, hB3.alloc hB3.size _⟩
                  case rest =>
                    obtain ⟨⟨rb, aob, cob, acb, ccb, rfl, hkb, hIb, hCb, hcob⟩, rfl, hBc⟩ := hcut
                    rw [HE3.out]
                    generalize res q4 m4 jn 131072 = τ at *
                    have hten := HFF.out.1
                    have hcmp := HFF.out.2
                    rw [hten] at hkb
                    have HRb := hide hkb
                    have HCb := hide hCb
                    have HRa2 := hide ((hBc.block _ (blk_lt HRa.out)).trans HRa.out)
                    have HT2 := hide ((hBc.block _ (blk_lt HT.out)).trans HT.out)
                    have HCa2 := hide (HCa.out.below hBc)
                    have HBc := hide hBc
                    have hl2 := HLN3.out.2
                    clear hkb hIb hCb hcob hBc HNk HJk HPK hten HFF HLN3
                    generalize hW : wc = V at *
                    clear hW
                    have HS2 : Hid (∀ u : World, Below V.heap.size V u → u.cell? ⟨rb, 0, none⟩ = some (.slice aob τ.out.length cob) ∧ u.cell? ⟨rb, 1, none⟩ = some (.int .i64 τ.ret) ∧ u.cell? ⟨rb, 2, none⟩ = some (.bool true) ∧ u.cell? ⟨rb, 3, none⟩ = some (.int .i64 τ.steps) ∧ u.cell? ⟨rb, 4, none⟩ = some (.slice acb τ.cts.length ccb) ∧ u.cell? ⟨ra, 0, none⟩ = some (.slice aoa σ.out.length coa) ∧ u.cell? ⟨ra, 1, none⟩ = some (.int .i64 σ.ret) ∧ u.cell? ⟨ra, 2, none⟩ = some (.bool true) ∧ u.cell? ⟨ra, 3, none⟩ = some (.int .i64 σ.steps) ∧ u.cell? ⟨ra, 4, none⟩ = some (.slice aca σ.cts.length cca) ∧ u.cell? ⟨w.heap.size + 1, 0, none⟩ = some (.int .i64 t.op) ∧ u.cell? ⟨w.heap.size + 1, 1, none⟩ = some (.int .i64 t.a) ∧ u.cell? ⟨w.heap.size + 1, 2, none⟩ = some (.int .i64 t.b)) := fun u h => by
                      have k0 := (h.block _ (blk_lt HRb.out)).trans HRb.out
                      have k1 := (h.block _ (blk_lt HRa2.out)).trans HRa2.out
                      have k2 := (h.block _ (blk_lt HT2.out)).trans HT2.out
                      refine ⟨?_, ?_, ?_, ?_, ?_, ?_, ?_, ?_, ?_, ?_, ?_, ?_, ?_⟩
                      all_goals first | (rw [blk_cell k0]; rfl) | (rw [blk_cell k1]; rfl) | (rw [blk_cell k2]; rfl)
                    have ll1 := blk_lt HRb.out
                    have ll2 := blk_lt HRa2.out
                    have ll3 := blk_lt HT2.out
                    have HTb := hide (fun (u : World) (hB : Below V.heap.size V u) => times_any (.slice aob τ.out.length cob) (.int .i64 τ.ret) (.bool true) (.int .i64 τ.steps) acb ccb τ.cts t u (HCb.out.below hB) (by omega))
                    have HTa := hide (fun (u : World) (hB : Below V.heap.size V u) => times_any (.slice aoa σ.out.length coa) (.int .i64 σ.ret) (.bool true) (.int .i64 σ.steps) aca cca σ.cts t u (HCa2.out.below hB) (by omega))
                    generalize tmo τ.cts t = TB at HTb hcmp
                    generalize tmo σ.cts t = TA at HTa hcmp
                    have hnl : ¬ TB < TA := by omega
                    go_upto_region 30 with fail
                    go_cut [178] from 154 to 178 (fun v wx => v = .bool false ∧ Below V.heap.size V wx)
                    case first =>
                      go_region_held3 (fun u => u.cell? ⟨rb, 0, none⟩ = some (.slice aob τ.out.length cob) ∧ u.cell? ⟨rb, 1, none⟩ = some (.int .i64 τ.ret) ∧ u.cell? ⟨rb, 2, none⟩ = some (.bool true) ∧ u.cell? ⟨rb, 3, none⟩ = some (.int .i64 τ.steps) ∧ u.cell? ⟨rb, 4, none⟩ = some (.slice acb τ.cts.length ccb) ∧ u.cell? ⟨ra, 0, none⟩ = some (.slice aoa σ.out.length coa) ∧ u.cell? ⟨ra, 1, none⟩ = some (.int .i64 σ.ret) ∧ u.cell? ⟨ra, 2, none⟩ = some (.bool true) ∧ u.cell? ⟨ra, 3, none⟩ = some (.int .i64 σ.steps) ∧ u.cell? ⟨ra, 4, none⟩ = some (.slice aca σ.cts.length cca) ∧ u.cell? ⟨w.heap.size + 1, 0, none⟩ = some (.int .i64 t.op) ∧ u.cell? ⟨w.heap.size + 1, 1, none⟩ = some (.int .i64 t.a) ∧ u.cell? ⟨w.heap.size + 1, 2, none⟩ = some (.int .i64 t.b)) (first
                        | (with_reducible refine HS2.out _ ?_; first | with_reducible exact hB7 | with_reducible exact hB6 | with_reducible exact (Below.refl _ V).drew | with_reducible exact (Below.refl _ V))) (first
                        | (go_at_call_of 23 (Value.agg #[.slice aob τ.out.length cob, .int .i64 τ.ret, .bool true, .int .i64 τ.steps, .slice acb τ.cts.length ccb]); refine (HTb.out _ (by first | exact (Below.refl _ V).drew | exact Below.refl _ V)).mono ?_; rintro e w6 ⟨rfl, hb6⟩; have hB6 : Below V.heap.size V w6 := (by first | exact (Below.refl _ V).drew.trans hb6 | exact hb6))
                        | (go_at_call_of 23 (Value.agg #[.slice aoa σ.out.length coa, .int .i64 σ.ret, .bool true, .int .i64 σ.steps, .slice aca σ.cts.length cca]); refine (HTa.out _ hB6).mono ?_; rintro e w7 ⟨rfl, hb7⟩; have hB7 : Below V.heap.size V w7 := hB6.trans (hb7.mono hB6.size)))
                      all_goals (go_wp2; go_meet)
                      all_goals exact ⟨by first | rfl | (simp; omega) | simp [hcmp], hB7⟩
                    case rest =>
                      obtain ⟨rfl, hBd⟩ := hcut
                      have HBd := hide (HBc.out.trans (hBd.mono HBc.out.size))
                      clear hBd
                      go_wp2_with fail
                      go_meet
                      exact HBd.out
                · have hc0 : (e4 == 0) = false := by simp [he0]
                  clear he0
                  go_wp2_with fail
                  go_meet
                  exact Below.refl _ _
              case rest =>
                have hBc := hcut
                replace HB := hide (HB.out.trans (hBc.mono HB.out.size))
                clear hBc hcut HCC HM HD4 HT HRa HCa
                go_wp2_with fail
                refine (moveBegun_any _).mono ?_
                rintro e w9 ⟨rfl, hb9⟩
                go_wp2
                go_ret
                exact ⟨by first | rfl | simp, HB.out.trans (hb9.mono HB.out.size)⟩

end Go.Proofs.YtoikglgnmjjpcabGreat

namespace Go.Proofs.YtoikglgnmjjpcabGreat
open Go.ChangeShapes Go.WideShapes Go.ChangeAt Go.RowKit
set_option linter.unusedVariables false

theorem moveLeast_any (r : Int) (a : Option Addr) (cap : Nat) (ns : List Nd) (t : Tm) (ba : Option Addr) (bc : Nat) (put : List Bool) (ia : Option Addr) (ic : Nat) (inp : List Int) (fuel : Int) (w : World) (hN : SlN w a ns) (hP : BoolsAt w ba put) (hpc : put.length ≤ bc) (hpl : put.length ≤ 9223372036854775807) (hI : IntsAt w ia inp) (hic : inp.length ≤ ic) (hil : inp.length ≤ 9223372036854775807) (hf : -9223372036854775808 ≤ fuel ∧ fuel ≤ 9223372036854775807) :
    Calls Tryz.prog 6 #[.agg #[.int .i64 r, .slice a ns.length cap], .agg #[.int .i64 t.op, .int .i64 t.a, .int .i64 t.b], .slice ba put.length bc, .slice ia inp.length ic, .int .i64 fuel] w fun e w' => e = .returned (.bool true) ∧ Below w.heap.size w w' := by
  by_cases hc : chk r ns = 0
  · by_cases he : oneE r (trimN ns) t = 0
    · exact moveLeast_right r a cap ns t ba bc put ia ic inp fuel w hN hP hpc hpl hI hic hil hf hc he
    · exact moveLeast_err r a cap ns t ba bc put ia ic inp fuel w hN hP hpc hpl hI hic hil hf hc he
  · exact moveLeast_wrong r a cap ns t ba bc put ia ic inp fuel w hN hP hpc hpl hI hic hil hf hc

set_option maxRecDepth 100000 in
theorem moveLeast_lifted (os : Os) (started : os.Started) (H : Type) (enc : TypeId × Value → H) :
    ReturnsInHanded {} Tryz.checked os 6 .any (Rows.moveLeastSpec.pre6 enc Tryz.prog Tryz.f6 Rows.moveLeastRow.domain false) (Rows.moveLeastSpec.post enc Tryz.prog Tryz.f6 false true false false) := by
  refine returnsInHanded_of_change (C := Tryz.checked) own started (by kernel_rfl) Tryz.func6
    (ChangeSpec.witness6 (enc := enc) (C := Tryz.checked) false ⟨#[], #[.agg #[.int .i64 0, .slice none 0 0], .agg #[.int .i64 0, .int .i64 0, .int .i64 0], .slice none 0 0, .slice none 0 0, .int .i64 0], []⟩ 8 (by kernel_rfl) (by kernel_rfl) (by kernel_rfl) (by kernel_rfl)) ?_
  intro W base args ds gs before hval0 hW hcnd _
  have hval : ∀ (j : Nat) t v, Tryz.f6.params[j]? = some t → args[j]? = some v → Value.okWide Tryz.prog W .any base t v := hval0
  have hW' := hW
  obtain ⟨p, q, hA0, hV, rfl, hfz, hnd⟩ := hW
  have hA : DataW.TrodAll enc Tryz.prog W 0 (fun _ => true) true Tryz.f6.params.toList args.toList ds p := hA0
  rw [Tryz.params6] at hA hval
  obtain ⟨v0, vs0, d0, ds0, p0, q0, hargs, rfl, rfl, h0, r0⟩ := trodAll_cons hA
  obtain ⟨v1, vs1, d1, ds1, p1, q1, rfl, rfl, rfl, h1, r1⟩ := trodAll_cons r0
  obtain ⟨v2, vs2, d2, ds2, p2, q2, rfl, rfl, rfl, h2, r2⟩ := trodAll_cons r1
  obtain ⟨v3, vs3, d3, ds3, p3, q3, rfl, rfl, rfl, h3, r3⟩ := trodAll_cons r2
  obtain ⟨v4, vs4, d4, ds4, p4, q4, rfl, rfl, rfl, h4, r4⟩ := trodAll_cons r3
  obtain ⟨rfl, rfl, rfl⟩ := trodAll_nil r4
  obtain rfl : args = #[v0, v1, v2, v3, v4] := by cases args; simp_all
  obtain ⟨rfl, rfl⟩ := trodVars_none hV
  have k0 := h0
  have lt0 : ∀ x ∈ p0, x.block < W.heap.size := by obtain ⟨m, hm⟩ := k0; exact DataW.trod_lt m _ _ _ hm
  have k1 := h1
  have lt1 : ∀ x ∈ p1, x.block < W.heap.size := by obtain ⟨m, hm⟩ := k1; exact DataW.trod_lt m _ _ _ hm
  have k2 := h2
  have lt2 : ∀ x ∈ p2, x.block < W.heap.size := by obtain ⟨m, hm⟩ := k2; exact DataW.trod_lt m _ _ _ hm
  have k3 := h3
  have lt3 : ∀ x ∈ p3, x.block < W.heap.size := by obtain ⟨m, hm⟩ := k3; exact DataW.trod_lt m _ _ _ hm
  obtain ⟨r, a, cap, ns, rfl, hN, hl⟩ := open_prog (hval 0 24 v0 rfl rfl) h0
  obtain ⟨tm, rfl⟩ := open_term (hval 1 26 v1 rfl rfl) h1
  obtain ⟨ba, bc, put, rfl, hP, hpl, hpc⟩ := open_boolsM (hval 2 27 v2 rfl rfl) h2
  obtain ⟨ia, ic, inp, rfl, hI, hil, hic⟩ := open_ints_arg (hval 3 40 v3 rfl rfl) h3
  obtain ⟨n, rfl, rfl, rfl, w2⟩ := open_int Tryz.underlying3 (hval 4 3 v4 rfl rfl) h4
  clear hA0 hval0
  refine (moveLeast_any r a cap ns tm ba bc put ia ic inp n W hN hP hpc hpl hI hic hil (wf_range w2)).mono fun e W' ⟨he, bel⟩ => ?_
  subst he
  exact ⟨_, rfl, _, _, _, [], _, [], hW', trodAll_mk1 (shut_bool Tryz.underlying4 _), (trodAll_cons_mk (Below.trod laidOut (by kernel_rfl) (of_decide_eq_true (by kernel_rfl)) k0 bel lt0) (trodAll_cons_mk (Below.trod laidOut (by kernel_rfl) (of_decide_eq_true (by kernel_rfl)) k1 bel lt1) (trodAll_cons_mk (Below.trod laidOut (by kernel_rfl) (of_decide_eq_true (by kernel_rfl)) k2 bel lt2) (trodAll_cons_mk (Below.trod laidOut (by kernel_rfl) (of_decide_eq_true (by kernel_rfl)) k3 bel lt3) (trodAll_cons_mk (shut_int Tryz.underlying3 w2) trodAll_mk0))))), rfl, bel.frame _, fun h => by cases h⟩

theorem moveLeast_over : Rows.moveLeastRow.holds Tryz.pinned (OpenSpec.ofChange Rows.moveLeastSpec) :=
  OpenClaim.holds_of_wide 6 Tryz.f6 rfl rfl rfl rfl rfl rfl rfl ⟨rfl, rfl, rfl, rfl, rfl⟩ rfl rfl rfl rfl rfl (by kernel_rfl) Tryz.func6 (by kernel_rfl)
    (of_decide_eq_true (by kernel_rfl)) (by unfold Func.isWrapper; first | (rw [if_pos (by decide +kernel)]; kernel_rfl) | (rw [if_neg (by decide +kernel)]; exact ⟨rfl, rfl⟩))
    (fun os started H enc _ => moveLeast_lifted os started H enc)

theorem moveLeast_holds : Rows.MoveLeastSaid := moveLeast_over
#print axioms moveLeast_holds
end Go.Proofs.YtoikglgnmjjpcabGreat
