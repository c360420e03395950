/-
  hoistwayref.says, walked.
-/
import Derived.Test.YtoikglgnmjjpcaaMH
import Derived.BigQuiet
namespace Go.Proofs.Ytoikglgnmjjpcaa
open Go.RowKit Go.Shelf
set_option linter.unusedVariables false

theorem allOr_eq (e : Bool) (l : List Nat) (p : Nat → Bool) : ((decide (0 < l.length) || e) && l.all p) = allOr e l p := by
  cases l <;> simp [allOr]

/-- What the loop has so far. -/
def accN (e : Bool) (l : List Nat) (p : Nat → Bool) (k : Nat) : Bool := (decide (0 < l.length) || e) && (l.take k).all p
theorem accN_zero (e : Bool) (l : List Nat) (p : Nat → Bool) : accN e l p 0 = (decide (0 < l.length) || e) := by simp [accN]
theorem accN_succ {e : Bool} {l : List Nat} {p : Nat → Bool} {k m : Nat} (h : l[k]? = some m) : accN e l p (k + 1) = (accN e l p k && p m) := by
  simp only [accN]
  rw [all_take_succ p h, Bool.and_assoc]
theorem accN_all {e : Bool} {l : List Nat} {p : Nat → Bool} : accN e l p l.length = allOr e l p := by
  rw [accN, List.take_length, allOr_eq]

theorem ints_get {l : List Nat} {k m : Nat} (h : l[k]? = some m) : (ints l)[k]? = some (m : Int) := by simp [ints, h]

theorem nbs_lt {ns : List Nd} {f : Flw} {n m : Nat} (h : m ∈ nbs ns f n) : m < ns.length := by
  unfold nbs at h
  split at h
  · exact (mem_nxl.1 h).1
  · exact (mem_ahl.1 h).1
theorem nbs_len (ns : List Nd) (f : Flw) (n : Nat) : (nbs ns f n).length ≤ ns.length := by
  unfold nbs; split
  · exact nxl_len ns n
  · exact ahl_len ns n

set_option maxHeartbeats 8000000 in
set_option maxRecDepth 100000 in
theorem rsays_any (r : Int) (b off cap : Nat) (ns : List Nd) (f : Flw) (a1 a2 a3 a4 xa : Option Addr) (c1 c2 c3 c4 xc n : Nat) (x : List Bool) (w : World) (hN : NodesAt w b off ns) (hc : fchk r ns f = 0) (h1 : BoolsAt w a1 f.gen) (h2 : BoolsAt w a2 f.pass) (h3 : BoolsAt w a3 f.plus) (h4 : BoolsAt w a4 f.lets) (hx : BoolsAt w xa x) (hxl : x.length = ns.length) (hn : n < ns.length) :
    Calls Try.prog 81 #[.agg #[.int .i64 r, .slice (some ⟨b, off, none⟩) ns.length cap], .agg #[.bool f.back, .bool f.empty, .slice a1 f.gen.length c1, .slice a2 f.pass.length c2, .slice a3 f.plus.length c3, .slice a4 f.lets.length c4], .slice xa x.length xc, .int .i64 n] w fun e w' => e = .returned (.bool (sayF ns f (bat x) n)) ∧ Below w.heap.size w w' := by
  obtain ⟨nx, hnx⟩ := get_lt hn
  have hl := (chk_zero (fchk_zero hc).1).1
  obtain ⟨_, l1, l2, l3, l4⟩ := fchk_zero hc
  have hah := fun W (h : Below w.heap.size w W) => aheadOf_any r b off cap ns n W (hN.below h hN.lt) hl.2
  have hne := fun W (h : Below w.heap.size w W) => nextOf_any r b off cap ns n nx W (hN.below h hN.lt) hl.2 hnx
  rw [pick_nxl hnx] at hne
  have hbA : Below w.heap.size w ((w.alloc (.cells #[.int .i64 r, .slice (some ⟨b, off, none⟩) ns.length cap] 24)).alloc (.cells #[.bool f.back, .bool f.empty, .slice a1 f.gen.length c1, .slice a2 f.pass.length c2, .slice a3 f.plus.length c3, .slice a4 f.lets.length c4] 66)) := ((Below.refl _ w).alloc (Nat.le_refl _) _).alloc (by simp) _
  have hpA : ((w.alloc (.cells #[.int .i64 r, .slice (some ⟨b, off, none⟩) ns.length cap] 24)).alloc (.cells #[.bool f.back, .bool f.empty, .slice a1 f.gen.length c1, .slice a2 f.pass.length c2, .slice a3 f.plus.length c3, .slice a4 f.lets.length c4] 66)).heap[w.heap.size]? = some (.cells #[.int .i64 r, .slice (some ⟨b, off, none⟩) ns.length cap] 24 (0, 0)) := (Below.heap_alloc _ _ _ (by simp)).trans (World.alloc_heap_new w _)
  have hfA : ((w.alloc (.cells #[.int .i64 r, .slice (some ⟨b, off, none⟩) ns.length cap] 24)).alloc (.cells #[.bool f.back, .bool f.empty, .slice a1 f.gen.length c1, .slice a2 f.pass.length c2, .slice a3 f.plus.length c3, .slice a4 f.lets.length c4] 66)).heap[w.heap.size + 1]? = some (.cells #[.bool f.back, .bool f.empty, .slice a1 f.gen.length c1, .slice a2 f.pass.length c2, .slice a3 f.plus.length c3, .slice a4 f.lets.length c4] 66 (0, 0)) := by
    have := World.alloc_heap_new (w.alloc (.cells #[.int .i64 r, .slice (some ⟨b, off, none⟩) ns.length cap] 24)) (.cells #[.bool f.back, .bool f.empty, .slice a1 f.gen.length c1, .slice a2 f.pass.length c2, .slice a3 f.plus.length c3, .slice a4 f.lets.length c4] 66)
    rwa [World.size_alloc] at this
  have HAH := hide hah
  have HNE := hide hne
  have HBO := hide (And.intro h1 (And.intro h2 (And.intro h3 (And.intro h4 hx))))
  have HL := hide (And.intro l1 (And.intro l2 (And.intro l3 (And.intro l4 hxl))))
  clear hah hne h1 h2 h3 h4 hx l1 l2 l3 l4 hxl hc hnx hN
  go_enter Try.func81, Try.ntmps81
  go_upto_region 1 with fail
  generalize ((w.alloc (.cells #[.int .i64 r, .slice (some ⟨b, off, none⟩) ns.length cap] 24)).alloc (.cells #[.bool f.back, .bool f.empty, .slice a1 f.gen.length c1, .slice a2 f.pass.length c2, .slice a3 f.plus.length c3, .slice a4 f.lets.length c4] 66)) = W at hbA hpA hfA ⊢
  have p0 := blk_cell hpA 0
  have p1 := blk_cell hpA 1
  simp at p0 p1
  have pl := blk_lt hpA
  have fl := blk_lt hfA
  have HW := hide hbA
  have HP := hide hpA
  have HF := hide hfA
  clear hbA hpA hfA
  go_upto_region 2 with (go_at_call 17; refine (HAH.out _ HW.out).mono ?_; rintro e w1 ⟨v1, rfl, hv1, hb1⟩)
  have hp1 := (hb1.block _ pl).trans HP.out
  have hf1 := (hb1.block _ fl).trans HF.out
  have HW1 := hide (HW.out.trans (hb1.mono HW.out.size))
  have hv1' : w1.ownsRow W.heap.size 3 1 v1 (ints (ahl ns n)).length ((ints (ahl ns n)).map (Value.int .i64)) := hv1
  clear hv1 hb1 p0 p1 pl fl HW HP HF HAH
  have p0 := blk_cell hp1 0
  have p1 := blk_cell hp1 1
  have y0 := blk_cell hf1 0
  simp at p0 p1 y0
  have pl := blk_lt hp1
  have fl := blk_lt hf1
  have HP := hide hp1
  have HF := hide hf1
  have HV := hide hv1'
  clear hp1 hf1 hv1'
  obtain ⟨B, hB⟩ : ∃ B, f.back = B := ⟨_, rfl⟩
  rw [hB] at y0
  have HK := hide hB
  clear hB
  go_upto_if 16 with fail
  go_cut [9] from 17 to 19 (fun v wx => ∃ la lc, v = .slice la (nbs ns f n).length lc ∧ IntsAt wx la (ints (nbs ns f n)) ∧ Below w1.heap.size w1 wx)
  case first =>
    cases B
    · go_wp2_with fail
      go_meet
      obtain ⟨la, lc, rfl, hI⟩ := ints_of_owns HV.out
      rw [ints_len]
      have e : nbs ns f n = ahl ns n := by simp [nbs, HK.out]
      rw [e]
      exact ⟨la, lc, rfl, hI, Below.refl _ _⟩
    · go_wp2_with fail
      refine (HNE.out _ HW1.out).mono ?_
      rintro e w2 ⟨v2, rfl, hv2, hb2⟩
      go_wp2_with fail
      go_meet
      obtain ⟨la, lc, rfl, hI⟩ := ints_of_owns hv2
      rw [ints_len]
      have e : nbs ns f n = nxl ns n := by simp [nbs, HK.out]
      rw [e]
      exact ⟨la, lc, rfl, hI, hb2⟩
  case rest =>
    obtain ⟨la, lc, rfl, hI, hb2⟩ := hcut
    have hf2 := (hb2.block _ fl).trans HF.out
    have HW2 := hide (HW1.out.trans (hb2.mono HW1.out.size))
    clear p0 p1 y0 pl fl HP HF HV HW1 HNE hb2
    have y0 := blk_cell hf2 0
    have y1 := blk_cell hf2 1
    have y2 := blk_cell hf2 2
    have y3 := blk_cell hf2 3
    have y4 := blk_cell hf2 4
    have y5 := blk_cell hf2 5
    simp at y0 y1 y2 y3 y4 y5
    have fl := blk_lt hf2
    have HI := hide hI
    have hlb := nbs_len ns f n
    clear hf2 hI
    obtain ⟨len, hlen⟩ : ∃ len, (nbs ns f n).length = len := ⟨_, rfl⟩
    rw [hlen] at hlb ⊢
    have HLN := hide hlen
    clear hlen
    have hdec : accN f.empty (nbs ns f n) (fun m => bat f.plus m || (bat f.lets m && bat x m)) 0 = (decide (0 < len) || f.empty) := by rw [accN_zero, HLN.out]
    have HDE := hide hdec
    clear hdec
    go_upto_region 4 with fail
    go_cut [10] from 20 to 26 (fun v wx => v = .bool (accN f.empty (nbs ns f n) (fun m => bat f.plus m || (bat f.lets m && bat x m)) 0) ∧ wx = wc)
    case first =>
      rcases Nat.eq_zero_or_pos len with rfl | hpos
      · go_wp2_with fail
        go_meet
        exact ⟨by rw [HDE.out]; simp, rfl⟩
      · have hpi : (0 : Int) < (len : Int) := by omega
        go_wp2_with fail
        go_meet
        exact ⟨by rw [HDE.out]; simp [hpos], rfl⟩
    case rest =>
      obtain ⟨rfl, rfl⟩ := hcut
      go_wp2_with fail
      go_loopw [10, 11] (fun v i wr => ∃ k : Nat, k ≤ len ∧ i = .int .i64 k ∧ v = .bool (accN f.empty (nbs ns f n) (fun m => bat f.plus m || (bat f.lets m && bat x m)) k) ∧ ∃ q, wr = wc.drewN q) (fun _ i _ => len - (intOf i).toNat)
      case atStart => exact ⟨0, Nat.zero_le _, rfl, rfl, 0, rfl⟩
      case round =>
        obtain ⟨k, hk, rfl, rfl, q, rfl⟩ := hrel
        by_cases hlt : k < len
        · obtain ⟨m, hm⟩ := get_lt (l := nbs ns f n) (k := k) (by rw [HLN.out]; exact hlt)
          have hml : m < ns.length := nbs_lt (List.mem_of_getElem? hm)
          obtain ⟨lb, lo, rfl, hll, hlc⟩ := HI.out.at (k := k) (by rw [ints_len, HLN.out]; exact hlt)
          have d0 := hlc k _ (ints_get hm)
          obtain ⟨o1, o2, o3, o4, o5⟩ := HBO.out
          obtain ⟨e1, e2, e3, e4, e5⟩ := HL.out
          obtain ⟨b3, u3, rfl, l3, v3⟩ := bools_cell (o3.below HW2.out) (k := m) (by rw [e3]; exact hml)
          obtain ⟨b4, u4, rfl, l4, v4⟩ := bools_cell (o4.below HW2.out) (k := m) (by rw [e4]; exact hml)
          obtain ⟨bx, ux, rfl, lx, vx⟩ := bools_cell (o5.below HW2.out) (k := m) (by rw [e5]; exact hml)
          have i3 : (m : Int) < (f.plus.length : Int) := by omega
          have i4 : (m : Int) < (f.lets.length : Int) := by omega
          have ix : (m : Int) < (x.length : Int) := by omega
          have ik : (k : Int) < (len : Int) := by omega
          have HM := hide hm
          generalize hA : accN f.empty (nbs ns f n) (fun m => bat f.plus m || (bat f.lets m && bat x m)) k = A
          generalize hP : bat f.plus m = P at v3
          generalize hL : bat f.lets m = L at v4
          generalize hZ : bat x m = Z at vx
          have HA := hide hA
          have HPQ := hide (And.intro hP (And.intro hL hZ))
          clear hA hP hL hZ hm hlc o1 o2 o3 o4 o5 e1 e2 e3 e4 e5
          cases A
          · go_wp2
            go_quiet (fail)
            go_wp2
            go_roundw
            case rel => exact ⟨k + 1, by omega, by go_num, by rw [accN_succ HM.out, HA.out]; simp, q + nq, by first | rfl | (simp only [World.drewN_drewN])⟩
            case measure => simp [intOf]; omega
          · cases P
            · cases L
              · go_wp2
                go_quiet (fail)
                go_wp2
                go_roundw
                case rel => exact ⟨k + 1, by omega, by go_num, by rw [accN_succ HM.out, HA.out]; simp [HPQ.out.1, HPQ.out.2.1], q + nq, by first | rfl | (simp only [World.drewN_drewN])⟩
                case measure => simp [intOf]; omega
              · go_wp2
                go_quiet (fail)
                go_wp2
                go_roundw
                case rel => exact ⟨k + 1, by omega, by go_num, by rw [accN_succ HM.out, HA.out]; simp [HPQ.out.1, HPQ.out.2.1, HPQ.out.2.2], q + nq, by first | rfl | (simp only [World.drewN_drewN])⟩
                case measure => simp [intOf]; omega
            · go_wp2
              go_quiet (fail)
              go_wp2
              go_roundw
              case rel => exact ⟨k + 1, by omega, by go_num, by rw [accN_succ HM.out, HA.out]; simp [HPQ.out.1], q + nq, by first | rfl | (simp only [World.drewN_drewN])⟩
              case measure => simp [intOf]; omega
        · have ek : k = len := by omega
          subst ek
          have HF := hide (show accN f.empty (nbs ns f n) (fun m => bat f.plus m || (bat f.lets m && bat x m)) k = allOr f.empty (nbs ns f n) (fun m => bat f.plus m || (bat f.lets m && bat x m)) by rw [← HLN.out]; exact accN_all)
          have hsay : Hid (sayF ns f (bat x) n = (bat f.gen n || (bat f.pass n && accN f.empty (nbs ns f n) (fun m => bat f.plus m || (bat f.lets m && bat x m)) k))) := by show _ = _; rw [HF.out]; rfl
          generalize accN f.empty (nbs ns f n) (fun m => bat f.plus m || (bat f.lets m && bat x m)) k = A at hsay ⊢
          obtain ⟨o1, o2, o3, o4, o5⟩ := HBO.out
          obtain ⟨e1, e2, e3, e4, e5⟩ := HL.out
          obtain ⟨b3, u3, rfl, l3, v3⟩ := bools_cell (o1.below HW2.out) (k := n) (by rw [e1]; exact hn)
          obtain ⟨b4, u4, rfl, l4, v4⟩ := bools_cell (o2.below HW2.out) (k := n) (by rw [e2]; exact hn)
          have i3 : (n : Int) < (f.gen.length : Int) := by omega
          have i4 : (n : Int) < (f.pass.length : Int) := by omega
          generalize hP : bat f.gen n = P at v3 hsay
          generalize hL : bat f.pass n = L at v4 hsay
          clear hP hL o1 o2 o3 o4 o5 e1 e2 e3 e4 e5 HF
          cases P
          · cases L
            · go_wp2
              go_ret
              exact ⟨ret_bool (by rw [hsay.out]; simp), below_drewN HW2.out q⟩
            · go_wp2
              go_ret
              exact ⟨ret_bool (by rw [hsay.out]; simp), below_drewN HW2.out q⟩
          · go_wp2
            go_ret
            exact ⟨ret_bool (by rw [hsay.out]; simp), below_drewN HW2.out q⟩
end Go.Proofs.Ytoikglgnmjjpcaa
