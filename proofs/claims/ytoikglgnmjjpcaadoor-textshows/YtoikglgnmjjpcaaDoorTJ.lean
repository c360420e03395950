/-
  text.readNode, walked.
-/
import Derived.Test.YtoikglgnmjjpcaaDoorTI
namespace Go.Proofs.YtoikglgnmjjpcaaDoor
open Go.RowKit Go.Maps Go.ChangeMaps
set_option linter.unusedVariables false

theorem lead_flag (i : Nat) : ((i == 3 || i == 4) = false ∧ (if (i : Int) = 3 then ba toW else if (i : Int) = 4 then ba elW else ⟨#[]⟩) = ⟨#[]⟩) ∨ ((i == 3 || i == 4) = true ∧ ∃ y, (ba y).toList.isEmpty = false ∧ (if (i : Int) = 3 then ba toW else if (i : Int) = 4 then ba elW else ⟨#[]⟩) = ba y) := by
  by_cases h3 : i = 3
  · subst h3; exact Or.inr ⟨rfl, toW, by kernel_rfl, rfl⟩
  · by_cases h4 : i = 4
    · subst h4; exact Or.inr ⟨rfl, elW, by kernel_rfl, rfl⟩
    · rw [if_neg (show ¬ (i : Int) = 3 by omega), if_neg (show ¬ (i : Int) = 4 by omega)]; exact Or.inl ⟨by simp [h3, h4], rfl⟩

theorem rdK_none {ws : List (List UInt8)} {op : Int} {i : Nat} (h : rdK ws op i = none) : ∀ j, rdK ws op (i + j) = none
  | 0 => h
  | j + 1 => by
    show rdK ws op ((i + j) + 1) = none
    unfold rdK
    rw [rdK_none h j]

theorem rdK_step {ws : List (List UInt8)} {op : Int} {i k : Nat} {vs : List Int} (h : rdK ws op i = some (k, vs)) : rdK ws op (i + 1) = match rdOne ws k (kOf op i != 0) (i == 3 || i == 4) with
      | none => none
      | some (k', v) => some (k', vs ++ [v]) := by
  conv => lhs; unfold rdK
  rw [h]
  rfl

theorem rd_some {ws : List (List UInt8)} {k : Nat} {lead : Bool} {y : List UInt8} {v : Int} (h : ws[if lead then k + 1 else k]? = some y) (hv : Lib.atoiAll y = .ok v) : rdOne ws k true lead = some ((if lead then k + 1 else k) + 1, v) := by
  simp [rdOne, h, hv]
theorem rd_bad {ws : List (List UInt8)} {k : Nat} {lead : Bool} {y : List UInt8} (h : ws[if lead then k + 1 else k]? = some y) (hv : ∀ v, Lib.atoiAll y ≠ .ok v) : rdOne ws k true lead = none := by
  cases e : Lib.atoiAll y with
  | ok v => exact absurd e (hv v)
  | «syntax» => simp [rdOne, h, e]
  | range => simp [rdOne, h, e]
theorem rd_over {ws : List (List UInt8)} {k : Nat} {lead : Bool} (h : ws[if lead then k + 1 else k]? = none) : rdOne ws k true lead = none := by
  simp [rdOne, h]

def vals5 (vs : List Int) : Array Value := ((vs ++ List.replicate (5 - vs.length) 0).map (Value.int .i64)).toArray
theorem vals_size {vs : List Int} (h : vs.length ≤ 5) : (vals5 vs).size = 5 := by simp [vals5]; omega
theorem vals_zero {vs : List Int} (h : vs.length < 5) : vals5 (vs ++ [0]) = vals5 vs := by
  unfold vals5
  rw [List.length_append, List.length_singleton, List.append_assoc]
  congr 3
  rw [show 5 - vs.length = (5 - (vs.length + 1)) + 1 by omega, List.replicate_succ]
  rfl
theorem vals_set {vs : List Int} {v : Int} (h : vs.length < 5) : (vals5 vs).setIfInBounds vs.length (.int .i64 v) = vals5 (vs ++ [v]) := by
  unfold vals5
  rw [List.setIfInBounds_toArray, List.length_append, List.length_singleton]
  rw [show 5 - vs.length = (5 - (vs.length + 1)) + 1 by omega, List.replicate_succ]
  simp
theorem vals_five {vs : List Int} (h : vs.length = 5) : vals5 vs = #[.int .i64 (vs.getD 0 0), .int .i64 (vs.getD 1 0), .int .i64 (vs.getD 2 0), .int .i64 (vs.getD 3 0), .int .i64 (vs.getD 4 0)] := by
  match vs, h with
  | [a, b, c, d, e], _ => rfl

theorem idxk_0 (a0 a1 a2 a3 a4 : Value) (w : World) : (Instr.index 68 (.agg #[a0, a1, a2, a3, a4]) (.int .i64 0)).run Tryd.prog w = .ok a0 w := by kernel_rfl
theorem idxk_1 (a0 a1 a2 a3 a4 : Value) (w : World) : (Instr.index 68 (.agg #[a0, a1, a2, a3, a4]) (.int .i64 1)).run Tryd.prog w = .ok a1 w := by kernel_rfl
theorem idxk_2 (a0 a1 a2 a3 a4 : Value) (w : World) : (Instr.index 68 (.agg #[a0, a1, a2, a3, a4]) (.int .i64 2)).run Tryd.prog w = .ok a2 w := by kernel_rfl
theorem idxk_3 (a0 a1 a2 a3 a4 : Value) (w : World) : (Instr.index 68 (.agg #[a0, a1, a2, a3, a4]) (.int .i64 3)).run Tryd.prog w = .ok a3 w := by kernel_rfl
theorem idxk_4 (a0 a1 a2 a3 a4 : Value) (w : World) : (Instr.index 68 (.agg #[a0, a1, a2, a3, a4]) (.int .i64 4)).run Tryd.prog w = .ok a4 w := by kernel_rfl
theorem idxk (op : Int) {i : Nat} (h : i < 5) (w : World) : (Instr.index 68 (.agg #[.int .i64 (k0 op), .int .i64 (k1 op), .int .i64 (k2 op), .int .i64 (k3 op), .int .i64 (k4 op)]) (.int .i64 (i : Nat))).run Tryd.prog w = .ok (.int .i64 (kOf op i)) w := by
  match i, h with
  | 0, _ => exact idxk_0 _ _ _ _ _ w
  | 1, _ => exact idxk_1 _ _ _ _ _ w
  | 2, _ => exact idxk_2 _ _ _ _ _ w
  | 3, _ => exact idxk_3 _ _ _ _ _ w
  | 4, _ => exact idxk_4 _ _ _ _ _ w

theorem results_two {P : Program} {fn : Func} {p q : Tmp} {ty : TypeId} (h : fn.results = #[.cell p ty, .tmp q]) (tmps : Array Value) (w : World) (g : Nat) (t : TypeId) (cs : Array Value) (fr : Nat × Nat) (d : TypeDesc) (v : Value)
    (hp : tmps.getD p undef = .pointer (some ⟨g, 0, none⟩)) (hg : w.heap[g]? = some (.cells cs t fr))
    (hu : P.underlying ty = some d) (hd : (match d with | .struct _ | .array _ _ => true | _ => false) = true) (hi : (P.info? ty).map (·.size) = some cs.size) (hv : tmps.getD q undef = v) :
    (results fn tmps).run P w = .ok (.tuple #[.agg cs, v]) w := by
  have hp' : tmps[p]?.getD undef = .pointer (some ⟨g, 0, none⟩) := by simpa using hp
  have hv' : tmps[q]?.getD undef = v := by simpa using hv
  simp [results, h, hp', hv', asAddr, run_loadVar_row w g t ty cs fr d hg hu hd hi]

def z6 : Array Value := #[.int .i64 0, .int .i64 0, .int .i64 0, .int .i64 0, .int .i64 0, .int .i64 0]
theorem z6_size : (Tryd.prog.info? 49).map (·.size) = some z6.size := by kernel_rfl
theorem six_one (a b c d e f : Int) : (#[.int .i64 a, .int .i64 b, .int .i64 c, .int .i64 d, .int .i64 e, .int .i64 f] : Array Value).all (·.oneCell') = true := by
  simp [Value.oneCell']
theorem z6_one : z6.all (·.oneCell') = true := by kernel_rfl

set_option maxHeartbeats 4000000 in
set_option maxRecDepth 100000 in
theorem readNode_bad (l x : List UInt8) (r : List (List UInt8)) (mb : Nat) (w : World) (hE : Env w) (hl : l.length ≤ 16448) (hx : x.length ≤ 16448) (hM : w.ownsMap Tryd.prog 9 (plainElem Tryd.prog 3) mb 13 opD) (hw : cutC 32 l = x :: r) (ho : opOf x = none) :
    Calls Tryd.prog 44 #[.string (ba l), .map (some mb)] w fun e w' => e = .returned (.tuple #[nodeV none, .bool false]) ∧ Below w.heap.size w w' := by
  have KK := Keyed.of_law slaw
  have hsp := split_any 32 l (w.alloc (.cells #[.int .i64 0, .int .i64 0, .int .i64 0, .int .i64 0, .int .i64 0, .int .i64 0] 49)) (hE.below ((Below.refl _ _).alloc (Nat.le_refl _) _)) hl
  rw [hw] at hsp
  go_enter Tryd.func44, Tryd.ntmps44
  go_wp2_with fail
  refine hsp.mono ?_
  rintro e w1 ⟨rfl, hw1⟩
  have hM1 : w1.ownsMap Tryd.prog 9 (plainElem Tryd.prog 3) mb 13 opD := by rw [hw1]; exact (hM.alloc _).alloc _
  have hp0 : w1.heap[w.heap.size]? = some (.cells #[.int .i64 0, .int .i64 0, .int .i64 0, .int .i64 0, .int .i64 0, .int .i64 0] 49 (0, 0)) := by rw [hw1]; exact blk_alloc _ (blkn rfl)
  have hp1 : w1.heap[w.heap.size + 1]? = some (.cells (strs (x :: r)).toArray 9 (0, 0)) := by rw [hw1]; exact blkn (by simp)
  have hB1 : Below w.heap.size w w1 := by rw [hw1]; exact ((Below.refl _ _).alloc (Nat.le_refl _) _).alloc (by simp) _
  have hs1 : w1.heap.size = w.heap.size + 2 := by rw [hw1]; simp
  clear hw1 hsp
  have cx := blk_cell hp1 0
  have hpos : (0 : Int) < ((x :: r).length : Int) := by rw [List.length_cons]; omega
  simp [strs] at cx
  generalize (x :: r).length = n at hpos ⊢
  go_wp2_with (first
    | (refine wpList_lookup_own_ok_int _ rfl _ _ 66 rfl 9 3 .i64 KK Tryd.underlying66 Tryd.underlying3 (zero_int _) mb 13 opD rfl hM1 _ _ rfl (key_ba hx) ?_; intro c hat hwc; rw [opD_has, ho])
    | (refine wpList_plain rfl fun _ hK => wp_store_row _ _ _ rfl _ z6 rfl rfl _ _ hp0 z6_size rfl z6_one (hK _ _ ?_)))
  exact bodyPost_ret (results_two Tryd.results44 _ _ _ _ _ _ _ (.bool false) rfl (setRow_heap _ _ _ z6 _ _ hp0) Tryd.underlying49 rfl z6_size rfl) rfl ⟨rfl, hB1.trans ⟨rfl, rfl, rfl, by simp, fun k hk => setRow_other _ _ _ _ (by omega)⟩⟩

set_option maxHeartbeats 8000000 in
set_option maxRecDepth 100000 in
theorem readNode_ok (l x : List UInt8) (r : List (List UInt8)) (o : Nat) (mb : Nat) (w : World) (hE : Env w) (hl : l.length ≤ 16448) (hx : ∀ y ∈ x :: r, y.length ≤ 16448) (hM : w.ownsMap Tryd.prog 9 (plainElem Tryd.prog 3) mb 13 opD) (hw : cutC 32 l = x :: r) (ho : opOf x = some o) (hlr : (x :: r).length ≤ 16449) :
    Calls Tryd.prog 44 #[.string (ba l), .map (some mb)] w fun e w' => e = .returned (.tuple #[nodeV (rdN (x :: r)), .bool (rdN (x :: r)).isSome]) ∧ Below w.heap.size w w' := by
  have hres := rdN_K (r := r) ho
  have KK := Keyed.of_law slaw
  have hsp := split_any 32 l (w.alloc (.cells #[.int .i64 0, .int .i64 0, .int .i64 0, .int .i64 0, .int .i64 0, .int .i64 0] 49)) (hE.below ((Below.refl _ _).alloc (Nat.le_refl _) _)) hl
  rw [hw] at hsp
  go_enter Tryd.func44, Tryd.ntmps44
  go_wp2_with fail
  refine hsp.mono ?_
  rintro e w1 ⟨rfl, hw1⟩
  have hM1 : w1.ownsMap Tryd.prog 9 (plainElem Tryd.prog 3) mb 13 opD := by rw [hw1]; exact (hM.alloc _).alloc _
  have hp0 : w1.heap[w.heap.size]? = some (.cells #[.int .i64 0, .int .i64 0, .int .i64 0, .int .i64 0, .int .i64 0, .int .i64 0] 49 (0, 0)) := by rw [hw1]; exact blk_alloc _ (blkn rfl)
  have hp1 : w1.heap[w.heap.size + 1]? = some (.cells (strs (x :: r)).toArray 9 (0, 0)) := by rw [hw1]; exact blkn (by simp)
  have hB1 : Below w.heap.size w w1 := by rw [hw1]; exact ((Below.refl _ _).alloc (Nat.le_refl _) _).alloc (by simp) _
  have hs1 : w.heap.size + 2 ≤ w1.heap.size := by rw [hw1]; simp
  clear hw1 hsp
  have cx := blk_cell hp1 0
  have hpos : (0 : Int) < ((x :: r).length : Int) := by rw [List.length_cons]; omega
  simp [strs] at cx
  clear hw
  generalize hn : (x :: r).length = n at hpos ⊢
  have HN := hide hn
  clear hn
  go_upto_region 5 with (refine wpList_lookup_own_ok_int _ rfl _ _ 66 rfl 9 3 .i64 KK Tryd.underlying66 Tryd.underlying3 (zero_int _) mb 13 opD rfl hM1 _ _ rfl (key_ba (hx x (List.mem_cons_self ..))) ?_; intro c hat hwc; rw [opD_at, ho] at hat; obtain rfl : c = (o : Int) := ((Lit.int.inj (DataW.lit.inj hat)).2).symm; rw [opD_has, ho])
  clear hat hwc cx hpos
  have HP0 := hide hp0
  have HP1 := hide hp1
  have HB1 := hide hB1
  clear hp0 hp1 hB1 hM1 hM KK
  go_wp2_with fail
  refine (of_any _ _).mono ?_
  rintro e w2 ⟨rfl, hb2⟩
  have hs2 := hb2.size
  simp only [World.size_alloc] at hs2 hb2
  have HV2 : Hid (w2.heap[w1.heap.size]? = some (.cells (vals5 []) 71 (0, 0))) := (hb2.block _ (by omega)).trans (blkn rfl)
  have HP02 : Hid (w2.heap[w.heap.size]? = some (.cells z6 49 (0, 0))) := (hb2.block _ (by omega)).trans (blk_alloc _ HP0.out)
  have HP12 := hide ((hb2.block _ (by omega)).trans (blk_alloc (.cells (vals5 []) 71 (0, 0)) HP1.out))
  have HB2 : Hid (Below w.heap.size w w2) := (HB1.out.alloc (by omega) _).trans (hb2.mono (by omega))
  clear hb2 HP0 HP1 HB1
  go_wp2_with fail
  go_loopw [9, 36] (fun v9 v36 wr => ∃ (i k : Nat) (vs : List Int), i ≤ 5 ∧ v36 = .int .i64 (i : Nat) ∧ v9 = .int .i64 (k : Nat) ∧ k ≤ 1 + 2 * i ∧ Hid (rdK (x :: r) o i = some (k, vs)) ∧ Hid (wr.heap[w1.heap.size]? = some (.cells (vals5 vs) 71 (0, 0))) ∧ Hid (wr.heap[w.heap.size]? = some (.cells z6 49 (0, 0))) ∧ Hid (wr.heap[w.heap.size + 1]? = some (.cells (strs (x :: r)).toArray 9 (0, 0))) ∧ Below w.heap.size w wr) (fun _ v36 _ => (5 - intOf v36).toNat)
  case atStart => exact ⟨0, 1, [], by omega, rfl, rfl, by omega, rfl, blk_alloc _ HV2.out, blk_alloc _ HP02.out, blk_alloc _ HP12.out, HB2.out.alloc (by omega) _⟩
  case round =>
    obtain ⟨i, k, vs, hi5, rfl, rfl, hk, HR, HV, HP, HW, hB⟩ := hrel
    clear HV2 HP02 HP12 HB2
    have hsz := hB.size
    have hvl := rdK_len _ _ _ HR.out
    by_cases hq5 : i = 5
    · subst hq5
      rw [HR.out] at hres
      have hV := HV.out
      rw [vals_five hvl] at hV
      have t0 : wr.cell? ⟨w1.heap.size, 0, none⟩ = some (.int .i64 (vs.getD 0 0)) := blk_cell hV 0
      have t1 : wr.cell? ⟨w1.heap.size, 1, none⟩ = some (.int .i64 (vs.getD 1 0)) := blk_cell hV 1
      have t2 : wr.cell? ⟨w1.heap.size, 2, none⟩ = some (.int .i64 (vs.getD 2 0)) := blk_cell hV 2
      have t3 : wr.cell? ⟨w1.heap.size, 3, none⟩ = some (.int .i64 (vs.getD 3 0)) := blk_cell hV 3
      have t4 : wr.cell? ⟨w1.heap.size, 4, none⟩ = some (.int .i64 (vs.getD 4 0)) := blk_cell hV 4
      clear hV
      generalize hm0 : vs.getD 0 0 = m0 at t0
      generalize hm1 : vs.getD 1 0 = m1 at t1
      generalize hm2 : vs.getD 2 0 = m2 at t2
      generalize hm3 : vs.getD 3 0 = m3 at t3
      generalize hm4 : vs.getD 4 0 = m4 at t4
      go_wp2_with fail
      refine (node_any _ _ _ _ _ _ _).mono ?_
      rintro e w5 ⟨rfl, hb5⟩
      have hp5 := (hb5.block _ (blk_lt HP.out)).trans HP.out
      have hB5 := hB.trans (hb5.mono hsz)
      go_wp2_with (refine wpList_plain rfl fun _ hK => wp_store_row _ _ _ rfl _ #[.int .i64 (o : Int), .int .i64 m0, .int .i64 m1, .int .i64 m2, .int .i64 m3, .int .i64 m4] rfl rfl _ _ hp5 z6_size rfl (six_one _ _ _ _ _ _) (hK _ _ ?_))
      refine bodyPost_ret (results_two Tryd.results44 _ _ _ _ _ _ _ (.bool true) rfl (setRow_heap _ _ _ #[.int .i64 (o : Int), .int .i64 m0, .int .i64 m1, .int .i64 m2, .int .i64 m3, .int .i64 m4] _ _ hp5) Tryd.underlying49 rfl z6_size rfl) rfl ⟨?_, hB5.trans ⟨rfl, rfl, rfl, by simp, fun k hk => setRow_other _ _ _ _ (by omega)⟩⟩
      rw [hres]
      subst hm0 hm1 hm2 hm3 hm4
      rfl
    · have hlt : i < 5 := by omega
      have hlti : (i : Int) < 5 := by omega
      have hst := rdK_step HR.out
      have hix := idxk (o : Int) hlt
      have hEr := hE.below hB
      generalize hkv : kOf (o : Int) i = K at hix hst
      by_cases hk0 : K = 0
      · subst hk0
        rw [show ((0 : Int) != 0) = false from rfl, rd_no] at hst
        go_wp2_with fail
        go_roundw
        case rel => exact ⟨i + 1, k, vs ++ [0], by omega, by simp, rfl, by omega, hst, by show _ = _; rw [vals_zero (by omega)]; exact HV.out, HP, HW, hB⟩
        case measure => simp [intOf]; omega
      · have hK1 : (K != 0) = true := by simpa using hk0
        rw [hK1] at hst
        rcases lead_flag i with ⟨hfl, hlw⟩ | ⟨hfl, y, hyn, hlw⟩
        · have hA : (if (i == 3 || i == 4) = true then k + 1 else k) = k := by rw [hfl]; rfl
          go_wp2_with fail
          refine (lead_any _ _).mono ?_
          rintro e w' ⟨rfl, rfl⟩
          rw [hlw]
          by_cases hov : (x :: r).length ≤ k
          · have hno : rdK (x :: r) o 5 = none := by
              rw [rd_over (by rw [hA]; exact List.getElem?_eq_none hov)] at hst
              rw [show 5 = (i + 1) + (4 - i) by omega]
              exact rdK_none hst _
            have hovi : (n : Int) ≤ (k : Nat) := by have := HN.out; omega
            have hp := HP.out
            go_wp2_with (refine wpList_plain rfl fun _ hK => wp_store_row _ _ _ rfl _ z6 rfl rfl _ _ hp z6_size rfl z6_one (hK _ _ ?_))
            refine bodyPost_ret (results_two Tryd.results44 _ _ _ _ _ _ _ (.bool false) rfl (setRow_heap _ _ _ z6 _ _ hp) Tryd.underlying49 rfl z6_size rfl) rfl ⟨?_, hB.trans ⟨rfl, rfl, rfl, by simp, fun k hk => setRow_other _ _ _ _ (by omega)⟩⟩
            rw [hres, hno]; rfl
          · have hin : k < (x :: r).length := by omega
            have hini : ((k : Nat) : Int) < (n : Int) := by have := HN.out; omega
            obtain ⟨yw, hyw⟩ := get_lt hin
            have hcy := (blk_cell HW.out k).trans (by rw [List.getElem?_toArray]; unfold strs; rw [List.getElem?_map, hyw]; rfl : (strs (x :: r)).toArray[k]? = some (.string (ba yw)))
            have hyl := hx yw (List.mem_of_getElem? hyw)
            go_wp2_with fail
            refine (atoi_any (ba yw) _ hEr (by show (ba yw).data.size ≤ _; simp [ba]; omega)).mono ?_
            rintro e w3 ⟨v, er, rfl, hm, hb3⟩
            rw [ba_list] at hm
            have hs3 := hb3.size
            have hP3 := (hb3.block _ (blk_lt HP.out)).trans HP.out
            have hV3 := (hb3.block _ (blk_lt HV.out)).trans HV.out
            have HW3 := hide ((hb3.block _ (blk_lt HW.out)).trans HW.out)
            have hB3 := hB.trans (hb3.mono hsz)
            have HIX := hide hix
            clear hb3 HP HV HW hB hcy hix
            by_cases hok : ∃ u, Lib.atoiAll yw = .ok u
            · obtain ⟨u, hu⟩ := hok
              rw [hu] at hm
              obtain ⟨rfl, rfl⟩ := hm
              rw [rd_some (by rw [hA]; exact hyw) hu, hA] at hst
              have hv5 : (vals5 vs).size = 5 := vals_size (by omega)
              have q := blk_cell hV3 i
              have gq := blk_frozen hV3 i
              rw [Array.getElem?_eq_getElem (by omega)] at q
              generalize (vals5 vs)[i]'(by omega) = vq at q
              have HV3 := hide hV3
              have HP3 := hide hP3
              have HB3 := hide hB3
              clear hV3 hP3 hB3
              go_wp2_with fail
              go_roundw
              case rel =>
                refine ⟨i + 1, _, _, by omega, by simp, ?_, by omega, hst, ?_, blk_set_ne _ HP3.out (by omega), blk_set_ne _ HW3.out (by omega), HB3.out.setCell (by simp; omega) _⟩
                · go_num
                · show _ = _
                  rw [blk_set _ HV3.out, ← hvl, vals_set (by omega)]
              case measure => simp [intOf]; omega
            · have hno : rdK (x :: r) o 5 = none := by
                rw [rd_bad (by rw [hA]; exact hyw) (fun u hu => hok ⟨u, hu⟩)] at hst
                rw [show 5 = (i + 1) + (4 - i) by omega]
                exact rdK_none hst _
              obtain ⟨N, rfl⟩ : ∃ N, er = .iface 102 (.pointer (some ⟨N, 0, none⟩)) := by
                cases e : Lib.atoiAll yw with
                | ok u => exact absurd ⟨u, e⟩ hok
                | «syntax» => rw [e] at hm; exact hm
                | range => rw [e] at hm; exact hm
              go_wp2_with (refine wpList_plain rfl fun _ hK => wp_store_row _ _ _ rfl _ z6 rfl rfl _ _ hP3 z6_size rfl z6_one (hK _ _ ?_))
              refine bodyPost_ret (results_two Tryd.results44 _ _ _ _ _ _ _ (.bool false) rfl (setRow_heap _ _ _ z6 _ _ hP3) Tryd.underlying49 rfl z6_size rfl) rfl ⟨?_, hB3.trans ⟨rfl, rfl, rfl, by simp, fun k hk => setRow_other _ _ _ _ (by omega)⟩⟩
              rw [hres, hno]; rfl
        · have hA : (if (i == 3 || i == 4) = true then k + 1 else k) = (k + 1) := by rw [hfl]; rfl
          go_wp2_with fail
          refine (lead_any _ _).mono ?_
          rintro e w' ⟨rfl, rfl⟩
          rw [hlw]
          by_cases hov : (x :: r).length ≤ (k + 1)
          · have hno : rdK (x :: r) o 5 = none := by
              rw [rd_over (by rw [hA]; exact List.getElem?_eq_none hov)] at hst
              rw [show 5 = (i + 1) + (4 - i) by omega]
              exact rdK_none hst _
            have hovi : (n : Int) ≤ ((k + 1) : Nat) := by have := HN.out; omega
            have hp := HP.out
            go_wp2_with (refine wpList_plain rfl fun _ hK => wp_store_row _ _ _ rfl _ z6 rfl rfl _ _ hp z6_size rfl z6_one (hK _ _ ?_))
            refine bodyPost_ret (results_two Tryd.results44 _ _ _ _ _ _ _ (.bool false) rfl (setRow_heap _ _ _ z6 _ _ hp) Tryd.underlying49 rfl z6_size rfl) rfl ⟨?_, hB.trans ⟨rfl, rfl, rfl, by simp, fun k hk => setRow_other _ _ _ _ (by omega)⟩⟩
            rw [hres, hno]; rfl
          · have hin : (k + 1) < (x :: r).length := by omega
            have hini : (((k + 1) : Nat) : Int) < (n : Int) := by have := HN.out; omega
            obtain ⟨yw, hyw⟩ := get_lt hin
            have hcy := (blk_cell HW.out (k + 1)).trans (by rw [List.getElem?_toArray]; unfold strs; rw [List.getElem?_map, hyw]; rfl : (strs (x :: r)).toArray[(k + 1)]? = some (.string (ba yw)))
            have hyl := hx yw (List.mem_of_getElem? hyw)
            go_wp2_with fail
            refine (atoi_any (ba yw) _ hEr (by show (ba yw).data.size ≤ _; simp [ba]; omega)).mono ?_
            rintro e w3 ⟨v, er, rfl, hm, hb3⟩
            rw [ba_list] at hm
            have hs3 := hb3.size
            have hP3 := (hb3.block _ (blk_lt HP.out)).trans HP.out
            have hV3 := (hb3.block _ (blk_lt HV.out)).trans HV.out
            have HW3 := hide ((hb3.block _ (blk_lt HW.out)).trans HW.out)
            have hB3 := hB.trans (hb3.mono hsz)
            have HIX := hide hix
            clear hb3 HP HV HW hB hcy hix
            by_cases hok : ∃ u, Lib.atoiAll yw = .ok u
            · obtain ⟨u, hu⟩ := hok
              rw [hu] at hm
              obtain ⟨rfl, rfl⟩ := hm
              rw [rd_some (by rw [hA]; exact hyw) hu, hA] at hst
              have hv5 : (vals5 vs).size = 5 := vals_size (by omega)
              have q := blk_cell hV3 i
              have gq := blk_frozen hV3 i
              rw [Array.getElem?_eq_getElem (by omega)] at q
              generalize (vals5 vs)[i]'(by omega) = vq at q
              have HV3 := hide hV3
              have HP3 := hide hP3
              have HB3 := hide hB3
              clear hV3 hP3 hB3
              go_wp2_with fail
              go_roundw
              case rel =>
                refine ⟨i + 1, _, _, by omega, by simp, ?_, by omega, hst, ?_, blk_set_ne _ HP3.out (by omega), blk_set_ne _ HW3.out (by omega), HB3.out.setCell (by simp; omega) _⟩
                · go_num
                · show _ = _
                  rw [blk_set _ HV3.out, ← hvl, vals_set (by omega)]
              case measure => simp [intOf]; omega
            · have hno : rdK (x :: r) o 5 = none := by
                rw [rd_bad (by rw [hA]; exact hyw) (fun u hu => hok ⟨u, hu⟩)] at hst
                rw [show 5 = (i + 1) + (4 - i) by omega]
                exact rdK_none hst _
              obtain ⟨N, rfl⟩ : ∃ N, er = .iface 102 (.pointer (some ⟨N, 0, none⟩)) := by
                cases e : Lib.atoiAll yw with
                | ok u => exact absurd ⟨u, e⟩ hok
                | «syntax» => rw [e] at hm; exact hm
                | range => rw [e] at hm; exact hm
              go_wp2_with (refine wpList_plain rfl fun _ hK => wp_store_row _ _ _ rfl _ z6 rfl rfl _ _ hP3 z6_size rfl z6_one (hK _ _ ?_))
              refine bodyPost_ret (results_two Tryd.results44 _ _ _ _ _ _ _ (.bool false) rfl (setRow_heap _ _ _ z6 _ _ hP3) Tryd.underlying49 rfl z6_size rfl) rfl ⟨?_, hB3.trans ⟨rfl, rfl, rfl, by simp, fun k hk => setRow_other _ _ _ _ (by omega)⟩⟩
              rw [hres, hno]; rfl

end Go.Proofs.YtoikglgnmjjpcaaDoor
