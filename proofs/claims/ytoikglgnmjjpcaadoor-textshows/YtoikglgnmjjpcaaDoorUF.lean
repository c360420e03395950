/-
  hoistwayref.guess, walked.
-/
import Derived.Test.YtoikglgnmjjpcaaDoorUE
namespace Go.Proofs.YtoikglgnmjjpcaaDoor
open Go.RowKit Go.Maps Go.ChangeMaps
set_option linter.unusedVariables false

/-- The last name among the first i that is x. -/
def opS (x : List UInt8) : Nat → Int
  | 0 => -1
  | i + 1 => if nmL[i]? = some x then (i : Int) else opS x i

theorem opS_none {x : List UInt8} (h : ∀ i : Nat, nmL[i]? ≠ some x) : ∀ i, opS x i = -1
  | 0 => rfl
  | i + 1 => by rw [opS, if_neg (h i), opS_none h i]
theorem opS_some {x : List UInt8} {o : Nat} (h : nmL[o]? = some x) : ∀ k, opS x (o + 1 + k) = o
  | 0 => by rw [Nat.add_zero, opS, if_pos h]
  | k + 1 => by
    show opS x (o + 1 + k + 1) = _
    rw [opS, if_neg (fun e => by have := nm_uniq h e; omega), opS_some h k]
theorem opS_all (x : List UInt8) (r : List (List UInt8)) : opS x 13 = opI (x :: r) := by
  unfold opI
  simp only [List.headD_cons]
  cases h : opOf x with
  | none =>
    refine opS_none (fun i e => ?_) 13
    unfold opOf at h
    rw [List.findIdx?_eq_none_iff] at h
    have := h x (List.mem_of_getElem? e)
    simp at this
  | some o =>
    have h1 := opOf_get h
    have h2 : o < 13 := (List.getElem?_eq_some_iff.1 h1).1
    have := opS_some h1 (12 - o)
    rw [show o + 1 + (12 - o) = 13 by omega] at this
    exact this

theorem opS_le (x : List UInt8) : ∀ i, -1 ≤ opS x i ∧ opS x i < i ∨ opS x i = -1
  | 0 => Or.inr rfl
  | i + 1 => by
    unfold opS
    split
    · left; omega
    · rcases opS_le x i with h | h
      · left; omega
      · exact Or.inr h

/-- The eight kinds, and what names no operation. -/
theorem fl_all {op : Int} (h : op = -1 ∨ (0 ≤ op ∧ op ≤ 12)) : Fl op false false false true false true ∨ Fl op true false false true false false ∨ Fl op true true false true false true ∨ Fl op true true true true false true ∨
    Fl op true false false true false true ∨ Fl op false true false true false true ∨ Fl op false true false true true true ∨ Fl op false true false false false true := by
  rcases h with rfl | h
  · left; simp only [Fl]; decide
  · exact fl_cases (wi_iff.2 h)

theorem names_at {i : Nat} (h : i < 13) : ∃ y, nmL[i]? = some y ∧ names13[i]? = some (.string (ba y)) := by
  obtain ⟨y, hy⟩ : ∃ y, nmL[i]? = some y := ⟨_, List.getElem?_eq_getElem h⟩
  refine ⟨y, hy, ?_⟩
  unfold names13
  rw [List.getElem?_toArray, List.getElem?_map, hy]; rfl

theorem owns_ws {w : World} {base : Nat} {a : Option Addr} {cap : Nat} {xs : List (List UInt8)} (h : w.ownsRow base 9 1 (.slice a xs.length cap) xs.length (strs xs)) (hne : xs ≠ []) (hl : ∀ y ∈ xs, y.length ≤ 140737488355328) :
    ∃ sb cs, a = some ⟨sb, 0, none⟩ ∧ base ≤ sb ∧ w.heap[sb]? = some (.cells cs 9 (0, 0)) ∧ WsAt cs xs := by
  obtain ⟨_, ⟨_, h0⟩ | ⟨g, c, cur, hv, hb, hg, _, _, _, ht⟩⟩ := h
  · exact absurd (List.length_eq_zero_iff.1 h0) hne
  · injection hv with ha _ _
    subst ha
    refine ⟨g, cur, rfl, hb, hg, fun j y hy => ⟨?_, hl y (List.mem_of_getElem? hy)⟩⟩
    have h1 : (strs xs)[j]? = some (.string (ba y)) := by unfold strs; rw [List.getElem?_map, hy]; rfl
    rw [← ht, List.getElem?_take] at h1
    split at h1
    · simpa using h1
    · cases h1

theorem cut_lens {c : UInt8} : ∀ (l : List UInt8) (y : List UInt8), y ∈ cutC c l → y.length ≤ l.length
  | [], y, h => by simp [cutC] at h; subst h; simp
  | b :: l, y, h => by
    unfold cutC at h
    split at h
    · rcases List.mem_cons.1 h with rfl | h
      · simp
      · have := cut_lens l y h; simp; omega
    · split at h
      · simp at h; subst h; simp
      · rename_i x r e
        rcases List.mem_cons.1 h with rfl | h
        · have := cut_lens (c := c) l x (by rw [e]; simp); simp; omega
        · have := cut_lens (c := c) l y (by rw [e]; simp [h]); simp; omega

theorem wp_world {P : Program} {c : Code} {Q : Exit → Act → World → Prop} {a : Act} {W : World} {p : World → Prop} (h : p W) (k : ∀ W, p W → Code.wp P c Q a W) : Code.wp P c Q a W := k W h

set_option maxHeartbeats 8000000 in
set_option maxRecDepth 100000 in
theorem guess_any (l : List UInt8) (w : World) (hl : l.length ≤ 140737488355328) :
    Calls Tryd.prog 25 #[.string (ba l)] w fun e w' => e = .returned (.agg (ndA (gL l))) ∧ Below w.heap.size w w' := by
  have hct := cut_any 32 9 (by omega) l (w.alloc (.cells z6 49)) hl
  have hgl : gL l = gN ((cutC 32 l).take 9) := rfl
  have hwl : ∀ y ∈ (cutC 32 l).take 9, y.length ≤ 140737488355328 := fun y hy => Nat.le_trans (cut_lens l y (List.mem_of_mem_take hy)) hl
  have hwn := cut_take_ne (c := 32) (l := l) (m := 9) (by omega)
  rw [hgl]
  generalize (cutC 32 l).take 9 = ws at hct hwl hwn ⊢
  obtain ⟨y, hy0, HOS⟩ : ∃ y, ws[0]? = some y ∧ Hid (opS y 13 = opI ws) := by
    cases ws with
    | nil => exact absurd rfl hwn
    | cons y r => exact ⟨y, rfl, opS_all y r⟩
  generalize ba l = S at hct ⊢
  go_enter Tryd.func25, Tryd.ntmps25
  go_wp2_with fail
  refine hct.mono ?_
  rintro e w1 ⟨⟨a, cap, rfl, ho⟩, hb1⟩
  obtain ⟨sb, cs, rfl, hsb, hsc, hcs⟩ := owns_ws ho hwn hwl
  have hs1 := hb1.size
  simp only [World.size_alloc] at hs1 hb1 hsb
  have hp1 := (hb1.block w.heap.size (by omega)).trans (blkn rfl)
  have hB1 : Below w.heap.size w w1 := ((Below.refl _ _).alloc (Nat.le_refl _) _).trans (hb1.mono (by omega))
  have hslt := blk_lt hsc
  clear ho hb1 hct
  have hG : G0 w.heap.size w1.heap.size (w1.heap.size + 1) sb cap ws.length cs ⟨opS y 0, 0, 0, 0, 0, 0⟩ w ((w1.alloc (.cells #[.slice (some ⟨sb, 0, none⟩) ws.length cap] 56)).alloc (.cells #[.int .i64 (-1), .int .i64 0, .int .i64 0, .int .i64 0, .int .i64 0, .int .i64 0] 49)) :=
    ⟨by omega, blk_alloc _ (blk_alloc _ hp1), blk_alloc _ (blk_alloc _ hsc), blk_alloc _ (blkn rfl), blkn (by simp), (hB1.alloc (by omega) _).alloc (by simp; omega) _⟩
  have HG := hide hG
  have hw0 := (hcs 0 y hy0).1
  have HOL := hide (opS_le y 13)
  have hlenN : 0 < ws.length := (List.getElem?_eq_some_iff.1 hy0).1
  have hlen : (0 : Int) < ws.length := by omega
  have HCS := hide hcs
  clear hcs hG hp1 hB1 hsc hslt hgl hwl hwn hy0
  go_wp2_with fail
  generalize hnb : w1.heap.size + 1 = nb at *
  go_loopw [5] (fun v5 wr => ∃ i : Nat, i ≤ 13 ∧ v5 = .int .i64 i ∧ Hid (G0 w.heap.size w1.heap.size nb sb cap ws.length cs ⟨opS y i, 0, 0, 0, 0, 0⟩ w wr)) (fun i _ => 13 - (intOf i).toNat)
  case atStart => exact ⟨0, by omega, rfl, HG.out⟩
  case round =>
    obtain ⟨i, hi, rfl, HR⟩ := hrel
    clear HG
    by_cases hlt : i < 13
    · obtain ⟨ny, hny, hnv⟩ := names_at hlt
      have hlti : (i : Int) < 13 := by omega
      have hstep : opS y (i + 1) = if nmL[i]? = some y then (i : Int) else opS y i := rfl
      rw [hny] at hstep
      have HST := hide hstep
      clear hstep
      go_upto_region 6 with (go_at_call 39; refine (names_any _).mono ?_; rintro e W ⟨rfl, hv, hb⟩)
      have HW := hide (HR.out.grow hb)
      have q0 := blk_cell HW.out.wc 0
      have q1 := (blk_cell HW.out.sc 0).trans hw0
      simp at q0
      have hW1 := blk_lt HW.out.wc
      have hW2 := blk_lt HW.out.sc
      clear hb hv
      go_region_with (go_at_call 39; refine (names_any _).mono ?_; rintro e V ⟨rfl, hv, hb⟩; have HV := hide (HW.out.drew.grow hb); have nn : V.cell? ⟨W.heap.size, i, none⟩ = some (.string (ba ny)) := (blk_cell hv i).trans hnv; have q0 : V.cell? ⟨w1.heap.size, 0, none⟩ = some (.slice (some ⟨sb, 0, none⟩) ws.length cap) := blk_cell HV.out.wc 0; have q1 := (blk_cell HV.out.sc 0).trans hw0; have hV1 := blk_lt HV.out.wc; have hV2 := blk_lt HV.out.sc; clear hb hv)
      all_goals
        clear HW q0 q1 hW1 hW2 nn hV1 hV2
        have n0 := blk_cell HV.out.nc 0
        have nf := blk_frozen HV.out.nc 0
        simp [ndA] at n0
        have hnl := blk_lt HV.out.nc
        have HCB := hide (show ((ba ny).toList == (ba y).toList) = decide (ny = y) by rw [ByteArray.toList_eq, ByteArray.toList_eq, ba_list, ba_list]; by_cases h : ny = y <;> simp [h])
        have HN := hide (HV.out.n0 (i : Int))
        generalize ((ba ny).toList == (ba y).toList) = cb at HCB ⊢
        cases cb
        · have hyy : ny ≠ y := of_decide_eq_false HCB.out.symm
          have HS2 := hide (show opS y (i + 1) = opS y i by rw [HST.out, if_neg (fun q => hyy (Option.some.inj q))])
          clear HST HOS HOL HCS hnv hny hyy HR HCB HN
          go_wp2_with fail
          go_roundw
          case rel => exact ⟨i + 1, by omega, by go_num, (by rw [HS2.out]; exact HV.out)⟩
          case measure => simp [intOf]; omega
        · have hyy : ny = y := of_decide_eq_true HCB.out.symm
          have HS2 := hide (show opS y (i + 1) = (i : Int) by rw [HST.out, if_pos (by rw [hyy])])
          clear HST HOS HOL HCS hnv hny hyy HR HCB HV
          go_wp2_with fail
          go_roundw
          case rel => exact ⟨i + 1, by omega, by go_num, (by rw [HS2.out]; exact HN.out)⟩
          case measure => simp [intOf]; omega
    · have ei : i = 13 := by omega
      subst ei
      rw [HOS.out] at HR HOL
      have hor : opI ws = -1 ∨ (0 ≤ opI ws ∧ opI ws ≤ 12) := by have := HOL.out; omega
      have hcl := fl_all hor
      obtain ⟨D, A, Bq, T, O, E, hF⟩ : ∃ D A B T O E, Fl (opI ws) D A B T O E := ⟨_, _, _, _, _, _, ⟨rfl, rfl, rfl, rfl, rfl, rfl⟩⟩
      have HF := hide hF
      have hfl := fields_fl hF
      have HCL := hide hcl
      clear hcl hF HOS HOL hlt hi hw0
      generalize hop : opI ws = op at *
      go_upto_region 9 with (first
        | (go_at_call 39; refine (names_any _).mono ?_; rintro e W ⟨rfl, hv, hb⟩; have HW := hide (HR.out.grow hb); have n0 := blk_cell HW.out.nc 0; simp [ndA] at n0; have hnl := blk_lt HW.out.nc; clear hb hv)
        | (go_at_call 19; refine (hfl _).mono ?_; rintro e w' ⟨rfl, rfl⟩))
      have HK := hide (HW.out.k 1)
      have ho := HK.out.ord
      have hnk : nb ≠ w'.heap.size := by omega
      have hkn : w'.heap.size ≠ nb := by omega
      have HO := hide ho
      clear HW n0 hnl ho hnb HR
      go_upto_region 11 with fail
      generalize hX : w'.alloc (.cells #[.int .i64 1] 3) = X at HK ⊢
      clear hX
      generalize w'.heap.size = kb at *
      obtain ⟨n0, n1, n2, n3, n4, n5, c0, nf, kf, s1, s2⟩ := HK.out.facts
      simp only at n0 n1 n2 n3 n4 n5
      rcases HCL.out with q | q | q | q | q | q | q | q
      all_goals
        obtain ⟨g1, g2, g3, g4, g5, g6⟩ := HF.out
        obtain ⟨k1, k2, k3, k4, k5, k6⟩ := q
        have k7 : (op == 1) = !(op != 1) := by simp [bne]
        have HGN := hide (show gN ws = gF op _ _ _ _ _ ws by unfold gN; rw [hop, k1, k2, k3, k4, k5, k7, k6])
        clear k7
        rw [k1] at g1
        rw [k2] at g2
        rw [k3] at g3
        rw [k4] at g4
        rw [k5] at g5
        rw [k6] at g6
        subst g1 g2 g3 g4 g5 g6
      all_goals
        clear HCL HF hfl
        go_upto_region 23 with (go_at_call 45; refine (take_at HCS.out (by refine And.intro (by repeat (first | with_reducible exact HK.out | with_reducible apply GS.setk | with_reducible apply GS.n1 | with_reducible apply GS.n2 | with_reducible apply GS.n3 | with_reducible apply GS.n4)) ?_; omega)).mono ?_; rintro e Y ⟨rfl, hG⟩; have HK := hide hG; clear hG n0 n1 n2 n3 n4 n5 c0 nf kf s1 s2; obtain ⟨n0, n1, n2, n3, n4, n5, c0, nf, kf, s1, s2⟩ := HK.out.facts; simp only at n0 n1 n2 n3 n4 n5)
        refine wp_world (p := fun W => GS w.heap.size w1.heap.size nb kb sb _ cap ws.length cs _ w W) (by repeat (first | with_reducible exact HK.out | with_reducible apply GS.setk | with_reducible apply GS.n1 | with_reducible apply GS.n2 | with_reducible apply GS.n3 | with_reducible apply GS.n4 | with_reducible apply GS.n5)) ?_
        intro Z hz
        have HZ := hide hz
        clear hz n0 n1 n2 n3 n4 n5 c0 nf kf s1 s2 HK
        obtain ⟨n0, n1, n2, n3, n4, n5, c0, nf, kf, s1, s2⟩ := HZ.out.facts
        simp only at n0 n1 n2 n3 n4 n5
        go_wp2_with (refine wpList_plain rfl fun _ hK => wp_store_row _ _ _ rfl _ #[.int .i64 _, .int .i64 _, .int .i64 _, .int .i64 _, .int .i64 _, .int .i64 _] rfl rfl _ _ HZ.out.rb z6_size rfl (six_one _ _ _ _ _ _) (hK _ _ ?_))
        refine bodyPost_ret (results_cell_row Tryd.results25 _ _ _ _ _ _ _ rfl (setRow_heap _ _ _ _ _ _ HZ.out.rb) Tryd.underlying49 rfl z6_size) rfl ⟨?_, HZ.out.bl.trans ⟨rfl, rfl, rfl, by simp, fun k hk => setRow_other _ _ _ _ (by omega)⟩⟩
        rw [HGN.out]
        rfl

end Go.Proofs.YtoikglgnmjjpcaaDoor
