/-
  hoistwayref.ProgFrom, walked.
-/
import Derived.Test.YtoikglgnmjjpcaaDoorUF
import Derived.Deep.DeepCutAuto
namespace Go.Proofs.YtoikglgnmjjpcaaDoor
open Go.RowKit Go.Maps Go.ChangeMaps
set_option linter.unusedVariables false

def pfK (ls : List (List UInt8)) (i : Nat) : List Nd := ((ls.take i).drop 1).map gL

theorem pfK_len {ls : List (List UInt8)} {i : Nat} (h : i ≤ ls.length) : (pfK ls i).length = i - 1 := by
  unfold pfK
  rw [List.length_map, List.length_drop, List.length_take, Nat.min_eq_left h]
theorem pfK_succ {ls : List (List UInt8)} {i : Nat} {y : List UInt8} (h1 : 1 ≤ i) (h : ls[i]? = some y) : pfK ls (i + 1) = pfK ls i ++ [gL y] := by
  unfold pfK
  rw [List.take_add_one, h, List.drop_append_of_le_length, List.map_append]
  · rfl
  · rw [List.length_take]; have := (List.getElem?_eq_some_iff.1 h).1; omega
theorem pfK_end {ls : List (List UInt8)} {i : Nat} (h0 : ls ≠ []) (h1 : 1 ≤ i) (h2 : i = 1 ∨ i + 1 ≤ ls.length) (h3 : ¬ i + 1 < ls.length) : pfK ls i = (ls.dropLast.drop 1).map gL := by
  unfold pfK
  have hl : 0 < ls.length := List.length_pos_iff.2 h0
  rw [List.dropLast_eq_take]
  by_cases q : i + 1 = ls.length
  · rw [show ls.length - 1 = i by omega]
  · have e1 : i = 1 := by omega
    have e2 : ls.length = 1 := by omega
    subst e1
    rw [e2]
    cases ls with
    | nil => rfl
    | cons a t => rfl

theorem enc_one (x : Nd) : ∀ u ∈ encT x, u.oneCell' = true := by simp [encT, Value.oneCell']
theorem row_new (V : World) (x : Nd) : ∀ (j : Nat) (u : Value), (encT x)[j]? = some u → (V.alloc (.cells #[.int .i64 x.op, .int .i64 x.d, .int .i64 x.a, .int .i64 x.b, .int .i64 x.t, .int .i64 x.e] 49)).cell? (Addr.add ⟨V.heap.size, 0, none⟩ j) = some u := by
  intro j u hj
  match j, hj with
  | 0, hj => simp [encT] at hj; subst hj; simp [Addr.add]
  | 1, hj => simp [encT] at hj; subst hj; simp [Addr.add]
  | 2, hj => simp [encT] at hj; subst hj; simp [Addr.add]
  | 3, hj => simp [encT] at hj; subst hj; simp [Addr.add]
  | 4, hj => simp [encT] at hj; subst hj; simp [Addr.add]
  | 5, hj => simp [encT] at hj; subst hj; simp [Addr.add]
  | j + 6, hj => simp [encT] at hj

set_option maxHeartbeats 8000000 in
set_option maxRecDepth 100000 in
theorem progFrom_any (l : List UInt8) (w : World) (hl : l.length ≤ 140737488355328) :
    Calls Tryd.prog 9 #[.string (ba l)] w fun e w' => LooseEnd (pfB l) w.heap.size e w' ∧ Below w.heap.size w w' := by
  obtain ⟨i0, hi0, hz0, hz1, hz2⟩ := info_parts info_nodeT
  have hct := cut_any 10 259 (by omega) l (w.alloc (.cells z2 24)) hl
  rw [show (cutC 10 l).take 259 = pfL l from rfl] at hct
  have hwl : ∀ y ∈ pfL l, y.length ≤ 140737488355328 := fun y hy => Nat.le_trans (cut_lens l y (List.mem_of_mem_take hy)) hl
  have hwn : pfL l ≠ [] := cut_take_ne (c := 10) (l := l) (m := 259) (by omega)
  have hw259 : (pfL l).length ≤ 259 := by unfold pfL; rw [List.length_take]; omega
  have HB := hide (show pfB l = if chk (pfR l) (pfN l) = 0 ∧ showB (pfR l) (pfN l) = l then some (pfR l, pfN l) else none from rfl)
  have HN := hide (show pfN l = ((pfL l).dropLast.drop 1).map gL from rfl)
  have HR := hide (show pfR l = if (pfW l).length = 2 then svB ((pfW l).getD 1 []) else 0 from rfl)
  have HW := hide (show pfW l = (cutC 32 ((pfL l).headD [])).take 3 from rfl)
  generalize pfL l = ls at *
  obtain ⟨y0, hy0, hh0⟩ : ∃ y, ls[0]? = some y ∧ ls.headD [] = y := by
    cases ls with
    | nil => exact absurd rfl hwn
    | cons y r => exact ⟨y, rfl, rfl⟩
  rw [hh0] at HW
  have hc2 := fun u => cut_any 32 3 (by omega) y0 u (hwl y0 (List.mem_of_getElem? hy0))
  rw [← HW.out] at hc2
  have hwn2 : pfW l ≠ [] := by rw [HW.out]; exact cut_take_ne (by omega)
  have hwl2 : ∀ y ∈ pfW l, y.length ≤ 140737488355328 := by rw [HW.out]; exact fun y hy => Nat.le_trans (cut_lens y0 y (List.mem_of_mem_take hy)) (hwl y0 (List.mem_of_getElem? hy0))
  clear HW hh0
  generalize pfW l = ws at *
  generalize hS : ba l = S at hct ⊢
  have HS := hide hS
  clear hS
  go_enter Tryd.func9, Tryd.ntmps9
  go_wp2_with fail
  refine hct.mono ?_
  rintro e w1 ⟨⟨a, cap, rfl, ho⟩, hb1⟩
  obtain ⟨sb, cs, rfl, hsb, hsc, hcs⟩ := owns_ws ho hwn hwl
  have hs1 := hb1.size
  simp only [World.size_alloc] at hs1 hb1 hsb
  have hslt := blk_lt hsc
  have hP0 : PS w.heap.size w1.heap.size sb cs 0 (.slice none 0 0) [] w (w1.alloc (.cells #[.int .i64 0, .slice none 0 0] 24)) :=
    ⟨by omega, blk_alloc _ ((hb1.block w.heap.size (by omega)).trans (blkn rfl)), blk_alloc _ hsc, blkn rfl, World.ownsRow_nil _ _ _ _, (((Below.refl _ _).alloc (Nat.le_refl _) _).trans (hb1.mono (by omega))).alloc (by omega) _⟩
  have HP0 := hide hP0
  have c0 := (blk_cell hP0.sc 0).trans (hcs 0 y0 hy0).1
  have hlen : (0 : Int) < ls.length := by have := (List.getElem?_eq_some_iff.1 hy0).1; omega
  have HCS := hide hcs
  clear ho hb1 hct hcs hP0 hsc
  go_wp2_with fail
  refine (hc2 _).mono ?_
  rintro e w2 ⟨⟨a2, cap2, rfl, ho2⟩, hb2⟩
  obtain ⟨sb2, cs2, rfl, hsb2, hsc2, hcs2⟩ := owns_ws ho2 hwn2 hwl2
  have HP2 := hide (HP0.out.grow hb2)
  generalize hpb : w1.heap.size = pb at *
  clear hb2 HP0 hc2 c0 ho2
  go_upto_if 17 with fail
  go_cut [17] from 17 to 25 (fun _ wx => Hid (PS w.heap.size pb sb cs (pfR l) (.slice none 0 0) [] w wx))
  case first =>
    by_cases h2 : ws.length = 2
    · obtain ⟨y1, hy1⟩ : ∃ y, ws[1]? = some y := ⟨_, List.getElem?_eq_getElem (by omega)⟩
      have HRR := hide (show pfR l = svB y1 by rw [HR.out, if_pos h2, List.getD_eq_getElem?_getD, hy1]; rfl)
      obtain ⟨hc1, hyl1⟩ := hcs2 1 y1 hy1
      have c1 := (blk_cell hsc2 1).trans hc1
      have hsd := said_any y1 w2 hyl1
      have hl2 : (1 : Int) < ws.length := by omega
      have hl2' : 1 < ws.length := by omega
      have hl2e : ((ws.length : Int) == 2) = true := by rw [beq_iff_eq]; omega
      generalize ba y1 = Y1 at c1 hsd hc1
      generalize svB y1 = V1 at hsd HRR
      clear hsc2 hcs2 hc1 hy1 HR h2
      go_wp2_with fail
      refine hsd.mono ?_
      rintro e w3 ⟨⟨ok, rfl⟩, hb3⟩
      have HP3 := hide (HP2.out.grow hb3)
      obtain ⟨f0, f1, z0, z1, s0, s1⟩ := HP3.out.facts
      clear hb3 c1 hsd HP2
      go_wp2_with fail
      go_meet
      case rel => exact (by rw [HRR.out]; exact HP3.out.regs _)
    · have HRR := hide (show pfR l = 0 by rw [HR.out, if_neg h2])
      have hl2e : ((ws.length : Int) == 2) = false := by rw [beq_eq_false_iff_ne]; omega
      clear hsc2 hcs2 HR
      go_wp2_with fail
      go_meet
      case rel => exact (by rw [HRR.out]; exact HP2.out)
  case rest =>
    clear HP2 hsc2 hcs2 HR hwn2 hwl2
    have HP3 := hide hcut.out
    clear hcut
    generalize pfR l = R at *
    generalize pfN l = N at *
    go_wp2_with fail
    go_loopw [7] (fun v7 wr => ∃ (i : Nat) (sv : Value), 1 ≤ i ∧ (i = 1 ∨ i + 1 ≤ ls.length) ∧ v7 = .int .i64 i ∧ Hid (PS w.heap.size pb sb cs R sv (pfK ls i) w wr)) (fun i _ => ls.length - (intOf i).toNat)
    case atStart => exact ⟨1, _, by omega, Or.inl rfl, rfl, (by
      have e : pfK ls 1 = [] := by unfold pfK; cases ls <;> rfl
      rw [e]; exact HP3.out)⟩
    case round =>
      obtain ⟨i, sv, hi1, hi2, rfl, HP⟩ := hrel
      clear HP3
      by_cases hlt : i + 1 < ls.length
      · obtain ⟨y, hy⟩ : ∃ y, ls[i]? = some y := ⟨_, List.getElem?_eq_getElem (by omega)⟩
        have hyl := hwl y (List.mem_of_getElem? hy)
        have HSU := hide (pfK_succ hi1 hy)
        have hkl := pfK_len (ls := ls) (i := i) (by omega)
        obtain ⟨sa, scap, rfl⟩ := owns_slice HP.out.ow
        have HKL := hide hkl
        have hlti : (i : Int) + 1 < ls.length := by omega
        have hlti2 : (i : Int) < ls.length := by omega
        have c1 := (blk_cell HP.out.sc i).trans (HCS.out i y hy).1
        obtain ⟨f0, f1, z0, z1, s0, s1⟩ := HP.out.facts
        have hgs : ∀ u, Calls Tryd.prog 25 #[.string (ba y)] u fun e w' => e = .returned (.agg #[.int .i64 (gL y).op, .int .i64 (gL y).d, .int .i64 (gL y).a, .int .i64 (gL y).b, .int .i64 (gL y).t, .int .i64 (gL y).e]) ∧ Below u.heap.size u w' := fun u => guess_any y u hyl
        generalize gL y = x at *
        generalize ba y = Y at c1 hgs
        generalize pfK ls i = K at *
        have hil : K.length ≤ 259 := by omega
        clear hy hkl
        go_upto_region 9 with fail
        go_region_with (go_at_call 25; refine (hgs _).mono ?_; rintro e V ⟨rfl, hb⟩; have HV := hide (HP.out.drew.grow hb); obtain ⟨f0, f1, z0, z1, s0, s1⟩ := HV.out.facts; obtain ⟨g, cap1, w1, hrun, hown1, hgrow, hat, hgl⟩ := run_append_lies (P := Tryd.prog) (V.alloc (.cells #[.int .i64 x.op, .int .i64 x.d, .int .i64 x.a, .int .i64 x.b, .int .i64 x.t, .int .i64 x.e] 49)) 22 22 (pb + 1) 49 i0 _ 6 48 Tryd.underlying22 hi0 hz0 hz1 hz2 rfl (by decide) (.slice sa K.length scap) K.length (K.flatMap encT) (HV.out.ow.alloc _) ⟨V.heap.size, 0, none⟩ 1 1 (encT x) rfl (row_new V x) (enc_one x) (by decide) (by unfold maxLen; omega) (by omega) (by simp; omega) _ rfl; simp [go_sem] at hrun; have HO := hide hown1; have HGR := hide hgrow; have hw1 := HV.out.more _ hgrow; have k1 := blk_cell hw1 1; have kf := blk_frozen hw1 1; have ks := blk_lt hw1; simp at k1; clear hb hown1 hgrow hat hgl hw1)
        all_goals
          have HX := hide (HV.out.step _ HO.out HGR.out)
          clear HO HGR HP HV
          go_wp2_with fail
          go_roundw
          case rel => exact ⟨i + 1, _, by omega, Or.inr (by omega), by go_num, (by rw [HSU.out]; exact HX.out)⟩
          case measure => simp [intOf]; omega
      · have hKN : pfK ls i = N := by rw [HN.out]; exact pfK_end hwn hi1 hi2 hlt
        rw [hKN] at HP
        have hfit : ∀ x ∈ N, -9223372036854775808 ≤ x.a ∧ x.a ≤ 9223372036854775807 := by
          rw [HN.out]
          intro x hx
          obtain ⟨z, _, rfl⟩ := List.mem_map.1 hx
          exact gN_fit _
        clear hKN HN HCS
        obtain ⟨a, ca, rfl⟩ := owns_slice HP.out.ow
        obtain ⟨f0, f1, z0, z1, s0, s1⟩ := HP.out.facts
        have hnlt : ¬ ((i : Int) + 1 < ls.length) := by omega
        have hSl := sl_owns HP.out.ow
        have hcp := checkProg_any R a ca N wr hSl
        by_cases hc : chk R N = 0
        · rw [hc] at hcp
          have hpt := fun (u : World) (hb : Below wr.heap.size wr u) => progText_any R a ca N u (hSl.below hb) hfit hc
          by_cases hsh : showB R N = l
          · rw [hsh, HS.out] at hpt
            have HBB := hide (show pfB l = some (R, N) by rw [HB.out, if_pos ⟨hc, hsh⟩])
            clear hsh hc HB
            go_wp2_with fail
            refine hcp.mono ?_
            rintro e w3 ⟨rfl, hb3⟩
            have HP3 := hide (HP.out.grow hb3)
            obtain ⟨f0, f1, z0, z1, s0, s1⟩ := HP3.out.facts
            go_wp2_with fail
            refine (hpt _ hb3).mono ?_
            rintro e w4 ⟨rfl, hb4⟩
            have HP4 := hide (HP3.out.grow hb4)
            obtain ⟨f0, f1, z0, z1, s0, s1⟩ := HP4.out.facts
            clear hb3 hb4 hcp hpt hSl HP HP3
            go_wp2_with (refine wpList_plain rfl fun _ hK => wp_store_row _ _ _ rfl _ #[.int .i64 R, .slice a N.length ca] rfl rfl _ _ HP4.out.rb z2_size rfl (by simp [Value.oneCell']) (hK _ _ ?_))
            refine bodyPost_ret (results_two Tryd.results9 _ _ _ _ _ _ _ (.bool true) rfl (setRow_heap _ _ _ #[.int .i64 R, .slice a N.length ca] _ _ HP4.out.rb) Tryd.underlying24 rfl z2_size rfl) rfl ⟨?_, HP4.out.bl.trans ⟨rfl, rfl, rfl, by simp, fun k hk => setRow_other _ _ _ _ (by omega)⟩⟩
            rw [HBB.out]
            have ho := HP4.out.ord
            exact ⟨a, ca, rfl, ownsRow_base (owns_setRow HP4.out.ow (by omega) _) (by omega)⟩
          · have HBB := hide (show pfB l = none by rw [HB.out, if_neg (fun h => hsh h.2)])
            have hne : ((ba (showB R N)).toList == S.toList) = false := by
              rw [← HS.out, ByteArray.toList_eq, ByteArray.toList_eq, ba_list, ba_list]
              simpa using hsh
            generalize ba (showB R N) = A at hne hpt
            clear hsh hc HB
            go_wp2_with fail
            refine hcp.mono ?_
            rintro e w3 ⟨rfl, hb3⟩
            have HP3 := hide (HP.out.grow hb3)
            obtain ⟨f0, f1, z0, z1, s0, s1⟩ := HP3.out.facts
            go_wp2_with fail
            refine (hpt _ hb3).mono ?_
            rintro e w4 ⟨rfl, hb4⟩
            have HP4 := hide (HP3.out.grow hb4)
            obtain ⟨f0, f1, z0, z1, s0, s1⟩ := HP4.out.facts
            clear hb3 hb4 hcp hpt hSl HP HP3
            go_wp2_with (refine wpList_plain rfl fun _ hK => wp_store_row _ _ _ rfl _ z2 rfl rfl _ _ HP4.out.rb z2_size rfl z2_one (hK _ _ ?_))
            refine bodyPost_ret (results_two Tryd.results9 _ _ _ _ _ _ _ (.bool false) rfl (setRow_heap _ _ _ z2 _ _ HP4.out.rb) Tryd.underlying24 rfl z2_size rfl) rfl ⟨?_, HP4.out.bl.trans ⟨rfl, rfl, rfl, by simp, fun k hk => setRow_other _ _ _ _ (by omega)⟩⟩
            rw [HBB.out]; rfl
        · have HBB := hide (show pfB l = none by rw [HB.out, if_neg (fun h => hc h.1)])
          have hcb : (chk R N == 0) = false := by rw [beq_eq_false_iff_ne]; exact hc
          clear HB hfit
          generalize chk R N = C at hc hcb hcp
          go_wp2_with fail
          refine hcp.mono ?_
          rintro e w3 ⟨rfl, hb3⟩
          have HP3 := hide (HP.out.grow hb3)
          obtain ⟨f0, f1, z0, z1, s0, s1⟩ := HP3.out.facts
          clear hb3 hcp hSl HP
          go_wp2_with (refine wpList_plain rfl fun _ hK => wp_store_row _ _ _ rfl _ z2 rfl rfl _ _ HP3.out.rb z2_size rfl z2_one (hK _ _ ?_))
          refine bodyPost_ret (results_two Tryd.results9 _ _ _ _ _ _ _ (.bool false) rfl (setRow_heap _ _ _ z2 _ _ HP3.out.rb) Tryd.underlying24 rfl z2_size rfl) rfl ⟨?_, HP3.out.bl.trans ⟨rfl, rfl, rfl, by simp, fun k hk => setRow_other _ _ _ _ (by omega)⟩⟩
          rw [HBB.out]; rfl

end Go.Proofs.YtoikglgnmjjpcaaDoor
