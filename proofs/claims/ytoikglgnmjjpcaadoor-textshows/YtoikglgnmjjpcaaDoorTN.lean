/-
  text.readLoosely at a text that is not too long, walked.
-/
import Derived.Test.YtoikglgnmjjpcaaDoorTL
namespace Go.Proofs.YtoikglgnmjjpcaaDoor
open Go.RowKit Go.Maps Go.ChangeMaps
set_option linter.unusedVariables false

theorem trim_len (l : List UInt8) : (trimB l).length ≤ l.length := by
  unfold trimB Lib.trimSuffix
  split
  · rw [List.length_take]; omega
  · exact Nat.le_refl _

theorem owns_setRow {w : World} {base : Nat} {e : TypeId} {size : Nat} {v : Value} {n : Nat} {xs : List Value} (h : w.ownsRow base e size v n xs) {g : Nat} (hg : g < base) (cs : Array Value) : (w.setRow g cs).ownsRow base e size v n xs := by
  obtain ⟨h1, h2 | ⟨g', cap, cur, hv, hb, hh, hr⟩⟩ := h
  · exact ⟨h1, Or.inl h2⟩
  · exact ⟨h1, Or.inr ⟨g', cap, cur, hv, hb, by rw [setRow_other _ _ _ _ (by omega)]; exact hh, hr⟩⟩

theorem own_nem {H : Type} {P : Program} {k : TypeId} {R : Value → Option (DataW H × List MemPlace)} {m : Nat} {D : DataW H} {w : World} {base b : Nat} {e : TypeId} {size : Nat} {v : Value} {n : Nat} {xs : List Value} (h : w.ownsRow base e size v n xs) (hb : w.ownsMap P k R b m D) : some b ≠ v.ownBlock := by
  intro hq
  obtain ⟨es, clock, hm, _⟩ := hb
  obtain ⟨_, ⟨rfl, _⟩ | ⟨g, cap, cur, rfl, _, hg, _⟩⟩ := h
  · simp [Value.ownBlock] at hq
  · simp [Value.ownBlock] at hq
    subst hq
    rw [hm] at hg
    have := Option.some.inj hg
    cases this

/-- The first line read: the registers' count. -/
def rdR (l0 : List UInt8) : Option Int := if Lib.hasPrefix l0 regsW then match Lib.atoiAll (l0.drop 5) with
      | .ok v => some v
      | _ => none
    else none

theorem rdP_eq {l l0 : List UInt8} {ls : List (List UInt8)} (hl : l.length ≤ 16448) (hc : cutC 10 (trimB l) = l0 :: ls) : rdP l = match rdR l0 with
    | none => none
    | some v => (rdAll ls).map fun ns => (v, ns) := by
  unfold rdP rdR
  rw [if_neg (by omega), hc]
  simp only
  cases Lib.hasPrefix l0 regsW
  · rfl
  · simp only [if_true]
    cases Lib.atoiAll (l0.drop 5) <;> rfl

set_option maxHeartbeats 8000000 in
set_option maxRecDepth 100000 in
theorem loose_short (l l0 : List UInt8) (ls : List (List UInt8)) (w : World) (hE : Env w) (hl : l.length ≤ 16448) (hc : cutC 10 (trimB l) = l0 :: ls) :
    Calls Tryd.prog 22 #[.string (ba l)] w fun e w' => LooseEnd (rdP l) w.heap.size e w' ∧ Below w.heap.size w w' := by
  have hres := rdP_eq hl hc
  have hsz : (ba l).size = l.length := by simp [ba, ByteArray.size]
  have hli : ¬ (16448 : Int) < (l.length : Int) := by omega
  have htl := trim_len l
  have hmem : ∀ y ∈ l0 :: ls, y.length ≤ 16448 := fun y hy => by have := cut_mem 10 (trimB l) (y := y) (by rw [hc]; exact hy); omega
  have hcl : (l0 :: ls).length ≤ 16449 := by have := cut_len 10 (trimB l); rw [hc] at this; omega
  have hsp := split_any 10 (trimB l) (w.alloc (.cells z2 24)) (hE.below ((Below.refl _ _).alloc (Nat.le_refl _) _)) (by omega)
  rw [hc] at hsp
  have htr : ∀ u, Calls Tryd.prog 41 #[.string (ba l), .string ⟨#[10]⟩] u fun e w' => e = .returned (.string (ba (trimB l))) ∧ w' = u := fun u => by
    have := Tryd.strings_TrimSuffix (ba l) ⟨#[10]⟩ u (by omega)
    rw [ba_list] at this
    exact this
  generalize trimB l = tl at htr hsp
  have hcp : ∀ u, Calls Tryd.prog 42 #[.string (ba l0), .string ⟨#[114, 101, 103, 115, 32]⟩] u fun e w' => e = .returned (.tuple #[.string (ba (Lib.trimPrefix l0 regsW)), .bool (Lib.hasPrefix l0 regsW)]) ∧ w' = u := fun u => by
    have := Tryd.strings_CutPrefix (ba l0) ⟨#[114, 101, 103, 115, 32]⟩ u
    rw [ba_list] at this
    exact this
  rw [List.length_cons] at hsp
  generalize hn : ls.length = n at hsp
  have HN := hide hn
  have hn0 : (0 : Int) < (n : Int) + 1 := by omega
  clear hn
  go_enter Tryd.func22, Tryd.ntmps22
  go_wp2_with (first
    | (go_at_call 41; refine (htr _).mono ?_; rintro e w0 ⟨rfl, rfl⟩))
  refine hsp.mono ?_
  rintro e w1 ⟨rfl, hw1⟩
  have hp0 : w1.heap[w.heap.size]? = some (.cells z2 24 (0, 0)) := by rw [hw1]; exact blk_alloc _ (blkn rfl)
  have hp1 : w1.heap[w.heap.size + 1]? = some (.cells (strs (l0 :: ls)).toArray 9 (0, 0)) := by rw [hw1]; exact blkn (by simp)
  have hB1 : Below w.heap.size w w1 := by rw [hw1]; exact ((Below.refl _ _).alloc (Nat.le_refl _) _).alloc (by simp) _
  have hs1 : w.heap.size + 2 ≤ w1.heap.size := by rw [hw1]; simp
  clear hw1 hsp
  have cx : w1.cell? ⟨w.heap.size + 1, 0, none⟩ = some (.string (ba l0)) := blk_cell hp1 0
  have HP := hide hp0
  have HW := hide hp1
  have hE1 := hE.below hB1
  clear hp0 hp1
  have hal : (Lib.trimPrefix l0 regsW).length ≤ 16448 := by
    have := hmem l0 (List.mem_cons_self ..)
    unfold Lib.trimPrefix
    split
    · rw [List.length_drop]; omega
    · exact this
  go_wp2_with (first
    | (go_at_call 42; refine (hcp _).mono ?_; rintro e w0 ⟨rfl, rfl⟩))
  refine (atoi_any (ba (Lib.trimPrefix l0 regsW)) _ hE1 (by show (ba (Lib.trimPrefix l0 regsW)).data.size ≤ _; simp [ba]; omega)).mono ?_
  rintro e w2 ⟨v, er, rfl, hm, hb2⟩
  rw [ba_list] at hm
  have hs2 := hb2.size
  have hP2 := (hb2.block _ (blk_lt HP.out)).trans HP.out
  have HW2 := hide ((hb2.block _ (blk_lt HW.out)).trans HW.out)
  have hB2 := hB1.trans (hb2.mono (by omega))
  clear hb2 HP HW hE1 hB1 cx htr hcp
  cases hpre : Lib.hasPrefix l0 regsW
  · have hr : rdR l0 = none := by unfold rdR; rw [hpre]; rfl
    go_wp2_with (refine wpList_plain rfl fun _ hK => wp_store_row _ _ _ rfl _ z2 rfl rfl _ _ hP2 z2_size rfl z2_one (hK _ _ ?_))
    refine bodyPost_ret (results_two Tryd.results22 _ _ _ _ _ _ _ (.bool false) rfl (setRow_heap _ _ _ z2 _ _ hP2) Tryd.underlying24 rfl z2_size rfl) rfl ⟨?_, hB2.trans ⟨rfl, rfl, rfl, by simp, fun k hk => setRow_other _ _ _ _ (by omega)⟩⟩
    rw [hres, hr]; rfl
  · have htp : Lib.trimPrefix l0 regsW = l0.drop 5 := by unfold Lib.trimPrefix; rw [hpre]; rfl
    rw [htp] at hm
    by_cases hok : ∃ u, Lib.atoiAll (l0.drop 5) = .ok u
    · obtain ⟨u, hu⟩ := hok
      rw [hu] at hm
      obtain ⟨rfl, rfl⟩ := hm
      have hr : rdR l0 = some v := by unfold rdR; rw [hpre, hu]; rfl
      rw [hr] at hres
      simp only at hres
      have HP2 := hide hP2
      have HB2 := hide hB2
      clear hP2 hB2
      go_wp2_with fail
      refine (operations_any _).mono ?_
      rintro e w3 ⟨rfl, hM3, hb3⟩
      have hs3 := hb3.size
      simp only [World.size_alloc] at hs3 hb3 hM3
      have HP3 := hide ((hb3.block _ (by omega)).trans (blk_alloc (.cells #[.int .i64 v, .slice none 0 0] 24) HP2.out))
      have HW3 := hide ((hb3.block _ (by omega)).trans (blk_alloc (.cells #[.int .i64 v, .slice none 0 0] 24) HW2.out))
      have HQ3 : Hid (w3.heap[w2.heap.size]? = some (.cells #[.int .i64 v, .slice none 0 0] 24 (0, 0))) := (hb3.block _ (by omega)).trans (blkn rfl)
      have HB3 := hide ((HB2.out.alloc (by omega) (.cells #[.int .i64 v, .slice none 0 0] 24)).trans (hb3.mono (by omega)))
      have HM3 := hide hM3
      have hn1 : (1 : Int) ≤ (n : Int) + 1 := by omega
      clear hb3 HP2 HB2 HW2 hM3
      obtain ⟨i0, hi0, hz0, hz1, hz2⟩ := info_parts info_nodeT
      go_wp2_with fail
      · have e0 := blk_cell HQ3.out 0
        have e1 := blk_cell HQ3.out 1
        simp at e0 e1
        have hp3 := HP3.out
        refine wp_loop_rounds 1 ?_
        rw [rounds_succ]
        go_wp2_with (refine wpList_plain rfl fun _ hK => wp_store_row _ _ _ rfl _ #[.int .i64 v, .slice none 0 0] rfl rfl _ _ hp3 z2_size rfl (by simp [Value.oneCell']) (hK _ _ ?_))
        have hls : ls = [] := List.length_eq_zero_iff.1 (by rw [HN.out]; exact h)
        refine bodyPost_ret (results_two Tryd.results22 _ _ _ _ _ _ _ (.bool true) rfl (setRow_heap _ _ _ #[.int .i64 v, .slice none 0 0] _ _ hp3) Tryd.underlying24 rfl z2_size rfl) rfl ⟨?_, HB3.out.trans ⟨rfl, rfl, rfl, by simp, fun k hk => setRow_other _ _ _ _ (by omega)⟩⟩
        rw [hres, hls]
        exact ⟨none, 0, rfl, World.ownsRow_nil _ _ _ _⟩
      · go_loopw [47] (fun v47 wr => ∃ (i : Nat) (ns : List Nd) (sv : Value), i ≤ n ∧ v47 = .int .i64 (i : Nat) ∧ Hid (rdAll (ls.take i) = some ns) ∧ ns.length = i ∧ Hid (wr.heap[w2.heap.size]? = some (.cells #[.int .i64 v, sv] 24 (0, 0))) ∧ wr.ownsRow (w2.heap.size + 1) 49 6 sv ns.length (ns.flatMap encT) ∧ Hid (wr.ownsMap Tryd.prog 9 (plainElem Tryd.prog 3) (w2.heap.size + 1) 13 opD) ∧ Hid (wr.heap[w.heap.size]? = some (.cells z2 24 (0, 0))) ∧ Hid (wr.heap[w.heap.size + 1]? = some (.cells (strs (l0 :: ls)).toArray 9 (0, 0))) ∧ Below w.heap.size w wr) (fun v47 _ => n - (intOf v47).toNat)
        case atStart => exact ⟨0, [], _, by omega, rfl, rfl, rfl, HQ3, World.ownsRow_nil _ _ _ _, HM3, HP3, HW3, HB3.out⟩
        case round =>
          obtain ⟨i, ns, sv, hin, rfl, HR, hnl, HQ, hown, HM, HP, HW, hB⟩ := hrel
          clear HQ3 HM3 HP3 HW3 HB3
          have hsz := hB.size
          have hql := blk_lt HQ.out
          by_cases hlt : i < n
          · obtain ⟨y, hy⟩ := get_lt (l := ls) (k := i) (by rw [HN.out]; exact hlt)
            have hyl := hmem y (List.mem_cons_of_mem _ (List.mem_of_getElem? hy))
            have hlti : (i : Int) < (n : Int) := by omega
            have hn16 : (n : Int) ≤ 16449 := by have := HN.out; rw [List.length_cons] at hcl; omega
            have hcy : wr.cell? ⟨w.heap.size + 1, 1 + i, none⟩ = some (.string (ba y)) := (blk_cell HW.out (1 + i)).trans (by rw [List.getElem?_toArray]; unfold strs; rw [List.getElem?_map, Nat.add_comm 1 i, List.getElem?_cons_succ, hy]; rfl)
            have HO := hide hown
            have HB := hide hB
            clear hown hB
            go_wp2_with fail
            refine (readNode_any y (w2.heap.size + 1) wr (hE.below HB.out) hyl HM.out).mono ?_
            rintro e w4 ⟨rfl, hb4⟩
            have hs4 := hb4.size
            have hP4 := (hb4.block _ (blk_lt HP.out)).trans HP.out
            have hQ4 := (hb4.block _ (blk_lt HQ.out)).trans HQ.out
            have HW4 := hide ((hb4.block _ (blk_lt HW.out)).trans HW.out)
            have hB4 := HB.out.trans (hb4.mono hsz)
            have hO4 := ownsRow_below HO.out hb4 (Nat.le_refl _)
            have hM4 : w4.ownsMap Tryd.prog 9 (plainElem Tryd.prog 3) (w2.heap.size + 1) 13 opD := HM.out.kept (row := none) ⟨hb4.os, hb4.tape, hb4.output, hb4.size, fun k hk _ => hb4.block k hk⟩ (by simp)
            clear hb4 HP HQ HW HB HO HM hcy
            cases hrd : rdN (cutC 32 y) with
            | none =>
              have hno : rdAll ls = none := rdAll_stop (List.mem_of_getElem? hy) hrd
              have hP5 := blk_alloc (.cells z6 49) hP4
              have hB5 := hB4.alloc (by omega) (.cells z6 49)
              rw [show nodeV none = .agg #[.int .i64 0, .int .i64 0, .int .i64 0, .int .i64 0, .int .i64 0, .int .i64 0] from rfl, show (none : Option Nd).isSome = false from rfl]
              go_wp2_with (refine wpList_plain rfl fun _ hK => wp_store_row _ _ _ rfl _ z2 rfl rfl _ _ hP5 z2_size rfl z2_one (hK _ _ ?_))
              refine bodyPost_ret (results_two Tryd.results22 _ _ _ _ _ _ _ (.bool false) rfl (setRow_heap _ _ _ z2 _ _ hP5) Tryd.underlying24 rfl z2_size rfl) rfl ⟨?_, hB5.trans ⟨rfl, rfl, rfl, by simp, fun k hk => setRow_other _ _ _ _ (by omega)⟩⟩
              rw [hres, hno]; rfl
            | some x =>
              have hrt := rdAll_take HR.out hy hrd
              have q0 := blk_cell hQ4 0
              have q1 := blk_cell hQ4 1
              have f1 := blk_frozen hQ4 1
              simp at q0 q1
              have HQ4 := hide hQ4
              have HP4 := hide hP4
              have HB4 := hide hB4
              have HM4 := hide hM4
              have hql4 : w2.heap.size < w4.heap.size := by omega
              rw [show nodeV (some x) = .agg #[.int .i64 x.op, .int .i64 x.d, .int .i64 x.a, .int .i64 x.b, .int .i64 x.t, .int .i64 x.e] from rfl, show (some x).isSome = true from rfl]
              clear hQ4 hP4 hB4 hM4
              go_wp2_with (at_builtin; refine wpList_append_own _ rfl (.tmp 61) (.tmp 63) 22 rfl (w2.heap.size + 1) 49 i0 _ 6 48 Tryd.underlying22 hi0 hz0 hz1 hz2 rfl (by decide) _ _ _ rfl ((hO4.alloc _).alloc _) ⟨w4.heap.size + 1, 0, none⟩ 1 1 (encT x) rfl rfl ?c1 ?c2 ?c3 ?c4 ?c5 ?_)
              case c1 =>
                intro j u hj
                match j, hj with
                | 0, hj => simp [encT] at hj; subst hj; simp [Addr.add]
                | 1, hj => simp [encT] at hj; subst hj; simp [Addr.add]
                | 2, hj => simp [encT] at hj; subst hj; simp [Addr.add]
                | 3, hj => simp [encT] at hj; subst hj; simp [Addr.add]
                | 4, hj => simp [encT] at hj; subst hj; simp [Addr.add]
                | 5, hj => simp [encT] at hj; subst hj; simp [Addr.add]
                | j + 6, hj => simp [encT] at hj
              case c2 => simp [encT, Value.oneCell']
              case c3 => unfold maxLen; have := HN.out; rw [List.length_cons] at hcl; omega
              case c4 => have := HN.out; rw [List.length_cons] at hcl; omega
              case c5 => simp; omega
              intro v' w5 hO5 hg5 _
              obtain ⟨a5, c5, rfl⟩ : ∃ a c, v' = .slice a (i + 1) c := by
                rcases hO5.2 with ⟨_, h0⟩ | ⟨g, cap, cur, rfl, _⟩
                · omega
                · exact ⟨_, _, rfl⟩
              have hs5 := hg5.size
              simp only [World.size_alloc] at hs5
              have hltb := hO4.lt
              have nq := own_ne (vs := #[.int .i64 v, sv]) hO4 HQ4.out (by decide)
              have np := own_ne hO4 HP4.out (by decide)
              have nw := own_ne hO4 HW4.out (by decide)
              have nm := own_nem hO4 HM4.out
              have hQ5 := (hg5.block _ (by simp; omega) nq).trans (blk_alloc (.cells #[.int .i64 x.op, .int .i64 x.d, .int .i64 x.a, .int .i64 x.b, .int .i64 x.t, .int .i64 x.e] 49) (blk_alloc (.cells #[.int .i64 x.op, .int .i64 x.d, .int .i64 x.a, .int .i64 x.b, .int .i64 x.t, .int .i64 x.e] 49) HQ4.out))
              have HP5 := hide ((hg5.block _ (by simp; omega) np).trans (blk_alloc (.cells #[.int .i64 x.op, .int .i64 x.d, .int .i64 x.a, .int .i64 x.b, .int .i64 x.t, .int .i64 x.e] 49) (blk_alloc (.cells #[.int .i64 x.op, .int .i64 x.d, .int .i64 x.a, .int .i64 x.b, .int .i64 x.t, .int .i64 x.e] 49) HP4.out)))
              have HW5 := hide ((hg5.block _ (by simp; omega) nw).trans (blk_alloc (.cells #[.int .i64 x.op, .int .i64 x.d, .int .i64 x.a, .int .i64 x.b, .int .i64 x.t, .int .i64 x.e] 49) (blk_alloc (.cells #[.int .i64 x.op, .int .i64 x.d, .int .i64 x.a, .int .i64 x.b, .int .i64 x.t, .int .i64 x.e] 49) HW4.out)))
              have HM5 := hide (((HM4.out.alloc (.cells #[.int .i64 x.op, .int .i64 x.d, .int .i64 x.a, .int .i64 x.b, .int .i64 x.t, .int .i64 x.e] 49)).alloc (.cells #[.int .i64 x.op, .int .i64 x.d, .int .i64 x.a, .int .i64 x.b, .int .i64 x.t, .int .i64 x.e] 49)).kept hg5 nm)
              have HB5 := hide (((HB4.out.alloc (by omega) (.cells #[.int .i64 x.op, .int .i64 x.d, .int .i64 x.a, .int .i64 x.b, .int .i64 x.t, .int .i64 x.e] 49)).alloc (by simp; omega) (.cells #[.int .i64 x.op, .int .i64 x.d, .int .i64 x.a, .int .i64 x.b, .int .i64 x.t, .int .i64 x.e] 49)).grown hg5 (by simp; omega) (fun k hk => by have := (hltb k hk).1; omega))
              have r0 := blk_cell hQ5 0
              have r1 := blk_cell hQ5 1
              have g1 := blk_frozen hQ5 1
              simp at r0 r1
              have HQ5 := hide hQ5
              have HO5 := hide hO5
              clear hQ5 hO5 hg5 hltb nq np nw nm HQ4 HP4 HW4 HM4 HB4 hO4 q0 q1 f1
              go_wp2_with fail
              go_roundw
              case rel =>
                have hOf : (w5.setCell ⟨w2.heap.size, 1, none⟩ (.slice a5 (i + 1) c5)).ownsRow (w2.heap.size + 1) 49 6 (.slice a5 (i + 1) c5) (ns ++ [x]).length ((ns ++ [x]).flatMap encT) := by
                  have h5 := HO5.out
                  rw [List.length_append, List.length_singleton, hnl, List.flatMap_append, List.flatMap_singleton]
                  exact ownsRow_setCell_below h5 (by simp) _
                refine ⟨i + 1, ns ++ [x], .slice a5 (i + 1) c5, by omega, by go_num, hrt, by simp [hnl], ?_, hOf, ?_, blk_set_ne _ HP5.out (by omega), blk_set_ne _ HW5.out (by omega), HB5.out.setCell (by simp; omega) _⟩
                · show _ = _
                  rw [blk_set _ HQ5.out]; rfl
                · exact HM5.out.setCell (by simp) _
              case measure => simp [intOf]; omega
          · have HNL := hide hnl
            clear hnl
            have e0 := blk_cell HQ.out 0
            have e1 := blk_cell HQ.out 1
            simp at e0 e1
            have hp := HP.out
            obtain ⟨a, cp, rfl⟩ : ∃ a cp, sv = .slice a ns.length cp := by
              rcases hown.2 with ⟨rfl, h0⟩ | ⟨g, cap, cur, rfl, _⟩
              · exact ⟨none, 0, by rw [h0]⟩
              · exact ⟨_, _, rfl⟩
            have HO := hide hown
            have HB := hide hB
            clear hown hB
            have hfin : rdAll ls = some ns := by
              have := HR.out
              rw [List.take_of_length_le (by rw [HN.out]; omega)] at this
              exact this
            have hnlt : ¬ ((i : Int) < (n : Int)) := by omega
            go_wp2_with (refine wpList_plain rfl fun _ hK => wp_store_row _ _ _ rfl _ #[.int .i64 v, .slice a ns.length cp] rfl rfl _ _ hp z2_size rfl (by simp [Value.oneCell']) (hK _ _ ?_))
            refine bodyPost_ret (results_two Tryd.results22 _ _ _ _ _ _ _ (.bool true) rfl (setRow_heap _ _ _ #[.int .i64 v, .slice a ns.length cp] _ _ hp) Tryd.underlying24 rfl z2_size rfl) rfl ⟨?_, HB.out.trans ⟨rfl, rfl, rfl, by simp, fun k hk => setRow_other _ _ _ _ (by omega)⟩⟩
            refine ⟨a, cp, rfl, ?_⟩
            exact ownsRow_base (owns_setRow HO.out (by omega) _) (by omega)
    · have hr : rdR l0 = none := by
        unfold rdR
        rw [hpre]
        simp only [if_true]
        cases e : Lib.atoiAll (l0.drop 5) with
        | ok u => exact absurd ⟨u, e⟩ hok
        | «syntax» => rfl
        | range => rfl
      obtain ⟨N, rfl⟩ : ∃ N, er = .iface 102 (.pointer (some ⟨N, 0, none⟩)) := by
        cases e : Lib.atoiAll (l0.drop 5) with
        | ok u => exact absurd ⟨u, e⟩ hok
        | «syntax» => rw [e] at hm; exact hm
        | range => rw [e] at hm; exact hm
      go_wp2_with (refine wpList_plain rfl fun _ hK => wp_store_row _ _ _ rfl _ z2 rfl rfl _ _ hP2 z2_size rfl z2_one (hK _ _ ?_))
      refine bodyPost_ret (results_two Tryd.results22 _ _ _ _ _ _ _ (.bool false) rfl (setRow_heap _ _ _ z2 _ _ hP2) Tryd.underlying24 rfl z2_size rfl) rfl ⟨?_, hB2.trans ⟨rfl, rfl, rfl, by simp, fun k hk => setRow_other _ _ _ _ (by omega)⟩⟩
      rw [hres, hr]; rfl

end Go.Proofs.YtoikglgnmjjpcaaDoor
