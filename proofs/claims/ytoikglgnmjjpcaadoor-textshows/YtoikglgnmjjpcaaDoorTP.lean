/-
  text.Read, walked: what it answers, whatever it is handed.
-/
import Derived.Test.YtoikglgnmjjpcaaDoorTN
namespace Go.Proofs.YtoikglgnmjjpcaaDoor
open Go.RowKit Go.Maps Go.ChangeMaps
set_option linter.unusedVariables false

theorem flat_at : ∀ (ns : List Nd) {i : Nat} {x : Nd}, ns[i]? = some x → ∀ j (v : Value), (encT x)[j]? = some v → (ns.flatMap encT)[i * 6 + j]? = some v
  | [], i, x, h => by simp at h
  | y :: ns, i, x, h => by
    intro j v hj
    have hj6 : j < 6 := (List.getElem?_eq_some_iff.1 hj).1
    cases i with
    | zero =>
      simp at h; subst h
      rw [List.flatMap_cons, Nat.zero_mul, Nat.zero_add, List.getElem?_append_left (by show j < 6; exact hj6)]
      exact hj
    | succ i =>
      rw [List.flatMap_cons, List.getElem?_append_right (by show 6 ≤ _; omega)]
      have := flat_at ns (i := i) (by simpa using h) j v hj
      rw [← this]
      congr 1
      show _ - 6 = _
      omega

theorem sl_owns {w : World} {base : Nat} {a : Option Addr} {cap : Nat} {ns : List Nd} (h : w.ownsRow base 49 6 (.slice a ns.length cap) ns.length (ns.flatMap encT)) : SlN w a ns := by
  obtain ⟨_, ⟨_, h0⟩ | ⟨g, c, cur, hv, _, hg, _, _, _, ht⟩⟩ := h
  · exact Or.inl (List.length_eq_zero_iff.1 h0)
  · injection hv with ha _ _
    subst ha
    have key : ∀ (i : Nat) (x : Nd), ns[i]? = some x → ∀ j (v : Value), (encT x)[j]? = some v → w.cell? ⟨g, 0 + i * 6 + j, none⟩ = some v := by
      intro i x hx j v hj
      have h1 := flat_at ns hx j v hj
      rw [← ht, List.getElem?_take] at h1
      split at h1
      · rw [blk_cell hg, Nat.zero_add]; simpa using h1
      · cases h1
    exact Or.inr ⟨g, 0, rfl, blk_lt hg, fun i x hx => key i x hx 0 _ rfl, fun i x hx => key i x hx 1 _ rfl, fun i x hx => key i x hx 2 _ rfl, fun i x hx => key i x hx 3 _ rfl, fun i x hx => key i x hx 4 _ rfl, fun i x hx => key i x hx 5 _ rfl⟩

theorem rdOne_fit {ws : List (List UInt8)} {k : Nat} {has lead : Bool} {k' : Nat} {v : Int} (h : rdOne ws k has lead = some (k', v)) : -9223372036854775808 ≤ v ∧ v ≤ 9223372036854775807 := by
  unfold rdOne at h
  split at h
  · split at h
    · cases h
    · split at h
      · rename_i e
        simp at h
        obtain ⟨_, rfl⟩ := h
        exact Lib.atoiAll_bounds e
      · cases h
  · simp at h
    obtain ⟨_, rfl⟩ := h
    omega

theorem rdN_fit {ws : List (List UInt8)} {x : Nd} (h : rdN ws = some x) : -9223372036854775808 ≤ x.a ∧ x.a ≤ 9223372036854775807 := by
  unfold rdN at h
  split at h
  · cases h
  · split at h
    · cases h
    · split at h
      · cases h
      · split at h
        · cases h
        · rename_i ha
          split at h
          · cases h
          · split at h
            · cases h
            · split at h
              · cases h
              · simp at h
                subst h
                exact rdOne_fit ha

theorem rdAll_fit : ∀ {ls : List (List UInt8)} {ns : List Nd}, rdAll ls = some ns → ∀ x ∈ ns, -9223372036854775808 ≤ x.a ∧ x.a ≤ 9223372036854775807
  | [], ns, h => by simp [rdAll] at h; subst h; intro x hx; cases hx
  | l :: ls, ns, h => by
    unfold rdAll at h
    split at h
    · cases h
    · rename_i y hy
      cases e : rdAll ls with
      | none => rw [e] at h; cases h
      | some m =>
        rw [e] at h
        simp at h; subst h
        intro x hx
        rcases List.mem_cons.1 hx with rfl | hx
        · exact rdN_fit hy
        · exact rdAll_fit e x hx

theorem rdP_fit {l : List UInt8} {r : Int} {ns : List Nd} (h : rdP l = some (r, ns)) : ∀ x ∈ ns, -9223372036854775808 ≤ x.a ∧ x.a ≤ 9223372036854775807 := by
  unfold rdP at h
  split at h
  · cases h
  · split at h
    · cases h
    · split at h
      · split at h
        · rename_i e
          cases e2 : rdAll _ with
          | none => rw [e2] at h; cases h
          | some m =>
            rw [e2] at h
            simp at h
            obtain ⟨_, rfl⟩ := h
            exact rdAll_fit e2
        · cases h
      · cases h

/-- Reading loosely, whatever it is handed. -/
theorem loose_any (l : List UInt8) (w : World) (hE : Env w) (hl : l.length ≤ 140737488355328) :
    Calls Tryd.prog 22 #[.string (ba l)] w fun e w' => LooseEnd (rdP l) w.heap.size e w' ∧ Below w.heap.size w w' := by
  by_cases h : 16448 < l.length
  · have e : rdP l = none := by unfold rdP; rw [if_pos h]
    rw [e]
    exact loose_long l w h hl
  · cases hc : cutC 10 (trimB l) with
    | nil => exact absurd hc (cutC_ne _ _)
    | cons l0 ls => exact loose_short l l0 ls w hE (by omega) hc

/-- What Read's answer is. -/
def ReadEnd (q : Option (Int × List Nd)) (e : Ending) (w' : World) : Prop :=
  match q with
  | none => e = .returned (.tuple #[.agg #[.int .i64 0, .slice none 0 0], .int .i64 1])
  | some (r, ns) => ∃ a cap, e = .returned (.tuple #[.agg #[.int .i64 r, .slice a ns.length cap], .int .i64 0]) ∧ SlN w' a ns

theorem ba_inj {x y : List UInt8} : ba x = ba y ↔ x = y := by
  constructor
  · intro h
    have := congrArg (fun z : ByteArray => z.data.toList) h
    simpa [ba] using this
  · rintro rfl; rfl

set_option maxHeartbeats 4000000 in
set_option maxRecDepth 100000 in
theorem read_any (l : List UInt8) (w : World) (hE : Env w) (hl : l.length ≤ 140737488355328) :
    Calls Tryd.prog 8 #[.string (ba l)] w fun e w' => ReadEnd (readB l) e w' ∧ Below w.heap.size w w' := by
  have hres : readB l = match rdP l with
    | none => none
    | some (r, ns) => if chk r ns = 0 ∧ showB r ns = l then some (r, ns) else none := rfl
  have hlo := loose_any l (w.alloc (.cells z2 24)) (hE.below ((Below.refl _ _).alloc (Nat.le_refl _) _)) hl
  cases hr : rdP l with
  | none =>
    rw [hr] at hres hlo
    go_enter Tryd.func8, Tryd.ntmps8
    go_wp2_with fail
    refine hlo.mono ?_
    rintro e w1 ⟨he, hb1⟩
    have he' : e = .returned (.tuple #[.agg #[.int .i64 0, .slice none 0 0], .bool false]) := he
    subst he'
    have hs1 := hb1.size
    simp only [World.size_alloc] at hs1 hb1
    have hp := blk_alloc (.cells z2 24) ((hb1.block w.heap.size (by omega)).trans (blkn rfl))
    have hB := (((Below.refl w.heap.size w).alloc (Nat.le_refl _) (.cells z2 24)).trans (hb1.mono (by omega))).alloc (by omega) (.cells z2 24)
    clear hb1 hlo
    go_wp2_with (refine wpList_plain rfl fun _ hK => wp_store_row _ _ _ rfl _ z2 rfl rfl _ _ hp z2_size rfl z2_one (hK _ _ ?_))
    refine bodyPost_ret (results_two Tryd.results8 _ _ _ _ _ _ _ (.int .i64 1) rfl (setRow_heap _ _ _ z2 _ _ hp) Tryd.underlying24 rfl z2_size rfl) rfl ⟨?_, hB.trans ⟨rfl, rfl, rfl, by simp, fun k hk => setRow_other _ _ _ _ (by omega)⟩⟩
    rw [hres]; rfl
  | some p =>
    obtain ⟨r, ns⟩ := p
    rw [hr] at hres hlo
    simp only at hres
    have hfit := rdP_fit hr
    by_cases hc : chk r ns = 0
    · by_cases hsh : showB r ns = l
      · rw [if_pos ⟨hc, hsh⟩] at hres
        go_enter Tryd.func8, Tryd.ntmps8
        go_wp2_with fail
        refine hlo.mono ?_
        rintro e w1 ⟨⟨a, cap, rfl, ho1⟩, hb1⟩
        have hs1 := hb1.size
        simp only [World.size_alloc] at hs1 hb1
        have hp1 := blk_alloc (.cells #[.int .i64 r, .slice a ns.length cap] 24) ((hb1.block w.heap.size (by omega)).trans (blkn rfl))
        have hB1 := (((Below.refl w.heap.size w).alloc (Nat.le_refl _) (.cells z2 24)).trans (hb1.mono (by omega))).alloc (by omega) (.cells #[.int .i64 r, .slice a ns.length cap] 24)
        have hN1 := (sl_owns ho1).below ((Below.refl w1.heap.size w1).alloc (Nat.le_refl _) (.cells #[.int .i64 r, .slice a ns.length cap] 24))
        have hE1 := hE.below hB1
        have hq1 : (w1.alloc (.cells #[.int .i64 r, .slice a ns.length cap] 24)).heap[w1.heap.size]? = some (.cells #[.int .i64 r, .slice a ns.length cap] 24 (0, 0)) := blkn rfl
        have hw1 : (w1.alloc (.cells #[.int .i64 r, .slice a ns.length cap] 24)).heap.size = w1.heap.size + 1 := by simp
        have HO1 := hide (ho1.alloc (.cells #[.int .i64 r, .slice a ns.length cap] 24))
        clear hb1 hlo ho1
        go_wp2_with fail
        refine (show_ok r a cap ns _ hN1 hE1 hfit hc).mono ?_
        rintro e w2 ⟨rfl, hb2⟩
        have hs2 := hb2.size
        have hp2 := (hb2.block _ (by rw [hw1]; omega)).trans hp1
        have hq2 := (hb2.block _ (by rw [hw1]; omega)).trans hq1
        have hN2 := hN1.below hb2
        have hB2 := hB1.trans (hb2.mono (by rw [hw1]; omega))
        have HO2 := hide (ownsRow_below HO1.out hb2 (Nat.le_refl _))
        clear hb2 hp1 hq1 hN1 hB1 hE1 HO1
        rw [hsh]
        have d0 := blk_cell hq2 0
        have d1 := blk_cell hq2 1
        simp at d0 d1
        clear hq2 hw1
        go_wp2_with (refine wpList_plain rfl fun _ hK => wp_store_row _ _ _ rfl _ #[.int .i64 r, .slice a ns.length cap] rfl rfl _ _ hp2 z2_size rfl (by simp [Value.oneCell']) (hK _ _ ?_))
        refine bodyPost_ret (results_two Tryd.results8 _ _ _ _ _ _ _ (.int .i64 0) rfl (setRow_heap _ _ _ #[.int .i64 r, .slice a ns.length cap] _ _ hp2) Tryd.underlying24 rfl z2_size rfl) rfl ⟨?_, hB2.trans ⟨rfl, rfl, rfl, by simp, fun k hk => setRow_other _ _ _ _ (by omega)⟩⟩
        rw [hres]
        refine ⟨a, cap, rfl, ?_⟩
        exact sl_owns (owns_setRow HO2.out (by simp) _)
      · rw [if_neg (fun h => hsh h.2)] at hres
        go_enter Tryd.func8, Tryd.ntmps8
        go_wp2_with fail
        refine hlo.mono ?_
        rintro e w1 ⟨⟨a, cap, rfl, ho1⟩, hb1⟩
        have hs1 := hb1.size
        simp only [World.size_alloc] at hs1 hb1
        have hp1 := blk_alloc (.cells #[.int .i64 r, .slice a ns.length cap] 24) ((hb1.block w.heap.size (by omega)).trans (blkn rfl))
        have hB1 := (((Below.refl w.heap.size w).alloc (Nat.le_refl _) (.cells z2 24)).trans (hb1.mono (by omega))).alloc (by omega) (.cells #[.int .i64 r, .slice a ns.length cap] 24)
        have hN1 := (sl_owns ho1).below ((Below.refl w1.heap.size w1).alloc (Nat.le_refl _) (.cells #[.int .i64 r, .slice a ns.length cap] 24))
        have hE1 := hE.below hB1
        have hq1 : (w1.alloc (.cells #[.int .i64 r, .slice a ns.length cap] 24)).heap[w1.heap.size]? = some (.cells #[.int .i64 r, .slice a ns.length cap] 24 (0, 0)) := blkn rfl
        have hw1 : (w1.alloc (.cells #[.int .i64 r, .slice a ns.length cap] 24)).heap.size = w1.heap.size + 1 := by simp
        clear hb1 hlo ho1
        go_wp2_with fail
        refine (show_ok r a cap ns _ hN1 hE1 hfit hc).mono ?_
        rintro e w2 ⟨rfl, hb2⟩
        have hs2 := hb2.size
        have hp2 := (hb2.block _ (by rw [hw1]; omega)).trans hp1
        have hq2 := (hb2.block _ (by rw [hw1]; omega)).trans hq1
        have hN2 := hN1.below hb2
        have hB2 := hB1.trans (hb2.mono (by rw [hw1]; omega))
        clear hb2 hp1 hq1 hN1 hB1 hE1
        have hne : ((ba (showB r ns)).toList == (ba l).toList) = false := by
          rw [ByteArray.toList_eq, ByteArray.toList_eq, ba_list, ba_list]
          simpa using hsh
        generalize ba (showB r ns) = A at hne ⊢
        go_wp2_with (refine wpList_plain rfl fun _ hK => wp_store_row _ _ _ rfl _ z2 rfl rfl _ _ hp2 z2_size rfl z2_one (hK _ _ ?_))
        refine bodyPost_ret (results_two Tryd.results8 _ _ _ _ _ _ _ (.int .i64 1) rfl (setRow_heap _ _ _ z2 _ _ hp2) Tryd.underlying24 rfl z2_size rfl) rfl ⟨?_, hB2.trans ⟨rfl, rfl, rfl, by simp, fun k hk => setRow_other _ _ _ _ (by omega)⟩⟩
        first | rfl | (rw [hres]; rfl)
    · rw [if_neg (fun h => hc h.1)] at hres
      go_enter Tryd.func8, Tryd.ntmps8
      go_wp2_with fail
      refine hlo.mono ?_
      rintro e w1 ⟨⟨a, cap, rfl, ho1⟩, hb1⟩
      have hs1 := hb1.size
      simp only [World.size_alloc] at hs1 hb1
      have hp1 := blk_alloc (.cells #[.int .i64 r, .slice a ns.length cap] 24) ((hb1.block w.heap.size (by omega)).trans (blkn rfl))
      have hB1 := (((Below.refl w.heap.size w).alloc (Nat.le_refl _) (.cells z2 24)).trans (hb1.mono (by omega))).alloc (by omega) (.cells #[.int .i64 r, .slice a ns.length cap] 24)
      have hN1 := (sl_owns ho1).below ((Below.refl w1.heap.size w1).alloc (Nat.le_refl _) (.cells #[.int .i64 r, .slice a ns.length cap] 24))
      have hE1 := hE.below hB1
      have hq1 : (w1.alloc (.cells #[.int .i64 r, .slice a ns.length cap] 24)).heap[w1.heap.size]? = some (.cells #[.int .i64 r, .slice a ns.length cap] 24 (0, 0)) := blkn rfl
      have hw1 : (w1.alloc (.cells #[.int .i64 r, .slice a ns.length cap] 24)).heap.size = w1.heap.size + 1 := by simp
      clear hb1 hlo ho1
      go_wp2_with fail
      refine (show_bad r a cap ns _ hN1 hc).mono ?_
      rintro e w2 ⟨rfl, hb2⟩
      have hs2 := hb2.size
      have hp2 := (hb2.block _ (by rw [hw1]; omega)).trans hp1
      have hq2 := (hb2.block _ (by rw [hw1]; omega)).trans hq1
      have hN2 := hN1.below hb2
      have hB2 := hB1.trans (hb2.mono (by rw [hw1]; omega))
      clear hb2 hp1 hq1 hN1 hB1 hE1
      generalize chk r ns = C at hc ⊢
      go_wp2_with (refine wpList_plain rfl fun _ hK => wp_store_row _ _ _ rfl _ z2 rfl rfl _ _ hp2 z2_size rfl z2_one (hK _ _ ?_))
      refine bodyPost_ret (results_two Tryd.results8 _ _ _ _ _ _ _ (.int .i64 1) rfl (setRow_heap _ _ _ z2 _ _ hp2) Tryd.underlying24 rfl z2_size rfl) rfl ⟨?_, hB2.trans ⟨rfl, rfl, rfl, by simp, fun k hk => setRow_other _ _ _ _ (by omega)⟩⟩
      first | rfl | (rw [hres]; rfl)

end Go.Proofs.YtoikglgnmjjpcaaDoor
