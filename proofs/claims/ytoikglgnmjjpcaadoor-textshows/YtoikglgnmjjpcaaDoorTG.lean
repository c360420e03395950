/-
  text.showNode, walked.
-/
import Derived.Test.YtoikglgnmjjpcaaDoorTF
import Derived.Test.YtoikglgnmjjpcaaDoorTD
import Derived.Test.YtoikglgnmjjpcaaDoorC
import Derived.Test.YtoikglgnmjjpcaaDoorG
import Derived.ChangeAgain
import Derived.Laws.OwnMore
namespace Go.Proofs.YtoikglgnmjjpcaaDoor
open Go.RowKit Go.Maps Go.ChangeMaps
set_option linter.unusedVariables false

theorem var_below {P : Program} {w w' : World} {n : String} {cs : Array Value} (h : w.var? P n = some cs) (hb : Below w.heap.size w w') : w'.var? P n = some cs := by
  unfold World.var? at h ⊢
  cases hg : P.globalNamed n with
  | none => rw [hg] at h; cases h
  | some g =>
    rw [hg] at h
    simp only [Option.bind_some] at h ⊢
    have hlt : g < w.heap.size := by
      rcases Nat.lt_or_ge g w.heap.size with q | q
      · exact q
      · rw [Array.getElem?_eq_none q] at h; cases h
    rw [hb.block g hlt]; exact h

theorem kept_below {w w' : World} (hb : Below w.heap.size w w') : w.keptBut w' (fun _ => False) := by
  refine ⟨hb.os, hb.output, fun i hi => ?_⟩
  rw [hb.block i hi]
  split
  · rename_i e1 e2
    rw [e1] at e2
    have := Option.some.inj e2
    injection this with a b c
    subst a b c
    exact ⟨rfl, rfl, rfl, fun _ _ => rfl⟩
  · rename_i e1 e2
    rw [e1] at e2
    have := Option.some.inj e2
    injection this with a b
    subst a b
    exact Or.inr ⟨rfl, rfl⟩
  · rfl

/-- What the world holds that the shelf's functions ask for. -/
structure Env (w : World) : Prop where
  tab : Lib.TabIs Tryd.prog w "internal/strconv.uint64pow10" .u64 Lib.pow10Tab
  syn : ∃ tp p, w.var? Tryd.prog "strconv.ErrSyntax" = some #[.iface tp p]
  rng : ∃ tp p, w.var? Tryd.prog "strconv.ErrRange" = some #[.iface tp p]
  sh : w.ShapedOpen Tryd.prog

theorem Env.below {w w' : World} (h : Env w) (hb : Below w.heap.size w w') : Env w' := by
  obtain ⟨h1, ⟨t2, p2, h2⟩, ⟨t3, p3, h3⟩, h4⟩ := h
  exact ⟨var_below h1 hb, ⟨t2, p2, var_below h2 hb⟩, ⟨t3, p3, var_below h3 hb⟩, h4.keptBut (kept_below hb) (fun _ q => q.elim)⟩

open Go.Sort in
theorem below_gr (w : World) (k : Nat) (os : Array Obj) : Below w.heap.size w (grow (w.drewN k) os) :=
  ⟨rfl, rfl, rfl, by simp [grow], fun i hi => by
    show ((w.drewN k).heap ++ os)[i]? = _
    rw [Array.getElem?_append_left (by show i < w.heap.size; omega)]
    rfl⟩

/-- The fields by their numbers. -/
def kOf (op : Int) : Nat → Int
  | 0 => k0 op | 1 => k1 op | 2 => k2 op | 3 => k3 op | _ => k4 op
def vOf (x : Nd) : Nat → Int
  | 0 => x.d | 1 => x.a | 2 => x.b | 3 => x.t | _ => x.e
def leadL (i : Nat) : List (List UInt8) := if i = 3 then [toW] else if i = 4 then [elW] else []
def fw (x : Nd) (i : Nat) : List (List UInt8) := if kOf x.op i = 0 then [] else leadL i ++ [Lib.itoa (vOf x i)]
def wl (nm : List UInt8) (x : Nd) (i : Nat) : List (List UInt8) := nm :: (List.range i).flatMap (fw x)

theorem wl_succ (nm : List UInt8) (x : Nd) (i : Nat) : wl nm x (i + 1) = wl nm x i ++ fw x i := by
  simp [wl, List.range_succ]

theorem wl_words (x : Nd) : wl (nmB x.op) x 5 = wordsB x := by
  have e0 : (k0 x.op = 0) ↔ hasD x.op = false := by unfold k0 hasD; cases wi x.op 1 9 <;> simp
  have e1 : (k1 x.op = 0) ↔ hasA x.op = false := by
    unfold k1 hasA
    by_cases h : x.op = 1
    · rw [h]; simp [wi]
    · have q1 : wi x.op 1 8 = wi x.op 2 8 := by
        cases q : wi x.op 2 8
        · have := wi_no q
          cases q' : wi x.op 1 8
          · rfl
          · have := wi_iff.1 q'; omega
        · have := wi_iff.1 q
          exact wi_iff.2 (by omega)
      rw [if_neg h, q1]
      cases (wi x.op 2 8 || wi x.op 10 12) <;> simp
  have e2 : (k2 x.op = 0) ↔ hasB x.op = false := by unfold k2 hasB; cases wi x.op 3 8 <;> simp
  have e3 : (k3 x.op = 0) ↔ hasT x.op = false := by unfold k3 hasT; cases wi x.op 0 11 <;> simp
  have e4 : (k4 x.op = 0) ↔ hasE x.op = false := by unfold k4 hasE; by_cases h : x.op = 11 <;> simp [h]
  show nmB x.op :: (fw x 0 ++ (fw x 1 ++ (fw x 2 ++ (fw x 3 ++ (fw x 4 ++ []))))) = wordsB x
  unfold fw wordsB
  show nmB x.op :: ((if k0 x.op = 0 then [] else [Lib.itoa x.d]) ++ ((if k1 x.op = 0 then [] else [Lib.itoa x.a]) ++ ((if k2 x.op = 0 then [] else [Lib.itoa x.b]) ++ ((if k3 x.op = 0 then [] else [toW, Lib.itoa x.t]) ++ ((if k4 x.op = 0 then [] else [elW, Lib.itoa x.e]) ++ []))))) = _
  simp only [e0, e1, e2, e3, e4, List.append_nil]
  cases hasD x.op <;> cases hasA x.op <;> cases hasB x.op <;> cases hasT x.op <;> cases hasE x.op <;> rfl

theorem fit_v {x : Nd} (h : Fits x) (i : Nat) : -9223372036854775808 ≤ vOf x i ∧ vOf x i ≤ 9223372036854775807 := by
  unfold vOf
  split
  · exact h.d
  · exact h.a
  · exact h.b
  · exact h.t
  · exact h.e

theorem idx_of (x : Nd) {i : Nat} (h : i < 5) (w : World) : (Instr.index 71 (.agg #[.int .i64 x.d, .int .i64 x.a, .int .i64 x.b, .int .i64 x.t, .int .i64 x.e]) (.int .i64 (i : Nat))).run Tryd.prog w = .ok (.int .i64 (vOf x i)) w := by
  match i, h with
  | 0, _ => exact idx5_0 _ _ _ _ _ w
  | 1, _ => exact idx5_1 _ _ _ _ _ w
  | 2, _ => exact idx5_2 _ _ _ _ _ w
  | 3, _ => exact idx5_3 _ _ _ _ _ w
  | 4, _ => exact idx5_4 _ _ _ _ _ w

theorem info_str : (Tryd.prog.info? 9).map (fun i => (i.zero, i.size, i.bytes)) = some (some (.string ⟨#[]⟩), 1, 16) := by kernel_rfl

def strs (l : List (List UInt8)) : List Value := l.map fun x => .string (ba x)

theorem lead_two (i : Nat) : (leadL i = [] ∧ (if (i : Int) = 3 then ba toW else if (i : Int) = 4 then ba elW else ⟨#[]⟩) = ⟨#[]⟩) ∨ ∃ y, leadL i = [y] ∧ (ba y).toList.isEmpty = false ∧ (if (i : Int) = 3 then ba toW else if (i : Int) = 4 then ba elW else ⟨#[]⟩) = ba y := by
  unfold leadL
  by_cases h3 : i = 3
  · subst h3; exact Or.inr ⟨toW, rfl, by kernel_rfl, rfl⟩
  · by_cases h4 : i = 4
    · subst h4; exact Or.inr ⟨elW, rfl, by kernel_rfl, rfl⟩
    · rw [if_neg (show ¬ (i : Int) = 3 by omega), if_neg (show ¬ (i : Int) = 4 by omega), if_neg h3, if_neg h4]; exact Or.inl ⟨rfl, rfl⟩

theorem wl_len (nm : List UInt8) (x : Nd) : ∀ i, (wl nm x i).length ≤ 1 + 2 * i
  | 0 => by simp [wl]
  | i + 1 => by
    have h := wl_len nm x i
    have : (fw x i).length ≤ 2 := by
      unfold fw leadL
      split
      · simp
      · split
        · simp
        · split <;> simp
    rw [wl_succ, List.length_append]
    omega

theorem sum_21 : ∀ (l : List (List UInt8)), (∀ y ∈ l, y.length ≤ 20) → (l.map fun y => y.length + 1).sum ≤ 21 * l.length
  | [], _ => by simp
  | y :: l, h => by
    have h1 := sum_21 l (fun z hz => h z (List.mem_cons_of_mem _ hz))
    have h2 := h y (List.mem_cons_self ..)
    simp only [List.map_cons, List.sum_cons, List.length_cons]
    omega

theorem wl_bytes (nm : List UInt8) (x : Nd) (hf : Fits x) (hnm : nm.length ≤ 4) : (Lib.join (wl nm x 5) [32]).length ≤ 231 := by
  have h1 := join_len 32 (wl nm x 5)
  have h2 := sum_21 (wl nm x 5) ?h
  case h =>
    intro y hy
    unfold wl at hy
    rcases List.mem_cons.1 hy with rfl | hy
    · omega
    · obtain ⟨i, _, hy⟩ := List.mem_flatMap.1 hy
      unfold fw at hy
      split at hy
      · cases hy
      · rcases List.mem_append.1 hy with hy | hy
        · unfold leadL at hy
          split at hy
          · simp at hy; subst hy; decide
          · split at hy
            · simp at hy; subst hy; decide
            · cases hy
        · simp at hy; subst hy
          exact itoa_len20 (fit_v hf i)
  have h3 := wl_len nm x 5
  omega

theorem own_ne {w : World} {base b : Nat} {e t : TypeId} {size : Nat} {v : Value} {n : Nat} {xs : List Value} {vs : Array Value} (h : w.ownsRow base e size v n xs) (hb : w.heap[b]? = some (.cells vs t (0, 0))) (hte : t ≠ e) : some b ≠ v.ownBlock := by
  intro hq
  obtain ⟨_, ⟨rfl, _⟩ | ⟨g, cap, cur, rfl, _, hg, _⟩⟩ := h
  · simp [Value.ownBlock] at hq
  · simp [Value.ownBlock] at hq
    subst hq
    rw [hb] at hg
    have := Option.some.inj hg
    injection this with _ q _
    exact hte q

def kinds5 (op : Int) : Array Value := #[.int .i64 (k0 op), .int .i64 (k1 op), .int .i64 (k2 op), .int .i64 (k3 op), .int .i64 (k4 op)]
theorem kinds_at (op : Int) {i : Nat} (h : i < 5) : (kinds5 op)[i]? = some (.int .i64 (kOf op i)) := by
  match i, h with
  | 0, _ => rfl
  | 1, _ => rfl
  | 2, _ => rfl
  | 3, _ => rfl
  | 4, _ => rfl

set_option maxHeartbeats 4000000 in
set_option maxRecDepth 100000 in
theorem showNode_any (x : Nd) (nm : List UInt8) (w : World) (hE : Env w) (hf : Fits x) (hnm : nm.length ≤ 4) :
    Calls Tryd.prog 16 #[.agg #[.int .i64 x.op, .int .i64 x.d, .int .i64 x.a, .int .i64 x.b, .int .i64 x.t, .int .i64 x.e], .string (ba nm)] w fun e w' => e = .returned (.string (ba (Lib.join (wl nm x 5) [32]))) ∧ Below w.heap.size w w' := by
  obtain ⟨i0, hi, hz0, hz1, hz2⟩ := info_parts info_str
  go_enter Tryd.func16, Tryd.ntmps16
  go_wp2_with fail
  refine (of_any _ _).mono ?_
  rintro e w1 ⟨rfl, hb1⟩
  have hs1 := hb1.size
  simp only [World.size_alloc] at hs1 hb1
  have hp0 := (hb1.block w.heap.size (by omega)).trans (blk_alloc _ (blkn rfl))
  have hp1 := (hb1.block (w.heap.size + 1) (by omega)).trans (blkn (by simp))
  have hB1 : Below w.heap.size w w1 := ((((Below.refl w.heap.size w).alloc (Nat.le_refl _) _).alloc (by simp) _)).trans (hb1.mono (by omega))
  have n0 := blk_cell hp0 0
  have n1 := blk_cell hp0 1
  have n2 := blk_cell hp0 2
  have n3 := blk_cell hp0 3
  have n4 := blk_cell hp0 4
  have n5 := blk_cell hp0 5
  simp at n0 n1 n2 n3 n4 n5
  have hlt0 : w.heap.size < w1.heap.size := by omega
  have HP1 := hide hp1
  have HB1 := hide hB1
  clear hp0 hp1 hb1 hB1
  go_wp2_with (go_at_call 36; refine (values_any _ _ _ _ _ _ _).mono ?_; rintro e w2 ⟨rfl, hb2⟩)
  have hs2 := hb2.size
  simp only [World.size_alloc] at hs2 hb2
  have hk2 : w2.heap[w1.heap.size]? = some (.cells (kinds5 x.op) 68 (0, 0)) := (hb2.block w1.heap.size (by omega)).trans (blkn rfl)
  have hp2 := (hb2.block (w.heap.size + 1) (by omega)).trans (blk_alloc _ HP1.out)
  have hB2 : Below w.heap.size w w2 := HB1.out.trans ((((Below.refl w1.heap.size w1).alloc (Nat.le_refl _) _).trans (hb2.mono (by omega))).mono (by omega))
  have hown2 : w2.ownsRow (w.heap.size + 1) 9 1 (.slice (some ⟨w.heap.size + 1, 0, none⟩) 1 1) (wl nm x 0).length (strs (wl nm x 0)) := ⟨rfl, Or.inr ⟨_, 1, _, rfl, Nat.le_refl _, hp2, Nat.le_refl _, by decide, rfl, rfl⟩⟩
  clear hb2 hp2 n0 n1 n2 n3 n4 n5 HP1
  go_loopw [5, 21] (fun v5 v21 wr => ∃ i, i ≤ 5 ∧ v21 = .int .i64 (i : Nat) ∧ wr.ownsRow (w.heap.size + 1) 9 1 v5 (wl nm x i).length (strs (wl nm x i)) ∧ wr.heap[w1.heap.size]? = some (.cells (kinds5 x.op) 68 (0, 0)) ∧ Below w.heap.size w wr) (fun _ v21 _ => (5 - intOf v21).toNat)
  case atStart => exact ⟨0, by omega, rfl, hown2, hk2, hB2⟩
  case round =>
    obtain ⟨i, hi5, rfl, hown, hK, hB⟩ := hrel
    clear hown2 hk2 hB2
    have hsz := hB.size
    have hklt := blk_lt hK
    by_cases hq5 : i = 5
    · subst hq5
      obtain ⟨hl1, ⟨_, h0⟩ | ⟨g, cap, cur, rfl, hg1, hg2, hg3, hg4, hg5, hg6⟩⟩ := hown
      · simp [wl] at h0
      go_wp2_with fail
      have e5 : (wl nm x 5).length = ((wl nm x 5).map ba).length := by simp
      have em : ((wl nm x 5).map ba).map (·.data.toList) = wl nm x 5 := by rw [List.map_map]; exact (List.map_congr_left fun y _ => rfl).trans (List.map_id _)
      have hj := Tryd.strings_Join g 0 cap ((wl nm x 5).map ba) ⟨#[32]⟩ wr ?hc (blk_lt hg2) (by have := wl_len nm x 5; rw [← e5]; omega) (by rw [← e5]; exact hg3) ?hl
      case hc =>
        intro j u hu
        rw [Nat.zero_add, blk_cell hg2 j]
        have hj : j < (wl nm x 5).length := by rw [e5]; exact (List.getElem?_eq_some_iff.1 hu).1
        have q : (strs (wl nm x 5))[j]? = some (.string u) := by
          unfold strs
          rw [show (fun y => Value.string (ba y)) = Value.string ∘ ba from rfl, ← List.map_map, List.getElem?_map, hu]; rfl
        rw [← hg6, List.getElem?_take] at q
        rw [if_pos (by omega)] at q
        simpa using q
      case hl => rw [em]; have := wl_bytes nm x hf hnm; show (Lib.join (wl nm x 5) [32]).length ≤ _; omega
      rw [← e5, em] at hj
      refine hj.mono ?_
      rintro e w3 ⟨he3, hb3⟩
      have he4 : e = .returned (.string (ba (Lib.join (wl nm x 5) [32]))) := he3
      clear he3 hj
      generalize hJ : ba (Lib.join (wl nm x 5) [32]) = J at he4
      subst he4
      go_wp2_with fail
      rename_i v hv
      cases hv
      go_ret
      exact ⟨by rw [hJ]; rfl, hB.trans (hb3.mono hsz)⟩
    · have hlt : i < 5 := by omega
      have hlti : (i : Int) < 5 := by omega
      have hix := idx_of x hlt
      have hkc := (blk_cell hK i).trans (kinds_at x.op hlt)
      have HK := hide hK
      have HB := hide hB
      have hws := wl_succ nm x i
      have hEr := hE.below hB
      have hfv := fit_v hf i
      generalize hv : vOf x i = V at hix hfv
      generalize hkv : kOf x.op i = K at hkc
      clear hK hB
      by_cases hk0 : K = 0
      · subst hk0
        have hfw : fw x i = [] := by unfold fw; rw [if_pos hkv]
        rw [hfw, List.append_nil] at hws
        go_wp2_with fail
        go_roundw
        case rel => exact ⟨i + 1, by omega, by simp, by rw [hws]; exact hown, HK.out, HB.out⟩
        case measure => simp [intOf]; omega
      · have hfw : fw x i = leadL i ++ [Lib.itoa V] := by unfold fw; rw [if_neg (by rw [hkv]; exact hk0), hv]
        rw [hfw] at hws
        rcases lead_two i with ⟨hl, hlw⟩ | ⟨y, hl, hyn, hlw⟩
        · rw [hl, List.nil_append] at hws
          go_wp2_with fail
          refine (lead_any _ _).mono ?_
          rintro e w' ⟨rfl, rfl⟩
          rw [hlw]
          go_wp2_with fail
          refine (Tryd.strconv_Itoa V hfv.1 hfv.2 _ hEr.tab).mono ?_
          rintro e w3 ⟨rfl, k3, os3, hw3⟩
          have hb3 : Below w'.heap.size w' w3 := by rw [hw3]; exact below_gr _ _ _
          clear hw3
          have hs3 := hb3.size
          have hown3 := ownsRow_below hown hb3 (Nat.le_refl _)
          have HK3 := hide ((hb3.block _ hklt).trans HK.out)
          have HB3 := hide (HB.out.trans (hb3.mono hsz))
          clear hb3 HK HB hkc
          go_wp2_with (at_builtin; refine wpList_append_own _ rfl (.tmp 37) (.tmp 40) 56 rfl (w.heap.size + 1) 9 i0 _ 1 16 Tryd.underlying56 hi hz0 hz1 hz2 rfl (by decide) _ _ _ rfl (hown3.alloc _) ⟨w3.heap.size, 0, none⟩ 1 1 [.string (ba (Lib.itoa V))] rfl rfl ?c1 ?c2 ?c3 ?c4 ?c5 ?_)
          case c1 =>
            intro j u hj
            match j, hj with
            | 0, hj => simp at hj; subst hj; simp [Addr.add, ba]
            | j + 1, hj => simp at hj
          case c2 => intro u hu; simp at hu; subst hu; rfl
          case c3 => have := wl_len nm x i; unfold maxLen; omega
          case c4 => have := wl_len nm x i; omega
          case c5 => simp; omega
          intro v' w4 hown5 hg4 _
          have hltb := hown3.lt
          have hB4 : Below w.heap.size w w4 := (HB3.out.alloc (by omega) _).grown hg4 (by simp; omega) (fun k hk => by have := (hltb k hk).1; omega)
          have hK4 := (hg4.block _ (by simp; omega) (own_ne hown3 HK3.out (by decide))).trans (blk_alloc _ HK3.out)
          have hown6 : w4.ownsRow (w.heap.size + 1) 9 1 v' (wl nm x (i + 1)).length (strs (wl nm x (i + 1))) := by
            rw [hws]; simpa [strs] using hown5
          have HX := hide (And.intro hB4 (And.intro hK4 hown6))
          clear hB4 hK4 hown6 hown5 hg4 hltb hown3 HK3 HB3
          go_wp2_with fail
          go_roundw
          case rel => exact ⟨i + 1, by omega, by simp, HX.out.2.2, HX.out.2.1, HX.out.1⟩
          case measure => simp [intOf]; omega
        · rw [hl] at hws
          go_wp2_with fail
          refine (lead_any _ _).mono ?_
          rintro e w' ⟨rfl, rfl⟩
          rw [hlw]
          go_wp2_with (at_builtin; refine wpList_append_own _ rfl (.tmp 33) (.tmp 35) 56 rfl (w.heap.size + 1) 9 i0 _ 1 16 Tryd.underlying56 hi hz0 hz1 hz2 rfl (by decide) _ _ _ rfl (hown.alloc _) ⟨w'.heap.size, 0, none⟩ 1 1 [.string (ba y)] rfl rfl ?c1 ?c2 ?c3 ?c4 ?c5 ?_)
          case c1 =>
            intro j u hj
            match j, hj with
            | 0, hj => simp at hj; subst hj; simp [Addr.add, ba]
            | j + 1, hj => simp at hj
          case c2 => intro u hu; simp at hu; subst hu; rfl
          case c3 => have := wl_len nm x i; unfold maxLen; omega
          case c4 => have := wl_len nm x i; omega
          case c5 => simp; omega
          intro v3 w3 hown3 hg3 _
          have hltb := hown.lt
          have hs3 := hg3.size
          simp only [World.size_alloc] at hs3
          have hB3 : Below w.heap.size w w3 := (HB.out.alloc (by omega) _).grown hg3 (by simp; omega) (fun k hk => by have := (hltb k hk).1; omega)
          have hK3 := (hg3.block _ (by simp; omega) (own_ne hown HK.out (by decide))).trans (blk_alloc _ HK.out)
          have hE3 := hE.below hB3
          have HX3 := hide (And.intro hB3 hK3)
          clear hB3 hK3 hg3 hltb hown HK HB hkc
          go_wp2_with fail
          refine (Tryd.strconv_Itoa V hfv.1 hfv.2 _ hE3.tab).mono ?_
          rintro e w4 ⟨rfl, k4, os4, hw4⟩
          have hb4 : Below w3.heap.size w3 w4 := by rw [hw4]; exact below_gr _ _ _
          clear hw4
          have hs4 := hb4.size
          have hown4 := ownsRow_below hown3 hb4 (Nat.le_refl _)
          have HK4 := hide ((hb4.block _ (by omega)).trans HX3.out.2)
          have HB4 := hide (HX3.out.1.trans (hb4.mono (by omega)))
          clear hb4 HX3 hown3
          go_wp2_with (at_builtin; refine wpList_append_own _ rfl (.tmp 37) (.tmp 40) 56 rfl (w.heap.size + 1) 9 i0 _ 1 16 Tryd.underlying56 hi hz0 hz1 hz2 rfl (by decide) _ _ _ rfl (hown4.alloc _) ⟨w4.heap.size, 0, none⟩ 1 1 [.string (ba (Lib.itoa V))] rfl rfl ?c1 ?c2 ?c3 ?c4 ?c5 ?_)
          case c1 =>
            intro j u hj
            match j, hj with
            | 0, hj => simp at hj; subst hj; simp [Addr.add, ba]
            | j + 1, hj => simp at hj
          case c2 => intro u hu; simp at hu; subst hu; rfl
          case c3 => have := wl_len nm x i; unfold maxLen; omega
          case c4 => have := wl_len nm x i; omega
          case c5 => simp; omega
          intro v' w5 hown5 hg5 _
          have hltb := hown4.lt
          have hB5 : Below w.heap.size w w5 := (HB4.out.alloc (by omega) _).grown hg5 (by simp; omega) (fun k hk => by have := (hltb k hk).1; omega)
          have hK5 := (hg5.block _ (by simp; omega) (own_ne hown4 HK4.out (by decide))).trans (blk_alloc _ HK4.out)
          have hown6 : w5.ownsRow (w.heap.size + 1) 9 1 v' (wl nm x (i + 1)).length (strs (wl nm x (i + 1))) := by
            rw [hws]; simpa [strs] using hown5
          have HX := hide (And.intro hB5 (And.intro hK5 hown6))
          clear hB5 hK5 hown6 hown5 hg5 hltb hown4 HK4 HB4
          go_wp2_with fail
          go_roundw
          case rel => exact ⟨i + 1, by omega, by simp, HX.out.2.2, HX.out.2.1, HX.out.1⟩
          case measure => simp [intOf]; omega

end Go.Proofs.YtoikglgnmjjpcaaDoor
