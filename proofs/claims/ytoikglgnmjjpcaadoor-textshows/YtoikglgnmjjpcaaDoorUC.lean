/-
  hoistwayref.ProgText, Said, cut, walked.
-/
import Derived.Test.YtoikglgnmjjpcaaDoorUB
namespace Go.Proofs.YtoikglgnmjjpcaaDoor
open Go.RowKit Go.Maps Go.ChangeMaps
set_option linter.unusedVariables false

set_option maxHeartbeats 8000000 in
set_option maxRecDepth 100000 in
theorem progText_any (r : Int) (a : Option Addr) (cap : Nat) (ns : List Nd) (w : World) (hN : SlN w a ns) (ha : ∀ x ∈ ns, -9223372036854775808 ≤ x.a ∧ x.a ≤ 9223372036854775807) (hc : chk r ns = 0) :
    Calls Tryd.prog 7 #[.agg #[.int .i64 r, .slice a ns.length cap]] w fun e w' => e = .returned (.string (ba (showB r ns))) ∧ Below w.heap.size w w' := by
  obtain ⟨hl1, hr1, _⟩ := chk_full hc
  obtain ⟨b, off, rfl, hNN⟩ := hN.some hl1.1
  have hblt := hNN.lt
  have HT := hide (fun (x : Nd) (hx : x ∈ ns) => tx_of hc hx (ha x hx))
  clear ha hN hc
  have hdg := digits_any r (by omega)
  have hbz : (ba (Lib.itoa r)).size ≤ 20 := by rw [ba_size]; exact itoa_len20 (by omega)
  have he : (⟨#[114, 101, 103, 115, 32]⟩ : ByteArray) ++ ba (Lib.itoa r) ++ ⟨#[10]⟩ = ba (shK r ns 0) := by
    rw [show (⟨#[114, 101, 103, 115, 32]⟩ : ByteArray) = ba regsW from rfl, c10, ba_app, ba_app]
    rfl
  have HE := hide he
  clear he
  generalize ba (Lib.itoa r) = A at hdg hbz HE
  have hb0 : Below w.heap.size w (w.alloc (.cells #[.int .i64 r, .slice (some ⟨b, off, none⟩) ns.length cap] 24)) := (Below.refl _ _).alloc (Nat.le_refl _) _
  have hp0 : (w.alloc (.cells #[.int .i64 r, .slice (some ⟨b, off, none⟩) ns.length cap] 24)).heap[w.heap.size]? = some (.cells #[.int .i64 r, .slice (some ⟨b, off, none⟩) ns.length cap] 24 (0, 0)) := blkn rfl
  go_enter Tryd.func7, Tryd.ntmps7
  go_wp2_with fail
  refine (hdg _).mono ?_
  rintro e w1 ⟨rfl, hb1⟩
  have hp1 := (hb1.block w.heap.size (by simp)).trans hp0
  have hB1 := hb0.trans (hb1.mono hb0.size)
  clear hb1 hp0 hb0 hdg
  go_wp2_with fail
  rw [HE.out]
  go_loopw [3, 4] (fun v3 v4 wr => ∃ k : Nat, k ≤ ns.length ∧ v3 = .string (ba (shK r ns k)) ∧ v4 = .int .i64 k ∧ Hid (wr.heap[w.heap.size]? = some (.cells #[.int .i64 r, .slice (some ⟨b, off, none⟩) ns.length cap] 24 (0, 0))) ∧ Below w.heap.size w wr) (fun _ i _ => ns.length - (intOf i).toNat)
  case atStart => exact ⟨0, Nat.zero_le _, rfl, rfl, hp1, hB1⟩
  case round =>
    obtain ⟨k, hk, rfl, rfl, HP, hb⟩ := hrel
    have hN' := hNN.below hb hNN.lt
    have hlt' := hN'.lt
    have p1 := blk_cell HP.out 1
    simp at p1
    have hps := blk_lt HP.out
    clear hp1 hB1 HE
    by_cases hlt : k < ns.length
    · obtain ⟨x, hx⟩ := get_lt hlt
      have c0 := hN'.c0 k x hx
      have c1 := hN'.c1 k x hx
      have c2 := hN'.c2 k x hx
      have c3 := hN'.c3 k x hx
      have c4 := hN'.c4 k x hx
      have c5 := hN'.c5 k x hx
      have htx := HT.out x (List.mem_of_getElem? hx)
      have hln := line_any x htx
      have hll := line_len htx
      have hsl := shK_len (r := r) (ns := ns) (by omega) HT.out k
      have hz : (ba (lineW x ++ [10])).size ≤ 64 := by rw [ba_size]; simp; omega
      have hz2 : (ba (shK r ns k)).size ≤ 140737488355328 := by rw [ba_size]; omega
      have HSU := hide (show ba (shK r ns (k + 1)) = ba (shK r ns k) ++ ba (lineW x ++ [10]) by rw [ba_app, shK_succ (r := r) hx])
      generalize ba (lineW x ++ [10]) = L at hln hz HSU
      generalize ba (shK r ns k) = S at hz2 HSU
      clear hx htx hN' hsl hll
      go_wp2_with fail
      refine (hln _).mono ?_
      rintro e w2 ⟨rfl, hb2⟩
      have HB2 := hide (hb.trans (hb2.mono hb.size))
      have HP2 := hide ((hb2.block _ hps).trans HP.out)
      clear hb2 c0 c1 c2 c3 c4 c5 p1
      go_wp2_with fail
      go_roundw
      case rel => exact ⟨k + 1, by omega, by rw [HSU.out], by go_num, HP2, HB2.out⟩
      case measure => simp [intOf]; omega
    · have ek : k = ns.length := by omega
      subst ek
      rw [shK_all]
      go_wp2_with fail
      go_ret
      exact ⟨rfl, hb⟩

def SaidEnd (v : Int) (e : Ending) : Prop := ∃ ok, e = .returned (.tuple #[.int .i64 v, .bool ok])

theorem ba_idx {l : List UInt8} {i : Nat} {b : UInt8} (h : l[i]? = some b) {S : ByteArray} (hS : ba l = S) : ∀ h : i < S.size, S[i]'h = b := by
  subst hS
  intro hi
  obtain ⟨h1, h2⟩ := List.getElem?_eq_some_iff.1 h
  show (ba l).data[i] = b
  simpa [ba] using h2

set_option maxHeartbeats 8000000 in
set_option maxRecDepth 100000 in
theorem said_any (l : List UInt8) (w : World) (hl : l.length ≤ 140737488355328) :
    Calls Tryd.prog 24 #[.string (ba l)] w fun e w' => SaidEnd (svB l) e ∧ Below w.heap.size w w' := by
  have hs : (ba l).size = l.length := ba_size l
  by_cases h20 : 20 < l.length
  · have e0 : svB l = 0 := by unfold svB; rw [if_pos h20]
    rw [e0]
    generalize ba l = S at hs
    go_enter Tryd.func24, Tryd.ntmps24
    go_wp2_with fail
    exact bodyPost_ret (v := .tuple #[.int .i64 0, .bool false]) (by simp [results, Tryd.results24, go_sem]) rfl ⟨⟨_, rfl⟩, Below.refl _ _⟩
  · have HI := hide (fun (i : Nat) (b : UInt8) (h : l[i]? = some b) => ba_idx h (S := ba l) rfl)
    have hvs : okS l = true → svB l = if minus l then foldS l else wrap64 (-foldS l) := fun h => by unfold svB; rw [if_neg h20, if_pos h]
    have hvn : okS l = false → svB l = 0 := fun h => by unfold svB; rw [if_neg h20, h]; rfl
    have HV := hide (And.intro hvs hvn)
    clear hvs hvn
    generalize svB l = V at HV ⊢
    generalize ba l = S at hs HI ⊢
    go_enter Tryd.func24, Tryd.ntmps24
    go_wp2_with fail
    go_loopw [4, 5] (fun v4 v5 wr => ∃ k : Nat, k ≤ l.length ∧ v4 = .int .i64 (foldS (l.take k)) ∧ v5 = .int .i64 k ∧ Hid (okS (l.take k) = true) ∧ w = wr) (fun _ i _ => l.length - (intOf i).toNat)
    case atStart => exact ⟨0, Nat.zero_le _, rfl, rfl, rfl, rfl⟩
    case round =>
      obtain ⟨k, hk, rfl, rfl, HO, rfl⟩ := hrel
      by_cases hlt : k < l.length
      · obtain ⟨b, hb⟩ : ∃ b, l[k]? = some b := ⟨_, List.getElem?_eq_getElem hlt⟩
        have hbk := HI.out k b hb
        have HB := hide hb
        have HST := hide (foldS_succ hb)
        clear hb
        generalize foldS (l.take k) = F at HST ⊢
        by_cases h45 : k = 0 ∧ b = 45
        · obtain ⟨rfl, rfl⟩ := h45
          go_wp2_with fail
          go_roundw
          case rel => exact ⟨1, by omega, by rw [HST.out]; rfl, rfl, okS_succ HB.out HO.out (Or.inl ⟨rfl, rfl⟩), by first | rfl | trivial⟩
          case measure => simp [intOf]; omega
        · by_cases hdg : dg b = true
          · have hd1 : 48 ≤ b.toNat ∧ b.toNat ≤ 57 := by simpa [dg] using hdg
            have HS := hide (show stepS F b = wrap64 (wrap64 (10 * F) - ((b.toNat : Int) - 48)) by unfold stepS; rw [if_neg (by rintro rfl; simp at hd1)])
            have hlo : 48 ≤ (b.toNat : Int) := by omega
            have hhi : (b.toNat : Int) ≤ 57 := by omega
            have hn45 : ((b.toNat : Int) == 45) = false := by simp; omega
            have HD := hide hdg
            clear hdg hd1 h45
            by_cases hk0 : k = 0
            · subst hk0
              go_wp2_with fail
              go_roundw
              case rel => exact ⟨1, by omega, by rw [HST.out, HS.out], rfl, okS_succ HB.out HO.out (Or.inr HD.out), by first | rfl | trivial⟩
              case measure => simp [intOf]; omega
            · have hk1 : ((k : Int) == 0) = false := by simp; omega
              go_wp2_with fail
              go_roundw
              case rel => exact ⟨k + 1, by omega, by rw [HST.out, HS.out], by go_num, okS_succ HB.out HO.out (Or.inr HD.out), by first | rfl | trivial⟩
              case measure => simp [intOf]; omega
          · have HN := hide (HV.out.2 (okS_no HB.out (fun h => h.elim h45 hdg)))
            have hd1 : ¬ (48 ≤ b.toNat ∧ b.toNat ≤ 57) := by simpa [dg] using hdg
            have hn45 : k = 0 → ((b.toNat : Int) == 45) = false := fun hk0 => by
              have : b ≠ 45 := fun e => h45 ⟨hk0, e⟩
              have h2 : b.toNat ≠ 45 := fun e => this (UInt8.toNat_inj.1 e)
              simpa using (by omega : (b.toNat : Int) ≠ 45)
            clear hdg h45 HST HV HI
            by_cases hlo : b.toNat < 48
            · have hlo' : (b.toNat : Int) < 48 := by omega
              clear hd1
              by_cases hk0 : k = 0
              · subst hk0
                have hn45 := hn45 rfl
                go_wp2_with fail
                exact bodyPost_ret (v := .tuple #[.int .i64 0, .bool false]) (by simp [results, Tryd.results24, go_sem]) rfl ⟨⟨_, by rw [HN.out]⟩, Below.refl _ _⟩
              · have hk1 : ((k : Int) == 0) = false := by simp; omega
                clear hn45
                go_wp2_with fail
                exact bodyPost_ret (v := .tuple #[.int .i64 0, .bool false]) (by simp [results, Tryd.results24, go_sem]) rfl ⟨⟨_, by rw [HN.out]⟩, Below.refl _ _⟩
            · have hlo' : 48 ≤ (b.toNat : Int) := by omega
              have hhi' : 57 < (b.toNat : Int) := by omega
              clear hd1
              by_cases hk0 : k = 0
              · subst hk0
                have hn45 := hn45 rfl
                go_wp2_with fail
                exact bodyPost_ret (v := .tuple #[.int .i64 0, .bool false]) (by simp [results, Tryd.results24, go_sem]) rfl ⟨⟨_, by rw [HN.out]⟩, Below.refl _ _⟩
              · have hk1 : ((k : Int) == 0) = false := by simp; omega
                clear hn45
                go_wp2_with fail
                exact bodyPost_ret (v := .tuple #[.int .i64 0, .bool false]) (by simp [results, Tryd.results24, go_sem]) rfl ⟨⟨_, by rw [HN.out]⟩, Below.refl _ _⟩
      · have ek : k = l.length := by omega
        subst ek
        rw [List.take_length] at HO ⊢
        have HX := hide (HV.out.1 HO.out)
        have hff : -9223372036854775808 ≤ foldS l ∧ foldS l ≤ 9223372036854775807 := fold_fit l 0 (by omega)
        have hd1 := digits_any _ hff
        have hd2 := digits_any _ (wrap64_fit (-foldS l))
        have h3 : (l.length = 0 ∧ minus l = false) ∨ (∃ b, l[0]? = some b ∧ 0 < l.length ∧ minus l = decide (b = 45)) := by
          cases hl0 : l with
          | nil => exact Or.inl ⟨rfl, rfl⟩
          | cons b r => exact Or.inr ⟨b, rfl, by simp, by cases h : decide (b = 45) <;> simp_all [minus]⟩
        generalize foldS l = F at *
        generalize ba (Lib.itoa F) = A1 at hd1
        generalize ba (Lib.itoa (wrap64 (-F))) = A2 at hd2
        clear HV HO hff
        rcases h3 with ⟨h0, hm⟩ | ⟨b, hb, h0, hm⟩
        · rw [hm] at HX
          have HY : Hid (V = wrap64 (-F)) := HX
          clear HI hm HX
          go_wp2_with (go_at_call 20; with_reducible refine (hd2 _).mono ?_; rintro e X ⟨rfl, hb⟩)
          exact bodyPost_ret (v := .tuple #[.int .i64 (wrap64 (-F)), .bool (A2.toList == S.toList)]) (by simp [results, Tryd.results24, go_sem]) rfl ⟨⟨_, by rw [HY.out]⟩, hb⟩
        · have hbk := HI.out 0 b hb
          have h00 : ((l.length : Int) == 0) = false := by rw [beq_eq_false_iff_ne]; omega
          clear HI hb
          by_cases hb45 : b = 45
          · subst hb45
            rw [hm] at HX
            have HY : Hid (V = F) := HX
            clear hm HX
            go_wp2_with (go_at_call 20; with_reducible refine (hd1 _).mono ?_; rintro e X ⟨rfl, hb⟩)
            exact bodyPost_ret (v := .tuple #[.int .i64 (F), .bool (A1.toList == S.toList)]) (by simp [results, Tryd.results24, go_sem]) rfl ⟨⟨_, by rw [HY.out]⟩, hb⟩
          · rw [hm, decide_eq_false hb45] at HX
            have HY : Hid (V = wrap64 (-F)) := HX
            clear HX
            have hn45 : ((b.toNat : Int) == 45) = false := by
              have h2 : b.toNat ≠ 45 := fun e => hb45 (UInt8.toNat_inj.1 e)
              simpa using (by omega : (b.toNat : Int) ≠ 45)
            clear hm hb45
            go_wp2_with (go_at_call 20; with_reducible refine (hd2 _).mono ?_; rintro e X ⟨rfl, hb⟩)
            exact bodyPost_ret (v := .tuple #[.int .i64 (wrap64 (-F)), .bool (A2.toList == S.toList)]) (by simp [results, Tryd.results24, go_sem]) rfl ⟨⟨_, by rw [HY.out]⟩, hb⟩


theorem owns_slice {w : World} {base : Nat} {e : TypeId} {size : Nat} {v : Value} {n : Nat} {xs : List Value} (h : w.ownsRow base e size v n xs) : ∃ a cap, v = .slice a n cap := by
  obtain ⟨_, ⟨rfl, h0⟩ | ⟨g, cap, cur, rfl, _⟩⟩ := h
  · subst h0; exact ⟨_, _, rfl⟩
  · exact ⟨_, _, rfl⟩

theorem ba_ext (l : List UInt8) (a b : Nat) : (ba l).extract a b = ba (l.extract a b) := by
  apply ByteArray.ext
  simp [ba, ByteArray.data_extract]

/-- What cut answers: the strings xs, in memory behind B. -/
def CutEnd (xs : List (List UInt8)) (B : Nat) (e : Ending) (w' : World) : Prop := ∃ a cap, e = .returned (.slice a xs.length cap) ∧ w'.ownsRow B 9 1 (.slice a xs.length cap) xs.length (strs xs)

set_option maxHeartbeats 8000000 in
set_option maxRecDepth 100000 in
theorem cut_any (c : UInt8) (m : Nat) (hm : m ≤ 300) (l : List UInt8) (w : World) (hl : l.length ≤ 140737488355328) :
    Calls Tryd.prog 23 #[.string (ba l), .int .u8 c.toNat, .int .i64 m] w fun e w' => CutEnd ((cutC c l).take m) w.heap.size e w' ∧ Below w.heap.size w w' := by
  obtain ⟨i0, hi, hz0, hz1, hz2⟩ := info_parts info_str
  have hs : (ba l).size = l.length := ba_size l
  have HI := hide (fun (i : Nat) (b : UInt8) (h : l[i]? = some b) => ba_idx h (S := ba l) rfl)
  have HX := hide (ba_ext l)
  generalize ba l = S at hs HI HX ⊢
  go_enter Tryd.func23, Tryd.ntmps23
  go_wp2_with fail
  go_loopw [7, 8, 9] (fun v7 v8 v9 wr => ∃ i : Nat, i ≤ l.length + 1 ∧ v8 = .int .i64 (stC c l i).2 ∧ v9 = .int .i64 i ∧ (stC c l i).1.length ≤ m ∧ wr.ownsRow w.heap.size 9 1 v7 (stC c l i).1.length (strs (stC c l i).1) ∧ Below w.heap.size w wr) (fun _ _ i _ => l.length + 1 - (intOf i).toNat)
  case atStart => exact ⟨0, Nat.zero_le _, rfl, rfl, Nat.zero_le _, World.ownsRow_nil _ _ _ _, Below.refl _ _⟩
  case round =>
    obtain ⟨i, hil, rfl, rfl, hlm, hown, hB⟩ := hrel
    obtain ⟨a, cap, rfl⟩ := owns_slice hown
    have hfl := stC_le c l i
    have HS := hide (And.intro (@stC_hit c l i) (And.intro (@stC_miss c l i) (And.intro (@stC_end c l m) (@stC_take c l i m hil))))
    generalize hst : stC c l i = st at *
    obtain ⟨ps, f⟩ := st
    simp only at hlm hown hfl ⊢
    have HB := hide hB
    clear hB
    by_cases hend : i = l.length + 1
    · have hne : (l.length : Int) < i := by omega
      have HXX := hide (show ps = (cutC c l).take m by subst hend; rw [hst] at HS; exact HS.out.2.2.1 hlm)
      have HO := hide hown
      clear HS HX HI hst hend hown
      generalize hL : l.length = L at *
      go_wp2_with fail
      go_ret
      exact ⟨⟨a, cap, by rw [← HXX.out]; rfl, by rw [← HXX.out]; exact HO.out⟩, HB.out⟩
    · have hile : (i : Int) ≤ l.length := by omega
      by_cases hfull : ps.length = m
      · have HXX := hide (show ps = (cutC c l).take m by exact HS.out.2.2.2 hfull)
        have HO := hide hown
        clear HS HX HI hst hown
        go_wp2_with fail
        go_ret
        exact ⟨⟨a, cap, by rw [← HXX.out]; rfl, by rw [← HXX.out]; exact HO.out⟩, HB.out⟩
      · have hlt2 : (ps.length : Int) < m := by omega
        by_cases hhit : i = l.length ∨ l[i]? = some c
        · have HN := hide (HS.out.1 hhit)
          have HEX := hide (HX.out f i)
          have hpl : ps.length ≤ 300 := by omega
          have hfi : f ≤ i := hfl
          by_cases hie : i = l.length
          · subst hie
            have hine : ((l.length : Int) == l.length) = true := by rw [beq_iff_eq]
            clear hhit HS HX HI hst
            go_upto_region 7 with fail
            go_wp2_with (at_builtin; refine wpList_append_own _ rfl (.tmp 33) (.tmp 38) 56 rfl w.heap.size 9 i0 _ 1 16 Tryd.underlying56 hi hz0 hz1 hz2 rfl (by decide) _ _ _ rfl (hown.alloc _) ⟨wr.heap.size, 0, none⟩ 1 1 [.string (S.extract f l.length)] rfl rfl ?c1 ?c2 ?c3 ?c4 ?c5 ?_)
            case c2 => rfl
            case c3 => unfold maxLen; omega
            case c4 => omega
            case c5 => have := HB.out.size; omega
            intro v' w4 hown5 hg4 _
            have hltb := hown.lt
            have hB4 : Below w.heap.size w w4 := (HB.out.alloc HB.out.size _).grown hg4 (by simp; have := HB.out.size; omega) (fun k hk => by have := (hltb k hk).1; omega)
            have hown6 : w4.ownsRow w.heap.size 9 1 v' (stC c l (l.length + 1)).1.length (strs (stC c l (l.length + 1)).1) := by
              rw [HN.out]
              rw [HEX.out] at hown5
              simpa [strs] using hown5
            have HXX := hide (And.intro hB4 hown6)
            clear hB4 hown6 hown5 hg4 hltb hown
            go_wp2_with fail
            go_roundw
            case rel => exact ⟨l.length + 1, by omega, by rw [HN.out]; go_num, by go_num, by rw [HN.out]; simp; omega, HXX.out.2, HXX.out.1⟩
            case measure => simp [intOf] <;> omega
          · have hb : l[i]? = some c := hhit.resolve_left hie
            have hbk := HI.out i c hb
            have hil2 : i < l.length := by omega
            have hine : ((i : Int) == l.length) = false := by rw [beq_eq_false_iff_ne]; omega
            clear hhit HS HX HI hst hb
            go_upto_region 7 with fail
            go_wp2_with (at_builtin; refine wpList_append_own _ rfl (.tmp 33) (.tmp 38) 56 rfl w.heap.size 9 i0 _ 1 16 Tryd.underlying56 hi hz0 hz1 hz2 rfl (by decide) _ _ _ rfl (hown.alloc _) ⟨wr.heap.size, 0, none⟩ 1 1 [.string (S.extract f i)] rfl rfl ?d1 ?d2 ?d3 ?d4 ?d5 ?_)
            case d2 => rfl
            case d3 => unfold maxLen; omega
            case d4 => omega
            case d5 => have := HB.out.size; omega
            intro v' w4 hown5 hg4 _
            have hltb := hown.lt
            have hB4 : Below w.heap.size w w4 := (HB.out.alloc HB.out.size _).grown hg4 (by simp; have := HB.out.size; omega) (fun k hk => by have := (hltb k hk).1; omega)
            have hown6 : w4.ownsRow w.heap.size 9 1 v' (stC c l (i + 1)).1.length (strs (stC c l (i + 1)).1) := by
              rw [HN.out]
              rw [HEX.out] at hown5
              simpa [strs] using hown5
            have HXX := hide (And.intro hB4 hown6)
            clear hB4 hown6 hown5 hg4 hltb hown
            go_wp2_with fail
            go_roundw
            case rel => exact ⟨i + 1, by omega, by rw [HN.out]; go_num, by go_num, by rw [HN.out]; simp; omega, HXX.out.2, HXX.out.1⟩
            case measure => simp [intOf] <;> omega
        · have HN := hide (HS.out.2.1 hhit)
          obtain ⟨b, hb⟩ : ∃ b, l[i]? = some b := ⟨_, List.getElem?_eq_getElem (show i < l.length by omega)⟩
          have hbk := HI.out i b hb
          have hil2 : i < l.length := by omega
          have hine : ((i : Int) == l.length) = false := by rw [beq_eq_false_iff_ne]; omega
          have hbc : ((b.toNat : Int) == (c.toNat : Int)) = false := by
            have : b ≠ c := fun e => hhit (Or.inr (by rw [hb, e]))
            have h2 : b.toNat ≠ c.toNat := fun e => this (UInt8.toNat_inj.1 e)
            rw [beq_eq_false_iff_ne]; omega
          have HO := hide hown
          clear hhit HS HX HI hst hb hown
          go_wp2_with fail
          go_roundw
          case rel => exact ⟨i + 1, by omega, by rw [HN.out], by go_num, by rw [HN.out]; exact hlm, by rw [HN.out]; exact HO.out, HB.out⟩
          case measure => simp [intOf]; omega

end Go.Proofs.YtoikglgnmjjpcaaDoor
