/-
  Whatever program, register, number, numbers and fuel hoistwaylaw.LiveLess is handed, it returns true and leaves its arguments as they were: what a register is that is not live changes nothing, where a node ahead of all sets it. No condition.
  hoistwaylaw.LiveLess, walked.
-/
import Derived.Test.YtoikglgnmjjpcabNI
import Derived.Test.YtoikglgnmjjpcabGW
import Derived.Test.YtoikglgnmjjpcabLJ
import Derived.Test.YtoikglgnmjjpcabYR
namespace Go.Proofs.Ytoikglgnmjjpcab
open Go.RowKit Go.Shelf
set_option linter.unusedVariables false
set_option linter.unusedSimpArgs false

theorem rerr_okL {r : Int} {ns : List Nd} {il : Nat} {n : Int} (hc : chk r ns = 0) (hi : il ≤ 256) (h0 : 0 ≤ n) (h1 : n ≤ 131072) : rerr r ns il n = 0 := by
  unfold rerr
  rw [if_pos hc, if_neg (by omega), if_neg (by omega)]
theorem res_finL {r : Int} {ns : List Nd} {inp : List Int} {n : Int} (h : rerr r ns inp.length n = 0) : res r ns inp n = runN ns n.toNat (st0 r.toNat inp) := by
  unfold res
  rw [if_pos h]; rfl

theorem own_fit (r : Int) (b off cap : Nat) (ns : List Nd) (w : World) (hN : NodesAt w b off ns) (hl : 1 ≤ ns.length ∧ ns.length ≤ 256) :
    Calls Try.prog 18 #[.agg #[.int .i64 r, .slice (some ⟨b, off, none⟩) ns.length cap]] w fun e w' => ∃ cb cc, e = .returned (.agg #[.int .i64 r, .slice (some ⟨cb, 0, none⟩) ns.length cc]) ∧ w'.ownsRow w.heap.size 53 6 (.slice (some ⟨cb, 0, none⟩) ns.length cc) ns.length (ns.flatMap encNd) ∧ Below w.heap.size w w' := by
  refine (callsIn_wide.1 (ownProg_in r b off cap ns w hN (by omega))).mono ?_
  rintro e w' ⟨v, rfl, hv, hB⟩
  rcases hv.2 with ⟨_, q⟩ | ⟨g, vc, cur, rfl, _⟩
  · omega
  · exact ⟨g, vc, rfl, hv, hB⟩

theorem wp_append_run {P : Program} {o : Oper} {a : Act} {K : Act → World → Prop} {Q : Exit → Act → World → Prop} {w w' : World} (s x : Operand) (t : TypeId) (ho : o.op = .call { callee := .builtin .append, args := #[s, x], argTypes := #[t, t] }) {v xv v' : Value} (hs : a.eval s = v) (hx : a.eval x = xv) (hr : (Builtin.append_ #[t, t] o.type #[v, xv]).run P w = .ok v' w') (h : K (a.put o.dst v') w') : o.wp P a w K Q := by
  unfold Oper.wp execOp
  simp only [ho, resolve, invoke, builtin, Sem.run_bind, Sem.run_pure, Result.andThen_ok, List.map_toArray, List.map_cons, List.map_nil, hs, hx, hr]
  exact h

def pickN (c n : Int) : Int := (if c < 0 then -(c + 1) else c) % n
theorem pickN_range (c : Int) {n : Int} (hn : 1 ≤ n) : 0 ≤ pickN c n ∧ pickN c n < n := ⟨Int.emod_nonneg _ (by omega), Int.emod_lt_of_pos _ (by omega)⟩

set_option maxHeartbeats 1000000 in
theorem chooseN_any (c n : Int) (w : World) (h : -9223372036854775808 ≤ c ∧ c ≤ 9223372036854775807) (hn : 1 ≤ n ∧ n ≤ 64) :
    Calls Try.prog 14 #[.int .i64 c, .int .i64 n] w fun e w' => e = .returned (.int .i64 (pickN c n)) ∧ w' = w := by
  have hn0 : n ≠ 0 := by omega
  have hnb : (n == 0) = false := by simp [hn0]
  by_cases h0 : c < 0
  · go_enter Try.func14, Try.ntmps14
    go_wp2
    go_ret
    refine ⟨ret_int ?_, rfl⟩
    have e : (c + 1).tmod n = -((-(c + 1)).tmod n) := by rw [Int.neg_tmod]; omega
    rw [e, Int.tmod_eq_emod_of_nonneg (by omega), pickN, if_pos h0, Int.neg_neg]
  · go_enter Try.func14, Try.ntmps14
    go_wp2
    go_ret
    refine ⟨ret_int ?_, rfl⟩
    rw [pickN, if_neg (by omega)]

set_option maxRecDepth 100000 in
set_option maxHeartbeats 4000000 in
theorem liveLess_wrong (r : Int) (a : Option Addr) (cap : Nat) (ns : List Nd) (reg value : Int) (ia : Option Addr) (ic il : Nat) (fuel : Int) (w : World) (hN : SlN w a ns) (hc : chk r ns ≠ 0) :
    Calls Try.prog 5 #[.agg #[.int .i64 r, .slice a ns.length cap], .int .i64 reg, .int .i64 value, .slice ia il ic, .int .i64 fuel] w fun e w' => e = .returned (.bool true) ∧ Below w.heap.size w w' := by
  have hcb : (chk r ns == 0) = false := by simp [hc]
  have hcn : (chk r ns != 0) = true := by simp [hc]
  have HD := hide (fun W (h : Below w.heap.size w W) => live_wrong r a cap ns W (hN.below h) hc)
  clear hc hN
  generalize chk r ns = C at *
  have hb0 : Below w.heap.size w (w.alloc (.cells #[.int .i64 r, .slice a ns.length cap] 24)) := (Below.refl _ w).alloc (Nat.le_refl _) _
  have hp0 : (w.alloc (.cells #[.int .i64 r, .slice a ns.length cap] 24)).heap[w.heap.size]? = some (.cells #[.int .i64 r, .slice a ns.length cap] 24 (0, 0)) := World.alloc_heap_new w _
  go_enter Try.func5, Try.ntmps5
  go_upto_region 1 with fail
  generalize (w.alloc (.cells #[.int .i64 r, .slice a ns.length cap] 24)) = W0 at hb0 hp0 ⊢
  have p0 := blk_cell hp0 0
  have p1 := blk_cell hp0 1
  simp at p0 p1
  have pl := blk_lt hp0
  have HB0 := hide hb0
  clear hb0 hp0
  go_upto_region 2 with (go_at_call 6; refine (HD.out _ HB0.out).mono ?_; rintro e w1 ⟨rfl, hb1⟩)
  have HB1 := hide (HB0.out.trans (hb1.mono HB0.out.size))
  clear hb1 HB0 p0 p1 pl
  go_wp2_with fail
  refine (liveBegun_any _).mono ?_
  rintro e w4 ⟨rfl, hb4⟩
  go_wp2
  go_ret
  exact ⟨by first | rfl | simp, HB1.out.trans (hb4.mono HB1.out.size)⟩

theorem not_live_of {ns : List Nd} {d : Int} (h0 : 0 ≤ d ∧ d < 64) (h : ∀ y ∈ ints (lvL ns 64 0), y ≠ d) : liveB ns d.toNat 0 = false := by
  cases hb : liveB ns d.toNat 0
  · rfl
  · exact absurd (show ((d.toNat : Nat) : Int) = d by omega) (h _ (List.mem_map.2 ⟨d.toNat, mem_lvL.2 ⟨by omega, hb⟩, rfl⟩))

set_option maxRecDepth 100000 in
set_option maxHeartbeats 40000000 in
theorem liveLess_right (r : Int) (b off cap : Nat) (ns : List Nd) (reg value : Int) (ia : Option Addr) (ic : Nat) (inp : List Int) (fuel : Int) (w : World) (hN : NodesAt w b off ns) (hI : IntsAt w ia inp) (hic : inp.length ≤ ic) (hil : inp.length ≤ 9223372036854775807) (hrg : -9223372036854775808 ≤ reg ∧ reg ≤ 9223372036854775807) (hf : -9223372036854775808 ≤ fuel ∧ fuel ≤ 9223372036854775807) (hc : chk r ns = 0) :
    Calls Try.prog 5 #[.agg #[.int .i64 r, .slice (some ⟨b, off, none⟩) ns.length cap], .int .i64 reg, .int .i64 value, .slice ia inp.length ic, .int .i64 fuel] w fun e w' => e = .returned (.bool true) ∧ Below w.heap.size w w' := by
  have HFEW := hide (fun u => few_any ia ic inp u hic hil)
  have hJ := hI.take 256
  have hj256 : (inp.take 256).length ≤ 256 := by simp; omega
  have hjc : (inp.take 256).length ≤ ic := by simp; omega
  have hjl : (inp.take 256).length ≤ 9223372036854775807 := by omega
  generalize inp.take 256 = jn at HFEW hJ hj256 hjc hjl
  have hpf := pickC_range fuel
  have HC := hide hc
  have hl := (chk_full hc).1
  have hr := (chk_full hc).2.1
  have HN := hide hN
  have HJ := hide hJ
  have HL := hide (fun W (h : Below w.heap.size w W) => live_right r b off cap ns W (hN.below h hN.lt) hc)
  have hb0 : Below w.heap.size w (w.alloc (.cells #[.int .i64 r, .slice (some ⟨b, off, none⟩) ns.length cap] 24)) := (Below.refl _ w).alloc (Nat.le_refl _) _
  have hp0 : (w.alloc (.cells #[.int .i64 r, .slice (some ⟨b, off, none⟩) ns.length cap] 24)).heap[w.heap.size]? = some (.cells #[.int .i64 r, .slice (some ⟨b, off, none⟩) ns.length cap] 24 (0, 0)) := World.alloc_heap_new w _
  clear hc hN hI hJ hil
  go_enter Try.func5, Try.ntmps5
  go_upto_region 1 with fail
  generalize (w.alloc (.cells #[.int .i64 r, .slice (some ⟨b, off, none⟩) ns.length cap] 24)) = W0 at hb0 hp0 ⊢
  have p0 := blk_cell hp0 0
  have p1 := blk_cell hp0 1
  simp at p0 p1
  have pl := blk_lt hp0
  have HB0 := hide hb0
  have HP0 := hide hp0
  clear hb0 hp0
  go_upto_region 2 with (go_at_call 6; refine (HL.out _ HB0.out).mono ?_; rintro e w1 ⟨rb, rfl, hR1, hb1⟩)
  have HB1 := hide (HB0.out.trans (hb1.mono HB0.out.size))
  have HP1 := hide ((hb1.block _ pl).trans HP0.out)
  have HR1 := hide hR1
  replace p0 := (hb1.cell (p := ⟨w.heap.size, 0, none⟩) pl).trans p0
  replace p1 := (hb1.cell (p := ⟨w.heap.size, 1, none⟩) pl).trans p1
  replace pl := Nat.lt_of_lt_of_le pl hb1.size
  clear hb1 HB0 HP0 hR1
  by_cases h256 : ns.length = 256
  · have hi6 : ((ns.length : Int) == 256) = true := by simp; omega
    clear h256
    go_wp2_with fail
    refine (liveBegun_any _).mono ?_
    rintro e w4 ⟨rfl, hb4⟩
    go_wp2
    go_ret
    exact ⟨by first | rfl | simp, HB1.out.trans (hb4.mono HB1.out.size)⟩
  · have hi6 : ((ns.length : Int) == 256) = false := by simp; omega
    have h255 : ns.length < 256 := by omega
    clear h256
    have hcn := chooseN_any reg r w1 hrg hr
    have hdr := pickN_range reg hr.1
    generalize pickN reg r = d at hcn hdr
    have HCN := hide hcn
    clear hcn
    obtain ⟨a0, c0, r0, i0⟩ := HR1.out.read.row 0 (by omega)
    have rl := HR1.out.read.lt
    have HI0 := hide i0
    have HIL := hide (ints_len (lvL ns 64 0))
    have hfw : (lvL ns 64 0).length ≤ 64 := Nat.le_trans (List.length_filter_le _ _) (by simp)
    have hz : (0 : Int) < (ns.length : Int) := by omega
    clear i0
    go_upto_region 7 with (go_at_call 14; refine HCN.out.mono ?_; rintro e w3 ⟨rfl, hw3⟩; subst w3)
    go_wp2_with fail
    go_loopw [14] (fun i wr => ∃ k : Nat, k ≤ (lvL ns 64 0).length ∧ i = .int .i64 k ∧ Hid (∀ y ∈ (ints (lvL ns 64 0)).take k, y ≠ d) ∧ wr = w1) (fun i _ => (lvL ns 64 0).length - (intOf i).toNat)
    case atStart => exact ⟨0, by omega, rfl, hide (by simp), rfl⟩
    case round =>
      obtain ⟨k, hk, rfl, hno, hwr⟩ := hrel
      subst wr
      by_cases hlt : k < (lvL ns 64 0).length
      · have hpos : k < (ints (lvL ns 64 0)).length := by rw [HIL.out]; exact hlt
        obtain ⟨z, hzk⟩ := get_lt hpos
        obtain ⟨ib, io, rfl, il, ic'⟩ := HI0.out.at hpos
        have c1 := ic' k z hzk
        have hki : (k : Int) < ((lvL ns 64 0).length : Int) := by omega
        have HZK := hide hzk
        clear hzk hpos ic'
        by_cases hzd : z = d
        · have hzb : (z == d) = true := by simp [hzd]
          clear hzd
          go_wp2_with fail
          refine (liveBegun_any _).mono ?_
          rintro e w4 ⟨rfl, hb4⟩
          go_wp2
          go_ret
          exact ⟨by first | rfl | simp, HB1.out.trans (hb4.mono HB1.out.size)⟩
        · have hzb : (z == d) = false := by simp [hzd]
          have HZD := hide hzd
          clear hzd
          go_wp2_with fail
          go_roundw
          case rel => exact ⟨k + 1, by omega, by go_num, hide (fun y hy => by
              rw [List.take_add_one, HZK.out] at hy
              rcases List.mem_append.1 hy with q | q
              · exact hno.out y q
              · simp at q; subst q; exact HZD.out), by first | rfl | trivial⟩
          case measure => simp [intOf]; omega
      · have ek : k = (lvL ns 64 0).length := by omega
        subst ek
        have HLV := hide (not_live_of (ns := ns) (d := d) (by omega) (by
          have := hno.out
          rwa [List.take_of_length_le (by rw [HIL.out]; exact Nat.le_refl _)] at this))
        clear hno
        have HOW := hide (own_fit r b off cap ns w1 (HN.out.below HB1.out HN.out.lt) hl)
        go_upto_region 13 with (go_at_call 18; refine HOW.out.mono ?_; rintro e w2 ⟨cb, cc, rfl, hV2, hb2⟩)
        have hx2 : Below w2.heap.size w2 (w2.alloc (.cells #[.int .i64 r, .slice (some ⟨cb, 0, none⟩) ns.length cc] 24)) := (Below.refl _ w2).alloc (Nat.le_refl _) _
        have hq2 : (w2.alloc (.cells #[.int .i64 r, .slice (some ⟨cb, 0, none⟩) ns.length cc] 24)).heap[w2.heap.size]? = some (.cells #[.int .i64 r, .slice (some ⟨cb, 0, none⟩) ns.length cc] 24 (0, 0)) := World.alloc_heap_new w2 _
        have hV2' := ownsRow_below hV2 hx2 (Nat.le_refl _)
        have hb2' := hb2.trans (hx2.mono hb2.size)
        have hqge : w1.heap.size ≤ w2.heap.size := hb2.size
        generalize (w2.alloc (.cells #[.int .i64 r, .slice (some ⟨cb, 0, none⟩) ns.length cc] 24)) = W2 at hq2 hV2' hb2' ⊢
        generalize w2.heap.size = QB at hq2 hqge ⊢
        clear hV2 hb2 hx2 p0 p1 pl r0 rl
        -- what is put at the end
        obtain ⟨j0, hj, hy0, hy1, hy2⟩ := info_parts info_node
        have hN2 := nodes_own hV2' hl.1
        have hx0 : ns[0]? = some (nd ns 0) := get_nd (by omega)
        have hD : Below W2.heap.size W2 (W2.drew.alloc (.cells (encNd (nd ns 0)).toArray 53)) := (Below.refl _ W2).drew.alloc (Nat.le_refl _) _
        have hnb : (W2.drew.alloc (.cells (encNd (nd ns 0)).toArray 53)).heap[W2.heap.size]? = some (.cells (encNd (nd ns 0)).toArray 53 (0, 0)) := World.alloc_heap_new W2.drew _
        obtain ⟨v', w5, hrun, hown5, hgr5, -, -⟩ := run_append_own_at (P := Try.prog) (W2.drew.alloc (.cells (encNd (nd ns 0)).toArray 53)) w1.heap.size 22 22 53 j0 _ 6 48 Try.underlying22 hj hy0 hy1 hy2 rfl (by decide) (.slice (some ⟨cb, 0, none⟩) ns.length cc) ns.length (ns.flatMap encNd) (ownsRow_below hV2' hD (Nat.le_refl _)) ⟨W2.heap.size, 0, none⟩ 1 1 (encNd (nd ns 0)) rfl (fun j u hu => by rw [addr_addN, Nat.zero_add, blk_cell hnb, List.getElem?_toArray]; exact hu) (fun u hu => by simp [encNd] at hu; rcases hu with rfl | rfl | rfl | rfl | rfl | rfl <;> rfl) (by unfold maxLen; omega) (by omega) (by have := hb2'.size; have := hD.size; omega)
        obtain ⟨g5, c5, rfl⟩ : ∃ g5 c5, v' = .slice (some ⟨g5, 0, none⟩) (ns.length + 1) c5 := by
          rcases hown5.2 with ⟨_, q⟩ | ⟨g', cap', cur, rfl, _⟩
          · omega
          · exact ⟨g', cap', rfl⟩
        have d0 := hN2.c0 0 _ hx0
        have d1 := hN2.c1 0 _ hx0
        have d2 := hN2.c2 0 _ hx0
        have d3 := hN2.c3 0 _ hx0
        have d4 := hN2.c4 0 _ hx0
        have d5 := hN2.c5 0 _ hx0
        simp only [Nat.zero_add, Nat.zero_mul] at d0 d1 d2 d3 d4 d5
        have dl := hN2.lt
        have q1 := blk_cell hq2 1
        simp at q1
        have ql := blk_lt hq2
        have hB5 : Below w1.heap.size w1 w5 := (hb2'.trans (hD.mono hb2'.size)).grown hgr5 (by have := hb2'.size; have := hD.size; omega) (fun k hk => ((ownsRow_below hV2' hD (Nat.le_refl _)).lt k hk).1)
        have neq := owns_ne_ty (ownsRow_below hV2' hD (Nat.le_refl _)) ((hD.block _ ql).trans hq2) (by decide)
        have hq5 := (hgr5.block _ (Nat.lt_of_lt_of_le ql hD.size) neq).trans ((hD.block _ ql).trans hq2)
        have q51 := blk_cell hq5 1
        simp at q51
        have q5f := blk_frozen hq5 1
        have q5l := blk_lt hq5
        have HO5 := hide hown5
        have HB5 := hide hB5
        have HQ5 := hide hq5
        have HX0 := hide hx0
        clear hown5 hB5 hq5 hgr5 neq hnb hD hN2 hV2' hx0 HOW
        simp only [encNd] at hrun
        have hzn : 0 < ns.length := by omega
        go_cut [64] from 65 to 72 (fun v64 wx => v64 = .pointer (some ⟨QB, 1, none⟩) ∧ wx = w5.setCell ⟨QB, 1, none⟩ (.slice (some ⟨g5, 0, none⟩) (ns.length + 1) c5))
        case first =>
          refine wp_region_held_drew (S := (fun _ => True)) (by as_aux_lemma => kernel_rfl) True.intro (fun hHeld => ?_)
          refine wpAnyH_take (i := 0) (oi := ⟨some 64, .fieldAddr 24 (.tmp 15) 1, 0, "two.go:241", #[], none⟩) (v := ?_) rfl (by as_aux_lemma => kernel_rfl) (by as_aux_lemma => kernel_rfl) (by as_aux_lemma => kernel_rfl) (fun _ _ _ h => h) (Or.inl ⟨by as_aux_lemma => rfl, ?_⟩) (by assumption) ?_
          rotate_left 1
          · intro w hSw; (try dsimp only at hSw); go_simp; all_goals with_reducible rfl
          (try simp only [Act.put, PN1, PN2, PN3])
          refine wpAnyH_take (i := 2) (oi := ⟨some 66, .fieldAddr 24 (.tmp 15) 1, 0, "two.go:241", #[], none⟩) (v := ?_) rfl (by as_aux_lemma => kernel_rfl) (by as_aux_lemma => kernel_rfl) (by as_aux_lemma => kernel_rfl) (fun _ _ _ h => h) (Or.inl ⟨by as_aux_lemma => rfl, ?_⟩) (by assumption) ?_
          rotate_left 1
          · intro w hSw; (try dsimp only at hSw); go_simp; all_goals with_reducible rfl
          (try simp only [Act.put, PN1, PN2, PN3])
          refine wpAnyH_ready (rs := [1, 3]) (by as_aux_lemma => kernel_rfl) (by simp) (AllReadyH.cons (o := ⟨some 65, .load 22 (.tmp 64), 22, "two.go:241", #[⟨0, .data⟩], none⟩) rfl (fun K hK => ?_) (AllReadyH.cons (o := ⟨some 67, .load 22 (.tmp 66), 22, "two.go:241", #[⟨2, .data⟩], none⟩) rfl (fun K hK => ?_) AllReadyH.nil))
          · go_simp
            refine hK.out _ _ True.intro (fun hHeld => ?_)
            clear hK K
            (try simp only [Act.put, PN1, PN2, PN3])
            refine wpAnyH_ready (rs := [3]) (by as_aux_lemma => kernel_rfl) (by simp) (AllReadyH.cons (o := ⟨some 67, .load 22 (.tmp 66), 22, "two.go:241", #[⟨2, .data⟩], none⟩) rfl (fun K hK => ?_) AllReadyH.nil)
            go_simp
            refine hK.out _ _ True.intro (fun hHeld => ?_)
            clear hK K
            (try simp only [Act.put, PN1, PN2, PN3])
            refine wpAnyH_take (i := 4) (oi := ⟨some 68, .indexAddr 22 (.tmp 67) (.const (Go.Value.int Go.IntKind.i64 0)), 0, "two.go:241", #[⟨3, .data⟩], none⟩) (v := ?_) rfl (by as_aux_lemma => kernel_rfl) (by as_aux_lemma => kernel_rfl) (by as_aux_lemma => kernel_rfl) (fun _ _ _ h => h) (Or.inl ⟨by as_aux_lemma => rfl, ?_⟩) (by assumption) ?_
            rotate_left 1
            · intro w hSw; (try dsimp only at hSw); go_simp; all_goals with_reducible rfl
            (try simp only [Act.put, PN1, PN2, PN3])
            refine wpAnyH_ready (rs := [5]) (by as_aux_lemma => kernel_rfl) (by simp) (AllReadyH.cons (o := ⟨some 69, .load 53 (.tmp 68), 53, "two.go:241", #[⟨4, .data⟩], none⟩) rfl (fun K hK => ?_) AllReadyH.nil)
            go_simp
            refine hK.out _ _ True.intro (fun hHeld => ?_)
            clear hK K
            (try simp only [Act.put, PN1, PN2, PN3])
            refine wpAnyH_ready (rs := [6]) (by as_aux_lemma => kernel_rfl) (by simp) (AllReadyH.cons (o := ⟨some 70, .buildSlice 22 1 #[(0, .tmp 69)], 22, "two.go:241", #[⟨5, .data⟩], none⟩) rfl (fun K hK => ?_) AllReadyH.nil)
            go_simp
            refine hK.out _ _ True.intro (fun hHeld => ?_)
            clear hK K
            (try simp only [Act.put, PN1, PN2, PN3])
            refine wpAnyH_ready (rs := [7]) (by as_aux_lemma => kernel_rfl) (by simp) (AllReadyH.cons (o := ⟨some 71, .call { callee := .builtin Go.Builtin.append, args := #[.tmp 65, .tmp 70], argTypes := #[22, 22] }, 22, "two.go:241", #[⟨1, .data⟩, ⟨6, .data⟩], none⟩) rfl (fun K hK => ?_) AllReadyH.nil)
            refine wp_append_run (.tmp 65) (.tmp 70) 22 rfl rfl rfl hrun ?_
            refine hK.out _ _ True.intro (fun hHeld => ?_)
            clear hK K
            (try simp only [Act.put, PN1, PN2, PN3])
            refine wpAnyH_take (i := 8) (oi := ⟨some 72, .fieldAddr 24 (.tmp 15) 1, 0, "two.go:241", #[⟨0, .phase⟩, ⟨1, .phase⟩, ⟨2, .phase⟩, ⟨3, .phase⟩, ⟨4, .phase⟩, ⟨5, .phase⟩, ⟨6, .phase⟩, ⟨7, .phase⟩], none⟩) (v := ?_) rfl (by as_aux_lemma => kernel_rfl) (by as_aux_lemma => kernel_rfl) (by as_aux_lemma => kernel_rfl) (fun _ _ _ h => h) (Or.inl ⟨by as_aux_lemma => rfl, ?_⟩) (by assumption) ?_
            rotate_left 1
            · intro w hSw; (try dsimp only at hSw); go_simp; all_goals with_reducible rfl
            (try simp only [Act.put, PN1, PN2, PN3])
            refine wpAnyH_ready (rs := [9]) (by as_aux_lemma => kernel_rfl) (by simp) (AllReadyH.cons (o := ⟨none, .store 22 (.tmp 72) (.tmp 71), 0, "two.go:241", #[⟨8, .data⟩, ⟨7, .data⟩, ⟨7, .chain⟩, ⟨0, .phase⟩, ⟨1, .phase⟩, ⟨2, .phase⟩, ⟨3, .phase⟩, ⟨4, .phase⟩, ⟨5, .phase⟩, ⟨6, .phase⟩, ⟨7, .phase⟩], none⟩) rfl (fun K hK => ?_) AllReadyH.nil)
            go_simp
            refine hK.out _ _ True.intro (fun hHeld => ?_)
            clear hK K
            (try simp only [Act.put, PN1, PN2, PN3])
            refine wpAnyH_done (by as_aux_lemma => kernel_rfl) ?_ _
            go_wp2
            go_meet
            exact ⟨rfl, rfl⟩
          · go_simp
            refine hK.out _ _ True.intro (fun hHeld => ?_)
            clear hK K
            (try simp only [Act.put, PN1, PN2, PN3])
            refine wpAnyH_take (i := 4) (oi := ⟨some 68, .indexAddr 22 (.tmp 67) (.const (Go.Value.int Go.IntKind.i64 0)), 0, "two.go:241", #[⟨3, .data⟩], none⟩) (v := ?_) rfl (by as_aux_lemma => kernel_rfl) (by as_aux_lemma => kernel_rfl) (by as_aux_lemma => kernel_rfl) (fun _ _ _ h => h) (Or.inl ⟨by as_aux_lemma => rfl, ?_⟩) (by assumption) ?_
            rotate_left 1
            · intro w hSw; (try dsimp only at hSw); go_simp; all_goals with_reducible rfl
            (try simp only [Act.put, PN1, PN2, PN3])
            refine wpAnyH_ready (rs := [1, 5]) (by as_aux_lemma => kernel_rfl) (by simp) (AllReadyH.cons (o := ⟨some 65, .load 22 (.tmp 64), 22, "two.go:241", #[⟨0, .data⟩], none⟩) rfl (fun K hK => ?_) (AllReadyH.cons (o := ⟨some 69, .load 53 (.tmp 68), 53, "two.go:241", #[⟨4, .data⟩], none⟩) rfl (fun K hK => ?_) AllReadyH.nil))
            · go_simp
              refine hK.out _ _ True.intro (fun hHeld => ?_)
              clear hK K
              (try simp only [Act.put, PN1, PN2, PN3])
              refine wpAnyH_ready (rs := [5]) (by as_aux_lemma => kernel_rfl) (by simp) (AllReadyH.cons (o := ⟨some 69, .load 53 (.tmp 68), 53, "two.go:241", #[⟨4, .data⟩], none⟩) rfl (fun K hK => ?_) AllReadyH.nil)
              go_simp
              refine hK.out _ _ True.intro (fun hHeld => ?_)
              clear hK K
              (try simp only [Act.put, PN1, PN2, PN3])
              refine wpAnyH_ready (rs := [6]) (by as_aux_lemma => kernel_rfl) (by simp) (AllReadyH.cons (o := ⟨some 70, .buildSlice 22 1 #[(0, .tmp 69)], 22, "two.go:241", #[⟨5, .data⟩], none⟩) rfl (fun K hK => ?_) AllReadyH.nil)
              go_simp
              refine hK.out _ _ True.intro (fun hHeld => ?_)
              clear hK K
              (try simp only [Act.put, PN1, PN2, PN3])
              refine wpAnyH_ready (rs := [7]) (by as_aux_lemma => kernel_rfl) (by simp) (AllReadyH.cons (o := ⟨some 71, .call { callee := .builtin Go.Builtin.append, args := #[.tmp 65, .tmp 70], argTypes := #[22, 22] }, 22, "two.go:241", #[⟨1, .data⟩, ⟨6, .data⟩], none⟩) rfl (fun K hK => ?_) AllReadyH.nil)
              refine wp_append_run (.tmp 65) (.tmp 70) 22 rfl rfl rfl hrun ?_
              refine hK.out _ _ True.intro (fun hHeld => ?_)
              clear hK K
              (try simp only [Act.put, PN1, PN2, PN3])
              refine wpAnyH_take (i := 8) (oi := ⟨some 72, .fieldAddr 24 (.tmp 15) 1, 0, "two.go:241", #[⟨0, .phase⟩, ⟨1, .phase⟩, ⟨2, .phase⟩, ⟨3, .phase⟩, ⟨4, .phase⟩, ⟨5, .phase⟩, ⟨6, .phase⟩, ⟨7, .phase⟩], none⟩) (v := ?_) rfl (by as_aux_lemma => kernel_rfl) (by as_aux_lemma => kernel_rfl) (by as_aux_lemma => kernel_rfl) (fun _ _ _ h => h) (Or.inl ⟨by as_aux_lemma => rfl, ?_⟩) (by assumption) ?_
              rotate_left 1
              · intro w hSw; (try dsimp only at hSw); go_simp; all_goals with_reducible rfl
              (try simp only [Act.put, PN1, PN2, PN3])
              refine wpAnyH_ready (rs := [9]) (by as_aux_lemma => kernel_rfl) (by simp) (AllReadyH.cons (o := ⟨none, .store 22 (.tmp 72) (.tmp 71), 0, "two.go:241", #[⟨8, .data⟩, ⟨7, .data⟩, ⟨7, .chain⟩, ⟨0, .phase⟩, ⟨1, .phase⟩, ⟨2, .phase⟩, ⟨3, .phase⟩, ⟨4, .phase⟩, ⟨5, .phase⟩, ⟨6, .phase⟩, ⟨7, .phase⟩], none⟩) rfl (fun K hK => ?_) AllReadyH.nil)
              go_simp
              refine hK.out _ _ True.intro (fun hHeld => ?_)
              clear hK K
              (try simp only [Act.put, PN1, PN2, PN3])
              refine wpAnyH_done (by as_aux_lemma => kernel_rfl) ?_ _
              go_wp2
              go_meet
              exact ⟨rfl, rfl⟩
            · go_simp
              refine hK.out _ _ True.intro (fun hHeld => ?_)
              clear hK K
              (try simp only [Act.put, PN1, PN2, PN3])
              refine wpAnyH_ready (rs := [1, 6]) (by as_aux_lemma => kernel_rfl) (by simp) (AllReadyH.cons (o := ⟨some 65, .load 22 (.tmp 64), 22, "two.go:241", #[⟨0, .data⟩], none⟩) rfl (fun K hK => ?_) (AllReadyH.cons (o := ⟨some 70, .buildSlice 22 1 #[(0, .tmp 69)], 22, "two.go:241", #[⟨5, .data⟩], none⟩) rfl (fun K hK => ?_) AllReadyH.nil))
              · go_simp
                refine hK.out _ _ True.intro (fun hHeld => ?_)
                clear hK K
                (try simp only [Act.put, PN1, PN2, PN3])
                refine wpAnyH_ready (rs := [6]) (by as_aux_lemma => kernel_rfl) (by simp) (AllReadyH.cons (o := ⟨some 70, .buildSlice 22 1 #[(0, .tmp 69)], 22, "two.go:241", #[⟨5, .data⟩], none⟩) rfl (fun K hK => ?_) AllReadyH.nil)
                go_simp
                refine hK.out _ _ True.intro (fun hHeld => ?_)
                clear hK K
                (try simp only [Act.put, PN1, PN2, PN3])
                refine wpAnyH_ready (rs := [7]) (by as_aux_lemma => kernel_rfl) (by simp) (AllReadyH.cons (o := ⟨some 71, .call { callee := .builtin Go.Builtin.append, args := #[.tmp 65, .tmp 70], argTypes := #[22, 22] }, 22, "two.go:241", #[⟨1, .data⟩, ⟨6, .data⟩], none⟩) rfl (fun K hK => ?_) AllReadyH.nil)
                refine wp_append_run (.tmp 65) (.tmp 70) 22 rfl rfl rfl hrun ?_
                refine hK.out _ _ True.intro (fun hHeld => ?_)
                clear hK K
                (try simp only [Act.put, PN1, PN2, PN3])
                refine wpAnyH_take (i := 8) (oi := ⟨some 72, .fieldAddr 24 (.tmp 15) 1, 0, "two.go:241", #[⟨0, .phase⟩, ⟨1, .phase⟩, ⟨2, .phase⟩, ⟨3, .phase⟩, ⟨4, .phase⟩, ⟨5, .phase⟩, ⟨6, .phase⟩, ⟨7, .phase⟩], none⟩) (v := ?_) rfl (by as_aux_lemma => kernel_rfl) (by as_aux_lemma => kernel_rfl) (by as_aux_lemma => kernel_rfl) (fun _ _ _ h => h) (Or.inl ⟨by as_aux_lemma => rfl, ?_⟩) (by assumption) ?_
                rotate_left 1
                · intro w hSw; (try dsimp only at hSw); go_simp; all_goals with_reducible rfl
                (try simp only [Act.put, PN1, PN2, PN3])
                refine wpAnyH_ready (rs := [9]) (by as_aux_lemma => kernel_rfl) (by simp) (AllReadyH.cons (o := ⟨none, .store 22 (.tmp 72) (.tmp 71), 0, "two.go:241", #[⟨8, .data⟩, ⟨7, .data⟩, ⟨7, .chain⟩, ⟨0, .phase⟩, ⟨1, .phase⟩, ⟨2, .phase⟩, ⟨3, .phase⟩, ⟨4, .phase⟩, ⟨5, .phase⟩, ⟨6, .phase⟩, ⟨7, .phase⟩], none⟩) rfl (fun K hK => ?_) AllReadyH.nil)
                go_simp
                refine hK.out _ _ True.intro (fun hHeld => ?_)
                clear hK K
                (try simp only [Act.put, PN1, PN2, PN3])
                refine wpAnyH_done (by as_aux_lemma => kernel_rfl) ?_ _
                go_wp2
                go_meet
                exact ⟨rfl, rfl⟩
              · go_simp
                refine hK.out _ _ True.intro (fun hHeld => ?_)
                clear hK K
                (try simp only [Act.put, PN1, PN2, PN3])
                refine wpAnyH_ready (rs := [1]) (by as_aux_lemma => kernel_rfl) (by simp) (AllReadyH.cons (o := ⟨some 65, .load 22 (.tmp 64), 22, "two.go:241", #[⟨0, .data⟩], none⟩) rfl (fun K hK => ?_) AllReadyH.nil)
                go_simp
                refine hK.out _ _ True.intro (fun hHeld => ?_)
                clear hK K
                (try simp only [Act.put, PN1, PN2, PN3])
                refine wpAnyH_ready (rs := [7]) (by as_aux_lemma => kernel_rfl) (by simp) (AllReadyH.cons (o := ⟨some 71, .call { callee := .builtin Go.Builtin.append, args := #[.tmp 65, .tmp 70], argTypes := #[22, 22] }, 22, "two.go:241", #[⟨1, .data⟩, ⟨6, .data⟩], none⟩) rfl (fun K hK => ?_) AllReadyH.nil)
                refine wp_append_run (.tmp 65) (.tmp 70) 22 rfl rfl rfl hrun ?_
                refine hK.out _ _ True.intro (fun hHeld => ?_)
                clear hK K
                (try simp only [Act.put, PN1, PN2, PN3])
                refine wpAnyH_take (i := 8) (oi := ⟨some 72, .fieldAddr 24 (.tmp 15) 1, 0, "two.go:241", #[⟨0, .phase⟩, ⟨1, .phase⟩, ⟨2, .phase⟩, ⟨3, .phase⟩, ⟨4, .phase⟩, ⟨5, .phase⟩, ⟨6, .phase⟩, ⟨7, .phase⟩], none⟩) (v := ?_) rfl (by as_aux_lemma => kernel_rfl) (by as_aux_lemma => kernel_rfl) (by as_aux_lemma => kernel_rfl) (fun _ _ _ h => h) (Or.inl ⟨by as_aux_lemma => rfl, ?_⟩) (by assumption) ?_
                rotate_left 1
                · intro w hSw; (try dsimp only at hSw); go_simp; all_goals with_reducible rfl
                (try simp only [Act.put, PN1, PN2, PN3])
                refine wpAnyH_ready (rs := [9]) (by as_aux_lemma => kernel_rfl) (by simp) (AllReadyH.cons (o := ⟨none, .store 22 (.tmp 72) (.tmp 71), 0, "two.go:241", #[⟨8, .data⟩, ⟨7, .data⟩, ⟨7, .chain⟩, ⟨0, .phase⟩, ⟨1, .phase⟩, ⟨2, .phase⟩, ⟨3, .phase⟩, ⟨4, .phase⟩, ⟨5, .phase⟩, ⟨6, .phase⟩, ⟨7, .phase⟩], none⟩) rfl (fun K hK => ?_) AllReadyH.nil)
                go_simp
                refine hK.out _ _ True.intro (fun hHeld => ?_)
                clear hK K
                (try simp only [Act.put, PN1, PN2, PN3])
                refine wpAnyH_done (by as_aux_lemma => kernel_rfl) ?_ _
                go_wp2
                go_meet
                exact ⟨rfl, rfl⟩
        case rest =>
          obtain ⟨rfl, hwc⟩ := hcut
          have hq6 : wc.heap[QB]? = some (.cells #[.int .i64 r, .slice (some ⟨g5, 0, none⟩) (ns.length + 1) c5] 24 (0, 0)) := by
            rw [hwc, blk_set _ HQ5.out]; simp
          have hown6 : wc.ownsRow w1.heap.size 53 6 (.slice (some ⟨g5, 0, none⟩) (ns ++ [nd ns 0]).length c5) (ns ++ [nd ns 0]).length ((ns ++ [nd ns 0]).flatMap encNd) := by
            have h := owns_set (o := 1) (u := .slice (some ⟨g5, 0, none⟩) (ns.length + 1) c5) HO5.out HQ5.out (by decide)
            rw [← hwc] at h
            rw [List.flatMap_append, List.length_append]; simpa using h
          have hB6 : Below w1.heap.size w1 wc := by
            rw [hwc]; exact HB5.out.setCell (p := ⟨QB, 1, none⟩) hqge _
          clear hwc hrun HO5 HB5 HQ5 d0 d1 d2 d3 d4 d5 dl q1 ql q51 q5f q5l hzn
          have HY := hide (owns_node (y := ⟨1, d, value, 0, ns.length, 0⟩) hown6 (j := 0) (by simp))
          obtain ⟨cur6, hcur6, hge6⟩ : ∃ cur, wc.heap[g5]? = some (.cells cur 53 (0, 0)) ∧ w1.heap.size ≤ g5 := by
            rcases hown6.2 with ⟨q, _⟩ | ⟨g', c, cur, q, a1, a2, _⟩
            · cases q
            · cases q; exact ⟨cur, a2, a1⟩
          have hN6 := nodes_own hown6 (by simp)
          have hx6 : (ns ++ [nd ns 0])[0]? = some (nd ns 0) := by rw [List.getElem?_append_left (by omega)]; exact HX0.out
          have d0 := hN6.c0 0 _ hx6
          have d1 := hN6.c1 0 _ hx6
          have d2 := hN6.c2 0 _ hx6
          have d3 := hN6.c3 0 _ hx6
          have d4 := hN6.c4 0 _ hx6
          have d5 := hN6.c5 0 _ hx6
          simp only [Nat.zero_add, Nat.zero_mul] at d0 d1 d2 d3 d4 d5
          have dl := hN6.lt
          have g0 := blk_frozen hcur6 0
          have g1 := blk_frozen hcur6 1
          have g2 := blk_frozen hcur6 2
          have g3 := blk_frozen hcur6 3
          have g4 := blk_frozen hcur6 4
          have g5f := blk_frozen hcur6 5
          have hp6 := (hB6.block _ (blk_lt HP1.out)).trans HP1.out
          have p1 := blk_cell hp6 1
          simp at p1
          have pl := blk_lt hp6
          have q1 := blk_cell hq6 1
          simp at q1
          have ql := blk_lt hq6
          have hnel : (0 : Int) < ((ns.length + 1 : Nat) : Int) := by omega
          have hneq : 0 < ns.length + 1 := by omega
          have HQ7 := hide ((six_other (y := ⟨1, d, value, 0, ns.length, 0⟩) (j := 0) (blk_neN hq6 hcur6 (by decide))).trans hq6)
          have HB7 := hide (hB6.trans (six_below wc 0 ⟨1, d, value, 0, ns.length, 0⟩ hge6))
          generalize nd ns 0 = z0 at d0 d1 d2 d3 d4 d5
          clear hown6 hN6 hx6 hcur6 hq6 hp6 hB6
          go_upto_region 15 with fail
          change Code.wp _ _ _ _ (six wc g5 0 ⟨1, d, value, 0, ns.length, 0⟩)
          have HN7 := hide (show NodesAt (six wc g5 0 ⟨1, d, value, 0, ns.length, 0⟩) g5 0 (lessN ns d value) from nodes_own (ns := lessN ns d value) HY.out (by rw [lessN_len]; omega))
          have hll : (lessN ns d value).length = ns.length + 1 := lessN_len ns d value
          rw [← hll] at HQ7
          generalize six wc g5 0 ⟨1, d, value, 0, ns.length, 0⟩ = W7 at HN7 HQ7 HB7 ⊢
          clear HY d0 d1 d2 d3 d4 d5 dl g0 g1 g2 g3 g4 g5f p1 pl q1 ql hnel hneq
          have HLL := hide hll
          clear hll
          have HB8 := hide (HB1.out.trans (HB7.out.mono HB1.out.size))
          have HP7 := hide ((HB7.out.block _ (blk_lt HP1.out)).trans HP1.out)
          go_upto_region 16 with (go_at_call 14; refine (choose_any fuel _ hf).mono ?_; rintro e w3 ⟨rfl, hw3⟩; subst w3)
          generalize pickC fuel = n at hpf ⊢
          have n0 := hpf.1
          have n1 := hpf.2
          clear hpf hf
          have HCL := hide (less_chk HC.out h255 hdr value)
          have HE1 := hide (rerr_okL (r := r) (ns := ns) (il := jn.length) (n := n) HC.out hj256 n0 (by omega))
          have HE2 := hide (rerr_okL (r := r) (ns := lessN ns d value) (il := jn.length) (n := n + 1) HCL.out hj256 (by omega) (by omega))
          have HNk := hide (show SlN W7 (some ⟨b, off, none⟩) ns from Or.inr ⟨b, off, rfl, HN.out.below HB8.out HN.out.lt⟩)
          have HJk := hide (HJ.out.below HB8.out)
          have HPK := hide (fun (u : World) (hB : Below W7.heap.size W7 u) => (show u.cell? ⟨w.heap.size, 0, none⟩ = some (.int .i64 r) ∧ u.cell? ⟨w.heap.size, 1, none⟩ = some (.slice (some ⟨b, off, none⟩) ns.length cap) from ⟨(hB.cell (p := ⟨w.heap.size, 0, none⟩) (blk_lt HP7.out)).trans (blk_cell HP7.out 0), (hB.cell (p := ⟨w.heap.size, 1, none⟩) (blk_lt HP7.out)).trans (blk_cell HP7.out 1)⟩))
          go_cut [17, 18] from 84 to 91 (fun v1 v2 wx => Got (res r ns jn n) (rerr r ns jn.length n) W7 wx v1 v2)
          case first =>
            go_region_held3 (fun u => u.cell? ⟨w.heap.size, 0, none⟩ = some (.int .i64 r) ∧ u.cell? ⟨w.heap.size, 1, none⟩ = some (.slice (some ⟨b, off, none⟩) ns.length cap)) (first | (with_reducible exact HPK.out _ hB3) | (refine HPK.out _ ?_ <;> ((repeat with_reducible first | exact hB3 | exact Below.refl _ _ | refine Below.drew ?_ | refine Below.alloc ?_ ?_ _) <;> (first | exact hB3.size | exact Nat.le_refl _ | simp))) | exact HPK.out _ (hB3.trans (fill5_below (Nat.le_refl _) hB3.size _ _ _ _ _))) (first
              | (go_at_call 16; refine (HFEW.out _).mono ?_; rintro e w' ⟨rfl, hw'⟩; subst w')
              | (go_at_call 15; refine (run_at2 r (some ⟨b, off, none⟩) cap ns ia ic jn n W7 HNk.out HJk.out hjc hjl).mono ?_; rintro e w3 ⟨ao3, co3, ac3, cc3, rfl, hI3, hC3, hco3, hB3, hk3, hQ3⟩; have z0 : w3.cell? ⟨W7.heap.size, 0, none⟩ = some (.slice none 0 0) := blk_cell hk3 0; have f0 := blk_frozen hk3 0; have z1 : w3.cell? ⟨W7.heap.size, 1, none⟩ = some (.int .i64 0) := blk_cell hk3 1; have f1 := blk_frozen hk3 1; have z2 : w3.cell? ⟨W7.heap.size, 2, none⟩ = some (.bool false) := blk_cell hk3 2; have f2 := blk_frozen hk3 2; have z3 : w3.cell? ⟨W7.heap.size, 3, none⟩ = some (.int .i64 0) := blk_cell hk3 3; have f3 := blk_frozen hk3 3; have z4 : w3.cell? ⟨W7.heap.size, 4, none⟩ = some (.slice none 0 0) := blk_cell hk3 4; have f4 := blk_frozen hk3 4; have HX3 := hide (And.intro hI3 (And.intro hC3 (And.intro hco3 (And.intro hk3 hQ3)))); have hlt3 := blk_lt hk3; clear hI3 hC3 hco3 hk3 hQ3)
              | (go_at_call 15; refine (run_at1 r (some ⟨b, off, none⟩) cap ns ia ic jn n W7 HNk.out HJk.out hjc hjl).mono ?_; rintro e w3 ⟨ao3, co3, ac3, cc3, rfl, hI3, hC3, hco3, hB3⟩; have HX3 := hide (And.intro hI3 (And.intro hC3 hco3)); clear hI3 hC3 hco3))
            all_goals (go_wp2; go_meet)
            all_goals first
              | exact ⟨⟨_, ao3, co3, ac3, cc3, rfl, fill5_blk HX3.out.2.2.2.1 _ _ _ _ _, (HX3.out.2.2.2.2 _ _ _ _ _).1, (HX3.out.2.2.2.2 _ _ _ _ _).2, HX3.out.2.2.1⟩, rfl, hB3.trans (fill5_below (Nat.le_refl _) hB3.size _ _ _ _ _)⟩
              | exact ⟨⟨_, ao3, co3, ac3, cc3, rfl, blk_new rfl, HX3.out.1.below ((Below.refl _ w3).alloc (Nat.le_refl _) _), HX3.out.2.1.below ((Below.refl _ w3).alloc (Nat.le_refl _) _), HX3.out.2.2⟩, rfl, hB3.alloc hB3.size _⟩
          case rest =>
            obtain ⟨⟨ra, aoa, coa, aca, cca, rfl, hka, hIa, hCa, hcoa⟩, rfl, hBc⟩ := hcut
            rw [HE1.out]
            have hse := less_same HC.out HLV.out value n.toNat r.toNat jn
            have HLN := hide (res_len r ns jn n)
            rw [show n.toNat + 1 = (n + 1).toNat by omega, ← res_finL HE1.out, ← res_finL HE2.out] at hse
            have HSE := hide hse
            clear hse
            generalize hσ : res r ns jn n = σ at *
            clear hσ
            have HB9 := hide (HB8.out.trans (hBc.mono HB8.out.size))
            have HQ9 := hide ((hBc.block _ (blk_lt HQ7.out)).trans HQ7.out)
            have HN9 := hide (HN7.out.below hBc HN7.out.lt)
            have HRa := hide hka
            have HIa := hide (And.intro hIa (And.intro hCa hcoa))
            clear hka hIa hCa hcoa hBc HB8 HB7 HP7 HQ7 HN7 HNk HJk HPK
            generalize hW : wc = W9 at *
            clear hW
            have HNk := hide (show SlN W9 (some ⟨g5, 0, none⟩) (lessN ns d value) from Or.inr ⟨g5, 0, rfl, HN9.out⟩)
            have HJk := hide (HJ.out.below HB9.out)
            have HWR := hide (show IntKind.i64.wrap (n + 1) = n + 1 by rw [IntWalk.i64_left]; unfold wrap64; omega)
            have HWS := hide (show wrap64 (n + 1) = n + 1 by unfold wrap64; omega)
            go_upto_region 17 with fail
            have HPK := hide (fun (u : World) (hB : Below W9.heap.size W9 u) => (show u.cell? ⟨QB, 0, none⟩ = some (.int .i64 r) ∧ u.cell? ⟨QB, 1, none⟩ = some (.slice (some ⟨g5, 0, none⟩) (lessN ns d value).length c5) from ⟨(hB.cell (p := ⟨QB, 0, none⟩) (blk_lt HQ9.out)).trans (blk_cell HQ9.out 0), (hB.cell (p := ⟨QB, 1, none⟩) (blk_lt HQ9.out)).trans (blk_cell HQ9.out 1)⟩))
            go_cut [19, 20] from 92 to 100 (fun v1 v2 wx => Got (res r (lessN ns d value) jn (n + 1)) (rerr r (lessN ns d value) jn.length (n + 1)) W9 wx v1 v2)
            case first =>
              go_region_held3 (fun u => u.cell? ⟨QB, 0, none⟩ = some (.int .i64 r) ∧ u.cell? ⟨QB, 1, none⟩ = some (.slice (some ⟨g5, 0, none⟩) (lessN ns d value).length c5)) (first | (with_reducible exact HPK.out _ hB3) | (refine HPK.out _ ?_ <;> ((repeat with_reducible first | exact hB3 | exact Below.refl _ _ | refine Below.drew ?_ | refine Below.alloc ?_ ?_ _) <;> (first | exact hB3.size | exact Nat.le_refl _ | simp))) | exact HPK.out _ (hB3.trans (fill5_below (Nat.le_refl _) hB3.size _ _ _ _ _))) (first
                | (go_at_call 16; refine (HFEW.out _).mono ?_; rintro e w' ⟨rfl, hw'⟩; subst w')
                | (go_at_call 15; (first | rw [HWS.out] | rw [HWR.out] | skip); refine (run_at2 r (some ⟨g5, 0, none⟩) c5 (lessN ns d value) ia ic jn (n + 1) W9 HNk.out HJk.out hjc hjl).mono ?_; rintro e w3 ⟨ao3, co3, ac3, cc3, rfl, hI3, hC3, hco3, hB3, hk3, hQ3⟩; have z0 : w3.cell? ⟨W9.heap.size, 0, none⟩ = some (.slice none 0 0) := blk_cell hk3 0; have f0 := blk_frozen hk3 0; have z1 : w3.cell? ⟨W9.heap.size, 1, none⟩ = some (.int .i64 0) := blk_cell hk3 1; have f1 := blk_frozen hk3 1; have z2 : w3.cell? ⟨W9.heap.size, 2, none⟩ = some (.bool false) := blk_cell hk3 2; have f2 := blk_frozen hk3 2; have z3 : w3.cell? ⟨W9.heap.size, 3, none⟩ = some (.int .i64 0) := blk_cell hk3 3; have f3 := blk_frozen hk3 3; have z4 : w3.cell? ⟨W9.heap.size, 4, none⟩ = some (.slice none 0 0) := blk_cell hk3 4; have f4 := blk_frozen hk3 4; have HX3 := hide (And.intro hI3 (And.intro hC3 (And.intro hco3 (And.intro hk3 hQ3)))); have hlt3 := blk_lt hk3; clear hI3 hC3 hco3 hk3 hQ3)
                | (go_at_call 15; (first | rw [HWS.out] | rw [HWR.out] | skip); refine (run_at1 r (some ⟨g5, 0, none⟩) c5 (lessN ns d value) ia ic jn (n + 1) W9 HNk.out HJk.out hjc hjl).mono ?_; rintro e w3 ⟨ao3, co3, ac3, cc3, rfl, hI3, hC3, hco3, hB3⟩; have HX3 := hide (And.intro hI3 (And.intro hC3 hco3)); clear hI3 hC3 hco3))
              all_goals (go_wp2; go_meet)
              all_goals first
                | exact ⟨⟨_, ao3, co3, ac3, cc3, rfl, fill5_blk HX3.out.2.2.2.1 _ _ _ _ _, (HX3.out.2.2.2.2 _ _ _ _ _).1, (HX3.out.2.2.2.2 _ _ _ _ _).2, HX3.out.2.2.1⟩, rfl, hB3.trans (fill5_below (Nat.le_refl _) hB3.size _ _ _ _ _)⟩
                | exact ⟨⟨_, ao3, co3, ac3, cc3, rfl, blk_new rfl, HX3.out.1.below ((Below.refl _ w3).alloc (Nat.le_refl _) _), HX3.out.2.1.below ((Below.refl _ w3).alloc (Nat.le_refl _) _), HX3.out.2.2⟩, rfl, hB3.alloc hB3.size _⟩
            case rest =>
              obtain ⟨⟨rb', aob, cob, acb, ccb, rfl, hkb, hIb, hCb, hcob⟩, rfl, hBc⟩ := hcut
              rw [HE2.out]
              generalize hτ : res r (lessN ns d value) jn (n + 1) = τ at *
              clear hτ
              obtain ⟨_, s1, s2, s3, s4, _⟩ := HSE.out
              have hst : ∃ st : Int, wc.heap[rb']? = some (.cells #[.slice aob σ.out.length cob, .int .i64 σ.ret, .bool σ.ended, .int .i64 st, .slice acb σ.cts.length ccb] 42 (0, 0)) := ⟨(τ.steps : Int), by rw [hkb, s1, s2, s3, s4]⟩
              obtain ⟨st, hkb'⟩ := hst
              rw [s1] at hIb
              rw [s4] at hCb
              have HRa5 := hide ((hBc.block _ (blk_lt HRa.out)).trans HRa.out)
              have HRb5 := hide hkb'
              have HIa5 := hide (HIa.out.1.below hBc)
              have HCa5 := hide (HIa.out.2.1.below hBc)
              have HIb5 := hide hIb
              have HCb5 := hide hCb
              have HB10 := hide (HB9.out.trans (hBc.mono HB9.out.size))
              clear s1 s2 s3 s4 HSE hkb hkb' hIb hCb hcob hBc HRa HIa HB9 HQ9 HN9 HNk HJk HPK
              go_wp2_with fail
              refine (liveBegun_any _).mono ?_
              rintro e w11 ⟨rfl, hb11⟩
              have HRA := hide ((hb11.block _ (blk_lt HRa5.out)).trans HRa5.out)
              have HRB := hide ((hb11.block _ (blk_lt HRb5.out)).trans HRb5.out)
              have HB11 := hide (HB10.out.trans (hb11.mono HB10.out.size))
              have HIa6 := hide (HIa5.out.below hb11)
              have HIb6 := hide (HIb5.out.below hb11)
              have HCa6 := hide (HCa5.out.below hb11)
              have HCb6 := hide (HCb5.out.below hb11)
              clear hb11 HRa5 HRb5 HIa5 HIb5 HCa5 HCb5 HB10
              have a0 := blk_cell HRA.out 0
              have b0 := blk_cell HRB.out 0
              have a1 := blk_cell HRA.out 1
              have b1 := blk_cell HRB.out 1
              have a2 := blk_cell HRA.out 2
              have b2 := blk_cell HRB.out 2
              have a4 := blk_cell HRA.out 4
              have b4 := blk_cell HRB.out 4
              simp at a0 a1 a2 a4 b0 b1 b2 b4
              have al := blk_lt HRA.out
              have bl := blk_lt HRB.out
              have ho := HLN.out.1
              have hq := HLN.out.2
              go_wp2_with fail
              refine (sameInts_any aoa aob coa cob σ.out σ.out w11 HIa6.out HIb6.out (by omega) (by omega)).mono ?_
              rintro e w12 ⟨rfl, m, rfl⟩
              simp only [beq_self_eq_true]
              go_wp2_with fail
              refine (sameCounts_any aca acb cca ccb σ.cts σ.cts _ (HCa6.out.below (below_drewN (Below.refl _ _) m)) (HCb6.out.below (below_drewN (Below.refl _ _) m)) (by omega) (by omega)).mono ?_
              rintro e w13 ⟨rfl, m', rfl⟩
              go_wp2
              go_ret
              exact ⟨by simp, by first | exact below_drewN (below_drewN HB11.out m) m' | exact below_drewN HB11.out _⟩

end Go.Proofs.Ytoikglgnmjjpcab

namespace Go.Proofs.Ytoikglgnmjjpcab
open Go.ChangeShapes Go.WideShapes Go.ChangeAt Go.RowKit
set_option linter.unusedVariables false

theorem liveLess_any (r : Int) (a : Option Addr) (cap : Nat) (ns : List Nd) (reg value : Int) (ia : Option Addr) (ic : Nat) (inp : List Int) (fuel : Int) (w : World) (hN : SlN w a ns) (hI : IntsAt w ia inp) (hic : inp.length ≤ ic) (hil : inp.length ≤ 9223372036854775807) (hrg : -9223372036854775808 ≤ reg ∧ reg ≤ 9223372036854775807) (hf : -9223372036854775808 ≤ fuel ∧ fuel ≤ 9223372036854775807) :
    Calls Try.prog 5 #[.agg #[.int .i64 r, .slice a ns.length cap], .int .i64 reg, .int .i64 value, .slice ia inp.length ic, .int .i64 fuel] w fun e w' => e = .returned (.bool true) ∧ Below w.heap.size w w' := by
  by_cases hc : chk r ns = 0
  · obtain ⟨b, off, rfl, hNb⟩ := hN.some (chk_zero hc).1.1
    exact liveLess_right r b off cap ns reg value ia ic inp fuel w hNb hI hic hil hrg hf hc
  · exact liveLess_wrong r a cap ns reg value ia ic inp.length fuel w hN hc

set_option maxRecDepth 100000 in
theorem liveLess_lifted (os : Os) (started : os.Started) (H : Type) (enc : TypeId × Value → H) :
    ReturnsInHanded {} Try.checked os 5 .any (Rows.liveLessSpec.pre6 enc Try.prog Try.f5 Rows.liveLessRow.domain false) (Rows.liveLessSpec.post enc Try.prog Try.f5 false true false false) := by
  refine returnsInHanded_of_change (C := Try.checked) own started (by kernel_rfl) Try.func5
    (ChangeSpec.witness6 (enc := enc) (C := Try.checked) false ⟨#[], #[.agg #[.int .i64 0, .slice none 0 0], .int .i64 0, .int .i64 0, .slice none 0 0, .int .i64 0], []⟩ 8 (by kernel_rfl) (by kernel_rfl) (by kernel_rfl) (by kernel_rfl)) ?_
  intro W base args ds gs before hval0 hW hcnd _
  have hval : ∀ (j : Nat) t v, Try.f5.params[j]? = some t → args[j]? = some v → Value.okWide Try.prog W .any base t v := hval0
  have hW' := hW
  obtain ⟨p, q, hA0, hV, rfl, hfz, hnd⟩ := hW
  have hA : DataW.TrodAll enc Try.prog W 0 (fun _ => true) true Try.f5.params.toList args.toList ds p := hA0
  rw [Try.params5] at hA hval
  obtain ⟨v0, vs0, d0, ds0, p0, q0, hargs, rfl, rfl, h0, r0⟩ := trodAll_cons hA
  obtain ⟨v1, vs1, d1, ds1, p1, q1, rfl, rfl, rfl, h1, r1⟩ := trodAll_cons r0
  obtain ⟨v2, vs2, d2, ds2, p2, q2, rfl, rfl, rfl, h2, r2⟩ := trodAll_cons r1
  obtain ⟨v3, vs3, d3, ds3, p3, q3, rfl, rfl, rfl, h3, r3⟩ := trodAll_cons r2
  obtain ⟨v4, vs4, d4, ds4, p4, q4, rfl, rfl, rfl, h4, r4⟩ := trodAll_cons r3
  obtain ⟨rfl, rfl, rfl⟩ := trodAll_nil r4
  obtain rfl : args = #[v0, v1, v2, v3, v4] := by cases args; simp_all
  obtain ⟨rfl, rfl⟩ := trodVars_none hV
  have k0 := h0
  have lt0 : ∀ x ∈ p0, x.block < W.heap.size := by obtain ⟨m, hm⟩ := k0; exact DataW.trod_lt m _ _ _ hm
  have k3 := h3
  have lt3 : ∀ x ∈ p3, x.block < W.heap.size := by obtain ⟨m, hm⟩ := k3; exact DataW.trod_lt m _ _ _ hm
  obtain ⟨r, a, cap, ns, rfl, hN, hl⟩ := open_prog (hval 0 24 v0 rfl rfl) h0
  obtain ⟨rg, rfl, rfl, rfl, w1⟩ := open_int Try.underlying3 (hval 1 3 v1 rfl rfl) h1
  obtain ⟨vl, rfl, rfl, rfl, w2⟩ := open_int Try.underlying3 (hval 2 3 v2 rfl rfl) h2
  obtain ⟨ia, ic, inp, rfl, hI, hil, hic⟩ := open_ints_arg (hval 3 36 v3 rfl rfl) h3
  obtain ⟨n, rfl, rfl, rfl, w4⟩ := open_int Try.underlying3 (hval 4 3 v4 rfl rfl) h4
  clear hA0 hval0
  refine (liveLess_any r a cap ns rg vl ia ic inp n W hN hI hic hil (wf_range w1) (wf_range w4)).mono fun e W' ⟨he, bel⟩ => ?_
  subst he
  exact ⟨_, rfl, _, _, _, [], _, [], hW', trodAll_mk1 (shut_bool Try.underlying4 _), (trodAll_cons_mk (Below.trod laidOut (by kernel_rfl) (of_decide_eq_true (by kernel_rfl)) k0 bel lt0) (trodAll_cons_mk (shut_int Try.underlying3 w1) (trodAll_cons_mk (shut_int Try.underlying3 w2) (trodAll_cons_mk (Below.trod laidOut (by kernel_rfl) (of_decide_eq_true (by kernel_rfl)) k3 bel lt3) (trodAll_cons_mk (shut_int Try.underlying3 w4) trodAll_mk0))))), rfl, bel.frame _, fun h => by cases h⟩

theorem liveLess_over : Rows.liveLessRow.holds Try.pinned (OpenSpec.ofChange Rows.liveLessSpec) :=
  OpenClaim.holds_of_wide 5 Try.f5 rfl rfl rfl rfl rfl rfl rfl ⟨rfl, rfl, rfl, rfl, rfl⟩ rfl rfl rfl rfl rfl (by kernel_rfl) Try.func5 (by kernel_rfl)
    (of_decide_eq_true (by kernel_rfl)) (by unfold Func.isWrapper; first | (rw [if_pos (by decide +kernel)]; kernel_rfl) | (rw [if_neg (by decide +kernel)]; exact ⟨rfl, rfl⟩))
    (fun os started H enc _ => liveLess_lifted os started H enc)

theorem liveLess_holds : Rows.LiveLessSaid := liveLess_over
#print axioms liveLess_holds
end Go.Proofs.Ytoikglgnmjjpcab



