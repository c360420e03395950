/-
  hoistwayref.SolveOf, walked.
-/
import Derived.Test.YtoikglgnmjjpcaaMJ
namespace Go.Proofs.Ytoikglgnmjjpcaa
open Go.RowKit Go.Shelf
set_option linter.unusedVariables false

def boolN : Value → Nat | .bool true => 1 | _ => 0

/-- Inside a turn of the document's way: k nodes have been asked. -/
structure Turn (F : (Nat → Bool) → Nat → Bool) (L : Nat) (x0 x : List Bool) (k : Nat) (ch : Bool) : Prop where
  on : Onway F L x
  no : ch = false → x = x0 ∧ ∀ m, m < k → bat x0 m = true → F (bat x0) m = true
  yes : ch = true → yeses x < yeses x0

theorem Turn.start {F : (Nat → Bool) → Nat → Bool} {L : Nat} {x : List Bool} (h : Onway F L x) : Turn F L x x 0 false := ⟨h, fun _ => ⟨rfl, fun m hm => by omega⟩, fun e => by cases e⟩
theorem Turn.stay {F : (Nat → Bool) → Nat → Bool} {L : Nat} {x0 x : List Bool} {k : Nat} {ch : Bool} (h : Turn F L x0 x k ch) (hk : bat x k = false ∨ F (bat x) k = true) : Turn F L x0 x (k + 1) ch :=
  ⟨h.on, (fun e => by
    obtain ⟨h1, h2⟩ := h.no e
    refine ⟨h1, fun m hm hb => ?_⟩
    by_cases q : m = k
    · subst q
      rw [h1] at hk
      rcases hk with hk | hk
      · rw [hk] at hb; cases hb
      · exact hk
    · exact h2 m (by omega) hb), h.yes⟩
theorem Turn.set {F : (Nat → Bool) → Nat → Bool} {L : Nat} {x0 x : List Bool} {k : Nat} {ch : Bool} (hF : Mono F) (h : Turn F L x0 x k ch) (hk : k < L) (h1 : bat x k = true) (h2 : F (bat x) k = false) : Turn F L x0 (x.set k false) (k + 1) true :=
  ⟨h.on.set hF hk h2, (fun e => by cases e), (fun _ => by
    have h3 := yeses_set (by rw [h.on.len]; exact hk) h1
    cases ch
    · rw [(h.no rfl).1] at h3 ⊢; omega
    · have := h.yes rfl; omega)⟩

set_option maxHeartbeats 8000000 in
set_option maxRecDepth 100000 in
theorem solveOf_any (r : Int) (b off cap : Nat) (ns : List Nd) (f : Flw) (a1 a2 a3 a4 : Option Addr) (c1 c2 c3 c4 : Nat) (w : World) (hN : NodesAt w b off ns) (hc : fchk r ns f = 0) (h1 : BoolsAt w a1 f.gen) (h2 : BoolsAt w a2 f.pass) (h3 : BoolsAt w a3 f.plus) (h4 : BoolsAt w a4 f.lets) :
    Calls Try.prog 45 #[.agg #[.int .i64 r, .slice (some ⟨b, off, none⟩) ns.length cap], .agg #[.bool f.back, .bool f.empty, .slice a1 f.gen.length c1, .slice a2 f.pass.length c2, .slice a3 f.plus.length c3, .slice a4 f.lets.length c4]] w fun e w' => ∃ v, e = .returned v ∧ w'.ownsRow w.heap.size 4 1 v ns.length ((solve ns f).map Value.bool) ∧ Below w.heap.size w w' := by
  have hl := (chk_zero (fchk_zero hc).1).1
  have hsy := fun n (hn : n < ns.length) (x : List Bool) (hxl : x.length = ns.length) (X : Nat) W (h : Below w.heap.size w W) (hx : BoolsAt W (some ⟨X, 0, none⟩) x) => rsays_any r b off cap ns f a1 a2 a3 a4 (some ⟨X, 0, none⟩) c1 c2 c3 c4 ns.length n x W (hN.below h hN.lt) hc (h1.below h) (h2.below h) (h3.below h) (h4.below h) hx hxl hn
  have hbA : Below w.heap.size w ((w.alloc (.cells #[.int .i64 r, .slice (some ⟨b, off, none⟩) ns.length cap] 24)).alloc (.cells #[.bool f.back, .bool f.empty, .slice a1 f.gen.length c1, .slice a2 f.pass.length c2, .slice a3 f.plus.length c3, .slice a4 f.lets.length c4] 66)) := ((Below.refl _ w).alloc (Nat.le_refl _) _).alloc (by simp) _
  have hpA : ((w.alloc (.cells #[.int .i64 r, .slice (some ⟨b, off, none⟩) ns.length cap] 24)).alloc (.cells #[.bool f.back, .bool f.empty, .slice a1 f.gen.length c1, .slice a2 f.pass.length c2, .slice a3 f.plus.length c3, .slice a4 f.lets.length c4] 66)).heap[w.heap.size]? = some (.cells #[.int .i64 r, .slice (some ⟨b, off, none⟩) ns.length cap] 24 (0, 0)) := (Below.heap_alloc _ _ _ (by simp)).trans (World.alloc_heap_new w _)
  have hfA : ((w.alloc (.cells #[.int .i64 r, .slice (some ⟨b, off, none⟩) ns.length cap] 24)).alloc (.cells #[.bool f.back, .bool f.empty, .slice a1 f.gen.length c1, .slice a2 f.pass.length c2, .slice a3 f.plus.length c3, .slice a4 f.lets.length c4] 66)).heap[w.heap.size + 1]? = some (.cells #[.bool f.back, .bool f.empty, .slice a1 f.gen.length c1, .slice a2 f.pass.length c2, .slice a3 f.plus.length c3, .slice a4 f.lets.length c4] 66 (0, 0)) := by
    have := World.alloc_heap_new (w.alloc (.cells #[.int .i64 r, .slice (some ⟨b, off, none⟩) ns.length cap] 24)) (.cells #[.bool f.back, .bool f.empty, .slice a1 f.gen.length c1, .slice a2 f.pass.length c2, .slice a3 f.plus.length c3, .slice a4 f.lets.length c4] 66)
    rwa [World.size_alloc] at this
  have hms : ∀ W : World, Sem.run Try.prog (Instr.makeSlice 53 (.int .i64 (ns.length : Int)) (.int .i64 (ns.length : Int))) W = .ok (.slice (some ⟨W.heap.size, 0, none⟩) ns.length ns.length) (W.alloc (.cells (madeCells #[.bool false] ns.length) 4)) := fun W => run_make_row' 53 4 _ 1 Try.underlying53 info_boolF rfl .i64 .i64 ns.length (by omega) (by omega) W
  have HSY := hide hsy
  clear hsy h1 h2 h3 h4 hc hN
  go_enter Try.func45, Try.ntmps45
  go_upto_region 1 with fail
  generalize ((w.alloc (.cells #[.int .i64 r, .slice (some ⟨b, off, none⟩) ns.length cap] 24)).alloc (.cells #[.bool f.back, .bool f.empty, .slice a1 f.gen.length c1, .slice a2 f.pass.length c2, .slice a3 f.plus.length c3, .slice a4 f.lets.length c4] 66)) = Wq at hbA hpA hfA ⊢
  have p1 := blk_cell hpA 1
  simp at p1
  have pl := blk_lt hpA
  have HP := hide hpA
  have HF := hide hfA
  have HWq := hide hbA
  clear hbA hpA hfA
  go_wp2_with fail
  have hB0 : Below Wq.heap.size Wq (Wq.alloc (.cells (madeCells #[.bool false] ns.length) 4)) := (Below.refl _ Wq).alloc (Nat.le_refl _) _
  have hX0 : (Wq.alloc (.cells (madeCells #[.bool false] ns.length) 4)).heap[Wq.heap.size]? = some (.cells ((List.replicate 0 true ++ List.replicate (ns.length - 0) false).map Value.bool).toArray 4 (0, 0)) := by
    rw [World.alloc_heap_new, made_boolsF]; simp
  generalize (Wq.alloc (.cells (madeCells #[.bool false] ns.length) 4)) = W0 at hB0 hX0 ⊢
  have HX0 := hide hX0
  clear hX0 hms p1 pl
  go_loopw [6] (fun i wr => ∃ k : Nat, k ≤ ns.length ∧ i = .int .i64 k ∧ wr.heap[Wq.heap.size]? = some (.cells ((List.replicate k true ++ List.replicate (ns.length - k) false).map Value.bool).toArray 4 (0, 0)) ∧ Below Wq.heap.size Wq wr) (fun i _ => ns.length - (intOf i).toNat)
  case atStart => exact ⟨0, Nat.zero_le _, rfl, HX0.out, hB0⟩
  case round =>
    obtain ⟨k, hk, rfl, hX, hb⟩ := hrel
    have hsz := hb.size
    have hXl := blk_lt hX
    by_cases hlt : k < ns.length
    · have hxc := blk_cell hX k
      rw [repl_get hlt] at hxc
      have hxf := blk_frozen hX k
      have hli : (k : Int) < (ns.length : Int) := by omega
      have HX := hide hX
      have HB := hide hb
      clear hX hb
      go_wp2
      go_roundw
      case rel =>
        refine ⟨k + 1, by omega, by go_num, ?_, HB.out.setCell (p := ⟨Wq.heap.size, k, none⟩) (Nat.le_refl _) _⟩
        rw [blk_set _ HX.out, ← repl_set hlt]
        simp only [List.map_set, List.setIfInBounds_toArray]
      case measure => simp [intOf]; omega
    · have ek : k = ns.length := by omega
      subst ek
      have hX' : wr.heap[Wq.heap.size]? = some (.cells ((List.replicate ns.length true).map Value.bool).toArray 4 (0, 0)) := by rw [hX]; simp
      have HX := hide hX'
      have HB := hide hb
      clear hX hX' hb
      go_wp2_with fail
      go_loopw [7] (fun c wr => ∃ (x : List Bool) (ch : Bool), c = .bool ch ∧ Onway (sayF ns f) ns.length x ∧ (ch = false → ∀ n, n < ns.length → bat x n = true → sayF ns f (bat x) n = true) ∧ wr.heap[Wq.heap.size]? = some (.cells (x.map Value.bool).toArray 4 (0, 0)) ∧ Below Wq.heap.size Wq wr) (fun c wr => boolN c + truesAt wr Wq.heap.size)
      case atStart => exact ⟨_, true, rfl, Onway.start _ _, (fun e => by cases e), HX.out, HB.out⟩
      case round =>
        clear HX HB hXl hsz
        obtain ⟨x0, ch0, rfl, hO, hdone, hX, hb⟩ := hrel
        have hsz := hb.size
        cases ch0
        · have HX := hide hX
          have HB := hide hb
          have HG := hide ((hO.done (hdone rfl)).eq_gr (sayF_mono ns f))
          have hxl := hO.len
          clear hX hb hdone hO
          go_wp2
          go_ret
          refine ⟨_, rfl, ?_, HWq.out.trans (HB.out.mono HWq.out.size)⟩
          rw [show solve ns f = x0 from HG.out.symm]
          exact ⟨by simp [hxl], Or.inr ⟨Wq.heap.size, ns.length, _, rfl, HWq.out.size, HX.out, Nat.le_refl _, by unfold maxLen; omega, by simp [hxl], by simp [List.take_of_length_le, hxl]⟩⟩
        · have HT0 := hide (truesAt_of hX)
          have HX := hide hX
          have HB := hide hb
          have HO := hide hO
          clear hX hb hdone hO
          go_wp2_with fail
          go_loopw [7, 8] (fun c i wr => ∃ (k : Nat) (x : List Bool) (ch : Bool), k ≤ ns.length ∧ i = .int .i64 k ∧ c = .bool ch ∧ Turn (sayF ns f) ns.length x0 x k ch ∧ wr.heap[Wq.heap.size]? = some (.cells (x.map Value.bool).toArray 4 (0, 0)) ∧ Below Wq.heap.size Wq wr) (fun _ i _ => ns.length - (intOf i).toNat)
          case atStart => exact ⟨0, x0, false, Nat.zero_le _, rfl, rfl, Turn.start HO.out, HX.out, HB.out⟩
          case round =>
            clear hsz
            obtain ⟨k, x, ch, hk, rfl, rfl, hT, hX, hb⟩ := hrel
            have hXl := blk_lt hX
            by_cases hlt : k < ns.length
            · have hxl := hT.on.len
              have hki : (k : Int) < (ns.length : Int) := by omega
              have hxc : wr.cell? ⟨Wq.heap.size, k, none⟩ = some (.bool (bat x k)) := by
                rw [blk_cell hX, List.getElem?_toArray, List.getElem?_map, get_bat (by omega)]; rfl
              have hxf := blk_frozen hX k
              have hpr := (hb.block _ (blk_lt HP.out)).trans HP.out
              have hfr := (hb.block _ (blk_lt HF.out)).trans HF.out
              have p0 := blk_cell hpr 0
              have p1 := blk_cell hpr 1
              have q0 := blk_cell hfr 0
              have q1 := blk_cell hfr 1
              have q2 := blk_cell hfr 2
              have q3 := blk_cell hfr 3
              have q4 := blk_cell hfr 4
              have q5 := blk_cell hfr 5
              simp at p0 p1 q0 q1 q2 q3 q4 q5
              have pl := blk_lt hpr
              have fl := blk_lt hfr
              have hbx : BoolsAt wr (some ⟨Wq.heap.size, 0, none⟩) x := Or.inr ⟨Wq.heap.size, 0, rfl, hXl, fun j z hz => by rw [Nat.zero_add, blk_cell hX, List.getElem?_toArray, List.getElem?_map, hz]; rfl⟩
              have hsy := HSY.out k hlt x hxl Wq.heap.size wr (HWq.out.trans (hb.mono HWq.out.size)) hbx
              rw [hxl] at hsy
              generalize hY : sayF ns f (bat x) k = Y at hsy
              generalize hZ : bat x k = Z at hxc
              have HSK := hide hsy
              have HYY := hide hY
              have HZZ := hide hZ
              have HX := hide hX
              have HB := hide hb
              have HT := hide hT
              clear hsy hY hZ hX hb hT hbx hpr hfr hxl
              cases Z
              · clear p0 p1 q0 q1 q2 q3 q4 q5
                go_wp2
                go_roundw
                case rel => exact ⟨k + 1, x, ch, by omega, by go_num, rfl, HT.out.stay (Or.inl HZZ.out), HX.out, HB.out⟩
                case measure => simp [intOf]; omega
              · go_wp2_with fail
                refine HSK.out.mono ?_
                rintro e w4 ⟨rfl, hb4⟩
                have hX4 := (hb4.block _ hXl).trans HX.out
                have hxc4 := (hb4.cell (p := ⟨Wq.heap.size, k, none⟩) hXl).trans hxc
                have hxf4 := blk_frozen hX4 k
                have hXl4 := blk_lt hX4
                have HX4 := hide hX4
                have HB4 := hide (HB.out.trans (hb4.mono HB.out.size))
                clear hX4 hb4 p0 p1 q0 q1 q2 q3 q4 q5 hxc hxf
                cases Y
                · go_wp2
                  go_roundw
                  case rel =>
                    refine ⟨k + 1, x.set k false, true, by omega, by go_num, rfl, HT.out.set (sayF_mono ns f) hlt HZZ.out HYY.out, ?_, HB4.out.setCell (p := ⟨Wq.heap.size, k, none⟩) (Nat.le_refl _) _⟩
                    rw [blk_set _ HX4.out]; simp only [List.map_set, List.setIfInBounds_toArray]
                  case measure => simp [intOf]; omega
                · go_wp2
                  go_roundw
                  case rel => exact ⟨k + 1, x, ch, by omega, by go_num, rfl, HT.out.stay (Or.inr HYY.out), HX4.out, HB4.out⟩
                  case measure => simp [intOf]; omega
            · have ek : k = ns.length := by omega
              subst ek
              have HX' := hide hX
              have HB' := hide hb
              have HT := hide hT
              clear hX hb hT
              go_wp2_with fail
              go_roundw
              case rel =>
                refine ⟨x, ch, rfl, HT.out.on, fun e => ?_, HX'.out, HB'.out⟩
                obtain ⟨h1, h2⟩ := HT.out.no e
                rw [h1]; exact h2
              case measure =>
                rw [truesAt_of HX'.out, HT0.out]
                cases ch
                · rw [(HT.out.no rfl).1]; simp [boolN]
                · have := HT.out.yes rfl; simp [boolN]; exact this
end Go.Proofs.Ytoikglgnmjjpcaa
