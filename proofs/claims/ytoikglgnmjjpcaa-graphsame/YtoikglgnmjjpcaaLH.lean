/-
  graph.Reach, walked.
-/
import Derived.Test.YtoikglgnmjjpcaaLI
import Derived.Test.YtoikglgnmjjpcaaGV
import Derived.Test.YtoikglgnmjjpcaaD
import Derived.Stop.RegionWithIn
import Derived.Sort.CutIn
namespace Go.Proofs.Ytoikglgnmjjpcaa
open Go.RowKit Go.Shelf
set_option linter.unusedVariables false

attribute [local go_sem] Oper.semAt_some

theorem info_bool : (Try.prog.info? 4).map (fun i => (i.zero, i.size, i.bytes)) = some (some (.bool false), 1, 1) := by kernel_rfl

theorem made_bools (n : Nat) : madeCells #[Value.bool false] n = ((List.replicate n false).map Value.bool).toArray := by
  apply Array.ext'
  rw [toList_madeCells_one]
  simp

/-- Reach's two lists in memory. -/
structure RM (w : World) (base q cb L : Nat) (x : List Bool) (cs : List Int) (vc : Value) : Prop where
  row : w.heap[q]? = some (.cells (x.map Value.bool).toArray 4 (0, 0))
  rbx : Boxed w (q + 1) 53 (.slice (some ⟨q, 0, none⟩) L L)
  cbx : Boxed w cb 25 vc
  come : w.ownsRow base 3 1 vc cs.length (cs.map (Value.int .i64))

theorem RM.kept {w w' : World} {base q cb L : Nat} {x : List Bool} {cs : List Int} {vc : Value} (h : RM w base q cb L x cs vc) {row : Option Nat} (hg : w.grownBy w' row) (hr : ∀ r, row = some r → ∃ o : Obj, w.heap[r]? = some o ∧ o.isCells = false) : RM w' base q cb L x cs vc := by
  have hcl : ∀ (b : Nat) (o : Obj), w.heap[b]? = some o → o.isCells = true → some b ≠ row := fun b o h1 h2 e => by
    obtain ⟨o', h3, h4⟩ := hr b e.symm
    rw [h1] at h3; cases h3; rw [h2] at h4; cases h4
  refine ⟨(hg.block q (blk_lt h.row) (hcl _ _ h.row rfl)).trans h.row, h.rbx.kept hg (hcl _ _ h.rbx rfl), h.cbx.kept hg (hcl _ _ h.cbx rfl), h.come.kept hg ?_⟩
  rcases h.come.2 with ⟨rfl, _⟩ | ⟨g, cap, cur, rfl, _, hgb, _⟩
  · exact .inl rfl
  · exact .inr (by
      have := hcl g _ hgb rfl
      simpa [Value.ownBlock] using this)

theorem RM.below {w w' : World} {base q cb L : Nat} {x : List Bool} {cs : List Int} {vc : Value} (h : RM w base q cb L x cs vc) (hb : Below w.heap.size w w') : RM w' base q cb L x cs vc := h.kept (grown_of_below hb none) (fun r e => by cases e)

/-- One node more is told as come to. -/
theorem RM.set {w : World} {base q cb L : Nat} {x : List Bool} {cs : List Int} {vc : Value} (h : RM w base q cb L x cs vc) (m : Nat) : RM (w.setCell ⟨q, m, none⟩ (.bool true)) base q cb L (x.set m true) cs vc := by
  refine ⟨?_, ?_, ?_, owns_set h.come h.row (by decide)⟩
  · rw [blk_set _ h.row]; simp [List.map_set]
  · exact (Below.heap_setCell _ _ _ _ (boxed_ne h.rbx h.row (by decide))).trans h.rbx
  · exact (Below.heap_setCell _ _ _ _ (boxed_ne h.cbx h.row (by decide))).trans h.cbx

set_option maxRecDepth 100000 in
set_option maxHeartbeats 2000000 in
theorem reach_ok (r : Int) (b off cap : Nat) (ns : List Nd) (w : World) (hN : NodesAt w b off ns) (hc : chk r ns = 0) :
    CallsIn Fence.wide 5 Try.prog 31 #[.agg #[.int .i64 r, .slice (some ⟨b, off, none⟩) ns.length cap]] w fun e w' => ∃ v, e = .returned (.tuple #[v, .int .i64 0]) ∧ w'.ownsRow w.heap.size 4 1 v ns.length ((rchL ns).map Value.bool) ∧ Below w.heap.size w w' := by
  have hl := (chk_zero hc).1
  obtain ⟨i0, hi0, hz0, hz1, hz2⟩ := info_parts info_int
  refine callsIn_of_wp_marks Try.func31 rfl trivial ?_ rfl
  simp only [Try.ntmps31, List.size_toArray, List.length_cons, List.length_nil, Nat.reduceAdd, Nat.reduceSub, Array.replicate_succ, Array.replicate_zero, List.push_toArray, List.append_toArray, List.nil_append, List.cons_append]
  have hb0 : Below w.heap.size w (w.alloc (.cells #[.int .i64 r, .slice (some ⟨b, off, none⟩) ns.length cap] 24)) := (Below.refl _ w).alloc (Nat.le_refl _) _
  have hck := check_any r (some ⟨b, off, none⟩) cap ns _ (Or.inr ⟨b, off, rfl, hN.below hb0 hN.lt⟩ : SlN (w.alloc (.cells #[.int .i64 r, .slice (some ⟨b, off, none⟩) ns.length cap] 24)) _ ns)
  rw [hc] at hck
  have HCK := hide' hck
  clear hck
  have h15 : 1 ≤ 5 := by decide
  gi_wp2_with (refine ⟨trivial, ?_⟩; gi_at_call 20; refine (callsIn_wide.2 HCK.out).mono ?_)
  rintro e w1 ⟨rfl, hb1⟩
  have hs1 := hb1.size
  simp only [World.size_alloc] at hs1 hb1
  have hB1 : Below w.heap.size w w1 := hb0.trans (hb1.mono (by omega))
  have p1 : w1.cell? ⟨w.heap.size, 1, none⟩ = some (.slice (some ⟨b, off, none⟩) ns.length cap) := by rw [hb1.cell (p := ⟨w.heap.size, 1, none⟩) (by simp)]; simp
  have hlt1 : w.heap.size < w1.heap.size := by omega
  have hms : ∀ W : World, Sem.run Try.prog (Instr.makeSlice 53 (.int .i64 (ns.length : Int)) (.int .i64 (ns.length : Int))) W = .ok (.slice (some ⟨W.heap.size, 0, none⟩) ns.length ns.length) (W.alloc (.cells (madeCells #[.bool false] ns.length) 4)) := fun W => run_make_row' 53 4 _ 1 Try.underlying53 info_bool rfl .i64 .i64 ns.length (by omega) (by omega) W
  have hpos : (0 : Int) < (ns.length : Int) := by omega
  have hposn : 0 < ns.length := by omega
  clear hb1 hb0
  gi_upto_region 5 with fail
  have hr0 : ((w1.alloc (.cells (madeCells #[.bool false] ns.length) 4)).alloc (.cells #[.slice (some ⟨w1.heap.size, 0, none⟩) ns.length ns.length] 53)).heap[w1.heap.size]? = some (.cells ((List.replicate ns.length false).map Value.bool).toArray 4 (0, 0)) := by
    rw [Below.heap_alloc _ _ _ (by simp), World.alloc_heap_new, made_bools]
  have hx0 : Boxed ((w1.alloc (.cells (madeCells #[.bool false] ns.length) 4)).alloc (.cells #[.slice (some ⟨w1.heap.size, 0, none⟩) ns.length ns.length] 53)) (w1.heap.size + 1) 53 (.slice (some ⟨w1.heap.size, 0, none⟩) ns.length ns.length) := by
    have := Boxed.new (w1.alloc (.cells (madeCells #[.bool false] ns.length) 4)) 53 (.slice (some ⟨w1.heap.size, 0, none⟩) ns.length ns.length)
    simpa only [World.size_alloc] using this
  have hbA : Below w1.heap.size w1 ((w1.alloc (.cells (madeCells #[.bool false] ns.length) 4)).alloc (.cells #[.slice (some ⟨w1.heap.size, 0, none⟩) ns.length ns.length] 53)) := ((Below.refl _ w1).alloc (Nat.le_refl _) _).alloc (by simp) _
  have hsA : Hid (((w1.alloc (.cells (madeCells #[.bool false] ns.length) 4)).alloc (.cells #[.slice (some ⟨w1.heap.size, 0, none⟩) ns.length ns.length] 53)).heap.size = w1.heap.size + 2) := by show _ = _; simp
  generalize ((w1.alloc (.cells (madeCells #[.bool false] ns.length) 4)).alloc (.cells #[.slice (some ⟨w1.heap.size, 0, none⟩) ns.length ns.length] 53)) = WA at hr0 hx0 hbA hsA ⊢
  have xc := hx0.cell
  have rc0 := blk_cell hr0 0
  have rf0 := blk_frozen hr0 0
  have rc1 : ((List.replicate ns.length false).map Value.bool).toArray[0]? = some (.bool false) := by
    rw [List.getElem?_toArray, List.getElem?_map, List.getElem?_replicate, if_pos hposn]; rfl
  rw [rc1] at rc0
  gi_upto_region 6 with fail
  have hM0 : RM (((WA.setCell ⟨w1.heap.size, 0, none⟩ (.bool true)).alloc (.cells #[.int .i64 0] 3)).alloc (.cells #[.slice (some ⟨WA.heap.size, 0, none⟩) 1 1] 25)) w1.heap.size w1.heap.size (WA.heap.size + 1) ns.length ((List.replicate ns.length false).set 0 true) [0] (.slice (some ⟨WA.heap.size, 0, none⟩) 1 1) := by
    have e1 : (WA.setCell ⟨w1.heap.size, 0, none⟩ (.bool true)).heap.size = WA.heap.size := by simp
    have h1 : (WA.setCell ⟨w1.heap.size, 0, none⟩ (.bool true)).heap[w1.heap.size]? = some (.cells (((List.replicate ns.length false).set 0 true).map Value.bool).toArray 4 (0, 0)) := by
      rw [blk_set _ hr0]; simp only [List.map_set, List.setIfInBounds_toArray]
    have h2 : Boxed (WA.setCell ⟨w1.heap.size, 0, none⟩ (.bool true)) (w1.heap.size + 1) 53 (.slice (some ⟨w1.heap.size, 0, none⟩) ns.length ns.length) := (Below.heap_setCell _ _ _ _ (boxed_ne hx0 hr0 (by decide))).trans hx0
    have h3 := Boxed.new ((WA.setCell ⟨w1.heap.size, 0, none⟩ (.bool true)).alloc (.cells #[.int .i64 0] 3)) 25 (.slice (some ⟨WA.heap.size, 0, none⟩) 1 1)
    rw [World.size_alloc, e1] at h3
    have h4 := World.alloc_heap_new (WA.setCell ⟨w1.heap.size, 0, none⟩ (.bool true)) (.cells #[.int .i64 0] 3)
    rw [e1] at h4
    refine ⟨(Below.heap_alloc _ _ _ (by have := blk_lt h1; simp at this ⊢; omega)).trans ((Below.heap_alloc _ _ _ (blk_lt h1)).trans h1), (h2.alloc _).alloc _, h3, ⟨rfl, Or.inr ⟨WA.heap.size, 1, #[.int .i64 0], rfl, by have := hbA.size; omega, ?_, Nat.le_refl _, by decide, rfl, rfl⟩⟩⟩
    exact (Below.heap_alloc _ _ _ (by simp)).trans h4
  have hB0 : Below w1.heap.size w1 (((WA.setCell ⟨w1.heap.size, 0, none⟩ (.bool true)).alloc (.cells #[.int .i64 0] 3)).alloc (.cells #[.slice (some ⟨WA.heap.size, 0, none⟩) 1 1] 25)) :=
    ((hbA.setCell (p := ⟨w1.heap.size, 0, none⟩) (Nat.le_refl _) _).alloc (by have := hbA.size; simp; omega) _).alloc (by have := hbA.size; simp; omega) _
  have hsWA := hbA.size
  clear hr0 hx0 hbA xc rc0 rf0 rc1
  gi_upto_region 7 with fail
  generalize (((WA.setCell ⟨w1.heap.size, 0, none⟩ (.bool true)).alloc (.cells #[.int .i64 0] 3)).alloc (.cells #[.slice (some ⟨WA.heap.size, 0, none⟩) 1 1] 25)) = W0 at hM0 hB0 ⊢
  gi_wp2
  have hbf0 := Bfs.start (ns := ns) hposn
  refine wpIn_loop (fun a W => ∃ (i : Nat) (x : List Bool) (cs : List Int) (vc u21 u22 u23 u24 u25 u26 u27 u28 u29 u30 u31 u32 u33 u34 u35 : Value) (ds : List Nat), Bfs ns x cs i [] ∧ i ≤ cs.length ∧ RM W w1.heap.size w1.heap.size (WA.heap.size + 1) ns.length x cs vc ∧ Below w1.heap.size w1 W ∧ Marks ds W ∧ (∀ D ∈ ds, w1.heap.size ≤ D) ∧
      a = { tmps := #[.agg #[.int .i64 r, .slice (some ⟨b, off, none⟩) ns.length cap], .pointer (some ⟨w.heap.size, 0, none⟩), .slice none 0 0, .int .i64 0, .int .i64 0, .pointer (some ⟨w1.heap.size + 1, 0, none⟩), .pointer (some ⟨WA.heap.size + 1, 0, none⟩), .int .i64 i, undef, .agg #[.int .i64 r, .slice (some ⟨b, off, none⟩) ns.length cap], .int .i64 0, .int .i64 0, .bool false, undef, .pointer (some ⟨w.heap.size, 1, none⟩), .slice (some ⟨b, off, none⟩) ns.length cap, .int .i64 ns.length, .slice (some ⟨w1.heap.size, 0, none⟩) ns.length ns.length, .slice (some ⟨w1.heap.size, 0, none⟩) ns.length ns.length, .pointer (some ⟨w1.heap.size, 0, none⟩), .slice (some ⟨WA.heap.size, 0, none⟩) 1 1, u21, u22, u23, u24, u25, u26, u27, u28, u29, u30, u31, u32, u33, u34, u35, undef, undef, undef, undef, undef, undef, undef, undef, undef, undef, undef, undef, undef, undef], defers := ds.map markD })
    (fun a _ => ns.length - (intOf (a.tmps.getD 7 undef)).toNat) ?atStart ?round
  case atStart => exact ⟨0, _, [0], _, _, _, _, _, _, _, _, _, _, _, _, _, _, _, _, [], hbf0, by simp, hM0, hB0, Marks.nil _, by simp, rfl⟩
  case round =>
    rintro _ wr ⟨i, x, cs, vc, u21, u22, u23, u24, u25, u26, u27, u28, u29, u30, u31, u32, u33, u34, u35, ds, hbf, hi, hM, hB, hMk, hD', rfl⟩
    have hcl := hbf.len_le
    have xc := hM.cbx.cell
    have xr := hM.rbx.cell
    have p2 : wr.cell? ⟨w.heap.size, 1, none⟩ = some (.slice (some ⟨b, off, none⟩) ns.length cap) := (hB.cell (p := ⟨w.heap.size, 1, none⟩) hlt1).trans p1
    have hszr := hB.size
    have hltr : w.heap.size < wr.heap.size := by omega
    have hxl := hM.rbx.lt
    have hcl2 := hM.cbx.lt
    by_cases hlt : i < cs.length
    · obtain ⟨c, hci⟩ := get_lt hlt
      have hcr := hbf.rng c (List.mem_of_getElem? hci)
      obtain ⟨cn, rfl⟩ := Int.eq_ofNat_of_zero_le hcr.1
      obtain ⟨g, gcap, rfl, hbase, hglt⟩ := hM.come.form (by omega)
      have hgc : wr.cell? ⟨g, i, none⟩ = some (.int .i64 cn) := by
        have := hM.come.cells (g := g) rfl i (.int .i64 cn) (by simp [hci])
        have e : (⟨g, 0, none⟩ : Addr).add i = ⟨g, i, none⟩ := by cases i <;> simp [Addr.add]
        rw [e] at this; exact this
      have hcn : cn < ns.length := by omega
      obtain ⟨y, hy⟩ := get_lt hcn
      have hN1 := hN.below (hB1.trans (hB.mono (by omega))) hN.lt
      have c0 := hN1.c0 cn y hy
      have c1 := hN1.c1 cn y hy
      have c2 := hN1.c2 cn y hy
      have c3 := hN1.c3 cn y hy
      have c4 := hN1.c4 cn y hy
      have c5 := hN1.c5 cn y hy
      have hblt := hN1.lt
      have HY := hide' hy
      have HN := hide' hN1
      have HM := hide' hM
      have HBF := hide' hbf
      have HCI := hide' hci
      clear hy hN1 hM hbf hci
      gi_wp2
      refine region_inv (by kernel_rfl) (fun listed a w' => ∃ v27 v28 v29 v30 v31 v32 v33 v34 v35 : Value, listed.size = 9 ∧ a = { tmps := #[.agg #[.int .i64 r, .slice (some ⟨b, off, none⟩) ns.length cap], .pointer (some ⟨w.heap.size, 0, none⟩), .slice none 0 0, .int .i64 0, .int .i64 0, .pointer (some ⟨w1.heap.size + 1, 0, none⟩), .pointer (some ⟨WA.heap.size + 1, 0, none⟩), .int .i64 i, undef, .agg #[.int .i64 r, .slice (some ⟨b, off, none⟩) ns.length cap], .int .i64 0, .int .i64 0, .bool false, undef, .pointer (some ⟨w.heap.size, 1, none⟩), .slice (some ⟨b, off, none⟩) ns.length cap, .int .i64 ns.length, .slice (some ⟨w1.heap.size, 0, none⟩) ns.length ns.length, .slice (some ⟨w1.heap.size, 0, none⟩) ns.length ns.length, .pointer (some ⟨w1.heap.size, 0, none⟩), .slice (some ⟨WA.heap.size, 0, none⟩) 1 1, .int .i64 i, .slice (some ⟨g, 0, none⟩) cs.length gcap, .int .i64 cs.length, .bool true, u25, u26, v27, v28, v29, v30, v31, v32, v33, v34, v35, undef, undef, undef, undef, undef, undef, undef, undef, undef, undef, undef, undef, undef, undef], defers := ds.map markD } ∧ (listed.getD 0 false = true → v27 = .pointer (some ⟨w.heap.size, 1, none⟩)) ∧ (listed.getD 1 false = true → v28 = .slice (some ⟨b, off, none⟩) ns.length cap) ∧ (listed.getD 2 false = true → v29 = .slice (some ⟨g, 0, none⟩) cs.length gcap) ∧ (listed.getD 3 false = true → v30 = .int .i64 (i : Int)) ∧ (listed.getD 4 false = true → v31 = .pointer (some ⟨g, i, none⟩)) ∧ (listed.getD 5 false = true → v32 = .int .i64 (cn : Int)) ∧ (listed.getD 6 false = true → v33 = .pointer (some ⟨b, off + cn * 6, none⟩)) ∧ (listed.getD 7 false = true → v34 = .agg #[.int .i64 y.op, .int .i64 y.d, .int .i64 y.a, .int .i64 y.b, .int .i64 y.t, .int .i64 y.e]) ∧ (listed.getD 8 false = true → v35 = .func (.func 97) #[] #[.pointer (some ⟨wr.heap.size, 0, none⟩)]) ∧ ((listed.getD 8 false = false ∧ w' = wr.drew) ∨ (listed.getD 8 false = true ∧ w' = wr.drew.alloc (.cells #[.int .i64 y.op, .int .i64 y.d, .int .i64 y.a, .int .i64 y.b, .int .i64 y.t, .int .i64 y.e] 87)))) ?hg ?hsz ?h0 ?hs ?h1
      case hg =>
        intro ix o ho
        match ix, ho with
        | 0, ho | 1, ho | 2, ho | 3, ho | 4, ho | 5, ho | 6, ho | 7, ho | 8, ho => simp at ho; subst ho; simp [Region.binds]
        | ix + 9, ho => simp at ho
      case hsz => rintro listed a w' ⟨_, _, _, _, _, _, _, _, _, h, _⟩; simpa using h
      case h0 =>
        refine ⟨_, _, _, _, _, _, _, _, _, by simp, rfl, by simp, by simp, by simp, by simp, by simp, by simp, by simp, by simp, by simp, Or.inl ⟨by simp, rfl⟩⟩
      case hs =>
        rintro listed a w' ix o ⟨v27, v28, v29, v30, v31, v32, v33, v34, v35, hsz, rfl, e0, e1, e2, e3, e4, e5, e6, e7, e8, hw⟩ hC ho hl hd
        have hltn : ix < 9 := (Array.getElem?_eq_some_iff.1 ho).1
        have hl' : listed.getD ix false = false := by
          simp only [Array.getD] at hl ⊢
          rw [dif_pos (by omega)] at hl ⊢; exact hl
        have keep : ∀ j, j ≠ ix → (listed.setIfInBounds ix true).getD j false = listed.getD j false := fun j hj => getD_set_ne false (fun e => hj e.symm)
        have sett : (listed.setIfInBounds ix true).getD ix false = true := by simp [hsz, hltn]
        have hsz' : (listed.setIfInBounds ix true).size = 9 := by simp [hsz]
        clear hl
        match ix, hltn with
        | 0, _ =>
          simp at ho; subst ho
          clear hd
          rcases hw with ⟨g8, hwe⟩ | ⟨g8, hwe⟩
          · obtain rfl := hwe.symm
            refine Oper.wpIn_mono (K := fun a' w'' => a' = { tmps := #[.agg #[.int .i64 r, .slice (some ⟨b, off, none⟩) ns.length cap], .pointer (some ⟨w.heap.size, 0, none⟩), .slice none 0 0, .int .i64 0, .int .i64 0, .pointer (some ⟨w1.heap.size + 1, 0, none⟩), .pointer (some ⟨WA.heap.size + 1, 0, none⟩), .int .i64 i, undef, .agg #[.int .i64 r, .slice (some ⟨b, off, none⟩) ns.length cap], .int .i64 0, .int .i64 0, .bool false, undef, .pointer (some ⟨w.heap.size, 1, none⟩), .slice (some ⟨b, off, none⟩) ns.length cap, .int .i64 ns.length, .slice (some ⟨w1.heap.size, 0, none⟩) ns.length ns.length, .slice (some ⟨w1.heap.size, 0, none⟩) ns.length ns.length, .pointer (some ⟨w1.heap.size, 0, none⟩), .slice (some ⟨WA.heap.size, 0, none⟩) 1 1, .int .i64 i, .slice (some ⟨g, 0, none⟩) cs.length gcap, .int .i64 cs.length, .bool true, u25, u26, .pointer (some ⟨w.heap.size, 1, none⟩), v28, v29, v30, v31, v32, v33, v34, v35, undef, undef, undef, undef, undef, undef, undef, undef, undef, undef, undef, undef, undef, undef], defers := ds.map markD } ∧ w'' = wr.drew) (fun a' w'' h => ?_) ?_
            · obtain ⟨rfl, rfl⟩ := h
              exact ⟨_, _, _, _, _, _, _, _, _, hsz', rfl, fun _ => rfl, fun h => e1 (by rwa [keep 1 (by omega)] at h), fun h => e2 (by rwa [keep 2 (by omega)] at h), fun h => e3 (by rwa [keep 3 (by omega)] at h), fun h => e4 (by rwa [keep 4 (by omega)] at h), fun h => e5 (by rwa [keep 5 (by omega)] at h), fun h => e6 (by rwa [keep 6 (by omega)] at h), fun h => e7 (by rwa [keep 7 (by omega)] at h), fun h => e8 (by rwa [keep 8 (by omega)] at h), Or.inl ⟨(keep 8 (by omega)).trans g8, rfl⟩⟩
            · go_simp
          · rw [(hC 1 _ rfl (hC 6 _ rfl (hC 7 _ rfl (hC 8 _ rfl g8 ⟨7, .data⟩ (by simp) rfl) ⟨6, .data⟩ (by simp) rfl) ⟨1, .data⟩ (by simp) rfl) ⟨0, .data⟩ (by simp) rfl)] at hl'; cases hl'
        | 1, _ =>
          simp at ho; subst ho
          have d0 : listed.getD 0 false = true := hd ⟨0, .data⟩ (by simp) rfl
          obtain rfl := (e0 d0).symm
          clear hd
          rcases hw with ⟨g8, hwe⟩ | ⟨g8, hwe⟩
          · obtain rfl := hwe.symm
            refine Oper.wpIn_mono (K := fun a' w'' => a' = { tmps := #[.agg #[.int .i64 r, .slice (some ⟨b, off, none⟩) ns.length cap], .pointer (some ⟨w.heap.size, 0, none⟩), .slice none 0 0, .int .i64 0, .int .i64 0, .pointer (some ⟨w1.heap.size + 1, 0, none⟩), .pointer (some ⟨WA.heap.size + 1, 0, none⟩), .int .i64 i, undef, .agg #[.int .i64 r, .slice (some ⟨b, off, none⟩) ns.length cap], .int .i64 0, .int .i64 0, .bool false, undef, .pointer (some ⟨w.heap.size, 1, none⟩), .slice (some ⟨b, off, none⟩) ns.length cap, .int .i64 ns.length, .slice (some ⟨w1.heap.size, 0, none⟩) ns.length ns.length, .slice (some ⟨w1.heap.size, 0, none⟩) ns.length ns.length, .pointer (some ⟨w1.heap.size, 0, none⟩), .slice (some ⟨WA.heap.size, 0, none⟩) 1 1, .int .i64 i, .slice (some ⟨g, 0, none⟩) cs.length gcap, .int .i64 cs.length, .bool true, u25, u26, .pointer (some ⟨w.heap.size, 1, none⟩), .slice (some ⟨b, off, none⟩) ns.length cap, v29, v30, v31, v32, v33, v34, v35, undef, undef, undef, undef, undef, undef, undef, undef, undef, undef, undef, undef, undef, undef], defers := ds.map markD } ∧ w'' = wr.drew) (fun a' w'' h => ?_) ?_
            · obtain ⟨rfl, rfl⟩ := h
              exact ⟨_, _, _, _, _, _, _, _, _, hsz', rfl, fun _ => rfl, fun _ => rfl, fun h => e2 (by rwa [keep 2 (by omega)] at h), fun h => e3 (by rwa [keep 3 (by omega)] at h), fun h => e4 (by rwa [keep 4 (by omega)] at h), fun h => e5 (by rwa [keep 5 (by omega)] at h), fun h => e6 (by rwa [keep 6 (by omega)] at h), fun h => e7 (by rwa [keep 7 (by omega)] at h), fun h => e8 (by rwa [keep 8 (by omega)] at h), Or.inl ⟨(keep 8 (by omega)).trans g8, rfl⟩⟩
            · go_simp
          · rw [(hC 6 _ rfl (hC 7 _ rfl (hC 8 _ rfl g8 ⟨7, .data⟩ (by simp) rfl) ⟨6, .data⟩ (by simp) rfl) ⟨1, .data⟩ (by simp) rfl)] at hl'; cases hl'
        | 2, _ =>
          simp at ho; subst ho
          clear hd
          rcases hw with ⟨g8, hwe⟩ | ⟨g8, hwe⟩
          · obtain rfl := hwe.symm
            refine Oper.wpIn_mono (K := fun a' w'' => a' = { tmps := #[.agg #[.int .i64 r, .slice (some ⟨b, off, none⟩) ns.length cap], .pointer (some ⟨w.heap.size, 0, none⟩), .slice none 0 0, .int .i64 0, .int .i64 0, .pointer (some ⟨w1.heap.size + 1, 0, none⟩), .pointer (some ⟨WA.heap.size + 1, 0, none⟩), .int .i64 i, undef, .agg #[.int .i64 r, .slice (some ⟨b, off, none⟩) ns.length cap], .int .i64 0, .int .i64 0, .bool false, undef, .pointer (some ⟨w.heap.size, 1, none⟩), .slice (some ⟨b, off, none⟩) ns.length cap, .int .i64 ns.length, .slice (some ⟨w1.heap.size, 0, none⟩) ns.length ns.length, .slice (some ⟨w1.heap.size, 0, none⟩) ns.length ns.length, .pointer (some ⟨w1.heap.size, 0, none⟩), .slice (some ⟨WA.heap.size, 0, none⟩) 1 1, .int .i64 i, .slice (some ⟨g, 0, none⟩) cs.length gcap, .int .i64 cs.length, .bool true, u25, u26, v27, v28, .slice (some ⟨g, 0, none⟩) cs.length gcap, v30, v31, v32, v33, v34, v35, undef, undef, undef, undef, undef, undef, undef, undef, undef, undef, undef, undef, undef, undef], defers := ds.map markD } ∧ w'' = wr.drew) (fun a' w'' h => ?_) ?_
            · obtain ⟨rfl, rfl⟩ := h
              exact ⟨_, _, _, _, _, _, _, _, _, hsz', rfl, fun h => e0 (by rwa [keep 0 (by omega)] at h), fun h => e1 (by rwa [keep 1 (by omega)] at h), fun _ => rfl, fun h => e3 (by rwa [keep 3 (by omega)] at h), fun h => e4 (by rwa [keep 4 (by omega)] at h), fun h => e5 (by rwa [keep 5 (by omega)] at h), fun h => e6 (by rwa [keep 6 (by omega)] at h), fun h => e7 (by rwa [keep 7 (by omega)] at h), fun h => e8 (by rwa [keep 8 (by omega)] at h), Or.inl ⟨(keep 8 (by omega)).trans g8, rfl⟩⟩
            · go_simp
          · rw [(hC 4 _ rfl (hC 5 _ rfl (hC 6 _ rfl (hC 7 _ rfl (hC 8 _ rfl g8 ⟨7, .data⟩ (by simp) rfl) ⟨6, .data⟩ (by simp) rfl) ⟨5, .data⟩ (by simp) rfl) ⟨4, .data⟩ (by simp) rfl) ⟨2, .data⟩ (by simp) rfl)] at hl'; cases hl'
        | 3, _ =>
          simp at ho; subst ho
          clear hd
          rcases hw with ⟨g8, hwe⟩ | ⟨g8, hwe⟩
          · obtain rfl := hwe.symm
            refine Oper.wpIn_mono (K := fun a' w'' => a' = { tmps := #[.agg #[.int .i64 r, .slice (some ⟨b, off, none⟩) ns.length cap], .pointer (some ⟨w.heap.size, 0, none⟩), .slice none 0 0, .int .i64 0, .int .i64 0, .pointer (some ⟨w1.heap.size + 1, 0, none⟩), .pointer (some ⟨WA.heap.size + 1, 0, none⟩), .int .i64 i, undef, .agg #[.int .i64 r, .slice (some ⟨b, off, none⟩) ns.length cap], .int .i64 0, .int .i64 0, .bool false, undef, .pointer (some ⟨w.heap.size, 1, none⟩), .slice (some ⟨b, off, none⟩) ns.length cap, .int .i64 ns.length, .slice (some ⟨w1.heap.size, 0, none⟩) ns.length ns.length, .slice (some ⟨w1.heap.size, 0, none⟩) ns.length ns.length, .pointer (some ⟨w1.heap.size, 0, none⟩), .slice (some ⟨WA.heap.size, 0, none⟩) 1 1, .int .i64 i, .slice (some ⟨g, 0, none⟩) cs.length gcap, .int .i64 cs.length, .bool true, u25, u26, v27, v28, v29, .int .i64 (i : Int), v31, v32, v33, v34, v35, undef, undef, undef, undef, undef, undef, undef, undef, undef, undef, undef, undef, undef, undef], defers := ds.map markD } ∧ w'' = wr.drew) (fun a' w'' h => ?_) ?_
            · obtain ⟨rfl, rfl⟩ := h
              exact ⟨_, _, _, _, _, _, _, _, _, hsz', rfl, fun h => e0 (by rwa [keep 0 (by omega)] at h), fun h => e1 (by rwa [keep 1 (by omega)] at h), fun h => e2 (by rwa [keep 2 (by omega)] at h), fun _ => rfl, fun h => e4 (by rwa [keep 4 (by omega)] at h), fun h => e5 (by rwa [keep 5 (by omega)] at h), fun h => e6 (by rwa [keep 6 (by omega)] at h), fun h => e7 (by rwa [keep 7 (by omega)] at h), fun h => e8 (by rwa [keep 8 (by omega)] at h), Or.inl ⟨(keep 8 (by omega)).trans g8, rfl⟩⟩
            · go_simp
          · rw [(hC 4 _ rfl (hC 5 _ rfl (hC 6 _ rfl (hC 7 _ rfl (hC 8 _ rfl g8 ⟨7, .data⟩ (by simp) rfl) ⟨6, .data⟩ (by simp) rfl) ⟨5, .data⟩ (by simp) rfl) ⟨4, .data⟩ (by simp) rfl) ⟨3, .data⟩ (by simp) rfl)] at hl'; cases hl'
        | 4, _ =>
          simp at ho; subst ho
          have d2 : listed.getD 2 false = true := hd ⟨2, .data⟩ (by simp) rfl
          have d3 : listed.getD 3 false = true := hd ⟨3, .data⟩ (by simp) rfl
          obtain rfl := (e2 d2).symm
          obtain rfl := (e3 d3).symm
          clear hd
          rcases hw with ⟨g8, hwe⟩ | ⟨g8, hwe⟩
          · obtain rfl := hwe.symm
            refine Oper.wpIn_mono (K := fun a' w'' => a' = { tmps := #[.agg #[.int .i64 r, .slice (some ⟨b, off, none⟩) ns.length cap], .pointer (some ⟨w.heap.size, 0, none⟩), .slice none 0 0, .int .i64 0, .int .i64 0, .pointer (some ⟨w1.heap.size + 1, 0, none⟩), .pointer (some ⟨WA.heap.size + 1, 0, none⟩), .int .i64 i, undef, .agg #[.int .i64 r, .slice (some ⟨b, off, none⟩) ns.length cap], .int .i64 0, .int .i64 0, .bool false, undef, .pointer (some ⟨w.heap.size, 1, none⟩), .slice (some ⟨b, off, none⟩) ns.length cap, .int .i64 ns.length, .slice (some ⟨w1.heap.size, 0, none⟩) ns.length ns.length, .slice (some ⟨w1.heap.size, 0, none⟩) ns.length ns.length, .pointer (some ⟨w1.heap.size, 0, none⟩), .slice (some ⟨WA.heap.size, 0, none⟩) 1 1, .int .i64 i, .slice (some ⟨g, 0, none⟩) cs.length gcap, .int .i64 cs.length, .bool true, u25, u26, v27, v28, .slice (some ⟨g, 0, none⟩) cs.length gcap, .int .i64 (i : Int), .pointer (some ⟨g, i, none⟩), v32, v33, v34, v35, undef, undef, undef, undef, undef, undef, undef, undef, undef, undef, undef, undef, undef, undef], defers := ds.map markD } ∧ w'' = wr.drew) (fun a' w'' h => ?_) ?_
            · obtain ⟨rfl, rfl⟩ := h
              exact ⟨_, _, _, _, _, _, _, _, _, hsz', rfl, fun h => e0 (by rwa [keep 0 (by omega)] at h), fun h => e1 (by rwa [keep 1 (by omega)] at h), fun _ => rfl, fun _ => rfl, fun _ => rfl, fun h => e5 (by rwa [keep 5 (by omega)] at h), fun h => e6 (by rwa [keep 6 (by omega)] at h), fun h => e7 (by rwa [keep 7 (by omega)] at h), fun h => e8 (by rwa [keep 8 (by omega)] at h), Or.inl ⟨(keep 8 (by omega)).trans g8, rfl⟩⟩
            · go_simp
          · rw [(hC 5 _ rfl (hC 6 _ rfl (hC 7 _ rfl (hC 8 _ rfl g8 ⟨7, .data⟩ (by simp) rfl) ⟨6, .data⟩ (by simp) rfl) ⟨5, .data⟩ (by simp) rfl) ⟨4, .data⟩ (by simp) rfl)] at hl'; cases hl'
        | 5, _ =>
          simp at ho; subst ho
          have d4 : listed.getD 4 false = true := hd ⟨4, .data⟩ (by simp) rfl
          have d2 : listed.getD 2 false = true := hC 4 _ rfl d4 ⟨2, .data⟩ (by simp) rfl
          have d3 : listed.getD 3 false = true := hC 4 _ rfl d4 ⟨3, .data⟩ (by simp) rfl
          obtain rfl := (e4 d4).symm
          obtain rfl := (e2 d2).symm
          obtain rfl := (e3 d3).symm
          clear hd
          rcases hw with ⟨g8, hwe⟩ | ⟨g8, hwe⟩
          · obtain rfl := hwe.symm
            refine Oper.wpIn_mono (K := fun a' w'' => a' = { tmps := #[.agg #[.int .i64 r, .slice (some ⟨b, off, none⟩) ns.length cap], .pointer (some ⟨w.heap.size, 0, none⟩), .slice none 0 0, .int .i64 0, .int .i64 0, .pointer (some ⟨w1.heap.size + 1, 0, none⟩), .pointer (some ⟨WA.heap.size + 1, 0, none⟩), .int .i64 i, undef, .agg #[.int .i64 r, .slice (some ⟨b, off, none⟩) ns.length cap], .int .i64 0, .int .i64 0, .bool false, undef, .pointer (some ⟨w.heap.size, 1, none⟩), .slice (some ⟨b, off, none⟩) ns.length cap, .int .i64 ns.length, .slice (some ⟨w1.heap.size, 0, none⟩) ns.length ns.length, .slice (some ⟨w1.heap.size, 0, none⟩) ns.length ns.length, .pointer (some ⟨w1.heap.size, 0, none⟩), .slice (some ⟨WA.heap.size, 0, none⟩) 1 1, .int .i64 i, .slice (some ⟨g, 0, none⟩) cs.length gcap, .int .i64 cs.length, .bool true, u25, u26, v27, v28, .slice (some ⟨g, 0, none⟩) cs.length gcap, .int .i64 (i : Int), .pointer (some ⟨g, i, none⟩), .int .i64 (cn : Int), v33, v34, v35, undef, undef, undef, undef, undef, undef, undef, undef, undef, undef, undef, undef, undef, undef], defers := ds.map markD } ∧ w'' = wr.drew) (fun a' w'' h => ?_) ?_
            · obtain ⟨rfl, rfl⟩ := h
              exact ⟨_, _, _, _, _, _, _, _, _, hsz', rfl, fun h => e0 (by rwa [keep 0 (by omega)] at h), fun h => e1 (by rwa [keep 1 (by omega)] at h), fun _ => rfl, fun _ => rfl, fun _ => rfl, fun _ => rfl, fun h => e6 (by rwa [keep 6 (by omega)] at h), fun h => e7 (by rwa [keep 7 (by omega)] at h), fun h => e8 (by rwa [keep 8 (by omega)] at h), Or.inl ⟨(keep 8 (by omega)).trans g8, rfl⟩⟩
            · go_simp
          · rw [(hC 6 _ rfl (hC 7 _ rfl (hC 8 _ rfl g8 ⟨7, .data⟩ (by simp) rfl) ⟨6, .data⟩ (by simp) rfl) ⟨5, .data⟩ (by simp) rfl)] at hl'; cases hl'
        | 6, _ =>
          simp at ho; subst ho
          have d1 : listed.getD 1 false = true := hd ⟨1, .data⟩ (by simp) rfl
          have d5 : listed.getD 5 false = true := hd ⟨5, .data⟩ (by simp) rfl
          have d0 : listed.getD 0 false = true := hC 1 _ rfl d1 ⟨0, .data⟩ (by simp) rfl
          have d4 : listed.getD 4 false = true := hC 5 _ rfl d5 ⟨4, .data⟩ (by simp) rfl
          have d2 : listed.getD 2 false = true := hC 4 _ rfl d4 ⟨2, .data⟩ (by simp) rfl
          have d3 : listed.getD 3 false = true := hC 4 _ rfl d4 ⟨3, .data⟩ (by simp) rfl
          obtain rfl := (e1 d1).symm
          obtain rfl := (e5 d5).symm
          obtain rfl := (e0 d0).symm
          obtain rfl := (e4 d4).symm
          obtain rfl := (e2 d2).symm
          obtain rfl := (e3 d3).symm
          clear hd
          rcases hw with ⟨g8, hwe⟩ | ⟨g8, hwe⟩
          · obtain rfl := hwe.symm
            refine Oper.wpIn_mono (K := fun a' w'' => a' = { tmps := #[.agg #[.int .i64 r, .slice (some ⟨b, off, none⟩) ns.length cap], .pointer (some ⟨w.heap.size, 0, none⟩), .slice none 0 0, .int .i64 0, .int .i64 0, .pointer (some ⟨w1.heap.size + 1, 0, none⟩), .pointer (some ⟨WA.heap.size + 1, 0, none⟩), .int .i64 i, undef, .agg #[.int .i64 r, .slice (some ⟨b, off, none⟩) ns.length cap], .int .i64 0, .int .i64 0, .bool false, undef, .pointer (some ⟨w.heap.size, 1, none⟩), .slice (some ⟨b, off, none⟩) ns.length cap, .int .i64 ns.length, .slice (some ⟨w1.heap.size, 0, none⟩) ns.length ns.length, .slice (some ⟨w1.heap.size, 0, none⟩) ns.length ns.length, .pointer (some ⟨w1.heap.size, 0, none⟩), .slice (some ⟨WA.heap.size, 0, none⟩) 1 1, .int .i64 i, .slice (some ⟨g, 0, none⟩) cs.length gcap, .int .i64 cs.length, .bool true, u25, u26, .pointer (some ⟨w.heap.size, 1, none⟩), .slice (some ⟨b, off, none⟩) ns.length cap, .slice (some ⟨g, 0, none⟩) cs.length gcap, .int .i64 (i : Int), .pointer (some ⟨g, i, none⟩), .int .i64 (cn : Int), .pointer (some ⟨b, off + cn * 6, none⟩), v34, v35, undef, undef, undef, undef, undef, undef, undef, undef, undef, undef, undef, undef, undef, undef], defers := ds.map markD } ∧ w'' = wr.drew) (fun a' w'' h => ?_) ?_
            · obtain ⟨rfl, rfl⟩ := h
              exact ⟨_, _, _, _, _, _, _, _, _, hsz', rfl, fun _ => rfl, fun _ => rfl, fun _ => rfl, fun _ => rfl, fun _ => rfl, fun _ => rfl, fun _ => rfl, fun h => e7 (by rwa [keep 7 (by omega)] at h), fun h => e8 (by rwa [keep 8 (by omega)] at h), Or.inl ⟨(keep 8 (by omega)).trans g8, rfl⟩⟩
            · go_simp
          · rw [(hC 7 _ rfl (hC 8 _ rfl g8 ⟨7, .data⟩ (by simp) rfl) ⟨6, .data⟩ (by simp) rfl)] at hl'; cases hl'
        | 7, _ =>
          simp at ho; subst ho
          have d6 : listed.getD 6 false = true := hd ⟨6, .data⟩ (by simp) rfl
          have d1 : listed.getD 1 false = true := hC 6 _ rfl d6 ⟨1, .data⟩ (by simp) rfl
          have d5 : listed.getD 5 false = true := hC 6 _ rfl d6 ⟨5, .data⟩ (by simp) rfl
          have d0 : listed.getD 0 false = true := hC 1 _ rfl d1 ⟨0, .data⟩ (by simp) rfl
          have d4 : listed.getD 4 false = true := hC 5 _ rfl d5 ⟨4, .data⟩ (by simp) rfl
          have d2 : listed.getD 2 false = true := hC 4 _ rfl d4 ⟨2, .data⟩ (by simp) rfl
          have d3 : listed.getD 3 false = true := hC 4 _ rfl d4 ⟨3, .data⟩ (by simp) rfl
          obtain rfl := (e6 d6).symm
          obtain rfl := (e1 d1).symm
          obtain rfl := (e5 d5).symm
          obtain rfl := (e0 d0).symm
          obtain rfl := (e4 d4).symm
          obtain rfl := (e2 d2).symm
          obtain rfl := (e3 d3).symm
          clear hd
          rcases hw with ⟨g8, hwe⟩ | ⟨g8, hwe⟩
          · obtain rfl := hwe.symm
            refine Oper.wpIn_mono (K := fun a' w'' => a' = { tmps := #[.agg #[.int .i64 r, .slice (some ⟨b, off, none⟩) ns.length cap], .pointer (some ⟨w.heap.size, 0, none⟩), .slice none 0 0, .int .i64 0, .int .i64 0, .pointer (some ⟨w1.heap.size + 1, 0, none⟩), .pointer (some ⟨WA.heap.size + 1, 0, none⟩), .int .i64 i, undef, .agg #[.int .i64 r, .slice (some ⟨b, off, none⟩) ns.length cap], .int .i64 0, .int .i64 0, .bool false, undef, .pointer (some ⟨w.heap.size, 1, none⟩), .slice (some ⟨b, off, none⟩) ns.length cap, .int .i64 ns.length, .slice (some ⟨w1.heap.size, 0, none⟩) ns.length ns.length, .slice (some ⟨w1.heap.size, 0, none⟩) ns.length ns.length, .pointer (some ⟨w1.heap.size, 0, none⟩), .slice (some ⟨WA.heap.size, 0, none⟩) 1 1, .int .i64 i, .slice (some ⟨g, 0, none⟩) cs.length gcap, .int .i64 cs.length, .bool true, u25, u26, .pointer (some ⟨w.heap.size, 1, none⟩), .slice (some ⟨b, off, none⟩) ns.length cap, .slice (some ⟨g, 0, none⟩) cs.length gcap, .int .i64 (i : Int), .pointer (some ⟨g, i, none⟩), .int .i64 (cn : Int), .pointer (some ⟨b, off + cn * 6, none⟩), .agg #[.int .i64 y.op, .int .i64 y.d, .int .i64 y.a, .int .i64 y.b, .int .i64 y.t, .int .i64 y.e], v35, undef, undef, undef, undef, undef, undef, undef, undef, undef, undef, undef, undef, undef, undef], defers := ds.map markD } ∧ w'' = wr.drew) (fun a' w'' h => ?_) ?_
            · obtain ⟨rfl, rfl⟩ := h
              exact ⟨_, _, _, _, _, _, _, _, _, hsz', rfl, fun _ => rfl, fun _ => rfl, fun _ => rfl, fun _ => rfl, fun _ => rfl, fun _ => rfl, fun _ => rfl, fun _ => rfl, fun h => e8 (by rwa [keep 8 (by omega)] at h), Or.inl ⟨(keep 8 (by omega)).trans g8, rfl⟩⟩
            · go_simp
          · rw [(hC 8 _ rfl g8 ⟨7, .data⟩ (by simp) rfl)] at hl'; cases hl'
        | 8, _ =>
          simp at ho; subst ho
          have d7 : listed.getD 7 false = true := hd ⟨7, .data⟩ (by simp) rfl
          have d6 : listed.getD 6 false = true := hC 7 _ rfl d7 ⟨6, .data⟩ (by simp) rfl
          have d1 : listed.getD 1 false = true := hC 6 _ rfl d6 ⟨1, .data⟩ (by simp) rfl
          have d5 : listed.getD 5 false = true := hC 6 _ rfl d6 ⟨5, .data⟩ (by simp) rfl
          have d0 : listed.getD 0 false = true := hC 1 _ rfl d1 ⟨0, .data⟩ (by simp) rfl
          have d4 : listed.getD 4 false = true := hC 5 _ rfl d5 ⟨4, .data⟩ (by simp) rfl
          have d2 : listed.getD 2 false = true := hC 4 _ rfl d4 ⟨2, .data⟩ (by simp) rfl
          have d3 : listed.getD 3 false = true := hC 4 _ rfl d4 ⟨3, .data⟩ (by simp) rfl
          obtain rfl := (e7 d7).symm
          obtain rfl := (e6 d6).symm
          obtain rfl := (e1 d1).symm
          obtain rfl := (e5 d5).symm
          obtain rfl := (e0 d0).symm
          obtain rfl := (e4 d4).symm
          obtain rfl := (e2 d2).symm
          obtain rfl := (e3 d3).symm
          clear hd
          rcases hw with ⟨g8, hwe⟩ | ⟨g8, hwe⟩
          · obtain rfl := hwe.symm
            refine Oper.wpIn_mono (K := fun a' w'' => a' = { tmps := #[.agg #[.int .i64 r, .slice (some ⟨b, off, none⟩) ns.length cap], .pointer (some ⟨w.heap.size, 0, none⟩), .slice none 0 0, .int .i64 0, .int .i64 0, .pointer (some ⟨w1.heap.size + 1, 0, none⟩), .pointer (some ⟨WA.heap.size + 1, 0, none⟩), .int .i64 i, undef, .agg #[.int .i64 r, .slice (some ⟨b, off, none⟩) ns.length cap], .int .i64 0, .int .i64 0, .bool false, undef, .pointer (some ⟨w.heap.size, 1, none⟩), .slice (some ⟨b, off, none⟩) ns.length cap, .int .i64 ns.length, .slice (some ⟨w1.heap.size, 0, none⟩) ns.length ns.length, .slice (some ⟨w1.heap.size, 0, none⟩) ns.length ns.length, .pointer (some ⟨w1.heap.size, 0, none⟩), .slice (some ⟨WA.heap.size, 0, none⟩) 1 1, .int .i64 i, .slice (some ⟨g, 0, none⟩) cs.length gcap, .int .i64 cs.length, .bool true, u25, u26, .pointer (some ⟨w.heap.size, 1, none⟩), .slice (some ⟨b, off, none⟩) ns.length cap, .slice (some ⟨g, 0, none⟩) cs.length gcap, .int .i64 (i : Int), .pointer (some ⟨g, i, none⟩), .int .i64 (cn : Int), .pointer (some ⟨b, off + cn * 6, none⟩), .agg #[.int .i64 y.op, .int .i64 y.d, .int .i64 y.a, .int .i64 y.b, .int .i64 y.t, .int .i64 y.e], .func (.func 97) #[] #[.pointer (some ⟨wr.heap.size, 0, none⟩)], undef, undef, undef, undef, undef, undef, undef, undef, undef, undef, undef, undef, undef, undef], defers := ds.map markD } ∧ w'' = wr.drew.alloc (.cells #[.int .i64 y.op, .int .i64 y.d, .int .i64 y.a, .int .i64 y.b, .int .i64 y.t, .int .i64 y.e] 87)) (fun a' w'' h => ?_) ?_
            · obtain ⟨rfl, rfl⟩ := h
              exact ⟨_, _, _, _, _, _, _, _, _, hsz', rfl, fun _ => rfl, fun _ => rfl, fun _ => rfl, fun _ => rfl, fun _ => rfl, fun _ => rfl, fun _ => rfl, fun _ => rfl, fun _ => rfl, Or.inr (⟨sett, rfl⟩)⟩
            · go_simp
              refine ⟨trivial, (exits_in _ _ _ _ _ _ _ _).mono ?_⟩
              rintro e w' ⟨rfl, rfl⟩
              exact ⟨rfl, rfl⟩
          · rw [g8] at hl'; cases hl'
      case h1 =>
        rintro listed a w' ⟨_, _, _, _, _, _, _, _, _, hsz, rfl, e0, e1, e2, e3, e4, e5, e6, e7, e8, hw⟩ hall
        obtain rfl := (e0 (hall 0 (by decide))).symm
        obtain rfl := (e1 (hall 1 (by decide))).symm
        obtain rfl := (e2 (hall 2 (by decide))).symm
        obtain rfl := (e3 (hall 3 (by decide))).symm
        obtain rfl := (e4 (hall 4 (by decide))).symm
        obtain rfl := (e5 (hall 5 (by decide))).symm
        obtain rfl := (e6 (hall 6 (by decide))).symm
        obtain rfl := (e7 (hall 7 (by decide))).symm
        obtain rfl := (e8 (hall 8 (by decide))).symm
        rcases hw with ⟨g8, _⟩ | ⟨_, hwe⟩
        · rw [hall 8 (by decide)] at g8; cases g8
        obtain rfl := hwe.symm
        dsimp only
        gi_wp2
        have hBL : Below wr.heap.size wr ((wr.alloc (.cells #[.int .i64 y.op, .int .i64 y.d, .int .i64 y.a, .int .i64 y.b, .int .i64 y.t, .int .i64 y.e] 87)).drew) := ((Below.refl _ wr).alloc (Nat.le_refl _) _).drew
        have hnb : NodeBox ((wr.alloc (.cells #[.int .i64 y.op, .int .i64 y.d, .int .i64 y.a, .int .i64 y.b, .int .i64 y.t, .int .i64 y.e] 87)).drew) wr.heap.size y := nodeBox_new wr y
        generalize (wr.alloc (.cells #[.int .i64 y.op, .int .i64 y.d, .int .i64 y.a, .int .i64 y.b, .int .i64 y.t, .int .i64 y.e] 87)).drew = WL at hBL hnb ⊢
        have hsL := hBL.size
        have hltB := hnb.lt
        have hMkL := hMk.below hBL
        have hMl : ∀ E ∈ ds, E < wr.heap.size := fun E hE => hMk.lt hE
        have hyn : nd ns cn = y := nd_get HY.out
        have hmx : ∀ z : Ex y, 0 ≤ z.1 ∧ z.1 < ns.length := fun z => by
          have := exo_bounds (chk_at hc hcn) (m := z.1) (by rw [hyn]; exact z.2)
          omega
        have HYN := hide' hyn
        clear hyn c0 c1 c2 c3 c4 c5 xc xr p2 hgc hMk
        refine wpIn_rangeFunc_ownG rfl (by decide) (gf := 97) (lb := #[.pointer (some ⟨wr.heap.size, 0, none⟩)]) rfl trivial (enters_of Try.func97 (by kernel_rfl) rfl)
          (exits_stops 4 (by omega) wr.heap.size y _ hnb) KT.trans (KT.putObj hltB) (Below.refl _ _) (fun _ => rfl)
          (fun pre W => ((∃ x cs vc, Bfs ns x cs i (pre.map (·.1)) ∧ cs[i]? = some (cn : Int) ∧ RM W w1.heap.size w1.heap.size (WA.heap.size + 1) ns.length x cs vc) ∧ NodeBox W wr.heap.size y ∧ Marks ds W) ∧ Below w1.heap.size w1 W)
          (fun _ _ _ => False)
          (OwnFrom.and ?own (ownFrom_below (by omega) (by omega)))
          (fun _ _ _ _ _ hs _ _ => hs)
          ⟨⟨⟨x, cs, _, HBF.out, HCI.out, HM.out.below hBL⟩, hnb, hMkL⟩, hB.trans (hBL.mono hszr)⟩
          (fun z => { tmps := #[.agg #[.int .i64 r, .slice (some ⟨b, off, none⟩) ns.length cap], .pointer (some ⟨w.heap.size, 0, none⟩), .slice none 0 0, .int .i64 0, .int .i64 0, .pointer (some ⟨w1.heap.size + 1, 0, none⟩), .pointer (some ⟨WA.heap.size + 1, 0, none⟩), .int .i64 i, .int .i64 z.1, .agg #[.int .i64 r, .slice (some ⟨b, off, none⟩) ns.length cap], .int .i64 0, .int .i64 0, .bool false, undef, .pointer (some ⟨w.heap.size, 1, none⟩), .slice (some ⟨b, off, none⟩) ns.length cap, .int .i64 ns.length, .slice (some ⟨w1.heap.size, 0, none⟩) ns.length ns.length, .slice (some ⟨w1.heap.size, 0, none⟩) ns.length ns.length, .pointer (some ⟨w1.heap.size, 0, none⟩), .slice (some ⟨WA.heap.size, 0, none⟩) 1 1, .int .i64 i, .slice (some ⟨g, 0, none⟩) cs.length gcap, .int .i64 cs.length, .bool true, u25, u26, .pointer (some ⟨w.heap.size, 1, none⟩), .slice (some ⟨b, off, none⟩) ns.length cap, .slice (some ⟨g, 0, none⟩) cs.length gcap, .int .i64 (i : Int), .pointer (some ⟨g, i, none⟩), .int .i64 (cn : Int), .pointer (some ⟨b, off + cn * 6, none⟩), .agg #[.int .i64 y.op, .int .i64 y.d, .int .i64 y.a, .int .i64 y.b, .int .i64 y.t, .int .i64 y.e], .func (.func 97) #[] #[.pointer (some ⟨wr.heap.size, 0, none⟩)], .int .i64 z.1, undef, undef, undef, undef, undef, undef, undef, undef, undef, undef, undef, undef, undef], defers := [] }) ?assign ?body ?done ?stop
        case own =>
          rintro pre A C row ⟨⟨x, cs, vc, h1, h2, h3⟩, hb3, hm1⟩ hg hr
          have hcl : ∀ (b : Nat) (o : Obj), A.heap[b]? = some o → o.isCells = true → some b ≠ row := fun b o h1 h2 e => by
            obtain ⟨_, o', h3, h4⟩ := hr b e.symm
            rw [h1] at h3; cases h3; rw [h2] at h4; cases h4
          exact ⟨⟨x, cs, vc, h1, h2, h3.kept hg (fun r e => (hr r e).2)⟩, (hg.block _ hb3.lt (hcl _ _ hb3 rfl)).trans hb3, hm1.grown hg fun q e hq => by
            have h1 := (hr q e).1
            have h2 := hMl q hq
            omega⟩
        case assign =>
          intro l z W K hK
          gi_wp2
          exact hK
        case body =>
          rintro l pre z W ⟨⟨⟨x, cs, vc, hbf, hci, hRM⟩, hb3, hm1⟩, hB2⟩ hpl
          obtain ⟨hm0, hm2⟩ := hmx z
          obtain ⟨m, hmz⟩ := Int.eq_ofNat_of_zero_le hm0
          have hml : m < ns.length := by omega
          have hmx' : m < x.length := by rw [hbf.len]; exact hml
          have hbox := hRM.rbx.cell
          have hrc : W.cell? ⟨w1.heap.size, m, none⟩ = some (.bool (bat x m)) := by
            rw [blk_cell hRM.row]
            rw [List.getElem?_toArray, List.getElem?_map, get_bat hmx']; rfl
          have hlt2 : (m : Int) < (ns.length : Int) := by omega
          rw [hmz]
          cases hxm : bat x m
          · rw [hxm] at hrc
            have hrf := blk_frozen hRM.row m
            have hS := hRM.set m
            have hbfN := hbf.new hc hml hxm hci (by rw [Int.toNat_natCast, HYN.out, ← hmz]; exact z.2)
            have hbS : Below w1.heap.size W (W.setCell ⟨w1.heap.size, m, none⟩ (.bool true)) := (Below.refl _ W).setCell (p := ⟨w1.heap.size, m, none⟩) (Nat.le_refl _) _
            have hKS : KT wr.heap.size W (W.setCell ⟨w1.heap.size, m, none⟩ (.bool true)) := KT.setCell hRM.row (by decide) (boxed_ne hRM.row hb3 (by decide)) _
            have hOS : KeepsOthers W (W.setCell ⟨w1.heap.size, m, none⟩ (.bool true)) := KeepsOthers.setCell _ _ _
            have hpl2 := hbfN.len_le
            have hcl3 : cs.length + 1 ≤ 256 := by simp at hpl2; omega
            have HBN := hide' hbfN
            have HCI2 := hide' hci
            gi_upto_region 14 with fail
            clear hRM hbox hrc hrf
            generalize W.setCell ⟨w1.heap.size, m, none⟩ (.bool true) = WS at hS hbS hKS hOS ⊢
            have hcb := hS.cbx.cell
            have hsS := hbS.size
            have hb3S := hKS.node hb3
            gi_wp2_with (gi_at_builtin; refine wpListIn_append_own _ rfl _ _ 25 rfl w1.heap.size 3 i0 (.int .i64 0) 1 8 Try.underlying25 hi0 hz0 hz1 hz2 rfl (by decide) _ _ _ rfl (hS.come.alloc _) ⟨WS.heap.size, 0, none⟩ 1 1 [.int .i64 (m : Int)] rfl rfl (cell_one_new _ _ _) (by simp [Value.oneCell']) (by unfold maxLen; omega) (by omega) (by have := hB2.size; simp; omega) ?_; intro v' w5 hown' hgrow _; obtain ⟨g', cap', rfl⟩ := ownsRow_succ hown'; obtain ⟨hv1, hv2, hr2, hk2, hb2⟩ := hS.cbx.appended (by decide) hS.come (by have := hB2.size; omega) (by have := hsWA; omega) hown' hgrow; have hc1 := hv1.cell; have hf1 := hv1.frozen)
            have hgrow' : (WS.alloc (.cells #[.int .i64 (m : Int)] 3)).grownBy w5 vc.ownBlock := hgrow
            have hv1' : w5.heap[WA.heap.size + 1]? = some (.cells #[vc] 25 (0, 0)) := hv1
            have hrow5 : w5.heap[w1.heap.size]? = some (.cells ((x.set m true).map Value.bool).toArray 4 (0, 0)) := (hgrow'.block _ (by have := blk_lt hS.row; simp; omega) (owns_ne_ty hS.come hS.row (by decide))).trans ((Below.heap_alloc _ _ _ (blk_lt hS.row)).trans hS.row)
            have hrbx5 : Boxed w5 (w1.heap.size + 1) 53 (.slice (some ⟨w1.heap.size, 0, none⟩) ns.length ns.length) := (hS.rbx.alloc _).kept hgrow' (hS.rbx.not_row (by decide) hS.come)
            have hKA : KT wr.heap.size WS (w5.setCell ⟨WA.heap.size + 1, 0, none⟩ (.slice (some ⟨g', 0, none⟩) (cs.length + 1) cap')) := by
              refine ((KT.of_below ((Below.refl _ WS).alloc (Nat.le_refl _) _) hb3S.lt).trans (KT.grown hgrow' (by have := hb3S.lt; simp; omega) fun j ej => ?_)).trans (KT.setCell (o := 0) hv1 (by decide) (boxed_ne hS.cbx hb3S (by decide)) _)
              rcases (hS.come.alloc (.cells #[.int .i64 (m : Int)] 3)).2 with ⟨e, _⟩ | ⟨g9, cap9, cur9, e, hb9, hgb9, _⟩
              · rw [e] at ej; cases ej
              · rw [e] at ej
                obtain rfl : g9 = j := by simpa [Value.ownBlock] using ej
                refine ⟨?_, _, _, _, hgb9, by decide⟩
                exact boxed_ne hgb9 ((Below.heap_alloc _ _ _ hb3S.lt).trans hb3S) (by decide)
            have hrm2 : RM (w5.setCell ⟨WA.heap.size + 1, 0, none⟩ (.slice (some ⟨g', 0, none⟩) (cs.length + 1) cap')) w1.heap.size w1.heap.size (WA.heap.size + 1) ns.length (x.set m true) (cs ++ [(m : Int)]) (.slice (some ⟨g', 0, none⟩) (cs.length + 1) cap') := by
              refine ⟨(Below.heap_setCell _ _ _ _ (boxed_ne hrow5 hv1' (by decide))).trans hrow5, (Below.heap_setCell _ _ _ _ (boxed_ne hrbx5 hv1' (by decide))).trans hrbx5, hv2, ?_⟩
              simpa using hr2
            refine ⟨(hOS.trans hk2).from _, hKS.trans hKA, ⟨⟨_, _, _, ?_, ?_, hrm2⟩, (hKS.trans hKA).node hb3, hm1.others (hOS.trans hk2)⟩, hB2.trans (hbS.trans hb2)⟩
            · rw [List.map_append]; simpa [hmz] using HBN.out
            · rw [List.getElem?_append_left (List.getElem?_eq_some_iff.1 HCI2.out).1]; exact HCI2.out
          · rw [hxm] at hrc
            have HBF2 := hide' hbf
            have HRM2 := hide' hRM
            clear hbf hRM
            gi_wp2
            refine ⟨KeepsFrom.refl _ _, KT.refl _ _, ⟨⟨x, cs, vc, ?_, hci, HRM2.out⟩, hb3, hm1⟩, hB2⟩
            rw [List.map_append]
            simpa [hmz] using HBF2.out.hit hml hxm
        case done =>
          rintro D ys W hD rfl ⟨⟨⟨x, cs, vc, hbf, hci, hRM⟩, hb3, hm1⟩, hB2⟩ hK
          rw [exoA_map] at hbf
          have hbf2 := Bfs.next (c := (cn : Int)) (by rw [Int.toNat_natCast, HYN.out]; exact hbf) hci
          have hil := (List.getElem?_eq_some_iff.1 hci).1
          have HBF3 := hide' hbf2
          have HRM3 := hide' hRM
          have HM1 := hide' (hm1.cons hK fun E hE => by have := hMl E hE; omega)
          clear hbf hbf2 hRM hm1 hci
          gi_wp2
          refine ⟨⟨i + 1, x, cs, vc, _, _, _, _, _, _, _, _, _, _, _, _, _, _, _, D :: ds, HBF3.out, hil, HRM3.out, hB2, HM1.out, fun E hE => ?_, rfl⟩, ?_⟩
          · rcases List.mem_cons.1 hE with rfl | hE
            · omega
            · exact hD' E hE
          · simp [intOf]; omega
        case stop =>
          rintro D c pre W _ _ h _
          exact h.elim
    · have ei : i = cs.length := by omega
      obtain ⟨g, gcap, rfl, hbase, hglt⟩ := hM.come.form (List.length_pos_of_mem hbf.zero)
      have HEI := hide' ei
      have HM2 := hide' hM
      have HBF4 := hide' hbf
      clear ei hM hbf
      gi_wp2
      refine leaves_marks ds _ hMk (fun D hD => Nat.le_trans (Nat.le_of_lt hlt1) (hD' D hD)) fun W' hS => ?_
      refine ⟨.tuple #[.slice (some ⟨w1.heap.size, 0, none⟩) ns.length ns.length, .int .i64 0], by simp [results, Try.results31, go_sem], _, rfl, ?_, hB1.trans ((hB.mono (by omega)).trans hS.below)⟩
      have hf := HBF4.out
      rw [HEI.out] at hf
      have hx := hf.fin hc
      refine hS.owns ⟨by simp [rchL_len], Or.inr ⟨w1.heap.size, ns.length, _, rfl, by omega, HM2.out.row, Nat.le_refl _, by unfold maxLen; omega, by simp [hf.len], ?_⟩⟩
      rw [hx, Nat.mul_one]
      exact List.take_of_length_le (by simp [rchL_len])
end Go.Proofs.Ytoikglgnmjjpcaa
