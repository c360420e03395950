/-
  links.Ahead, walked: of each node the nodes which may go on at it.
-/
import Derived.Test.YtoikglgnmjjpcabLF
import Derived.Test.YtoikglgnmjjpcabMP
import Derived.Laws.MakeOwn
import Derived.Test.YtoikglgnmjjpcabRP
namespace Go.Proofs.Ytoikglgnmjjpcab
open Go.RowKit Go.Shelf
set_option linter.unusedVariables false

attribute [local go_sem] Oper.semAt_some

theorem exo_lt {r : Int} {ns : List Nd} (hc : chk r ns = 0) {x : Nd} (hx : x ∈ ns) {m : Int} (hm : m ∈ exo x) : 0 ≤ m ∧ m < ns.length := by
  unfold exo at hm
  have hk := wi_iff.1 ((chk_zero hc).2.2.1 x hx)
  split at hm
  · rename_i h11
    have a := then_ok hc hx (by omega)
    have b := else_ok hc hx h11
    split at hm
    · simp at hm; omega
    · simp at hm; omega
  · split at hm
    · rename_i h11 hw
      have := wi_iff.1 hw
      have a := then_ok hc hx (by omega)
      simp at hm; omega
    · simp at hm

theorem info_ints : (Try.prog.info? 36).map (fun i => (i.zero, i.size, i.bytes)) = some (some (.slice none 0 0), 1, 24) := by kernel_rfl

theorem rowsAt_more (ns : List Nd) (k : Nat) (l : List Int) (m : Nat) : rowsAt ns k (l ++ [(m : Int)]) m = rowsAt ns k l m ++ [(k : Int)] := by
  simp [rowsAt, List.count_append, List.replicate_succ']
theorem rowsAt_else (ns : List Nd) (k : Nat) (l : List Int) {m j : Nat} (h : j ≠ m) : rowsAt ns k (l ++ [(m : Int)]) j = rowsAt ns k l j := by
  have : List.count (j : Int) [(m : Int)] = 0 := by
    rw [List.count_eq_zero]; simp; omega
  simp only [rowsAt, List.count_append, this, Nat.add_zero]

theorem made_rows (n : Nat) : madeCells #[Value.slice none 0 0] n = (List.replicate n (Value.slice none 0 0)).toArray := by
  apply Array.ext'
  rw [toList_madeCells_one]

theorem rows_new {w : World} {base rb L : Nat} {ns : List Nd} (h : w.heap[rb]? = some (.cells (madeCells #[Value.slice none 0 0] L) 36 (0, 0))) : RowsAt w base rb L (List.replicate L (.slice none 0 0)) (fun m => pick (ahB ns m) 0) := by
  refine ⟨by rw [h, made_rows], by simp, fun m v hv => ?_, fun m1 m2 v1 v2 g h1 h2 e1 e2 => ?_⟩
  · obtain rfl := List.eq_of_mem_replicate (List.mem_of_getElem? hv)
    exact World.ownsRow_nil _ _ _ _
  · obtain rfl := List.eq_of_mem_replicate (List.mem_of_getElem? h1)
    simp [Value.ownBlock] at e1

set_option maxRecDepth 100000 in
set_option maxHeartbeats 2000000 in
theorem linksAhead_in (n : Nat) (hn : 4 ≤ n) (r : Int) (b off cap : Nat) (ns : List Nd) (w : World) (hN : NodesAt w b off ns) (hc : chk r ns = 0) :
    CallsIn Fence.wide n Try.prog 40 #[.agg #[.int .i64 r, .slice (some ⟨b, off, none⟩) ns.length cap]] w fun e w' => ∃ rb vs, e = .returned (.slice (some ⟨rb, 0, none⟩) ns.length ns.length) ∧ RowsAt w' w.heap.size rb ns.length vs (fun m => pick (ahB ns m) ns.length) ∧ Below w.heap.size w w' := by
  have h1 : 1 ≤ n := by omega
  have h2 : 1 ≤ n - 1 - 1 := by omega
  have hl := (chk_zero hc).1
  obtain ⟨i0, hi, hz0, hz1, hz2⟩ := info_parts info_int
  refine callsIn_of_wp_marks Try.func40 rfl trivial ?_ rfl
  simp only [Try.ntmps40, List.size_toArray, List.length_cons, List.length_nil, Nat.reduceAdd, Nat.reduceSub, Array.replicate_succ, Array.replicate_zero, List.push_toArray, List.append_toArray, List.nil_append, List.cons_append]
  have hms : ∀ W : World, Sem.run Try.prog (Instr.makeSlice 25 (.int .i64 (ns.length : Int)) (.int .i64 (ns.length : Int))) W = .ok (.slice (some ⟨W.heap.size, 0, none⟩) ns.length ns.length) (W.alloc (.cells (madeCells #[.slice none 0 0] ns.length) 36)) := fun W => run_make_row' 25 36 _ 24 Try.underlying25 info_ints rfl .i64 .i64 ns.length (by omega) (by omega) W
  gi_wp2
  have hB0 : Below w.heap.size w (((w.alloc (.cells #[.int .i64 r, .slice (some ⟨b, off, none⟩) ns.length cap] 24)).alloc (.cells (madeCells #[.slice none 0 0] ns.length) 36)).alloc (.cells #[.slice (some ⟨w.heap.size + 1, 0, none⟩) ns.length ns.length] 25)) := (((Below.refl _ w).alloc (Nat.le_refl _) _).alloc (by simp) _).alloc (by simp; omega) _
  have hbx0 : Boxed (((w.alloc (.cells #[.int .i64 r, .slice (some ⟨b, off, none⟩) ns.length cap] 24)).alloc (.cells (madeCells #[.slice none 0 0] ns.length) 36)).alloc (.cells #[.slice (some ⟨w.heap.size + 1, 0, none⟩) ns.length ns.length] 25)) (w.heap.size + 1 + 1) 25 (.slice (some ⟨w.heap.size + 1, 0, none⟩) ns.length ns.length) := by
    have := Boxed.new ((w.alloc (.cells #[.int .i64 r, .slice (some ⟨b, off, none⟩) ns.length cap] 24)).alloc (.cells (madeCells #[.slice none 0 0] ns.length) 36)) 25 (.slice (some ⟨w.heap.size + 1, 0, none⟩) ns.length ns.length)
    simpa only [World.size_alloc] using this
  have hR0 : RowsAt (((w.alloc (.cells #[.int .i64 r, .slice (some ⟨b, off, none⟩) ns.length cap] 24)).alloc (.cells (madeCells #[.slice none 0 0] ns.length) 36)).alloc (.cells #[.slice (some ⟨w.heap.size + 1, 0, none⟩) ns.length ns.length] 25)) w.heap.size (w.heap.size + 1) ns.length (List.replicate ns.length (.slice none 0 0)) (fun m => pick (ahB ns m) 0) := by
    refine rows_new ((Below.heap_alloc _ _ _ (by simp)).trans ?_)
    have := World.alloc_heap_new (w.alloc (.cells #[.int .i64 r, .slice (some ⟨b, off, none⟩) ns.length cap] 24)) (.cells (madeCells #[.slice none 0 0] ns.length) 36)
    simpa only [World.size_alloc] using this
  generalize (((w.alloc (.cells #[.int .i64 r, .slice (some ⟨b, off, none⟩) ns.length cap] 24)).alloc (.cells (madeCells #[.slice none 0 0] ns.length) 36)).alloc (.cells #[.slice (some ⟨w.heap.size + 1, 0, none⟩) ns.length ns.length] 25)) = W0 at hB0 hbx0 hR0 ⊢
  refine wpIn_loop (fun a W => ∃ (k : Nat) (u4 u5 u15 u16 u17 u18 u19 u20 u32 : Value) (ds : List Nat), k ≤ ns.length ∧ (∃ vs, RowsAt W w.heap.size (w.heap.size + 1) ns.length vs (fun m => pick (ahB ns m) k)) ∧ Boxed W (w.heap.size + 1 + 1) 25 (.slice (some ⟨w.heap.size + 1, 0, none⟩) ns.length ns.length) ∧ Below w.heap.size w W ∧ Marks ds W ∧ (∀ D ∈ ds, w.heap.size ≤ D) ∧
      a = { tmps := #[.agg #[.int .i64 r, .slice (some ⟨b, off, none⟩) ns.length cap], .pointer (some ⟨w.heap.size, 0, none⟩), .slice none 0 0, .pointer (some ⟨w.heap.size + 1 + 1, 0, none⟩), u4, u5, undef, .pointer (some ⟨w.heap.size, 1, none⟩), .slice (some ⟨b, off, none⟩) ns.length cap, .int .i64 ns.length, .slice (some ⟨w.heap.size + 1, 0, none⟩) ns.length ns.length, .pointer (some ⟨w.heap.size, 1, none⟩), .slice (some ⟨b, off, none⟩) ns.length cap, .int .i64 ns.length, .int .i64 k, u15, u16, u17, u18, u19, u20, undef, undef, undef, undef, undef, undef, undef, undef, undef, undef, undef, u32, undef], defers := ds.map markD })
    (fun a _ => ns.length - (intOf (a.tmps.getD 14 undef)).toNat) ?atStart ?round
  case atStart => exact ⟨0, _, _, _, _, _, _, _, _, _, [], Nat.zero_le _, ⟨_, hR0⟩, hbx0, hB0, Marks.nil _, by simp, rfl⟩
  case round =>
    rintro _ wr ⟨k, u4, u5, u15, u16, u17, u18, u19, u20, u32, ds, hk, ⟨vs, hR⟩, hbx, hB, hM, hD', rfl⟩
    have hcb := hbx.cell
    have hblx := hbx.lt
    by_cases hlt : k < ns.length
    · obtain ⟨x, hx⟩ := get_lt hlt
      have hN1 := hN.below hB hN.lt
      have c0 := hN1.c0 k x hx
      have c1 := hN1.c1 k x hx
      have c2 := hN1.c2 k x hx
      have c3 := hN1.c3 k x hx
      have c4 := hN1.c4 k x hx
      have c5 := hN1.c5 k x hx
      have hblt := hN1.lt
      have HX := hide' hx
      have HN := hide' hN1
      have HR := hide' hR
      clear hx hN1 hR
      gi_wp2_with (refine ⟨trivial, ?_⟩; gi_at_call 54; refine (exits_in _ _ _ _ _ _ _ _).mono ?_; rintro e w' ⟨rfl, rfl⟩)
      have hBL : Below wr.heap.size wr (((wr.alloc (.cells #[.int .i64 k] 3)).alloc (.cells #[.int .i64 x.op, .int .i64 x.d, .int .i64 x.a, .int .i64 x.b, .int .i64 x.t, .int .i64 x.e] 53)).alloc (.cells #[.int .i64 x.op, .int .i64 x.d, .int .i64 x.a, .int .i64 x.b, .int .i64 x.t, .int .i64 x.e] 53)) := (((Below.refl _ wr).alloc (Nat.le_refl _) _).alloc (by simp) _).alloc (by simp; omega) _
      have hn4 : Boxed (((wr.alloc (.cells #[.int .i64 k] 3)).alloc (.cells #[.int .i64 x.op, .int .i64 x.d, .int .i64 x.a, .int .i64 x.b, .int .i64 x.t, .int .i64 x.e] 53)).alloc (.cells #[.int .i64 x.op, .int .i64 x.d, .int .i64 x.a, .int .i64 x.b, .int .i64 x.t, .int .i64 x.e] 53)) wr.heap.size 3 (.int .i64 k) := ((Boxed.new wr 3 (.int .i64 k)).alloc _).alloc _
      have hnb : NodeBox (((wr.alloc (.cells #[.int .i64 k] 3)).alloc (.cells #[.int .i64 x.op, .int .i64 x.d, .int .i64 x.a, .int .i64 x.b, .int .i64 x.t, .int .i64 x.e] 53)).alloc (.cells #[.int .i64 x.op, .int .i64 x.d, .int .i64 x.a, .int .i64 x.b, .int .i64 x.t, .int .i64 x.e] 53)) (wr.heap.size + 1 + 1) x := by
        have := nodeBox_new ((wr.alloc (.cells #[.int .i64 k] 3)).alloc (.cells #[.int .i64 x.op, .int .i64 x.d, .int .i64 x.a, .int .i64 x.b, .int .i64 x.t, .int .i64 x.e] 53)) x
        simpa only [World.size_alloc] using this
      generalize (((wr.alloc (.cells #[.int .i64 k] 3)).alloc (.cells #[.int .i64 x.op, .int .i64 x.d, .int .i64 x.a, .int .i64 x.b, .int .i64 x.t, .int .i64 x.e] 53)).alloc (.cells #[.int .i64 x.op, .int .i64 x.d, .int .i64 x.a, .int .i64 x.b, .int .i64 x.t, .int .i64 x.e] 53)) = WL at hBL hn4 hnb ⊢
      have hbxL : Boxed WL (w.heap.size + 1 + 1) 25 _ := (hBL.block _ hbx.lt).trans hbx
      have hBL' := hB.trans (hBL.mono hB.size)
      have hsL := hBL.size
      have hsz := hB.size
      have hltB := hnb.lt
      have hmk := chk_zero hc
      have hkx := hmk.2.2.1 x (List.mem_of_getElem? HX.out)
      have hmx : ∀ y : Ex x, 0 ≤ y.1 ∧ y.1 < ns.length := fun y => exo_lt hc (List.mem_of_getElem? HX.out) y.2
      clear hmk c0 c1 c2 c3 c4 c5 hcb
      refine wpIn_rangeFunc_ownG rfl h1 (gf := 62) (lb := #[.pointer (some ⟨wr.heap.size + 1 + 1, 0, none⟩)]) rfl trivial (enters_of Try.func62 (by kernel_rfl) rfl)
        (exits_stops (n - 1) (by omega) (wr.heap.size + 1 + 1) x _ hnb) KT.trans (KT.putObj hltB) (Below.refl _ _) (fun _ => rfl)
        (fun pre W => ((∃ vs, RowsAt W w.heap.size (w.heap.size + 1) ns.length vs (rowsAt ns k (pre.map (·.1))) ∧ ∀ (j : Nat) (v : Value), vs[j]? = some v → v.ownBlock ≠ some wr.heap.size) ∧ Boxed W (w.heap.size + 1 + 1) 25 (.slice (some ⟨w.heap.size + 1, 0, none⟩) ns.length ns.length) ∧ Boxed W wr.heap.size 3 (.int .i64 k) ∧ NodeBox W (wr.heap.size + 1 + 1) x ∧ Marks ds W) ∧ Below w.heap.size w W)
        (fun _ _ _ => False)
        (OwnFrom.and ?own (ownFrom_below (by omega) (by omega)))
        (fun _ _ _ _ _ hs _ _ => hs)
        ⟨⟨⟨vs, by rw [show rowsAt ns k (([] : List (Ex x)).map (·.1)) = fun m => pick (ahB ns m) k from rowsAt_nil ns k]; exact HR.out.below hBL, fun j v hj e => by have := ((HR.out.own j v hj).lt _ e).2; omega⟩, hbxL, hn4, hnb, hM.below hBL⟩, hBL'⟩
        (fun y => { tmps := #[.agg #[.int .i64 r, .slice (some ⟨b, off, none⟩) ns.length cap], .pointer (some ⟨w.heap.size, 0, none⟩), .slice none 0 0, .pointer (some ⟨w.heap.size + 1 + 1, 0, none⟩), .pointer (some ⟨wr.heap.size, 0, none⟩), .pointer (some ⟨wr.heap.size + 1, 0, none⟩), .int .i64 y.1, .pointer (some ⟨w.heap.size, 1, none⟩), .slice (some ⟨b, off, none⟩) ns.length cap, .int .i64 ns.length, .slice (some ⟨w.heap.size + 1, 0, none⟩) ns.length ns.length, .pointer (some ⟨w.heap.size, 1, none⟩), .slice (some ⟨b, off, none⟩) ns.length cap, .int .i64 ns.length, .int .i64 k, .bool true, .int .i64 k, .pointer (some ⟨b, off + k * 6, none⟩), .agg #[.int .i64 x.op, .int .i64 x.d, .int .i64 x.a, .int .i64 x.b, .int .i64 x.t, .int .i64 x.e], .agg #[.int .i64 x.op, .int .i64 x.d, .int .i64 x.a, .int .i64 x.b, .int .i64 x.t, .int .i64 x.e], .func (.func 62) #[] #[.pointer (some ⟨wr.heap.size + 1 + 1, 0, none⟩)], .int .i64 y.1, undef, undef, undef, undef, undef, undef, undef, undef, undef, undef, u32, undef], defers := [] }) ?assign ?body ?done ?stop
      case own =>
        rintro pre A C row ⟨⟨vs, hvs, hno⟩, hb1, hb2, hb3, hm1⟩ hg hr
        have hcl : ∀ (b : Nat) (o : Obj), A.heap[b]? = some o → o.isCells = true → some b ≠ row := fun b o h1 h2 e => by
          obtain ⟨_, o', h3, h4⟩ := hr b e.symm
          rw [h1] at h3; cases h3; rw [h2] at h4; cases h4
        exact ⟨⟨vs, hvs.kept hg (fun r e => (hr r e).2), hno⟩, hb1.kept hg (hcl _ _ hb1 rfl), hb2.kept hg (hcl _ _ hb2 rfl), (hg.block _ hb3.lt (hcl _ _ hb3 rfl)).trans hb3, hm1.grown hg fun q e hq => by
          have h1 := (hr q e).1
          have h2 := hM.lt hq
          omega⟩
      case assign =>
        intro l y W K hK
        gi_wp2
        exact hK
      case body =>
        rintro l pre y W ⟨⟨⟨vs, hvs, hno⟩, hb1, hb2, hb3, hm1⟩, hB1⟩ hpl
        obtain ⟨hm0, hm2⟩ := hmx y
        obtain ⟨m, hmy⟩ := Int.eq_ofNat_of_zero_le hm0
        have hml : m < ns.length := by omega
        have hml' : m < vs.length := by rw [hvs.len]; exact hml
        obtain ⟨v, hv⟩ := get_lt hml'
        have hown := hvs.own m v hv
        have hcb := hb1.cell
        have hck := hb2.cell
        have hrc : W.cell? ⟨w.heap.size + 1, m, none⟩ = some v := by rw [blk_cell hvs.blk]; simpa using hv
        have hpl2 : pre.length < 2 := Nat.lt_of_lt_of_le hpl (exo_len x)
        have hrl := rowsAt_len ns k (pre.map (·.1)) m
        rw [List.length_map] at hrl
        obtain ⟨g, cap1, w1, hrun, hown1, hgrow, hat, hgl⟩ := run_append_lies (P := Try.prog) (W.drew.alloc (.cells #[.int .i64 k] 3)) 36 36 w.heap.size 3 i0 (.int .i64 0) 1 8 Try.underlying36 hi hz0 hz1 hz2 rfl (by decide) v _ _ (World.ownsRow.alloc (show W.drew.ownsRow _ _ _ _ _ _ from hown) _) ⟨W.heap.size, 0, none⟩ 1 1 [.int .i64 k] rfl (cell_one_new _ _ _) (by simp [Value.oneCell']) (by decide) (by unfold maxLen; omega) (by omega) (by have := hB1.size; simp; omega) _ rfl
        have HO := hide' hown1
        have HG := hide' hgrow
        have HA := hide' hat
        have HV := hide' hvs
        have HM := hide' hm1
        have HH := hide' hv
        have HW := hide' hown
        have HNO := hide' hno
        have HB3 := hide' hb3
        clear hno hb3
        have hb1' : Boxed w1 (w.heap.size + 1 + 1) 25 (.slice (some ⟨w.heap.size + 1, 0, none⟩) ns.length ns.length) := Boxed.kept (Boxed.alloc (show Boxed W.drew _ _ _ from hb1) _) hgrow (owns_ne_ty hown hb1 (by decide))
        have hr1' : w1.heap[w.heap.size + 1]? = some (.cells vs.toArray 36 (0, 0)) := (hgrow.block _ (by have := (Array.getElem?_eq_some_iff.1 hvs.blk).1; simp; omega) (owns_ne_ty hown hvs.blk (by decide))).trans ((Below.heap_alloc W.drew _ _ (Array.getElem?_eq_some_iff.1 hvs.blk).1).trans hvs.blk)
        have q1 := hb1'.cell
        have q2 := blk_frozen hr1' m
        have q3 := blk_cell hr1' m
        have q3' : vs.toArray[m]? = some v := by simpa using hv
        rw [q3'] at q3
        rw [hmy]
        have HR1 := hide' hr1'
        have HB1 := hide' hb1'
        clear hown1 hgrow hat hvs hm1 hv hown hr1' q3'
        have hlt1 : (m : Int) < (ns.length : Int) := by omega
        have z1 := hb1.lt
        have z2 := hb2.lt
        have z3 : w.heap.size + 1 < W.heap.size := by omega
        generalize hN0 : (rowsAt ns k (List.map (fun x => x.val) pre) m).length = N0 at hrun HO HW hrl
        have HN0 := hide' hN0
        clear hN0
        simp [go_sem] at hrun
        gi_wp2
        refine region_inv (by kernel_rfl) (fun listed a w' => ∃ u22 u23 u24 u25 u26 u27 u28 u29 u30 u31 : Value, listed.size = 11 ∧ a = { tmps := #[.agg #[.int .i64 r, .slice (some ⟨b, off, none⟩) ns.length cap], .pointer (some ⟨w.heap.size, 0, none⟩), .slice none 0 0, .pointer (some ⟨w.heap.size + 1 + 1, 0, none⟩), .pointer (some ⟨wr.heap.size, 0, none⟩), .pointer (some ⟨wr.heap.size + 1, 0, none⟩), .int .i64 (m : Int), .pointer (some ⟨w.heap.size, 1, none⟩), .slice (some ⟨b, off, none⟩) ns.length cap, .int .i64 ns.length, .slice (some ⟨w.heap.size + 1, 0, none⟩) ns.length ns.length, .pointer (some ⟨w.heap.size, 1, none⟩), .slice (some ⟨b, off, none⟩) ns.length cap, .int .i64 ns.length, .int .i64 k, .bool true, .int .i64 k, .pointer (some ⟨b, off + k * 6, none⟩), .agg #[.int .i64 x.op, .int .i64 x.d, .int .i64 x.a, .int .i64 x.b, .int .i64 x.t, .int .i64 x.e], .agg #[.int .i64 x.op, .int .i64 x.d, .int .i64 x.a, .int .i64 x.b, .int .i64 x.t, .int .i64 x.e], .func (.func 62) #[] #[.pointer (some ⟨wr.heap.size + 1 + 1, 0, none⟩)], .int .i64 (m : Int), u22, u23, u24, u25, u26, u27, u28, u29, u30, u31, u32, undef], defers := [] } ∧ (listed.getD 0 false = true → u22 = .slice (some ⟨w.heap.size + 1, 0, none⟩) ns.length ns.length) ∧ (listed.getD 1 false = true → u23 = .int .i64 (m : Int)) ∧ (listed.getD 2 false = true → u24 = .slice (some ⟨w.heap.size + 1, 0, none⟩) ns.length ns.length) ∧ (listed.getD 3 false = true → u25 = .int .i64 (m : Int)) ∧ (listed.getD 4 false = true → u26 = .pointer (some ⟨w.heap.size + 1, m, none⟩)) ∧ (listed.getD 5 false = true → u27 = v) ∧ (listed.getD 6 false = true → u28 = .int .i64 (k : Int)) ∧ (listed.getD 7 false = true → u29 = .slice (some ⟨W.heap.size, 0, none⟩) 1 1) ∧ (listed.getD 8 false = true → u30 = .slice (some ⟨g, 0, none⟩) (N0 + 1) cap1) ∧ (listed.getD 9 false = true → u31 = .pointer (some ⟨w.heap.size + 1, m, none⟩)) ∧ ((listed.getD 7 false = false ∧ listed.getD 8 false = false ∧ listed.getD 10 false = false ∧ w' = W.drew) ∨ (listed.getD 6 false = true ∧ listed.getD 7 false = true ∧ listed.getD 8 false = false ∧ listed.getD 10 false = false ∧ w' = W.drew.alloc (.cells #[.int .i64 k] 3)) ∨ (listed.getD 5 false = true ∧ listed.getD 6 false = true ∧ listed.getD 7 false = true ∧ listed.getD 8 false = true ∧ listed.getD 10 false = false ∧ w' = w1) ∨ ((∀ j, j < 11 → listed.getD j false = true) ∧ w' = w1.setCell ⟨w.heap.size + 1, m, none⟩ (.slice (some ⟨g, 0, none⟩) (N0 + 1) cap1)))) ?hg ?hsz ?h0 ?hs ?h1
        case hg =>
          intro i o ho
          match i, ho with
          | 0, ho | 1, ho | 2, ho | 3, ho | 4, ho | 5, ho | 6, ho | 7, ho | 8, ho | 9, ho | 10, ho => simp at ho; subst ho; simp [Region.binds]
          | i + 11, ho => simp at ho
        case hsz => rintro listed a w' ⟨_, _, _, _, _, _, _, _, _, _, h, _⟩; simpa using h
        case h0 =>
          refine ⟨_, _, _, _, _, _, _, _, _, _, by simp, rfl, by simp, by simp, by simp, by simp, by simp, by simp, by simp, by simp, by simp, by simp, Or.inl ⟨by simp, by simp, by simp, rfl⟩⟩
        case hs =>
          rintro listed a w' i o ⟨u22, u23, u24, u25, u26, u27, u28, u29, u30, u31, hsz, rfl, e0, e1, e2, e3, e4, e5, e6, e7, e8, e9, hw⟩ hC ho hl hd
          have hlt11 : i < 11 := (Array.getElem?_eq_some_iff.1 ho).1
          have hl' : listed.getD i false = false := by
            simp only [Array.getD] at hl ⊢
            rw [dif_pos (by omega)] at hl ⊢; exact hl
          have keep : ∀ j, j ≠ i → (listed.setIfInBounds i true).getD j false = listed.getD j false := fun j hj => getD_set_ne false (fun e => hj e.symm)
          have sett : (listed.setIfInBounds i true).getD i false = true := by simp [hsz, hlt11]
          have hsz' : (listed.setIfInBounds i true).size = 11 := by simp [hsz]
          clear hl
          match i, hlt11 with
          | 0, _ =>
            simp at ho; subst ho
            clear hd
            rcases hw with ⟨h7, h8, h10, rfl⟩ | ⟨h6, h7, h8, h10, rfl⟩ | ⟨h5, h6, h7, h8, h10, hwe⟩ | ⟨hall, rfl⟩
            · refine Oper.wpIn_mono (K := fun a' w'' => a' = { tmps := #[.agg #[.int .i64 r, .slice (some ⟨b, off, none⟩) ns.length cap], .pointer (some ⟨w.heap.size, 0, none⟩), .slice none 0 0, .pointer (some ⟨w.heap.size + 1 + 1, 0, none⟩), .pointer (some ⟨wr.heap.size, 0, none⟩), .pointer (some ⟨wr.heap.size + 1, 0, none⟩), .int .i64 (m : Int), .pointer (some ⟨w.heap.size, 1, none⟩), .slice (some ⟨b, off, none⟩) ns.length cap, .int .i64 ns.length, .slice (some ⟨w.heap.size + 1, 0, none⟩) ns.length ns.length, .pointer (some ⟨w.heap.size, 1, none⟩), .slice (some ⟨b, off, none⟩) ns.length cap, .int .i64 ns.length, .int .i64 k, .bool true, .int .i64 k, .pointer (some ⟨b, off + k * 6, none⟩), .agg #[.int .i64 x.op, .int .i64 x.d, .int .i64 x.a, .int .i64 x.b, .int .i64 x.t, .int .i64 x.e], .agg #[.int .i64 x.op, .int .i64 x.d, .int .i64 x.a, .int .i64 x.b, .int .i64 x.t, .int .i64 x.e], .func (.func 62) #[] #[.pointer (some ⟨wr.heap.size + 1 + 1, 0, none⟩)], .int .i64 (m : Int), .slice (some ⟨w.heap.size + 1, 0, none⟩) ns.length ns.length, u23, u24, u25, u26, u27, u28, u29, u30, u31, u32, undef], defers := [] } ∧ w'' = W.drew) (fun a' w'' h => ?_) ?_
              · obtain ⟨rfl, rfl⟩ := h
                exact ⟨_, _, _, _, _, _, _, _, _, _, hsz', rfl, fun _ => rfl, fun h => e1 (by rwa [keep 1 (by omega)] at h), fun h => e2 (by rwa [keep 2 (by omega)] at h), fun h => e3 (by rwa [keep 3 (by omega)] at h), fun h => e4 (by rwa [keep 4 (by omega)] at h), fun h => e5 (by rwa [keep 5 (by omega)] at h), fun h => e6 (by rwa [keep 6 (by omega)] at h), fun h => e7 (by rwa [keep 7 (by omega)] at h), fun h => e8 (by rwa [keep 8 (by omega)] at h), fun h => e9 (by rwa [keep 9 (by omega)] at h), Or.inl ⟨(keep 7 (by omega)).trans h7, (keep 8 (by omega)).trans h8, (keep 10 (by omega)).trans h10, rfl⟩⟩
              · go_simp
            · refine Oper.wpIn_mono (K := fun a' w'' => a' = { tmps := #[.agg #[.int .i64 r, .slice (some ⟨b, off, none⟩) ns.length cap], .pointer (some ⟨w.heap.size, 0, none⟩), .slice none 0 0, .pointer (some ⟨w.heap.size + 1 + 1, 0, none⟩), .pointer (some ⟨wr.heap.size, 0, none⟩), .pointer (some ⟨wr.heap.size + 1, 0, none⟩), .int .i64 (m : Int), .pointer (some ⟨w.heap.size, 1, none⟩), .slice (some ⟨b, off, none⟩) ns.length cap, .int .i64 ns.length, .slice (some ⟨w.heap.size + 1, 0, none⟩) ns.length ns.length, .pointer (some ⟨w.heap.size, 1, none⟩), .slice (some ⟨b, off, none⟩) ns.length cap, .int .i64 ns.length, .int .i64 k, .bool true, .int .i64 k, .pointer (some ⟨b, off + k * 6, none⟩), .agg #[.int .i64 x.op, .int .i64 x.d, .int .i64 x.a, .int .i64 x.b, .int .i64 x.t, .int .i64 x.e], .agg #[.int .i64 x.op, .int .i64 x.d, .int .i64 x.a, .int .i64 x.b, .int .i64 x.t, .int .i64 x.e], .func (.func 62) #[] #[.pointer (some ⟨wr.heap.size + 1 + 1, 0, none⟩)], .int .i64 (m : Int), .slice (some ⟨w.heap.size + 1, 0, none⟩) ns.length ns.length, u23, u24, u25, u26, u27, u28, u29, u30, u31, u32, undef], defers := [] } ∧ w'' = W.drew.alloc (.cells #[.int .i64 k] 3)) (fun a' w'' h => ?_) ?_
              · obtain ⟨rfl, rfl⟩ := h
                exact ⟨_, _, _, _, _, _, _, _, _, _, hsz', rfl, fun _ => rfl, fun h => e1 (by rwa [keep 1 (by omega)] at h), fun h => e2 (by rwa [keep 2 (by omega)] at h), fun h => e3 (by rwa [keep 3 (by omega)] at h), fun h => e4 (by rwa [keep 4 (by omega)] at h), fun h => e5 (by rwa [keep 5 (by omega)] at h), fun h => e6 (by rwa [keep 6 (by omega)] at h), fun h => e7 (by rwa [keep 7 (by omega)] at h), fun h => e8 (by rwa [keep 8 (by omega)] at h), fun h => e9 (by rwa [keep 9 (by omega)] at h), Or.inr (Or.inl ⟨(keep 6 (by omega)).trans h6, (keep 7 (by omega)).trans h7, (keep 8 (by omega)).trans h8, (keep 10 (by omega)).trans h10, rfl⟩)⟩
              · go_simp
            · obtain rfl := hwe.symm
              refine Oper.wpIn_mono (K := fun a' w'' => a' = { tmps := #[.agg #[.int .i64 r, .slice (some ⟨b, off, none⟩) ns.length cap], .pointer (some ⟨w.heap.size, 0, none⟩), .slice none 0 0, .pointer (some ⟨w.heap.size + 1 + 1, 0, none⟩), .pointer (some ⟨wr.heap.size, 0, none⟩), .pointer (some ⟨wr.heap.size + 1, 0, none⟩), .int .i64 (m : Int), .pointer (some ⟨w.heap.size, 1, none⟩), .slice (some ⟨b, off, none⟩) ns.length cap, .int .i64 ns.length, .slice (some ⟨w.heap.size + 1, 0, none⟩) ns.length ns.length, .pointer (some ⟨w.heap.size, 1, none⟩), .slice (some ⟨b, off, none⟩) ns.length cap, .int .i64 ns.length, .int .i64 k, .bool true, .int .i64 k, .pointer (some ⟨b, off + k * 6, none⟩), .agg #[.int .i64 x.op, .int .i64 x.d, .int .i64 x.a, .int .i64 x.b, .int .i64 x.t, .int .i64 x.e], .agg #[.int .i64 x.op, .int .i64 x.d, .int .i64 x.a, .int .i64 x.b, .int .i64 x.t, .int .i64 x.e], .func (.func 62) #[] #[.pointer (some ⟨wr.heap.size + 1 + 1, 0, none⟩)], .int .i64 (m : Int), .slice (some ⟨w.heap.size + 1, 0, none⟩) ns.length ns.length, u23, u24, u25, u26, u27, u28, u29, u30, u31, u32, undef], defers := [] } ∧ w'' = w1) (fun a' w'' h => ?_) ?_
              · obtain ⟨rfl, rfl⟩ := h
                exact ⟨_, _, _, _, _, _, _, _, _, _, hsz', rfl, fun _ => rfl, fun h => e1 (by rwa [keep 1 (by omega)] at h), fun h => e2 (by rwa [keep 2 (by omega)] at h), fun h => e3 (by rwa [keep 3 (by omega)] at h), fun h => e4 (by rwa [keep 4 (by omega)] at h), fun h => e5 (by rwa [keep 5 (by omega)] at h), fun h => e6 (by rwa [keep 6 (by omega)] at h), fun h => e7 (by rwa [keep 7 (by omega)] at h), fun h => e8 (by rwa [keep 8 (by omega)] at h), fun h => e9 (by rwa [keep 9 (by omega)] at h), Or.inr (Or.inr (Or.inl ⟨(keep 5 (by omega)).trans h5, (keep 6 (by omega)).trans h6, (keep 7 (by omega)).trans h7, (keep 8 (by omega)).trans h8, (keep 10 (by omega)).trans h10, rfl⟩))⟩
              · go_simp
            · rw [hall 0 (by omega)] at hl'; cases hl'
          | 1, _ =>
            simp at ho; subst ho
            clear hd
            rcases hw with ⟨h7, h8, h10, rfl⟩ | ⟨h6, h7, h8, h10, rfl⟩ | ⟨h5, h6, h7, h8, h10, hwe⟩ | ⟨hall, rfl⟩
            · refine Oper.wpIn_mono (K := fun a' w'' => a' = { tmps := #[.agg #[.int .i64 r, .slice (some ⟨b, off, none⟩) ns.length cap], .pointer (some ⟨w.heap.size, 0, none⟩), .slice none 0 0, .pointer (some ⟨w.heap.size + 1 + 1, 0, none⟩), .pointer (some ⟨wr.heap.size, 0, none⟩), .pointer (some ⟨wr.heap.size + 1, 0, none⟩), .int .i64 (m : Int), .pointer (some ⟨w.heap.size, 1, none⟩), .slice (some ⟨b, off, none⟩) ns.length cap, .int .i64 ns.length, .slice (some ⟨w.heap.size + 1, 0, none⟩) ns.length ns.length, .pointer (some ⟨w.heap.size, 1, none⟩), .slice (some ⟨b, off, none⟩) ns.length cap, .int .i64 ns.length, .int .i64 k, .bool true, .int .i64 k, .pointer (some ⟨b, off + k * 6, none⟩), .agg #[.int .i64 x.op, .int .i64 x.d, .int .i64 x.a, .int .i64 x.b, .int .i64 x.t, .int .i64 x.e], .agg #[.int .i64 x.op, .int .i64 x.d, .int .i64 x.a, .int .i64 x.b, .int .i64 x.t, .int .i64 x.e], .func (.func 62) #[] #[.pointer (some ⟨wr.heap.size + 1 + 1, 0, none⟩)], .int .i64 (m : Int), u22, .int .i64 (m : Int), u24, u25, u26, u27, u28, u29, u30, u31, u32, undef], defers := [] } ∧ w'' = W.drew) (fun a' w'' h => ?_) ?_
              · obtain ⟨rfl, rfl⟩ := h
                exact ⟨_, _, _, _, _, _, _, _, _, _, hsz', rfl, fun h => e0 (by rwa [keep 0 (by omega)] at h), fun _ => rfl, fun h => e2 (by rwa [keep 2 (by omega)] at h), fun h => e3 (by rwa [keep 3 (by omega)] at h), fun h => e4 (by rwa [keep 4 (by omega)] at h), fun h => e5 (by rwa [keep 5 (by omega)] at h), fun h => e6 (by rwa [keep 6 (by omega)] at h), fun h => e7 (by rwa [keep 7 (by omega)] at h), fun h => e8 (by rwa [keep 8 (by omega)] at h), fun h => e9 (by rwa [keep 9 (by omega)] at h), Or.inl ⟨(keep 7 (by omega)).trans h7, (keep 8 (by omega)).trans h8, (keep 10 (by omega)).trans h10, rfl⟩⟩
              · go_simp
            · refine Oper.wpIn_mono (K := fun a' w'' => a' = { tmps := #[.agg #[.int .i64 r, .slice (some ⟨b, off, none⟩) ns.length cap], .pointer (some ⟨w.heap.size, 0, none⟩), .slice none 0 0, .pointer (some ⟨w.heap.size + 1 + 1, 0, none⟩), .pointer (some ⟨wr.heap.size, 0, none⟩), .pointer (some ⟨wr.heap.size + 1, 0, none⟩), .int .i64 (m : Int), .pointer (some ⟨w.heap.size, 1, none⟩), .slice (some ⟨b, off, none⟩) ns.length cap, .int .i64 ns.length, .slice (some ⟨w.heap.size + 1, 0, none⟩) ns.length ns.length, .pointer (some ⟨w.heap.size, 1, none⟩), .slice (some ⟨b, off, none⟩) ns.length cap, .int .i64 ns.length, .int .i64 k, .bool true, .int .i64 k, .pointer (some ⟨b, off + k * 6, none⟩), .agg #[.int .i64 x.op, .int .i64 x.d, .int .i64 x.a, .int .i64 x.b, .int .i64 x.t, .int .i64 x.e], .agg #[.int .i64 x.op, .int .i64 x.d, .int .i64 x.a, .int .i64 x.b, .int .i64 x.t, .int .i64 x.e], .func (.func 62) #[] #[.pointer (some ⟨wr.heap.size + 1 + 1, 0, none⟩)], .int .i64 (m : Int), u22, .int .i64 (m : Int), u24, u25, u26, u27, u28, u29, u30, u31, u32, undef], defers := [] } ∧ w'' = W.drew.alloc (.cells #[.int .i64 k] 3)) (fun a' w'' h => ?_) ?_
              · obtain ⟨rfl, rfl⟩ := h
                exact ⟨_, _, _, _, _, _, _, _, _, _, hsz', rfl, fun h => e0 (by rwa [keep 0 (by omega)] at h), fun _ => rfl, fun h => e2 (by rwa [keep 2 (by omega)] at h), fun h => e3 (by rwa [keep 3 (by omega)] at h), fun h => e4 (by rwa [keep 4 (by omega)] at h), fun h => e5 (by rwa [keep 5 (by omega)] at h), fun h => e6 (by rwa [keep 6 (by omega)] at h), fun h => e7 (by rwa [keep 7 (by omega)] at h), fun h => e8 (by rwa [keep 8 (by omega)] at h), fun h => e9 (by rwa [keep 9 (by omega)] at h), Or.inr (Or.inl ⟨(keep 6 (by omega)).trans h6, (keep 7 (by omega)).trans h7, (keep 8 (by omega)).trans h8, (keep 10 (by omega)).trans h10, rfl⟩)⟩
              · go_simp
            · obtain rfl := hwe.symm
              refine Oper.wpIn_mono (K := fun a' w'' => a' = { tmps := #[.agg #[.int .i64 r, .slice (some ⟨b, off, none⟩) ns.length cap], .pointer (some ⟨w.heap.size, 0, none⟩), .slice none 0 0, .pointer (some ⟨w.heap.size + 1 + 1, 0, none⟩), .pointer (some ⟨wr.heap.size, 0, none⟩), .pointer (some ⟨wr.heap.size + 1, 0, none⟩), .int .i64 (m : Int), .pointer (some ⟨w.heap.size, 1, none⟩), .slice (some ⟨b, off, none⟩) ns.length cap, .int .i64 ns.length, .slice (some ⟨w.heap.size + 1, 0, none⟩) ns.length ns.length, .pointer (some ⟨w.heap.size, 1, none⟩), .slice (some ⟨b, off, none⟩) ns.length cap, .int .i64 ns.length, .int .i64 k, .bool true, .int .i64 k, .pointer (some ⟨b, off + k * 6, none⟩), .agg #[.int .i64 x.op, .int .i64 x.d, .int .i64 x.a, .int .i64 x.b, .int .i64 x.t, .int .i64 x.e], .agg #[.int .i64 x.op, .int .i64 x.d, .int .i64 x.a, .int .i64 x.b, .int .i64 x.t, .int .i64 x.e], .func (.func 62) #[] #[.pointer (some ⟨wr.heap.size + 1 + 1, 0, none⟩)], .int .i64 (m : Int), u22, .int .i64 (m : Int), u24, u25, u26, u27, u28, u29, u30, u31, u32, undef], defers := [] } ∧ w'' = w1) (fun a' w'' h => ?_) ?_
              · obtain ⟨rfl, rfl⟩ := h
                exact ⟨_, _, _, _, _, _, _, _, _, _, hsz', rfl, fun h => e0 (by rwa [keep 0 (by omega)] at h), fun _ => rfl, fun h => e2 (by rwa [keep 2 (by omega)] at h), fun h => e3 (by rwa [keep 3 (by omega)] at h), fun h => e4 (by rwa [keep 4 (by omega)] at h), fun h => e5 (by rwa [keep 5 (by omega)] at h), fun h => e6 (by rwa [keep 6 (by omega)] at h), fun h => e7 (by rwa [keep 7 (by omega)] at h), fun h => e8 (by rwa [keep 8 (by omega)] at h), fun h => e9 (by rwa [keep 9 (by omega)] at h), Or.inr (Or.inr (Or.inl ⟨(keep 5 (by omega)).trans h5, (keep 6 (by omega)).trans h6, (keep 7 (by omega)).trans h7, (keep 8 (by omega)).trans h8, (keep 10 (by omega)).trans h10, rfl⟩))⟩
              · go_simp
            · rw [hall 1 (by omega)] at hl'; cases hl'
          | 2, _ =>
            simp at ho; subst ho
            clear hd
            rcases hw with ⟨h7, h8, h10, rfl⟩ | ⟨h6, h7, h8, h10, rfl⟩ | ⟨h5, h6, h7, h8, h10, hwe⟩ | ⟨hall, rfl⟩
            · refine Oper.wpIn_mono (K := fun a' w'' => a' = { tmps := #[.agg #[.int .i64 r, .slice (some ⟨b, off, none⟩) ns.length cap], .pointer (some ⟨w.heap.size, 0, none⟩), .slice none 0 0, .pointer (some ⟨w.heap.size + 1 + 1, 0, none⟩), .pointer (some ⟨wr.heap.size, 0, none⟩), .pointer (some ⟨wr.heap.size + 1, 0, none⟩), .int .i64 (m : Int), .pointer (some ⟨w.heap.size, 1, none⟩), .slice (some ⟨b, off, none⟩) ns.length cap, .int .i64 ns.length, .slice (some ⟨w.heap.size + 1, 0, none⟩) ns.length ns.length, .pointer (some ⟨w.heap.size, 1, none⟩), .slice (some ⟨b, off, none⟩) ns.length cap, .int .i64 ns.length, .int .i64 k, .bool true, .int .i64 k, .pointer (some ⟨b, off + k * 6, none⟩), .agg #[.int .i64 x.op, .int .i64 x.d, .int .i64 x.a, .int .i64 x.b, .int .i64 x.t, .int .i64 x.e], .agg #[.int .i64 x.op, .int .i64 x.d, .int .i64 x.a, .int .i64 x.b, .int .i64 x.t, .int .i64 x.e], .func (.func 62) #[] #[.pointer (some ⟨wr.heap.size + 1 + 1, 0, none⟩)], .int .i64 (m : Int), u22, u23, .slice (some ⟨w.heap.size + 1, 0, none⟩) ns.length ns.length, u25, u26, u27, u28, u29, u30, u31, u32, undef], defers := [] } ∧ w'' = W.drew) (fun a' w'' h => ?_) ?_
              · obtain ⟨rfl, rfl⟩ := h
                exact ⟨_, _, _, _, _, _, _, _, _, _, hsz', rfl, fun h => e0 (by rwa [keep 0 (by omega)] at h), fun h => e1 (by rwa [keep 1 (by omega)] at h), fun _ => rfl, fun h => e3 (by rwa [keep 3 (by omega)] at h), fun h => e4 (by rwa [keep 4 (by omega)] at h), fun h => e5 (by rwa [keep 5 (by omega)] at h), fun h => e6 (by rwa [keep 6 (by omega)] at h), fun h => e7 (by rwa [keep 7 (by omega)] at h), fun h => e8 (by rwa [keep 8 (by omega)] at h), fun h => e9 (by rwa [keep 9 (by omega)] at h), Or.inl ⟨(keep 7 (by omega)).trans h7, (keep 8 (by omega)).trans h8, (keep 10 (by omega)).trans h10, rfl⟩⟩
              · go_simp
            · refine Oper.wpIn_mono (K := fun a' w'' => a' = { tmps := #[.agg #[.int .i64 r, .slice (some ⟨b, off, none⟩) ns.length cap], .pointer (some ⟨w.heap.size, 0, none⟩), .slice none 0 0, .pointer (some ⟨w.heap.size + 1 + 1, 0, none⟩), .pointer (some ⟨wr.heap.size, 0, none⟩), .pointer (some ⟨wr.heap.size + 1, 0, none⟩), .int .i64 (m : Int), .pointer (some ⟨w.heap.size, 1, none⟩), .slice (some ⟨b, off, none⟩) ns.length cap, .int .i64 ns.length, .slice (some ⟨w.heap.size + 1, 0, none⟩) ns.length ns.length, .pointer (some ⟨w.heap.size, 1, none⟩), .slice (some ⟨b, off, none⟩) ns.length cap, .int .i64 ns.length, .int .i64 k, .bool true, .int .i64 k, .pointer (some ⟨b, off + k * 6, none⟩), .agg #[.int .i64 x.op, .int .i64 x.d, .int .i64 x.a, .int .i64 x.b, .int .i64 x.t, .int .i64 x.e], .agg #[.int .i64 x.op, .int .i64 x.d, .int .i64 x.a, .int .i64 x.b, .int .i64 x.t, .int .i64 x.e], .func (.func 62) #[] #[.pointer (some ⟨wr.heap.size + 1 + 1, 0, none⟩)], .int .i64 (m : Int), u22, u23, .slice (some ⟨w.heap.size + 1, 0, none⟩) ns.length ns.length, u25, u26, u27, u28, u29, u30, u31, u32, undef], defers := [] } ∧ w'' = W.drew.alloc (.cells #[.int .i64 k] 3)) (fun a' w'' h => ?_) ?_
              · obtain ⟨rfl, rfl⟩ := h
                exact ⟨_, _, _, _, _, _, _, _, _, _, hsz', rfl, fun h => e0 (by rwa [keep 0 (by omega)] at h), fun h => e1 (by rwa [keep 1 (by omega)] at h), fun _ => rfl, fun h => e3 (by rwa [keep 3 (by omega)] at h), fun h => e4 (by rwa [keep 4 (by omega)] at h), fun h => e5 (by rwa [keep 5 (by omega)] at h), fun h => e6 (by rwa [keep 6 (by omega)] at h), fun h => e7 (by rwa [keep 7 (by omega)] at h), fun h => e8 (by rwa [keep 8 (by omega)] at h), fun h => e9 (by rwa [keep 9 (by omega)] at h), Or.inr (Or.inl ⟨(keep 6 (by omega)).trans h6, (keep 7 (by omega)).trans h7, (keep 8 (by omega)).trans h8, (keep 10 (by omega)).trans h10, rfl⟩)⟩
              · go_simp
            · obtain rfl := hwe.symm
              refine Oper.wpIn_mono (K := fun a' w'' => a' = { tmps := #[.agg #[.int .i64 r, .slice (some ⟨b, off, none⟩) ns.length cap], .pointer (some ⟨w.heap.size, 0, none⟩), .slice none 0 0, .pointer (some ⟨w.heap.size + 1 + 1, 0, none⟩), .pointer (some ⟨wr.heap.size, 0, none⟩), .pointer (some ⟨wr.heap.size + 1, 0, none⟩), .int .i64 (m : Int), .pointer (some ⟨w.heap.size, 1, none⟩), .slice (some ⟨b, off, none⟩) ns.length cap, .int .i64 ns.length, .slice (some ⟨w.heap.size + 1, 0, none⟩) ns.length ns.length, .pointer (some ⟨w.heap.size, 1, none⟩), .slice (some ⟨b, off, none⟩) ns.length cap, .int .i64 ns.length, .int .i64 k, .bool true, .int .i64 k, .pointer (some ⟨b, off + k * 6, none⟩), .agg #[.int .i64 x.op, .int .i64 x.d, .int .i64 x.a, .int .i64 x.b, .int .i64 x.t, .int .i64 x.e], .agg #[.int .i64 x.op, .int .i64 x.d, .int .i64 x.a, .int .i64 x.b, .int .i64 x.t, .int .i64 x.e], .func (.func 62) #[] #[.pointer (some ⟨wr.heap.size + 1 + 1, 0, none⟩)], .int .i64 (m : Int), u22, u23, .slice (some ⟨w.heap.size + 1, 0, none⟩) ns.length ns.length, u25, u26, u27, u28, u29, u30, u31, u32, undef], defers := [] } ∧ w'' = w1) (fun a' w'' h => ?_) ?_
              · obtain ⟨rfl, rfl⟩ := h
                exact ⟨_, _, _, _, _, _, _, _, _, _, hsz', rfl, fun h => e0 (by rwa [keep 0 (by omega)] at h), fun h => e1 (by rwa [keep 1 (by omega)] at h), fun _ => rfl, fun h => e3 (by rwa [keep 3 (by omega)] at h), fun h => e4 (by rwa [keep 4 (by omega)] at h), fun h => e5 (by rwa [keep 5 (by omega)] at h), fun h => e6 (by rwa [keep 6 (by omega)] at h), fun h => e7 (by rwa [keep 7 (by omega)] at h), fun h => e8 (by rwa [keep 8 (by omega)] at h), fun h => e9 (by rwa [keep 9 (by omega)] at h), Or.inr (Or.inr (Or.inl ⟨(keep 5 (by omega)).trans h5, (keep 6 (by omega)).trans h6, (keep 7 (by omega)).trans h7, (keep 8 (by omega)).trans h8, (keep 10 (by omega)).trans h10, rfl⟩))⟩
              · go_simp
            · rw [hall 2 (by omega)] at hl'; cases hl'
          | 3, _ =>
            simp at ho; subst ho
            clear hd
            rcases hw with ⟨h7, h8, h10, rfl⟩ | ⟨h6, h7, h8, h10, rfl⟩ | ⟨h5, h6, h7, h8, h10, hwe⟩ | ⟨hall, rfl⟩
            · refine Oper.wpIn_mono (K := fun a' w'' => a' = { tmps := #[.agg #[.int .i64 r, .slice (some ⟨b, off, none⟩) ns.length cap], .pointer (some ⟨w.heap.size, 0, none⟩), .slice none 0 0, .pointer (some ⟨w.heap.size + 1 + 1, 0, none⟩), .pointer (some ⟨wr.heap.size, 0, none⟩), .pointer (some ⟨wr.heap.size + 1, 0, none⟩), .int .i64 (m : Int), .pointer (some ⟨w.heap.size, 1, none⟩), .slice (some ⟨b, off, none⟩) ns.length cap, .int .i64 ns.length, .slice (some ⟨w.heap.size + 1, 0, none⟩) ns.length ns.length, .pointer (some ⟨w.heap.size, 1, none⟩), .slice (some ⟨b, off, none⟩) ns.length cap, .int .i64 ns.length, .int .i64 k, .bool true, .int .i64 k, .pointer (some ⟨b, off + k * 6, none⟩), .agg #[.int .i64 x.op, .int .i64 x.d, .int .i64 x.a, .int .i64 x.b, .int .i64 x.t, .int .i64 x.e], .agg #[.int .i64 x.op, .int .i64 x.d, .int .i64 x.a, .int .i64 x.b, .int .i64 x.t, .int .i64 x.e], .func (.func 62) #[] #[.pointer (some ⟨wr.heap.size + 1 + 1, 0, none⟩)], .int .i64 (m : Int), u22, u23, u24, .int .i64 (m : Int), u26, u27, u28, u29, u30, u31, u32, undef], defers := [] } ∧ w'' = W.drew) (fun a' w'' h => ?_) ?_
              · obtain ⟨rfl, rfl⟩ := h
                exact ⟨_, _, _, _, _, _, _, _, _, _, hsz', rfl, fun h => e0 (by rwa [keep 0 (by omega)] at h), fun h => e1 (by rwa [keep 1 (by omega)] at h), fun h => e2 (by rwa [keep 2 (by omega)] at h), fun _ => rfl, fun h => e4 (by rwa [keep 4 (by omega)] at h), fun h => e5 (by rwa [keep 5 (by omega)] at h), fun h => e6 (by rwa [keep 6 (by omega)] at h), fun h => e7 (by rwa [keep 7 (by omega)] at h), fun h => e8 (by rwa [keep 8 (by omega)] at h), fun h => e9 (by rwa [keep 9 (by omega)] at h), Or.inl ⟨(keep 7 (by omega)).trans h7, (keep 8 (by omega)).trans h8, (keep 10 (by omega)).trans h10, rfl⟩⟩
              · go_simp
            · refine Oper.wpIn_mono (K := fun a' w'' => a' = { tmps := #[.agg #[.int .i64 r, .slice (some ⟨b, off, none⟩) ns.length cap], .pointer (some ⟨w.heap.size, 0, none⟩), .slice none 0 0, .pointer (some ⟨w.heap.size + 1 + 1, 0, none⟩), .pointer (some ⟨wr.heap.size, 0, none⟩), .pointer (some ⟨wr.heap.size + 1, 0, none⟩), .int .i64 (m : Int), .pointer (some ⟨w.heap.size, 1, none⟩), .slice (some ⟨b, off, none⟩) ns.length cap, .int .i64 ns.length, .slice (some ⟨w.heap.size + 1, 0, none⟩) ns.length ns.length, .pointer (some ⟨w.heap.size, 1, none⟩), .slice (some ⟨b, off, none⟩) ns.length cap, .int .i64 ns.length, .int .i64 k, .bool true, .int .i64 k, .pointer (some ⟨b, off + k * 6, none⟩), .agg #[.int .i64 x.op, .int .i64 x.d, .int .i64 x.a, .int .i64 x.b, .int .i64 x.t, .int .i64 x.e], .agg #[.int .i64 x.op, .int .i64 x.d, .int .i64 x.a, .int .i64 x.b, .int .i64 x.t, .int .i64 x.e], .func (.func 62) #[] #[.pointer (some ⟨wr.heap.size + 1 + 1, 0, none⟩)], .int .i64 (m : Int), u22, u23, u24, .int .i64 (m : Int), u26, u27, u28, u29, u30, u31, u32, undef], defers := [] } ∧ w'' = W.drew.alloc (.cells #[.int .i64 k] 3)) (fun a' w'' h => ?_) ?_
              · obtain ⟨rfl, rfl⟩ := h
                exact ⟨_, _, _, _, _, _, _, _, _, _, hsz', rfl, fun h => e0 (by rwa [keep 0 (by omega)] at h), fun h => e1 (by rwa [keep 1 (by omega)] at h), fun h => e2 (by rwa [keep 2 (by omega)] at h), fun _ => rfl, fun h => e4 (by rwa [keep 4 (by omega)] at h), fun h => e5 (by rwa [keep 5 (by omega)] at h), fun h => e6 (by rwa [keep 6 (by omega)] at h), fun h => e7 (by rwa [keep 7 (by omega)] at h), fun h => e8 (by rwa [keep 8 (by omega)] at h), fun h => e9 (by rwa [keep 9 (by omega)] at h), Or.inr (Or.inl ⟨(keep 6 (by omega)).trans h6, (keep 7 (by omega)).trans h7, (keep 8 (by omega)).trans h8, (keep 10 (by omega)).trans h10, rfl⟩)⟩
              · go_simp
            · obtain rfl := hwe.symm
              refine Oper.wpIn_mono (K := fun a' w'' => a' = { tmps := #[.agg #[.int .i64 r, .slice (some ⟨b, off, none⟩) ns.length cap], .pointer (some ⟨w.heap.size, 0, none⟩), .slice none 0 0, .pointer (some ⟨w.heap.size + 1 + 1, 0, none⟩), .pointer (some ⟨wr.heap.size, 0, none⟩), .pointer (some ⟨wr.heap.size + 1, 0, none⟩), .int .i64 (m : Int), .pointer (some ⟨w.heap.size, 1, none⟩), .slice (some ⟨b, off, none⟩) ns.length cap, .int .i64 ns.length, .slice (some ⟨w.heap.size + 1, 0, none⟩) ns.length ns.length, .pointer (some ⟨w.heap.size, 1, none⟩), .slice (some ⟨b, off, none⟩) ns.length cap, .int .i64 ns.length, .int .i64 k, .bool true, .int .i64 k, .pointer (some ⟨b, off + k * 6, none⟩), .agg #[.int .i64 x.op, .int .i64 x.d, .int .i64 x.a, .int .i64 x.b, .int .i64 x.t, .int .i64 x.e], .agg #[.int .i64 x.op, .int .i64 x.d, .int .i64 x.a, .int .i64 x.b, .int .i64 x.t, .int .i64 x.e], .func (.func 62) #[] #[.pointer (some ⟨wr.heap.size + 1 + 1, 0, none⟩)], .int .i64 (m : Int), u22, u23, u24, .int .i64 (m : Int), u26, u27, u28, u29, u30, u31, u32, undef], defers := [] } ∧ w'' = w1) (fun a' w'' h => ?_) ?_
              · obtain ⟨rfl, rfl⟩ := h
                exact ⟨_, _, _, _, _, _, _, _, _, _, hsz', rfl, fun h => e0 (by rwa [keep 0 (by omega)] at h), fun h => e1 (by rwa [keep 1 (by omega)] at h), fun h => e2 (by rwa [keep 2 (by omega)] at h), fun _ => rfl, fun h => e4 (by rwa [keep 4 (by omega)] at h), fun h => e5 (by rwa [keep 5 (by omega)] at h), fun h => e6 (by rwa [keep 6 (by omega)] at h), fun h => e7 (by rwa [keep 7 (by omega)] at h), fun h => e8 (by rwa [keep 8 (by omega)] at h), fun h => e9 (by rwa [keep 9 (by omega)] at h), Or.inr (Or.inr (Or.inl ⟨(keep 5 (by omega)).trans h5, (keep 6 (by omega)).trans h6, (keep 7 (by omega)).trans h7, (keep 8 (by omega)).trans h8, (keep 10 (by omega)).trans h10, rfl⟩))⟩
              · go_simp
            · rw [hall 3 (by omega)] at hl'; cases hl'
          | 4, _ =>
            simp at ho; subst ho
            have d2 : listed.getD 2 false = true := hd ⟨2, .data⟩ (by simp) rfl
            have d3 : listed.getD 3 false = true := hd ⟨3, .data⟩ (by simp) rfl
            obtain rfl := (e2 d2).symm
            obtain rfl := (e3 d3).symm
            clear hd
            rcases hw with ⟨h7, h8, h10, rfl⟩ | ⟨h6, h7, h8, h10, rfl⟩ | ⟨h5, h6, h7, h8, h10, hwe⟩ | ⟨hall, rfl⟩
            · refine Oper.wpIn_mono (K := fun a' w'' => a' = { tmps := #[.agg #[.int .i64 r, .slice (some ⟨b, off, none⟩) ns.length cap], .pointer (some ⟨w.heap.size, 0, none⟩), .slice none 0 0, .pointer (some ⟨w.heap.size + 1 + 1, 0, none⟩), .pointer (some ⟨wr.heap.size, 0, none⟩), .pointer (some ⟨wr.heap.size + 1, 0, none⟩), .int .i64 (m : Int), .pointer (some ⟨w.heap.size, 1, none⟩), .slice (some ⟨b, off, none⟩) ns.length cap, .int .i64 ns.length, .slice (some ⟨w.heap.size + 1, 0, none⟩) ns.length ns.length, .pointer (some ⟨w.heap.size, 1, none⟩), .slice (some ⟨b, off, none⟩) ns.length cap, .int .i64 ns.length, .int .i64 k, .bool true, .int .i64 k, .pointer (some ⟨b, off + k * 6, none⟩), .agg #[.int .i64 x.op, .int .i64 x.d, .int .i64 x.a, .int .i64 x.b, .int .i64 x.t, .int .i64 x.e], .agg #[.int .i64 x.op, .int .i64 x.d, .int .i64 x.a, .int .i64 x.b, .int .i64 x.t, .int .i64 x.e], .func (.func 62) #[] #[.pointer (some ⟨wr.heap.size + 1 + 1, 0, none⟩)], .int .i64 (m : Int), u22, u23, .slice (some ⟨w.heap.size + 1, 0, none⟩) ns.length ns.length, .int .i64 (m : Int), .pointer (some ⟨w.heap.size + 1, m, none⟩), u27, u28, u29, u30, u31, u32, undef], defers := [] } ∧ w'' = W.drew) (fun a' w'' h => ?_) ?_
              · obtain ⟨rfl, rfl⟩ := h
                exact ⟨_, _, _, _, _, _, _, _, _, _, hsz', rfl, fun h => e0 (by rwa [keep 0 (by omega)] at h), fun h => e1 (by rwa [keep 1 (by omega)] at h), fun _ => rfl, fun _ => rfl, fun _ => rfl, fun h => e5 (by rwa [keep 5 (by omega)] at h), fun h => e6 (by rwa [keep 6 (by omega)] at h), fun h => e7 (by rwa [keep 7 (by omega)] at h), fun h => e8 (by rwa [keep 8 (by omega)] at h), fun h => e9 (by rwa [keep 9 (by omega)] at h), Or.inl ⟨(keep 7 (by omega)).trans h7, (keep 8 (by omega)).trans h8, (keep 10 (by omega)).trans h10, rfl⟩⟩
              · go_simp
            · refine Oper.wpIn_mono (K := fun a' w'' => a' = { tmps := #[.agg #[.int .i64 r, .slice (some ⟨b, off, none⟩) ns.length cap], .pointer (some ⟨w.heap.size, 0, none⟩), .slice none 0 0, .pointer (some ⟨w.heap.size + 1 + 1, 0, none⟩), .pointer (some ⟨wr.heap.size, 0, none⟩), .pointer (some ⟨wr.heap.size + 1, 0, none⟩), .int .i64 (m : Int), .pointer (some ⟨w.heap.size, 1, none⟩), .slice (some ⟨b, off, none⟩) ns.length cap, .int .i64 ns.length, .slice (some ⟨w.heap.size + 1, 0, none⟩) ns.length ns.length, .pointer (some ⟨w.heap.size, 1, none⟩), .slice (some ⟨b, off, none⟩) ns.length cap, .int .i64 ns.length, .int .i64 k, .bool true, .int .i64 k, .pointer (some ⟨b, off + k * 6, none⟩), .agg #[.int .i64 x.op, .int .i64 x.d, .int .i64 x.a, .int .i64 x.b, .int .i64 x.t, .int .i64 x.e], .agg #[.int .i64 x.op, .int .i64 x.d, .int .i64 x.a, .int .i64 x.b, .int .i64 x.t, .int .i64 x.e], .func (.func 62) #[] #[.pointer (some ⟨wr.heap.size + 1 + 1, 0, none⟩)], .int .i64 (m : Int), u22, u23, .slice (some ⟨w.heap.size + 1, 0, none⟩) ns.length ns.length, .int .i64 (m : Int), .pointer (some ⟨w.heap.size + 1, m, none⟩), u27, u28, u29, u30, u31, u32, undef], defers := [] } ∧ w'' = W.drew.alloc (.cells #[.int .i64 k] 3)) (fun a' w'' h => ?_) ?_
              · obtain ⟨rfl, rfl⟩ := h
                exact ⟨_, _, _, _, _, _, _, _, _, _, hsz', rfl, fun h => e0 (by rwa [keep 0 (by omega)] at h), fun h => e1 (by rwa [keep 1 (by omega)] at h), fun _ => rfl, fun _ => rfl, fun _ => rfl, fun h => e5 (by rwa [keep 5 (by omega)] at h), fun h => e6 (by rwa [keep 6 (by omega)] at h), fun h => e7 (by rwa [keep 7 (by omega)] at h), fun h => e8 (by rwa [keep 8 (by omega)] at h), fun h => e9 (by rwa [keep 9 (by omega)] at h), Or.inr (Or.inl ⟨(keep 6 (by omega)).trans h6, (keep 7 (by omega)).trans h7, (keep 8 (by omega)).trans h8, (keep 10 (by omega)).trans h10, rfl⟩)⟩
              · go_simp
            · obtain rfl := hwe.symm
              refine Oper.wpIn_mono (K := fun a' w'' => a' = { tmps := #[.agg #[.int .i64 r, .slice (some ⟨b, off, none⟩) ns.length cap], .pointer (some ⟨w.heap.size, 0, none⟩), .slice none 0 0, .pointer (some ⟨w.heap.size + 1 + 1, 0, none⟩), .pointer (some ⟨wr.heap.size, 0, none⟩), .pointer (some ⟨wr.heap.size + 1, 0, none⟩), .int .i64 (m : Int), .pointer (some ⟨w.heap.size, 1, none⟩), .slice (some ⟨b, off, none⟩) ns.length cap, .int .i64 ns.length, .slice (some ⟨w.heap.size + 1, 0, none⟩) ns.length ns.length, .pointer (some ⟨w.heap.size, 1, none⟩), .slice (some ⟨b, off, none⟩) ns.length cap, .int .i64 ns.length, .int .i64 k, .bool true, .int .i64 k, .pointer (some ⟨b, off + k * 6, none⟩), .agg #[.int .i64 x.op, .int .i64 x.d, .int .i64 x.a, .int .i64 x.b, .int .i64 x.t, .int .i64 x.e], .agg #[.int .i64 x.op, .int .i64 x.d, .int .i64 x.a, .int .i64 x.b, .int .i64 x.t, .int .i64 x.e], .func (.func 62) #[] #[.pointer (some ⟨wr.heap.size + 1 + 1, 0, none⟩)], .int .i64 (m : Int), u22, u23, .slice (some ⟨w.heap.size + 1, 0, none⟩) ns.length ns.length, .int .i64 (m : Int), .pointer (some ⟨w.heap.size + 1, m, none⟩), u27, u28, u29, u30, u31, u32, undef], defers := [] } ∧ w'' = w1) (fun a' w'' h => ?_) ?_
              · obtain ⟨rfl, rfl⟩ := h
                exact ⟨_, _, _, _, _, _, _, _, _, _, hsz', rfl, fun h => e0 (by rwa [keep 0 (by omega)] at h), fun h => e1 (by rwa [keep 1 (by omega)] at h), fun _ => rfl, fun _ => rfl, fun _ => rfl, fun h => e5 (by rwa [keep 5 (by omega)] at h), fun h => e6 (by rwa [keep 6 (by omega)] at h), fun h => e7 (by rwa [keep 7 (by omega)] at h), fun h => e8 (by rwa [keep 8 (by omega)] at h), fun h => e9 (by rwa [keep 9 (by omega)] at h), Or.inr (Or.inr (Or.inl ⟨(keep 5 (by omega)).trans h5, (keep 6 (by omega)).trans h6, (keep 7 (by omega)).trans h7, (keep 8 (by omega)).trans h8, (keep 10 (by omega)).trans h10, rfl⟩))⟩
              · go_simp
            · rw [hall 4 (by omega)] at hl'; cases hl'
          | 5, _ =>
            simp at ho; subst ho
            have d4 : listed.getD 4 false = true := hd ⟨4, .data⟩ (by simp) rfl
            obtain rfl := (e4 d4).symm
            clear hd
            rcases hw with ⟨h7, h8, h10, rfl⟩ | ⟨h6, h7, h8, h10, rfl⟩ | ⟨h5, h6, h7, h8, h10, hwe⟩ | ⟨hall, rfl⟩
            · refine Oper.wpIn_mono (K := fun a' w'' => a' = { tmps := #[.agg #[.int .i64 r, .slice (some ⟨b, off, none⟩) ns.length cap], .pointer (some ⟨w.heap.size, 0, none⟩), .slice none 0 0, .pointer (some ⟨w.heap.size + 1 + 1, 0, none⟩), .pointer (some ⟨wr.heap.size, 0, none⟩), .pointer (some ⟨wr.heap.size + 1, 0, none⟩), .int .i64 (m : Int), .pointer (some ⟨w.heap.size, 1, none⟩), .slice (some ⟨b, off, none⟩) ns.length cap, .int .i64 ns.length, .slice (some ⟨w.heap.size + 1, 0, none⟩) ns.length ns.length, .pointer (some ⟨w.heap.size, 1, none⟩), .slice (some ⟨b, off, none⟩) ns.length cap, .int .i64 ns.length, .int .i64 k, .bool true, .int .i64 k, .pointer (some ⟨b, off + k * 6, none⟩), .agg #[.int .i64 x.op, .int .i64 x.d, .int .i64 x.a, .int .i64 x.b, .int .i64 x.t, .int .i64 x.e], .agg #[.int .i64 x.op, .int .i64 x.d, .int .i64 x.a, .int .i64 x.b, .int .i64 x.t, .int .i64 x.e], .func (.func 62) #[] #[.pointer (some ⟨wr.heap.size + 1 + 1, 0, none⟩)], .int .i64 (m : Int), u22, u23, u24, u25, .pointer (some ⟨w.heap.size + 1, m, none⟩), v, u28, u29, u30, u31, u32, undef], defers := [] } ∧ w'' = W.drew) (fun a' w'' h => ?_) ?_
              · obtain ⟨rfl, rfl⟩ := h
                exact ⟨_, _, _, _, _, _, _, _, _, _, hsz', rfl, fun h => e0 (by rwa [keep 0 (by omega)] at h), fun h => e1 (by rwa [keep 1 (by omega)] at h), fun h => e2 (by rwa [keep 2 (by omega)] at h), fun h => e3 (by rwa [keep 3 (by omega)] at h), fun _ => rfl, fun _ => rfl, fun h => e6 (by rwa [keep 6 (by omega)] at h), fun h => e7 (by rwa [keep 7 (by omega)] at h), fun h => e8 (by rwa [keep 8 (by omega)] at h), fun h => e9 (by rwa [keep 9 (by omega)] at h), Or.inl ⟨(keep 7 (by omega)).trans h7, (keep 8 (by omega)).trans h8, (keep 10 (by omega)).trans h10, rfl⟩⟩
              · go_simp
            · refine Oper.wpIn_mono (K := fun a' w'' => a' = { tmps := #[.agg #[.int .i64 r, .slice (some ⟨b, off, none⟩) ns.length cap], .pointer (some ⟨w.heap.size, 0, none⟩), .slice none 0 0, .pointer (some ⟨w.heap.size + 1 + 1, 0, none⟩), .pointer (some ⟨wr.heap.size, 0, none⟩), .pointer (some ⟨wr.heap.size + 1, 0, none⟩), .int .i64 (m : Int), .pointer (some ⟨w.heap.size, 1, none⟩), .slice (some ⟨b, off, none⟩) ns.length cap, .int .i64 ns.length, .slice (some ⟨w.heap.size + 1, 0, none⟩) ns.length ns.length, .pointer (some ⟨w.heap.size, 1, none⟩), .slice (some ⟨b, off, none⟩) ns.length cap, .int .i64 ns.length, .int .i64 k, .bool true, .int .i64 k, .pointer (some ⟨b, off + k * 6, none⟩), .agg #[.int .i64 x.op, .int .i64 x.d, .int .i64 x.a, .int .i64 x.b, .int .i64 x.t, .int .i64 x.e], .agg #[.int .i64 x.op, .int .i64 x.d, .int .i64 x.a, .int .i64 x.b, .int .i64 x.t, .int .i64 x.e], .func (.func 62) #[] #[.pointer (some ⟨wr.heap.size + 1 + 1, 0, none⟩)], .int .i64 (m : Int), u22, u23, u24, u25, .pointer (some ⟨w.heap.size + 1, m, none⟩), v, u28, u29, u30, u31, u32, undef], defers := [] } ∧ w'' = W.drew.alloc (.cells #[.int .i64 k] 3)) (fun a' w'' h => ?_) ?_
              · obtain ⟨rfl, rfl⟩ := h
                exact ⟨_, _, _, _, _, _, _, _, _, _, hsz', rfl, fun h => e0 (by rwa [keep 0 (by omega)] at h), fun h => e1 (by rwa [keep 1 (by omega)] at h), fun h => e2 (by rwa [keep 2 (by omega)] at h), fun h => e3 (by rwa [keep 3 (by omega)] at h), fun _ => rfl, fun _ => rfl, fun h => e6 (by rwa [keep 6 (by omega)] at h), fun h => e7 (by rwa [keep 7 (by omega)] at h), fun h => e8 (by rwa [keep 8 (by omega)] at h), fun h => e9 (by rwa [keep 9 (by omega)] at h), Or.inr (Or.inl ⟨(keep 6 (by omega)).trans h6, (keep 7 (by omega)).trans h7, (keep 8 (by omega)).trans h8, (keep 10 (by omega)).trans h10, rfl⟩)⟩
              · go_simp
            · rw [h5] at hl'; cases hl'
            · rw [hall 5 (by omega)] at hl'; cases hl'
          | 6, _ =>
            simp at ho; subst ho
            clear hd
            rcases hw with ⟨h7, h8, h10, rfl⟩ | ⟨h6, h7, h8, h10, rfl⟩ | ⟨h5, h6, h7, h8, h10, hwe⟩ | ⟨hall, rfl⟩
            · refine Oper.wpIn_mono (K := fun a' w'' => a' = { tmps := #[.agg #[.int .i64 r, .slice (some ⟨b, off, none⟩) ns.length cap], .pointer (some ⟨w.heap.size, 0, none⟩), .slice none 0 0, .pointer (some ⟨w.heap.size + 1 + 1, 0, none⟩), .pointer (some ⟨wr.heap.size, 0, none⟩), .pointer (some ⟨wr.heap.size + 1, 0, none⟩), .int .i64 (m : Int), .pointer (some ⟨w.heap.size, 1, none⟩), .slice (some ⟨b, off, none⟩) ns.length cap, .int .i64 ns.length, .slice (some ⟨w.heap.size + 1, 0, none⟩) ns.length ns.length, .pointer (some ⟨w.heap.size, 1, none⟩), .slice (some ⟨b, off, none⟩) ns.length cap, .int .i64 ns.length, .int .i64 k, .bool true, .int .i64 k, .pointer (some ⟨b, off + k * 6, none⟩), .agg #[.int .i64 x.op, .int .i64 x.d, .int .i64 x.a, .int .i64 x.b, .int .i64 x.t, .int .i64 x.e], .agg #[.int .i64 x.op, .int .i64 x.d, .int .i64 x.a, .int .i64 x.b, .int .i64 x.t, .int .i64 x.e], .func (.func 62) #[] #[.pointer (some ⟨wr.heap.size + 1 + 1, 0, none⟩)], .int .i64 (m : Int), u22, u23, u24, u25, u26, u27, .int .i64 (k : Int), u29, u30, u31, u32, undef], defers := [] } ∧ w'' = W.drew) (fun a' w'' h => ?_) ?_
              · obtain ⟨rfl, rfl⟩ := h
                exact ⟨_, _, _, _, _, _, _, _, _, _, hsz', rfl, fun h => e0 (by rwa [keep 0 (by omega)] at h), fun h => e1 (by rwa [keep 1 (by omega)] at h), fun h => e2 (by rwa [keep 2 (by omega)] at h), fun h => e3 (by rwa [keep 3 (by omega)] at h), fun h => e4 (by rwa [keep 4 (by omega)] at h), fun h => e5 (by rwa [keep 5 (by omega)] at h), fun _ => rfl, fun h => e7 (by rwa [keep 7 (by omega)] at h), fun h => e8 (by rwa [keep 8 (by omega)] at h), fun h => e9 (by rwa [keep 9 (by omega)] at h), Or.inl ⟨(keep 7 (by omega)).trans h7, (keep 8 (by omega)).trans h8, (keep 10 (by omega)).trans h10, rfl⟩⟩
              · go_simp
            · rw [h6] at hl'; cases hl'
            · rw [h6] at hl'; cases hl'
            · rw [hall 6 (by omega)] at hl'; cases hl'
          | 7, _ =>
            simp at ho; subst ho
            have d6 : listed.getD 6 false = true := hd ⟨6, .data⟩ (by simp) rfl
            obtain rfl := (e6 d6).symm
            clear hd
            rcases hw with ⟨h7, h8, h10, rfl⟩ | ⟨h6, h7, h8, h10, rfl⟩ | ⟨h5, h6, h7, h8, h10, hwe⟩ | ⟨hall, rfl⟩
            · refine Oper.wpIn_mono (K := fun a' w'' => a' = { tmps := #[.agg #[.int .i64 r, .slice (some ⟨b, off, none⟩) ns.length cap], .pointer (some ⟨w.heap.size, 0, none⟩), .slice none 0 0, .pointer (some ⟨w.heap.size + 1 + 1, 0, none⟩), .pointer (some ⟨wr.heap.size, 0, none⟩), .pointer (some ⟨wr.heap.size + 1, 0, none⟩), .int .i64 (m : Int), .pointer (some ⟨w.heap.size, 1, none⟩), .slice (some ⟨b, off, none⟩) ns.length cap, .int .i64 ns.length, .slice (some ⟨w.heap.size + 1, 0, none⟩) ns.length ns.length, .pointer (some ⟨w.heap.size, 1, none⟩), .slice (some ⟨b, off, none⟩) ns.length cap, .int .i64 ns.length, .int .i64 k, .bool true, .int .i64 k, .pointer (some ⟨b, off + k * 6, none⟩), .agg #[.int .i64 x.op, .int .i64 x.d, .int .i64 x.a, .int .i64 x.b, .int .i64 x.t, .int .i64 x.e], .agg #[.int .i64 x.op, .int .i64 x.d, .int .i64 x.a, .int .i64 x.b, .int .i64 x.t, .int .i64 x.e], .func (.func 62) #[] #[.pointer (some ⟨wr.heap.size + 1 + 1, 0, none⟩)], .int .i64 (m : Int), u22, u23, u24, u25, u26, u27, .int .i64 (k : Int), .slice (some ⟨W.heap.size, 0, none⟩) 1 1, u30, u31, u32, undef], defers := [] } ∧ w'' = W.drew.alloc (.cells #[.int .i64 k] 3)) (fun a' w'' h => ?_) ?_
              · obtain ⟨rfl, rfl⟩ := h
                exact ⟨_, _, _, _, _, _, _, _, _, _, hsz', rfl, fun h => e0 (by rwa [keep 0 (by omega)] at h), fun h => e1 (by rwa [keep 1 (by omega)] at h), fun h => e2 (by rwa [keep 2 (by omega)] at h), fun h => e3 (by rwa [keep 3 (by omega)] at h), fun h => e4 (by rwa [keep 4 (by omega)] at h), fun h => e5 (by rwa [keep 5 (by omega)] at h), fun _ => rfl, fun _ => rfl, fun h => e8 (by rwa [keep 8 (by omega)] at h), fun h => e9 (by rwa [keep 9 (by omega)] at h), Or.inr (Or.inl ⟨(keep 6 (by omega)).trans d6, sett, (keep 8 (by omega)).trans h8, (keep 10 (by omega)).trans h10, rfl⟩)⟩
              · go_simp
            · rw [h7] at hl'; cases hl'
            · rw [h7] at hl'; cases hl'
            · rw [hall 7 (by omega)] at hl'; cases hl'
          | 8, _ =>
            simp at ho; subst ho
            have d5 : listed.getD 5 false = true := hd ⟨5, .data⟩ (by simp) rfl
            have d7 : listed.getD 7 false = true := hd ⟨7, .data⟩ (by simp) rfl
            obtain rfl := (e5 d5).symm
            obtain rfl := (e7 d7).symm
            clear hd
            rcases hw with ⟨h7, h8, h10, rfl⟩ | ⟨h6, h7, h8, h10, rfl⟩ | ⟨h5, h6, h7, h8, h10, hwe⟩ | ⟨hall, rfl⟩
            · rw [d7] at h7; cases h7
            · refine Oper.wpIn_mono (K := fun a' w'' => a' = { tmps := #[.agg #[.int .i64 r, .slice (some ⟨b, off, none⟩) ns.length cap], .pointer (some ⟨w.heap.size, 0, none⟩), .slice none 0 0, .pointer (some ⟨w.heap.size + 1 + 1, 0, none⟩), .pointer (some ⟨wr.heap.size, 0, none⟩), .pointer (some ⟨wr.heap.size + 1, 0, none⟩), .int .i64 (m : Int), .pointer (some ⟨w.heap.size, 1, none⟩), .slice (some ⟨b, off, none⟩) ns.length cap, .int .i64 ns.length, .slice (some ⟨w.heap.size + 1, 0, none⟩) ns.length ns.length, .pointer (some ⟨w.heap.size, 1, none⟩), .slice (some ⟨b, off, none⟩) ns.length cap, .int .i64 ns.length, .int .i64 k, .bool true, .int .i64 k, .pointer (some ⟨b, off + k * 6, none⟩), .agg #[.int .i64 x.op, .int .i64 x.d, .int .i64 x.a, .int .i64 x.b, .int .i64 x.t, .int .i64 x.e], .agg #[.int .i64 x.op, .int .i64 x.d, .int .i64 x.a, .int .i64 x.b, .int .i64 x.t, .int .i64 x.e], .func (.func 62) #[] #[.pointer (some ⟨wr.heap.size + 1 + 1, 0, none⟩)], .int .i64 (m : Int), u22, u23, u24, u25, u26, v, u28, .slice (some ⟨W.heap.size, 0, none⟩) 1 1, .slice (some ⟨g, 0, none⟩) (N0 + 1) cap1, u31, u32, undef], defers := [] } ∧ w'' = w1) (fun a' w'' h => ?_) ?_
              · obtain ⟨rfl, rfl⟩ := h
                exact ⟨_, _, _, _, _, _, _, _, _, _, hsz', rfl, fun h => e0 (by rwa [keep 0 (by omega)] at h), fun h => e1 (by rwa [keep 1 (by omega)] at h), fun h => e2 (by rwa [keep 2 (by omega)] at h), fun h => e3 (by rwa [keep 3 (by omega)] at h), fun h => e4 (by rwa [keep 4 (by omega)] at h), fun _ => rfl, fun h => e6 (by rwa [keep 6 (by omega)] at h), fun _ => rfl, fun _ => rfl, fun h => e9 (by rwa [keep 9 (by omega)] at h), Or.inr (Or.inr (Or.inl ⟨(keep 5 (by omega)).trans d5, (keep 6 (by omega)).trans h6, (keep 7 (by omega)).trans h7, sett, (keep 10 (by omega)).trans h10, rfl⟩))⟩
              · go_simp
            · rw [h8] at hl'; cases hl'
            · rw [hall 8 (by omega)] at hl'; cases hl'
          | 9, _ =>
            simp at ho; subst ho
            have d0 : listed.getD 0 false = true := hd ⟨0, .phase⟩ (by simp) rfl
            have d1 : listed.getD 1 false = true := hd ⟨1, .phase⟩ (by simp) rfl
            have d2 : listed.getD 2 false = true := hd ⟨2, .phase⟩ (by simp) rfl
            have d3 : listed.getD 3 false = true := hd ⟨3, .phase⟩ (by simp) rfl
            have d4 : listed.getD 4 false = true := hd ⟨4, .phase⟩ (by simp) rfl
            have d5 : listed.getD 5 false = true := hd ⟨5, .phase⟩ (by simp) rfl
            have d6 : listed.getD 6 false = true := hd ⟨6, .phase⟩ (by simp) rfl
            have d7 : listed.getD 7 false = true := hd ⟨7, .phase⟩ (by simp) rfl
            have d8 : listed.getD 8 false = true := hd ⟨8, .phase⟩ (by simp) rfl
            obtain rfl := (e0 d0).symm
            obtain rfl := (e1 d1).symm
            obtain rfl := (e2 d2).symm
            obtain rfl := (e3 d3).symm
            obtain rfl := (e4 d4).symm
            obtain rfl := (e5 d5).symm
            obtain rfl := (e6 d6).symm
            obtain rfl := (e7 d7).symm
            obtain rfl := (e8 d8).symm
            clear hd
            rcases hw with ⟨h7, h8, h10, rfl⟩ | ⟨h6, h7, h8, h10, rfl⟩ | ⟨h5, h6, h7, h8, h10, hwe⟩ | ⟨hall, rfl⟩
            · rw [d8] at h8; cases h8
            · rw [d8] at h8; cases h8
            · obtain rfl := hwe.symm
              refine Oper.wpIn_mono (K := fun a' w'' => a' = { tmps := #[.agg #[.int .i64 r, .slice (some ⟨b, off, none⟩) ns.length cap], .pointer (some ⟨w.heap.size, 0, none⟩), .slice none 0 0, .pointer (some ⟨w.heap.size + 1 + 1, 0, none⟩), .pointer (some ⟨wr.heap.size, 0, none⟩), .pointer (some ⟨wr.heap.size + 1, 0, none⟩), .int .i64 (m : Int), .pointer (some ⟨w.heap.size, 1, none⟩), .slice (some ⟨b, off, none⟩) ns.length cap, .int .i64 ns.length, .slice (some ⟨w.heap.size + 1, 0, none⟩) ns.length ns.length, .pointer (some ⟨w.heap.size, 1, none⟩), .slice (some ⟨b, off, none⟩) ns.length cap, .int .i64 ns.length, .int .i64 k, .bool true, .int .i64 k, .pointer (some ⟨b, off + k * 6, none⟩), .agg #[.int .i64 x.op, .int .i64 x.d, .int .i64 x.a, .int .i64 x.b, .int .i64 x.t, .int .i64 x.e], .agg #[.int .i64 x.op, .int .i64 x.d, .int .i64 x.a, .int .i64 x.b, .int .i64 x.t, .int .i64 x.e], .func (.func 62) #[] #[.pointer (some ⟨wr.heap.size + 1 + 1, 0, none⟩)], .int .i64 (m : Int), .slice (some ⟨w.heap.size + 1, 0, none⟩) ns.length ns.length, .int .i64 (m : Int), .slice (some ⟨w.heap.size + 1, 0, none⟩) ns.length ns.length, .int .i64 (m : Int), .pointer (some ⟨w.heap.size + 1, m, none⟩), v, .int .i64 (k : Int), .slice (some ⟨W.heap.size, 0, none⟩) 1 1, .slice (some ⟨g, 0, none⟩) (N0 + 1) cap1, .pointer (some ⟨w.heap.size + 1, m, none⟩), u32, undef], defers := [] } ∧ w'' = w1) (fun a' w'' h => ?_) ?_
              · obtain ⟨rfl, rfl⟩ := h
                exact ⟨_, _, _, _, _, _, _, _, _, _, hsz', rfl, fun _ => rfl, fun _ => rfl, fun _ => rfl, fun _ => rfl, fun _ => rfl, fun _ => rfl, fun _ => rfl, fun _ => rfl, fun _ => rfl, fun _ => rfl, Or.inr (Or.inr (Or.inl ⟨(keep 5 (by omega)).trans h5, (keep 6 (by omega)).trans h6, (keep 7 (by omega)).trans h7, (keep 8 (by omega)).trans h8, (keep 10 (by omega)).trans h10, rfl⟩))⟩
              · go_simp
            · rw [hall 9 (by omega)] at hl'; cases hl'
          | 10, _ =>
            simp at ho; subst ho
            have d0 : listed.getD 0 false = true := hd ⟨0, .phase⟩ (by simp) rfl
            have d1 : listed.getD 1 false = true := hd ⟨1, .phase⟩ (by simp) rfl
            have d2 : listed.getD 2 false = true := hd ⟨2, .phase⟩ (by simp) rfl
            have d3 : listed.getD 3 false = true := hd ⟨3, .phase⟩ (by simp) rfl
            have d4 : listed.getD 4 false = true := hd ⟨4, .phase⟩ (by simp) rfl
            have d5 : listed.getD 5 false = true := hd ⟨5, .phase⟩ (by simp) rfl
            have d6 : listed.getD 6 false = true := hd ⟨6, .phase⟩ (by simp) rfl
            have d7 : listed.getD 7 false = true := hd ⟨7, .phase⟩ (by simp) rfl
            have d8 : listed.getD 8 false = true := hd ⟨8, .phase⟩ (by simp) rfl
            have d9 : listed.getD 9 false = true := hd ⟨9, .data⟩ (by simp) rfl
            obtain rfl := (e0 d0).symm
            obtain rfl := (e1 d1).symm
            obtain rfl := (e2 d2).symm
            obtain rfl := (e3 d3).symm
            obtain rfl := (e4 d4).symm
            obtain rfl := (e5 d5).symm
            obtain rfl := (e6 d6).symm
            obtain rfl := (e7 d7).symm
            obtain rfl := (e8 d8).symm
            obtain rfl := (e9 d9).symm
            clear hd
            rcases hw with ⟨h7, h8, h10, rfl⟩ | ⟨h6, h7, h8, h10, rfl⟩ | ⟨h5, h6, h7, h8, h10, hwe⟩ | ⟨hall, rfl⟩
            · rw [d8] at h8; cases h8
            · rw [d8] at h8; cases h8
            · obtain rfl := hwe.symm
              refine Oper.wpIn_mono (K := fun a' w'' => a' = { tmps := #[.agg #[.int .i64 r, .slice (some ⟨b, off, none⟩) ns.length cap], .pointer (some ⟨w.heap.size, 0, none⟩), .slice none 0 0, .pointer (some ⟨w.heap.size + 1 + 1, 0, none⟩), .pointer (some ⟨wr.heap.size, 0, none⟩), .pointer (some ⟨wr.heap.size + 1, 0, none⟩), .int .i64 (m : Int), .pointer (some ⟨w.heap.size, 1, none⟩), .slice (some ⟨b, off, none⟩) ns.length cap, .int .i64 ns.length, .slice (some ⟨w.heap.size + 1, 0, none⟩) ns.length ns.length, .pointer (some ⟨w.heap.size, 1, none⟩), .slice (some ⟨b, off, none⟩) ns.length cap, .int .i64 ns.length, .int .i64 k, .bool true, .int .i64 k, .pointer (some ⟨b, off + k * 6, none⟩), .agg #[.int .i64 x.op, .int .i64 x.d, .int .i64 x.a, .int .i64 x.b, .int .i64 x.t, .int .i64 x.e], .agg #[.int .i64 x.op, .int .i64 x.d, .int .i64 x.a, .int .i64 x.b, .int .i64 x.t, .int .i64 x.e], .func (.func 62) #[] #[.pointer (some ⟨wr.heap.size + 1 + 1, 0, none⟩)], .int .i64 (m : Int), .slice (some ⟨w.heap.size + 1, 0, none⟩) ns.length ns.length, .int .i64 (m : Int), .slice (some ⟨w.heap.size + 1, 0, none⟩) ns.length ns.length, .int .i64 (m : Int), .pointer (some ⟨w.heap.size + 1, m, none⟩), v, .int .i64 (k : Int), .slice (some ⟨W.heap.size, 0, none⟩) 1 1, .slice (some ⟨g, 0, none⟩) (N0 + 1) cap1, .pointer (some ⟨w.heap.size + 1, m, none⟩), u32, undef], defers := [] } ∧ w'' = w1.setCell ⟨w.heap.size + 1, m, none⟩ (.slice (some ⟨g, 0, none⟩) (N0 + 1) cap1)) (fun a' w'' h => ?_) ?_
              · obtain ⟨rfl, rfl⟩ := h
                refine ⟨_, _, _, _, _, _, _, _, _, _, hsz', rfl, fun _ => rfl, fun _ => rfl, fun _ => rfl, fun _ => rfl, fun _ => rfl, fun _ => rfl, fun _ => rfl, fun _ => rfl, fun _ => rfl, fun _ => rfl, Or.inr (Or.inr (Or.inr ⟨fun j hj => ?_, rfl⟩))⟩
                match j, hj with
                | 0, _ => exact (keep 0 (by omega)).trans d0
                | 1, _ => exact (keep 1 (by omega)).trans d1
                | 2, _ => exact (keep 2 (by omega)).trans d2
                | 3, _ => exact (keep 3 (by omega)).trans d3
                | 4, _ => exact (keep 4 (by omega)).trans d4
                | 5, _ => exact (keep 5 (by omega)).trans d5
                | 6, _ => exact (keep 6 (by omega)).trans d6
                | 7, _ => exact (keep 7 (by omega)).trans d7
                | 8, _ => exact (keep 8 (by omega)).trans d8
                | 9, _ => exact (keep 9 (by omega)).trans d9
                | 10, _ => exact sett
              · go_simp
            · rw [hall 10 (by omega)] at hl'; cases hl'
        case h1 =>
          rintro listed a w' ⟨_, _, _, _, _, _, _, _, _, _, hsz, rfl, _, _, _, _, _, _, _, _, _, _, hw⟩ hall
          rcases hw with ⟨h7, _⟩ | ⟨_, _, h8, _⟩ | ⟨_, _, _, _, h10, _⟩ | ⟨_, rfl⟩
          · rw [hall 7 (by decide)] at h7; cases h7
          · rw [hall 8 (by decide)] at h8; cases h8
          · rw [hall 10 (by decide)] at h10; cases h10
          have hown := HW.out
          have hgrow := HG.out
          have hvs := HV.out
          have hv := HH.out
          have hrowc : ∀ (j : Nat) (o : Obj), v.ownBlock = some j → (W.drew.alloc (.cells #[.int .i64 k] 3)).heap[j]? = some o → w.heap.size ≤ j ∧ ∃ cur, o = .cells cur 3 (0, 0) := by
            intro j o ej hj
            rcases hown.2 with ⟨rfl, _⟩ | ⟨g', cap', cur', rfl, hb', hgb, _⟩
            · simp [Value.ownBlock] at ej
            · obtain rfl : g' = j := by simpa [Value.ownBlock] using ej
              rw [Below.heap_alloc W.drew _ _ (Array.getElem?_eq_some_iff.1 hgb).1] at hj
              rw [show W.drew.heap[g']? = W.heap[g']? from rfl, hgb] at hj
              cases hj
              exact ⟨hb', _, rfl⟩
          have hbA : Below W.heap.size W (W.drew.alloc (.cells #[.int .i64 k] 3)) := (Below.refl _ W).drew.alloc (Nat.le_refl _) _
          have hsA : W.heap.size ≤ (W.drew.alloc (.cells #[.int .i64 k] 3)).heap.size := hbA.size
          have hlive : ∀ j, v.ownBlock = some j → ∃ o, (W.drew.alloc (.cells #[.int .i64 k] 3)).heap[j]? = some o := fun j ej => by
            have := (hown.lt j ej).2
            exact ⟨_, Array.getElem?_eq_getElem (by omega)⟩
          have hKO : KeepsOthers W (w1.setCell ⟨w.heap.size + 1, m, none⟩ (.slice (some ⟨g, 0, none⟩) (N0 + 1) cap1)) := by
            refine ((KeepsOthers.drew W).trans (KeepsOthers.alloc W.drew _)).trans ((KeepsOthers.of_grownBy hgrow fun j o ej hj => ?_).trans (KeepsOthers.setCell _ _ _))
            obtain ⟨_, cur, rfl⟩ := hrowc j o ej hj
            rfl
          have hgB : ∀ j, v.ownBlock = some j → w.heap.size ≤ j := fun j ej => by
            obtain ⟨o, ho⟩ := hlive j ej
            exact (hrowc j o ej ho).1
          have hBf : Below w.heap.size W (w1.setCell ⟨w.heap.size + 1, m, none⟩ (.slice (some ⟨g, 0, none⟩) (N0 + 1) cap1)) :=
            ((hbA.mono (by omega)).grown hgrow (by omega) hgB).setCell (p := ⟨w.heap.size + 1, m, none⟩) (by simp) _
          have hKT : KT (wr.heap.size + 1 + 1) W (w1.setCell ⟨w.heap.size + 1, m, none⟩ (.slice (some ⟨g, 0, none⟩) (N0 + 1) cap1)) := by
            refine ((KT.of_below hbA HB3.out.lt).trans (KT.grown hgrow (by have := HB3.out.lt; omega) fun j ej => ?_)).trans (KT.setCell HR1.out (by decide) (by omega) _)
            obtain ⟨o, ho⟩ := hlive j ej
            obtain ⟨_, cur, rfl⟩ := hrowc j o ej ho
            exact ⟨fun e => owns_ne_ty hown HB3.out (by decide) (by rw [ej, e]), _, _, _, ho, by decide⟩
          have hrw : RowsAt (w1.setCell ⟨w.heap.size + 1, m, none⟩ (.slice (some ⟨g, 0, none⟩) (N0 + 1) cap1)) w.heap.size (w.heap.size + 1) ns.length (vs.set m (.slice (some ⟨g, 0, none⟩) (N0 + 1) cap1)) (rowsAt ns k ((pre ++ [y]).map (·.1))) := by
            have e1 : rowsAt ns k ((pre ++ [y]).map (·.1)) = rowsAt ns k (pre.map (·.1) ++ [(m : Int)]) := by rw [List.map_append]; simp [hmy]
            have e2 : (rowsAt ns k (pre.map (·.1) ++ [(m : Int)]) m).length = N0 + 1 := by rw [rowsAt_more, List.length_append, HN0.out]; rfl
            rw [e1, ← e2]
            refine RowsAt.grow (hvs.below hbA) hv hgrow ?_ ?_ fun j hj => rowsAt_else ns k _ hj
            · rcases HA.out with h | h
              · exact Or.inl h
              · right; rw [h]; exact Nat.le_refl _
            · have := HO.out
              rw [e2]
              rw [rowsAt_more, List.map_append]
              exact this
          refine ⟨hKO.from _, hKT, ⟨⟨_, hrw, fun j u hj e => ?_⟩, ?_, ?_, hKT.node HB3.out, HM.out.others hKO⟩, hB1.trans hBf⟩
          · rw [List.getElem?_set] at hj
            split at hj
            · cases hj
              simp only [Value.ownBlock, Option.some.injEq] at e
              rcases HA.out with h | h
              · exact HNO.out m v hv (by rw [h, e])
              · have := hb2.lt; omega
            · exact HNO.out j u hj e
          · exact (Below.heap_setCell _ _ _ _ (by simp)).trans HB1.out
          · refine (Below.heap_setCell _ _ _ _ (by simp; omega)).trans ?_
            exact Boxed.kept (Boxed.alloc (show Boxed W.drew _ _ _ from hb2) _) hgrow (fun e => HNO.out m v hv e.symm)
      case done =>
        rintro D ys W hD rfl ⟨⟨⟨vs, hvs, hno⟩, hb1, hb2, hb3, hm1⟩, hB1⟩ hK
        have hrow := hvs
        rw [exoA_map, rowsAt_done ns k HX.out hkx] at hrow
        have HRR := hide' hrow
        have HM1 := hide' (hm1.cons hK fun E hE => by have := hM.lt hE; omega)
        clear hvs hrow hm1
        gi_wp2
        refine ⟨⟨k + 1, _, _, _, _, _, _, _, _, _, D :: ds, by omega, ⟨vs, HRR.out⟩, hb1, hB1, HM1.out, fun E hE => ?_, rfl⟩, ?_⟩
        · rcases List.mem_cons.1 hE with rfl | hE
          · omega
          · exact hD' E hE
        · simp [intOf]; omega
      case stop =>
        rintro D c pre W _ _ h _
        exact h.elim
    · have ek : k = ns.length := by omega
      have HK := hide' ek
      clear ek
      gi_wp2
      refine leaves_marks ds _ hM hD' fun W' hS => ?_
      refine ⟨_, results_tmp rfl _ _ _, w.heap.size + 1, vs, rfl, ?_, hB.trans hS.below⟩
      have := hS.rows hR
      rw [HK.out] at this
      exact this
end Go.Proofs.Ytoikglgnmjjpcab
