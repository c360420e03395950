/-
  graph.Trim, walked.
-/
import Derived.Test.YtoikglgnmjjpcabGreatX3
import Derived.Test.YtoikglgnmjjpcabGreatX10
namespace Go.Proofs.YtoikglgnmjjpcabGreat
open Go.RowKit Go.Shelf
set_option linter.unusedVariables false

def anewL (x : List Bool) (L k : Nat) : List Int := (List.range L).map fun j => ((anewTo x k j : Nat) : Int)
theorem anewL_zero (x : List Bool) (L : Nat) : anewL x L 0 = List.replicate L 0 := by
  apply List.ext_getElem?
  intro j
  by_cases h : j < L
  · simp [anewL, anewTo, h]
  · simp [anewL, h]
theorem anewL_no {x : List Bool} {L k : Nat} (h : bat x k = false) : anewL x L (k + 1) = anewL x L k := by
  refine List.map_congr_left fun j _ => ?_
  congr 1
  unfold anewTo
  by_cases e : j = k
  · subst e; simp [anewAt, h]
  · by_cases q : j < k
    · rw [if_pos q, if_pos (by omega)]
    · rw [if_neg q, if_neg (by omega)]
theorem anewL_yes {x : List Bool} {L k : Nat} (h : bat x k = true) (hk : k < L) : anewL x L (k + 1) = (anewL x L k).set k ((keptI x k).length : Nat) := by
  apply List.ext_getElem?
  intro j
  rw [List.getElem?_set]
  by_cases hj : j < L
  · by_cases e : k = j
    · subst e
      simp [anewL, anewTo, anewAt, h, hk]
    · rw [if_neg e]
      simp only [anewL, List.getElem?_map, List.getElem?_range hj, Option.map_some]
      congr 2
      unfold anewTo
      by_cases q : j < k
      · rw [if_pos q, if_pos (by omega)]
      · rw [if_neg q, if_neg (by omega)]
  · have : ¬ k = j := by omega
    simp [anewL, hj, this]
theorem anewL_at {x : List Bool} {L j : Nat} (hj : j < L) : (anewL x L L)[j]? = some ((anewAt x j : Nat) : Int) := by
  simp [anewL, anewTo, hj]

def keptN (ns : List Nd) (x : List Bool) (k : Nat) : List Nd := (keptI x k).map (nd ns)
def turnedN (x : List Bool) (l : List Nd) (j : Nat) : List Nd := (l.take j).map (ren x) ++ l.drop j
theorem turnedN_len (x : List Bool) (l : List Nd) (j : Nat) : (turnedN x l j).length = l.length := by
  simp [turnedN]; omega
theorem turnedN_zero (x : List Bool) (l : List Nd) : turnedN x l 0 = l := by simp [turnedN]
theorem turnedN_at {x : List Bool} {l : List Nd} {j : Nat} {y : Nd} (h : l[j]? = some y) : (turnedN x l j)[j]? = some y := by
  have hj := (List.getElem?_eq_some_iff.1 h).1
  simp only [turnedN]
  rw [List.getElem?_append_right (by simp; omega)]
  simp [Nat.min_eq_left (Nat.le_of_lt hj), h]
theorem turnedN_succ {x : List Bool} {l : List Nd} {j : Nat} {y : Nd} (h : l[j]? = some y) : turnedN x l (j + 1) = (turnedN x l j).set j (ren x y) := by
  have hj := (List.getElem?_eq_some_iff.1 h).1
  have e := (List.getElem?_eq_some_iff.1 h).2
  simp only [turnedN]
  rw [List.set_append_right _ _ (by simp; omega)]
  simp only [List.length_map, List.length_take, Nat.min_eq_left (Nat.le_of_lt hj), Nat.sub_self]
  have hd : l.drop j = y :: l.drop (j + 1) := by rw [List.drop_eq_getElem_cons hj, e]
  rw [take_succ_get h, List.map_append, List.append_assoc, hd]
  simp
theorem turnedN_all {x : List Bool} {l : List Nd} : turnedN x l l.length = l.map (ren x) := by simp [turnedN]

set_option maxRecDepth 100000 in
set_option maxHeartbeats 4000000 in
theorem trim_ok (r : Int) (b off cap : Nat) (ns : List Nd) (w : World) (hN : NodesAt w b off ns) (hc : chk r ns = 0) :
    CallsIn Fence.wide 1 Tryz.prog 25 #[.agg #[.int .i64 r, .slice (some ⟨b, off, none⟩) ns.length cap]] w fun e w' => ∃ v, e = .returned (.tuple #[.agg #[.int .i64 r, v], .int .i64 0]) ∧ w'.ownsRow w.heap.size 66 6 v (trimN ns).length ((trimN ns).flatMap encNd) ∧ Below w.heap.size w w' := by
  have hl := (chk_zero hc).1
  obtain ⟨i0, hi0, hz0, hz1, hz2⟩ := info_parts info_node
  have hms : ∀ W : World, Sem.run Tryz.prog (Instr.makeSlice 40 (.int .i64 (ns.length : Int)) (.int .i64 (ns.length : Int))) W = .ok (.slice (some ⟨W.heap.size, 0, none⟩) ns.length ns.length) (W.alloc (.cells (madeCells #[.int .i64 0] ns.length) 3)) := fun W => run_make_row' 40 3 _ 8 Tryz.underlying40 info_int rfl .i64 .i64 ns.length (by omega) (by omega) W
  refine callsIn_of_wp Tryz.func25 rfl trivial ?_ rfl
  simp only [Tryz.ntmps25, List.size_toArray, List.length_cons, List.length_nil, Nat.reduceAdd, Nat.reduceSub, Array.replicate_succ, Array.replicate_zero, List.push_toArray, List.append_toArray, List.nil_append, List.cons_append]
  have hb0 : Below w.heap.size w ((w.alloc (.cells #[.int .i64 r, .slice (some ⟨b, off, none⟩) ns.length cap] 24)).alloc (.cells #[.int .i64 0, .slice none 0 0] 24)) := ((Below.refl _ w).alloc (Nat.le_refl _) _).alloc (by simp) _
  have p0 : ((w.alloc (.cells #[.int .i64 r, .slice (some ⟨b, off, none⟩) ns.length cap] 24)).alloc (.cells #[.int .i64 0, .slice none 0 0] 24)).heap[w.heap.size]? = some (.cells #[.int .i64 r, .slice (some ⟨b, off, none⟩) ns.length cap] 24 (0, 0)) := (Below.heap_alloc _ _ _ (by simp)).trans (World.alloc_heap_new w _)
  have p1 : ((w.alloc (.cells #[.int .i64 r, .slice (some ⟨b, off, none⟩) ns.length cap] 24)).alloc (.cells #[.int .i64 0, .slice none 0 0] 24)).heap[w.heap.size + 1]? = some (.cells #[.int .i64 0, .slice none 0 0] 24 (0, 0)) := by
    have := World.alloc_heap_new (w.alloc (.cells #[.int .i64 r, .slice (some ⟨b, off, none⟩) ns.length cap] 24)) (.cells #[.int .i64 0, .slice none 0 0] 24)
    rwa [World.size_alloc] at this
  have hre := reach_any r b off cap ns _ (hN.below hb0 hN.lt) hc
  have HRE := hide' hre
  clear hre
  have h11 : 1 ≤ 1 := by decide
  gi_wp2_with (refine ⟨trivial, ?_⟩; gi_at_call 58; refine (callsIn_wide.2 HRE.out).mono ?_)
  rintro e w1 ⟨v1, rfl, hrr, hb1⟩
  obtain ⟨rb, rcap, rfl, hrbase, hrlt⟩ := hrr.form (by omega)
  have hs1 := hb1.size
  replace p0 := (hb1.block w.heap.size (by simp; omega)).trans p0
  replace p1 := (hb1.block (w.heap.size + 1) (by simp)).trans p1
  simp only [World.size_alloc] at hs1 hb1 hrbase
  have hB1 : Below w.heap.size w w1 := hb0.trans (hb1.mono (by omega))
  have hlt1 := blk_lt p0
  have hlt2 := blk_lt p1
  have q1 := blk_cell p0 1
  simp at q1
  clear hb1 hb0
  gi_upto_region 6 with fail
  have hA0 : (w1.alloc (.cells (madeCells #[.int .i64 0] ns.length) 3)).heap[w1.heap.size]? = some (.cells ((anewL (rchL ns) ns.length 0).map (Value.int .i64)).toArray 3 (0, 0)) := by
    rw [World.alloc_heap_new, made_ints, anewL_zero]
  have hBA : Below w1.heap.size w1 (w1.alloc (.cells (madeCells #[.int .i64 0] ns.length) 3)) := (Below.refl _ w1).alloc (Nat.le_refl _) _
  have hsA : w1.heap.size + 1 ≤ (w1.alloc (.cells (madeCells #[.int .i64 0] ns.length) 3)).heap.size := by simp
  generalize w1.alloc (.cells (madeCells #[.int .i64 0] ns.length) 3) = WA at hA0 hBA hsA ⊢
  have qA := (hBA.cell (p := ⟨w.heap.size, 1, none⟩) hlt1).trans q1
  have hltA : w.heap.size < WA.heap.size := by omega
  gi_wp2
  gi_loopw [7, 28] (fun v i wr => ∃ k : Nat, k ≤ ns.length ∧ i = .int .i64 k ∧ wr.heap[w1.heap.size]? = some (.cells ((anewL (rchL ns) ns.length k).map (Value.int .i64)).toArray 3 (0, 0)) ∧ wr.ownsRow (w1.heap.size + 1) 66 6 v (keptN ns (rchL ns) k).length ((keptN ns (rchL ns) k).flatMap encNd) ∧ Below w1.heap.size w1 wr) (fun _ i _ => ns.length - (intOf i).toNat)
  case atStart => exact ⟨0, Nat.zero_le _, rfl, hA0, World.ownsRow_nil _ _ _ _, hBA⟩
  case round =>
    obtain ⟨k, hk, rfl, hA, hK, hB⟩ := hrel
    have hs := hB.size
    have hal := blk_lt hA
    have hkl : (keptN ns (rchL ns) k).length ≤ k := by simp only [keptN, List.length_map]; exact keptI_len _ _
    obtain ⟨ka, kc, hkv⟩ := owns_slice hK
    subst hkv
    by_cases hlt : k < ns.length
    · obtain ⟨y, hy⟩ := get_lt hlt
      have hki : (k : Int) < (ns.length : Int) := by omega
      have hN1 := hN.below (hB1.trans (hB.mono (by omega))) hN.lt
      have c0 := hN1.c0 k y hy
      have c1 := hN1.c1 k y hy
      have c2 := hN1.c2 k y hy
      have c3 := hN1.c3 k y hy
      have c4 := hN1.c4 k y hy
      have c5 := hN1.c5 k y hy
      have hblt := hN1.lt
      have xk : wr.cell? ⟨rb, k, none⟩ = some (.bool (bat (rchL ns) k)) := by
        rw [hB.cell (p := ⟨rb, k, none⟩) hrlt]
        have := hrr.cells (g := rb) rfl k (.bool (bat (rchL ns) k)) (by rw [List.getElem?_map, get_bat (by rw [rchL_len]; exact hlt)]; rfl)
        have e : (⟨rb, 0, none⟩ : Addr).add k = ⟨rb, k, none⟩ := by cases k <;> simp [Addr.add]
        rw [e] at this; exact this
      have hrl2 : rb < wr.heap.size := by omega
      have HA := hide' hA
      have HK := hide' hK
      have HYD := hide' (nd_get hy)
      clear hN1 hy hA hK
      cases hxk : bat (rchL ns) k
      · rw [hxk] at xk
        have HAN := hide' (anewL_no (L := ns.length) hxk)
        have HKN := hide' (show keptN ns (rchL ns) (k + 1) = keptN ns (rchL ns) k by rw [keptN, keptN, keptI_no hxk])
        clear hxk
        gi_wp2
        go_roundw
        case rel => exact ⟨k + 1, by omega, by go_num, by rw [HAN.out]; exact (Below.heap_alloc _ _ _ hal).trans HA.out, by rw [HKN.out]; exact HK.out.alloc _, hB.alloc hB.size _⟩
        case measure => simp [intOf]; omega
      · rw [hxk] at xk
        have HAN := hide' (anewL_yes hxk hlt)
        have HKN := hide' (show keptN ns (rchL ns) (k + 1) = keptN ns (rchL ns) k ++ [y] by rw [keptN, keptN, keptI_yes hxk, List.map_append, List.map_singleton, HYD.out])
        have hkN : (keptN ns (rchL ns) k).length = (keptI (rchL ns) k).length := by simp [keptN]
        have HKL := hide' hkN
        have hAc := blk_cell HA.out k
        have hAf := blk_frozen HA.out k
        have hAk : ((anewL (rchL ns) ns.length k).map (Value.int .i64)).toArray[k]? = some (.int .i64 ((anewTo (rchL ns) k k : Nat) : Int)) := by
          rw [List.getElem?_toArray, List.getElem?_map]
          simp [anewL, hlt]
        rw [hAk] at hAc
        clear hxk hkN hAk
        gi_upto_region 11 with fail
        have hA2 : ((wr.setCell ⟨w1.heap.size, k, none⟩ (.int .i64 ((keptN ns (rchL ns) k).length : Int))).alloc (.cells #[.int .i64 y.op, .int .i64 y.d, .int .i64 y.a, .int .i64 y.b, .int .i64 y.t, .int .i64 y.e] 66)).heap[w1.heap.size]? = some (.cells ((anewL (rchL ns) ns.length (k + 1)).map (Value.int .i64)).toArray 3 (0, 0)) := by
          refine (Below.heap_alloc _ _ _ (by simpa using hal)).trans ?_
          rw [blk_set _ HA.out, HAN.out, ← HKL.out]
          simp only [List.map_set, List.setIfInBounds_toArray]
        have hK2 : ((wr.setCell ⟨w1.heap.size, k, none⟩ (.int .i64 ((keptN ns (rchL ns) k).length : Int))).alloc (.cells #[.int .i64 y.op, .int .i64 y.d, .int .i64 y.a, .int .i64 y.b, .int .i64 y.t, .int .i64 y.e] 66)).ownsRow (w1.heap.size + 1) 66 6 (.slice ka (keptN ns (rchL ns) k).length kc) (keptN ns (rchL ns) k).length ((keptN ns (rchL ns) k).flatMap encNd) := (owns_set HK.out HA.out (by decide)).alloc _
        have hB2 : Below w1.heap.size w1 ((wr.setCell ⟨w1.heap.size, k, none⟩ (.int .i64 ((keptN ns (rchL ns) k).length : Int))).alloc (.cells #[.int .i64 y.op, .int .i64 y.d, .int .i64 y.a, .int .i64 y.b, .int .i64 y.t, .int .i64 y.e] 66)) := (hB.setCell (p := ⟨w1.heap.size, k, none⟩) (Nat.le_refl _) _).alloc (by simp; omega) _
        have hnb : NodeBox ((wr.setCell ⟨w1.heap.size, k, none⟩ (.int .i64 ((keptN ns (rchL ns) k).length : Int))).alloc (.cells #[.int .i64 y.op, .int .i64 y.d, .int .i64 y.a, .int .i64 y.b, .int .i64 y.t, .int .i64 y.e] 66)) wr.heap.size y := by
          have := nodeBox_new (wr.setCell ⟨w1.heap.size, k, none⟩ (.int .i64 ((keptN ns (rchL ns) k).length : Int))) y
          simpa using this
        clear hAc hAf xk c0 c1 c2 c3 c4 c5
        generalize ((wr.setCell ⟨w1.heap.size, k, none⟩ (.int .i64 ((keptN ns (rchL ns) k).length : Int))).alloc (.cells #[.int .i64 y.op, .int .i64 y.d, .int .i64 y.a, .int .i64 y.b, .int .i64 y.t, .int .i64 y.e] 66)) = W2 at hA2 hK2 hB2 hnb ⊢
        have hs2 := hB2.size
        have hnl := hnb.lt
        have n0 := blk_cell hnb 0
        have n1 := blk_cell hnb 1
        have n2 := blk_cell hnb 2
        have n3 := blk_cell hnb 3
        have n4 := blk_cell hnb 4
        have n5 := blk_cell hnb 5
        simp at n0 n1 n2 n3 n4 n5
        gi_wp2_with (gi_at_builtin; refine wpListIn_append_own _ rfl _ _ 22 rfl (w1.heap.size + 1) 66 i0 _ 6 48 Tryz.underlying22 hi0 hz0 hz1 hz2 rfl (by decide) _ _ _ rfl (hK2.alloc _) ⟨W2.heap.size, 0, none⟩ 1 1 (encNd y) rfl rfl ?cells (by simp [encNd, Value.oneCell']) (by unfold maxLen; omega) (by omega) (by simp; omega) ?_)
        case cells =>
          intro j u hj
          have e : (⟨W2.heap.size, 0, none⟩ : Addr).add j = ⟨W2.heap.size, j, none⟩ := by cases j <;> simp [Addr.add]
          rw [e, World.cell?_alloc_at _ _ _ _ rfl]
          simpa [encNd] using hj
        intro v' w5 hown' hgrow _
        obtain ⟨g', cap', rfl⟩ := ownsRow_succ hown'
        have hg2 : (W2.alloc (.cells #[.int .i64 y.op, .int .i64 y.d, .int .i64 y.a, .int .i64 y.b, .int .i64 y.t, .int .i64 y.e] 66)).grownBy w5 (Value.slice ka (keptN ns (rchL ns) k).length kc).ownBlock := hgrow
        have hA5 : w5.heap[w1.heap.size]? = _ := (hg2.block _ (by have := blk_lt hA2; simp; omega) (owns_ne_ty hK2 hA2 (by decide))).trans ((Below.heap_alloc _ _ _ (blk_lt hA2)).trans hA2)
        have hB5 : Below w1.heap.size w1 w5 := (hB2.alloc hB2.size (.cells #[.int .i64 y.op, .int .i64 y.d, .int .i64 y.a, .int .i64 y.b, .int .i64 y.t, .int .i64 y.e] 66)).grown hg2 (by have := hB2.size; simp; omega) (fun j ej => by have := (hK2.lt j ej).1; omega)
        have hK5 : w5.ownsRow (w1.heap.size + 1) 66 6 (.slice (some ⟨g', 0, none⟩) ((keptN ns (rchL ns) k).length + 1) cap') (keptN ns (rchL ns) (k + 1)).length ((keptN ns (rchL ns) (k + 1)).flatMap encNd) := by
          rw [HKN.out, List.length_append, List.flatMap_append]
          simpa using hown'
        clear hgrow hg2 hown' hK2 hA2 hB2
        gi_wp2
        go_roundw
        case rel => exact ⟨k + 1, by omega, by go_num, hA5, hK5, hB5⟩
        case measure => simp [intOf]; omega
    · have ek : k = ns.length := by omega
      subst ek
      have hmem : ∀ (j : Nat) (y : Nd), (keptN ns (rchL ns) ns.length)[j]? = some y → Full r ns.length y := by
        intro j y hj
        obtain ⟨i, hi, rfl⟩ := List.mem_map.1 (List.mem_of_getElem? hj)
        exact chk_at hc (keptI_mem.1 hi).1
      have hK1 := hK
      have hkpos : 0 < (keptN ns (rchL ns) ns.length).length := by
        have := trimN_pos (ns := ns) (by omega)
        rw [trimN_len] at this
        simpa [keptN] using this
      have hA1 := hA
      obtain ⟨g, gc, hgv, hgb, hgl⟩ := hK1.form hkpos
      cases hgv
      have hkl2 : (keptN ns (rchL ns) ns.length).length ≤ 256 := by omega
      have HA1 := hide' hA1
      have hB' := hB
      have hK1' : wr.ownsRow (w1.heap.size + 1) 66 6 (.slice (some ⟨g, 0, none⟩) (keptN ns (rchL ns) ns.length).length kc) (keptN ns (rchL ns) ns.length).length ((turnedN (rchL ns) (keptN ns (rchL ns) ns.length) 0).flatMap encNd) := by rw [turnedN_zero]; exact hK1
      have HKT := hide' (show trimN ns = (keptN ns (rchL ns) ns.length).map (ren (rchL ns)) by simp [trimN, keptN])
      have hnA : (w1.heap.size : Nat) ≠ g := by omega
      clear hK1 hA1 hK hA
      generalize keptN ns (rchL ns) ns.length = l at hmem hkpos hkl2 hK1' HKT ⊢
      gi_wp2
      gi_loopw [49] (fun i wv => ∃ j : Nat, j ≤ l.length ∧ i = .int .i64 j ∧ wv.heap[w1.heap.size]? = some (.cells ((anewL (rchL ns) ns.length ns.length).map (Value.int .i64)).toArray 3 (0, 0)) ∧ wv.ownsRow (w1.heap.size + 1) 66 6 (.slice (some ⟨g, 0, none⟩) l.length kc) l.length ((turnedN (rchL ns) l j).flatMap encNd) ∧ Below w1.heap.size w1 wv) (fun i _ => l.length - (intOf i).toNat)
      case atStart => exact ⟨0, Nat.zero_le _, rfl, HA1.out, hK1', hB'⟩
      case round =>
        obtain ⟨j, hj, rfl, hA, hK, hB⟩ := hrel
        have hs := hB.size
        have hal := blk_lt hA
        have hgl2 : g < wr.heap.size := (hK.lt g rfl).2
        by_cases hlt : j < l.length
        · obtain ⟨y, hy⟩ := get_lt hlt
          have hji : (j : Int) < (l.length : Int) := by omega
          have hF := hmem j y hy
          have hbd := full_bounds hF hl.1
          have hyt := turnedN_at (x := rchL ns) hy
          have cell : ∀ (i : Nat) (u : Value), i < 6 → (encNd y)[i]? = some u → wr.cell? ⟨g, j * 6 + i, none⟩ = some u := by
            intro i u hi hu
            have := hK.cells (g := g) rfl (j * 6 + i) u (by rw [flatK 6 encNd encNd_len _ j i y hyt hi]; exact hu)
            have e : (⟨g, 0, none⟩ : Addr).add (j * 6 + i) = ⟨g, j * 6 + i, none⟩ := by
              cases h : j * 6 + i <;> simp [Addr.add]
            rw [e] at this; exact this
          have c0 := cell 0 _ (by decide) rfl
          have c1 := cell 1 _ (by decide) rfl
          have c2 := cell 2 _ (by decide) rfl
          have c3 := cell 3 _ (by decide) rfl
          have c4 := cell 4 _ (by decide) rfl
          have c5 := cell 5 _ (by decide) rfl
          rw [Nat.add_zero] at c0
          clear cell
          obtain ⟨yop, yd, ya, yb, yt, ye⟩ := y
          simp only at hbd c0 c1 c2 c3 c4 c5
          obtain ⟨tn, rfl⟩ := Int.eq_ofNat_of_zero_le hbd.1
          obtain ⟨en, rfl⟩ := Int.eq_ofNat_of_zero_le hbd.2.2.1
          have htl : tn < ns.length := by omega
          have hel : en < ns.length := by omega
          have hti : (tn : Int) < (ns.length : Int) := by omega
          have hei : (en : Int) < (ns.length : Int) := by omega
          have at1 : wr.cell? ⟨w1.heap.size, tn, none⟩ = some (.int .i64 ((anewAt (rchL ns) tn : Nat) : Int)) := by
            rw [blk_cell hA, List.getElem?_toArray, List.getElem?_map, anewL_at htl]; rfl
          have at2 : wr.cell? ⟨w1.heap.size, en, none⟩ = some (.int .i64 ((anewAt (rchL ns) en : Nat) : Int)) := by
            rw [blk_cell hA, List.getElem?_toArray, List.getElem?_map, anewL_at hel]; rfl
          have hHA := hide' hA
          have hHK := hide' hK
          have HY := hide' hy
          have HYT := hide' hyt
          have hne1 : g ≠ wr.heap.size := by omega
          have hne2 : w1.heap.size ≠ g := by omega
          clear hA hK hy hyt hF
          gi_upto_region 16 with fail
          have hBW : Below wr.heap.size wr (wr.alloc (.cells #[.int .i64 yop, .int .i64 yd, .int .i64 ya, .int .i64 yb, .int .i64 (tn : Int), .int .i64 (en : Int)] 66)) := (Below.refl _ wr).alloc (Nat.le_refl _) _
          have hnb : (wr.alloc (.cells #[.int .i64 yop, .int .i64 yd, .int .i64 ya, .int .i64 yb, .int .i64 (tn : Int), .int .i64 (en : Int)] 66)).heap[wr.heap.size]? = some (.cells #[.int .i64 yop, .int .i64 yd, .int .i64 ya, .int .i64 yb, .int .i64 (tn : Int), .int .i64 (en : Int)] 66 (0, 0)) := World.alloc_heap_new wr _
          generalize wr.alloc (.cells #[.int .i64 yop, .int .i64 yd, .int .i64 ya, .int .i64 yb, .int .i64 (tn : Int), .int .i64 (en : Int)] 66) = W at hBW hnb ⊢
          have hKW := ownsRow_below hHK.out hBW (Nat.le_refl _)
          have hAW : W.heap[w1.heap.size]? = _ := (hBW.block _ hal).trans hHA.out
          have b4 := blk_cell hnb 4
          have b5 := blk_cell hnb 5
          simp at b4 b5
          replace at1 := (hBW.cell (p := ⟨w1.heap.size, tn, none⟩) hal).trans at1
          replace at2 := (hBW.cell (p := ⟨w1.heap.size, en, none⟩) hal).trans at2
          replace c4 := (hBW.cell (p := ⟨g, j * 6 + 4, none⟩) hgl2).trans c4
          replace c5 := (hBW.cell (p := ⟨g, j * 6 + 5, none⟩) hgl2).trans c5
          obtain ⟨cur, hgc⟩ : ∃ cur, W.heap[g]? = some (.cells cur 66 (0, 0)) := by
            rcases hKW.2 with ⟨q, _⟩ | ⟨g', cap', cur, q, _, a2, _⟩
            · cases q
            · cases q; exact ⟨cur, a2⟩
          have f4 := blk_frozen hgc (j * 6 + 4)
          have f5 := blk_frozen hgc (j * 6 + 5)
          have HKW := hide' hKW
          have HAW := hide' hAW
          have HBW := hide' hBW
          clear c0 c1 c2 c3 hKW hAW hBW hgc hnb
          refine region_inv (by kernel_rfl) (fun listed a w' => ∃ z54 z55 z56 z57 z58 z59 z60 z61 z62 z63 z64 z65 z66 z67 z68 z69 z70 z71 : Value, listed.size = 20 ∧ a = { tmps := #[.agg #[.int .i64 r, .slice (some ⟨b, off, none⟩) ns.length cap], .pointer (some ⟨w.heap.size, 0, none⟩), .pointer (some ⟨w.heap.size + 1, 0, none⟩), .int .i64 0, .slice (some ⟨rb, 0, none⟩) ns.length rcap, .int .i64 0, .slice (some ⟨w1.heap.size, 0, none⟩) ns.length ns.length, .slice (some ⟨g, 0, none⟩) l.length kc, u8, u9, .int .i64 (j : Int), .pointer (some ⟨wr.heap.size, 0, none⟩), .tuple #[.slice (some ⟨rb, 0, none⟩) ns.length rcap, .int .i64 0], .agg #[.int .i64 r, .slice (some ⟨b, off, none⟩) ns.length cap], .tuple #[.slice (some ⟨rb, 0, none⟩) ns.length rcap, .int .i64 0], .slice (some ⟨rb, 0, none⟩) ns.length rcap, .int .i64 0, .int .i64 0, .bool false, undef, undef, .pointer (some ⟨w.heap.size, 1, none⟩), .slice (some ⟨b, off, none⟩) ns.length cap, .int .i64 (ns.length : Int), .slice (some ⟨w1.heap.size, 0, none⟩) ns.length ns.length, .pointer (some ⟨w.heap.size, 1, none⟩), .slice (some ⟨b, off, none⟩) ns.length cap, .int .i64 (ns.length : Int), .int .i64 (ns.length : Int), .bool false, u30, u31, u32, u33, u34, u35, u36, u37, u38, u39, u40, u41, u42, u43, u44, u45, u46, .slice (some ⟨g, 0, none⟩) l.length kc, .int .i64 (l.length : Int), .int .i64 (j : Int), .bool true, .int .i64 (j : Int), .pointer (some ⟨g, j * 6, none⟩), .agg #[.int .i64 yop, .int .i64 yd, .int .i64 ya, .int .i64 yb, .int .i64 (tn : Int), .int .i64 (en : Int)], z54, z55, z56, z57, z58, z59, z60, z61, z62, z63, z64, z65, z66, z67, z68, z69, z70, z71, u72, undef, undef, undef, undef], defers := [] } ∧ (listed.getD 0 false = true → z54 = .slice (some ⟨g, 0, none⟩) l.length kc) ∧ (listed.getD 1 false = true → z55 = .int .i64 (j : Int)) ∧ (listed.getD 2 false = true → z56 = .slice (some ⟨g, 0, none⟩) l.length kc) ∧ (listed.getD 3 false = true → z57 = .int .i64 (j : Int)) ∧ (listed.getD 4 false = true → z58 = .slice (some ⟨w1.heap.size, 0, none⟩) ns.length ns.length) ∧ (listed.getD 5 false = true → z59 = .pointer (some ⟨wr.heap.size, 4, none⟩)) ∧ (listed.getD 6 false = true → z60 = .int .i64 (tn : Int)) ∧ (listed.getD 7 false = true → z61 = .pointer (some ⟨w1.heap.size, tn, none⟩)) ∧ (listed.getD 8 false = true → z62 = .int .i64 ((anewAt (rchL ns) tn : Nat) : Int)) ∧ (listed.getD 9 false = true → z63 = .slice (some ⟨w1.heap.size, 0, none⟩) ns.length ns.length) ∧ (listed.getD 10 false = true → z64 = .pointer (some ⟨wr.heap.size, 5, none⟩)) ∧ (listed.getD 11 false = true → z65 = .int .i64 (en : Int)) ∧ (listed.getD 12 false = true → z66 = .pointer (some ⟨w1.heap.size, en, none⟩)) ∧ (listed.getD 13 false = true → z67 = .int .i64 ((anewAt (rchL ns) en : Nat) : Int)) ∧ (listed.getD 14 false = true → z68 = .pointer (some ⟨g, j * 6, none⟩)) ∧ (listed.getD 15 false = true → z69 = .pointer (some ⟨g, j * 6 + 4, none⟩)) ∧ (listed.getD 17 false = true → z70 = .pointer (some ⟨g, j * 6, none⟩)) ∧ (listed.getD 18 false = true → z71 = .pointer (some ⟨g, j * 6 + 5, none⟩)) ∧ ((listed.getD 16 false = false ∧ listed.getD 19 false = false ∧ w' = W.drew) ∨ (listed.getD 16 false = true ∧ listed.getD 19 false = false ∧ w' = W.drew.setCell ⟨g, j * 6 + 4, none⟩ (.int .i64 ((anewAt (rchL ns) tn : Nat) : Int))) ∨ ((∀ j, j < 20 → listed.getD j false = true) ∧ w' = (W.drew.setCell ⟨g, j * 6 + 4, none⟩ (.int .i64 ((anewAt (rchL ns) tn : Nat) : Int))).setCell ⟨g, j * 6 + 5, none⟩ (.int .i64 ((anewAt (rchL ns) en : Nat) : Int))))) ?hg ?hsz ?h0 ?hs ?h1
          case hg =>
            intro ix o ho
            match ix, ho with
            | 0, ho | 1, ho | 2, ho | 3, ho | 4, ho | 5, ho | 6, ho | 7, ho | 8, ho | 9, ho | 10, ho | 11, ho | 12, ho | 13, ho | 14, ho | 15, ho | 16, ho | 17, ho | 18, ho | 19, ho => simp at ho; subst ho; simp [Region.binds]
            | ix + 20, ho => simp at ho
          case hsz => rintro listed a w' ⟨_, _, _, _, _, _, _, _, _, _, _, _, _, _, _, _, _, _, h, _⟩; simpa using h
          case h0 =>
            refine ⟨_, _, _, _, _, _, _, _, _, _, _, _, _, _, _, _, _, _, by simp, rfl, by simp, by simp, by simp, by simp, by simp, by simp, by simp, by simp, by simp, by simp, by simp, by simp, by simp, by simp, by simp, by simp, by simp, by simp, Or.inl ⟨by simp, by simp, rfl⟩⟩
          case hs =>
            rintro listed a w' ix o ⟨z54, z55, z56, z57, z58, z59, z60, z61, z62, z63, z64, z65, z66, z67, z68, z69, z70, z71, hsz, rfl, e0, e1, e2, e3, e4, e5, e6, e7, e8, e9, e10, e11, e12, e13, e14, e15, e17, e18, hw⟩ hC ho hl hd
            have hltn : ix < 20 := (Array.getElem?_eq_some_iff.1 ho).1
            have hl' : listed.getD ix false = false := by
              simp only [Array.getD] at hl ⊢
              rw [dif_pos (by omega)] at hl ⊢; exact hl
            have keep : ∀ j, j ≠ ix → (listed.setIfInBounds ix true).getD j false = listed.getD j false := fun j hj => getD_set_ne false (fun e => hj e.symm)
            have sett : (listed.setIfInBounds ix true).getD ix false = true := by simp [hsz, hltn]
            have hsz' : (listed.setIfInBounds ix true).size = 20 := by simp [hsz]
            clear hl
            match ix, hltn with
            | 0, _ =>
              simp at ho; subst ho
              clear hd
              rcases hw with ⟨g16, g19, hwe⟩ | ⟨g16, g19, hwe⟩ | ⟨hall, hwe⟩
              · obtain rfl := hwe.symm
                refine Oper.wpIn_mono (K := fun a' w'' => a' = { tmps := #[.agg #[.int .i64 r, .slice (some ⟨b, off, none⟩) ns.length cap], .pointer (some ⟨w.heap.size, 0, none⟩), .pointer (some ⟨w.heap.size + 1, 0, none⟩), .int .i64 0, .slice (some ⟨rb, 0, none⟩) ns.length rcap, .int .i64 0, .slice (some ⟨w1.heap.size, 0, none⟩) ns.length ns.length, .slice (some ⟨g, 0, none⟩) l.length kc, u8, u9, .int .i64 (j : Int), .pointer (some ⟨wr.heap.size, 0, none⟩), .tuple #[.slice (some ⟨rb, 0, none⟩) ns.length rcap, .int .i64 0], .agg #[.int .i64 r, .slice (some ⟨b, off, none⟩) ns.length cap], .tuple #[.slice (some ⟨rb, 0, none⟩) ns.length rcap, .int .i64 0], .slice (some ⟨rb, 0, none⟩) ns.length rcap, .int .i64 0, .int .i64 0, .bool false, undef, undef, .pointer (some ⟨w.heap.size, 1, none⟩), .slice (some ⟨b, off, none⟩) ns.length cap, .int .i64 (ns.length : Int), .slice (some ⟨w1.heap.size, 0, none⟩) ns.length ns.length, .pointer (some ⟨w.heap.size, 1, none⟩), .slice (some ⟨b, off, none⟩) ns.length cap, .int .i64 (ns.length : Int), .int .i64 (ns.length : Int), .bool false, u30, u31, u32, u33, u34, u35, u36, u37, u38, u39, u40, u41, u42, u43, u44, u45, u46, .slice (some ⟨g, 0, none⟩) l.length kc, .int .i64 (l.length : Int), .int .i64 (j : Int), .bool true, .int .i64 (j : Int), .pointer (some ⟨g, j * 6, none⟩), .agg #[.int .i64 yop, .int .i64 yd, .int .i64 ya, .int .i64 yb, .int .i64 (tn : Int), .int .i64 (en : Int)], .slice (some ⟨g, 0, none⟩) l.length kc, z55, z56, z57, z58, z59, z60, z61, z62, z63, z64, z65, z66, z67, z68, z69, z70, z71, u72, undef, undef, undef, undef], defers := [] } ∧ w'' = W.drew) (fun a' w'' h => ?_) ?_
                · obtain ⟨rfl, rfl⟩ := h
                  exact ⟨_, _, _, _, _, _, _, _, _, _, _, _, _, _, _, _, _, _, hsz', rfl, fun _ => rfl, fun h => e1 (by rwa [keep 1 (by omega)] at h), fun h => e2 (by rwa [keep 2 (by omega)] at h), fun h => e3 (by rwa [keep 3 (by omega)] at h), fun h => e4 (by rwa [keep 4 (by omega)] at h), fun h => e5 (by rwa [keep 5 (by omega)] at h), fun h => e6 (by rwa [keep 6 (by omega)] at h), fun h => e7 (by rwa [keep 7 (by omega)] at h), fun h => e8 (by rwa [keep 8 (by omega)] at h), fun h => e9 (by rwa [keep 9 (by omega)] at h), fun h => e10 (by rwa [keep 10 (by omega)] at h), fun h => e11 (by rwa [keep 11 (by omega)] at h), fun h => e12 (by rwa [keep 12 (by omega)] at h), fun h => e13 (by rwa [keep 13 (by omega)] at h), fun h => e14 (by rwa [keep 14 (by omega)] at h), fun h => e15 (by rwa [keep 15 (by omega)] at h), fun h => e17 (by rwa [keep 17 (by omega)] at h), fun h => e18 (by rwa [keep 18 (by omega)] at h), Or.inl ⟨(keep 16 (by omega)).trans g16, (keep 19 (by omega)).trans g19, rfl⟩⟩
                · go_simp
              · rw [(hC 16 _ rfl g16 ⟨0, .phase⟩ (by simp) rfl)] at hl'; cases hl'
              · rw [hall 0 (by omega)] at hl'; cases hl'
            | 1, _ =>
              simp at ho; subst ho
              clear hd
              rcases hw with ⟨g16, g19, hwe⟩ | ⟨g16, g19, hwe⟩ | ⟨hall, hwe⟩
              · obtain rfl := hwe.symm
                refine Oper.wpIn_mono (K := fun a' w'' => a' = { tmps := #[.agg #[.int .i64 r, .slice (some ⟨b, off, none⟩) ns.length cap], .pointer (some ⟨w.heap.size, 0, none⟩), .pointer (some ⟨w.heap.size + 1, 0, none⟩), .int .i64 0, .slice (some ⟨rb, 0, none⟩) ns.length rcap, .int .i64 0, .slice (some ⟨w1.heap.size, 0, none⟩) ns.length ns.length, .slice (some ⟨g, 0, none⟩) l.length kc, u8, u9, .int .i64 (j : Int), .pointer (some ⟨wr.heap.size, 0, none⟩), .tuple #[.slice (some ⟨rb, 0, none⟩) ns.length rcap, .int .i64 0], .agg #[.int .i64 r, .slice (some ⟨b, off, none⟩) ns.length cap], .tuple #[.slice (some ⟨rb, 0, none⟩) ns.length rcap, .int .i64 0], .slice (some ⟨rb, 0, none⟩) ns.length rcap, .int .i64 0, .int .i64 0, .bool false, undef, undef, .pointer (some ⟨w.heap.size, 1, none⟩), .slice (some ⟨b, off, none⟩) ns.length cap, .int .i64 (ns.length : Int), .slice (some ⟨w1.heap.size, 0, none⟩) ns.length ns.length, .pointer (some ⟨w.heap.size, 1, none⟩), .slice (some ⟨b, off, none⟩) ns.length cap, .int .i64 (ns.length : Int), .int .i64 (ns.length : Int), .bool false, u30, u31, u32, u33, u34, u35, u36, u37, u38, u39, u40, u41, u42, u43, u44, u45, u46, .slice (some ⟨g, 0, none⟩) l.length kc, .int .i64 (l.length : Int), .int .i64 (j : Int), .bool true, .int .i64 (j : Int), .pointer (some ⟨g, j * 6, none⟩), .agg #[.int .i64 yop, .int .i64 yd, .int .i64 ya, .int .i64 yb, .int .i64 (tn : Int), .int .i64 (en : Int)], z54, .int .i64 (j : Int), z56, z57, z58, z59, z60, z61, z62, z63, z64, z65, z66, z67, z68, z69, z70, z71, u72, undef, undef, undef, undef], defers := [] } ∧ w'' = W.drew) (fun a' w'' h => ?_) ?_
                · obtain ⟨rfl, rfl⟩ := h
                  exact ⟨_, _, _, _, _, _, _, _, _, _, _, _, _, _, _, _, _, _, hsz', rfl, fun h => e0 (by rwa [keep 0 (by omega)] at h), fun _ => rfl, fun h => e2 (by rwa [keep 2 (by omega)] at h), fun h => e3 (by rwa [keep 3 (by omega)] at h), fun h => e4 (by rwa [keep 4 (by omega)] at h), fun h => e5 (by rwa [keep 5 (by omega)] at h), fun h => e6 (by rwa [keep 6 (by omega)] at h), fun h => e7 (by rwa [keep 7 (by omega)] at h), fun h => e8 (by rwa [keep 8 (by omega)] at h), fun h => e9 (by rwa [keep 9 (by omega)] at h), fun h => e10 (by rwa [keep 10 (by omega)] at h), fun h => e11 (by rwa [keep 11 (by omega)] at h), fun h => e12 (by rwa [keep 12 (by omega)] at h), fun h => e13 (by rwa [keep 13 (by omega)] at h), fun h => e14 (by rwa [keep 14 (by omega)] at h), fun h => e15 (by rwa [keep 15 (by omega)] at h), fun h => e17 (by rwa [keep 17 (by omega)] at h), fun h => e18 (by rwa [keep 18 (by omega)] at h), Or.inl ⟨(keep 16 (by omega)).trans g16, (keep 19 (by omega)).trans g19, rfl⟩⟩
                · go_simp
              · rw [(hC 16 _ rfl g16 ⟨1, .phase⟩ (by simp) rfl)] at hl'; cases hl'
              · rw [hall 1 (by omega)] at hl'; cases hl'
            | 2, _ =>
              simp at ho; subst ho
              clear hd
              rcases hw with ⟨g16, g19, hwe⟩ | ⟨g16, g19, hwe⟩ | ⟨hall, hwe⟩
              · obtain rfl := hwe.symm
                refine Oper.wpIn_mono (K := fun a' w'' => a' = { tmps := #[.agg #[.int .i64 r, .slice (some ⟨b, off, none⟩) ns.length cap], .pointer (some ⟨w.heap.size, 0, none⟩), .pointer (some ⟨w.heap.size + 1, 0, none⟩), .int .i64 0, .slice (some ⟨rb, 0, none⟩) ns.length rcap, .int .i64 0, .slice (some ⟨w1.heap.size, 0, none⟩) ns.length ns.length, .slice (some ⟨g, 0, none⟩) l.length kc, u8, u9, .int .i64 (j : Int), .pointer (some ⟨wr.heap.size, 0, none⟩), .tuple #[.slice (some ⟨rb, 0, none⟩) ns.length rcap, .int .i64 0], .agg #[.int .i64 r, .slice (some ⟨b, off, none⟩) ns.length cap], .tuple #[.slice (some ⟨rb, 0, none⟩) ns.length rcap, .int .i64 0], .slice (some ⟨rb, 0, none⟩) ns.length rcap, .int .i64 0, .int .i64 0, .bool false, undef, undef, .pointer (some ⟨w.heap.size, 1, none⟩), .slice (some ⟨b, off, none⟩) ns.length cap, .int .i64 (ns.length : Int), .slice (some ⟨w1.heap.size, 0, none⟩) ns.length ns.length, .pointer (some ⟨w.heap.size, 1, none⟩), .slice (some ⟨b, off, none⟩) ns.length cap, .int .i64 (ns.length : Int), .int .i64 (ns.length : Int), .bool false, u30, u31, u32, u33, u34, u35, u36, u37, u38, u39, u40, u41, u42, u43, u44, u45, u46, .slice (some ⟨g, 0, none⟩) l.length kc, .int .i64 (l.length : Int), .int .i64 (j : Int), .bool true, .int .i64 (j : Int), .pointer (some ⟨g, j * 6, none⟩), .agg #[.int .i64 yop, .int .i64 yd, .int .i64 ya, .int .i64 yb, .int .i64 (tn : Int), .int .i64 (en : Int)], z54, z55, .slice (some ⟨g, 0, none⟩) l.length kc, z57, z58, z59, z60, z61, z62, z63, z64, z65, z66, z67, z68, z69, z70, z71, u72, undef, undef, undef, undef], defers := [] } ∧ w'' = W.drew) (fun a' w'' h => ?_) ?_
                · obtain ⟨rfl, rfl⟩ := h
                  exact ⟨_, _, _, _, _, _, _, _, _, _, _, _, _, _, _, _, _, _, hsz', rfl, fun h => e0 (by rwa [keep 0 (by omega)] at h), fun h => e1 (by rwa [keep 1 (by omega)] at h), fun _ => rfl, fun h => e3 (by rwa [keep 3 (by omega)] at h), fun h => e4 (by rwa [keep 4 (by omega)] at h), fun h => e5 (by rwa [keep 5 (by omega)] at h), fun h => e6 (by rwa [keep 6 (by omega)] at h), fun h => e7 (by rwa [keep 7 (by omega)] at h), fun h => e8 (by rwa [keep 8 (by omega)] at h), fun h => e9 (by rwa [keep 9 (by omega)] at h), fun h => e10 (by rwa [keep 10 (by omega)] at h), fun h => e11 (by rwa [keep 11 (by omega)] at h), fun h => e12 (by rwa [keep 12 (by omega)] at h), fun h => e13 (by rwa [keep 13 (by omega)] at h), fun h => e14 (by rwa [keep 14 (by omega)] at h), fun h => e15 (by rwa [keep 15 (by omega)] at h), fun h => e17 (by rwa [keep 17 (by omega)] at h), fun h => e18 (by rwa [keep 18 (by omega)] at h), Or.inl ⟨(keep 16 (by omega)).trans g16, (keep 19 (by omega)).trans g19, rfl⟩⟩
                · go_simp
              · obtain rfl := hwe.symm
                refine Oper.wpIn_mono (K := fun a' w'' => a' = { tmps := #[.agg #[.int .i64 r, .slice (some ⟨b, off, none⟩) ns.length cap], .pointer (some ⟨w.heap.size, 0, none⟩), .pointer (some ⟨w.heap.size + 1, 0, none⟩), .int .i64 0, .slice (some ⟨rb, 0, none⟩) ns.length rcap, .int .i64 0, .slice (some ⟨w1.heap.size, 0, none⟩) ns.length ns.length, .slice (some ⟨g, 0, none⟩) l.length kc, u8, u9, .int .i64 (j : Int), .pointer (some ⟨wr.heap.size, 0, none⟩), .tuple #[.slice (some ⟨rb, 0, none⟩) ns.length rcap, .int .i64 0], .agg #[.int .i64 r, .slice (some ⟨b, off, none⟩) ns.length cap], .tuple #[.slice (some ⟨rb, 0, none⟩) ns.length rcap, .int .i64 0], .slice (some ⟨rb, 0, none⟩) ns.length rcap, .int .i64 0, .int .i64 0, .bool false, undef, undef, .pointer (some ⟨w.heap.size, 1, none⟩), .slice (some ⟨b, off, none⟩) ns.length cap, .int .i64 (ns.length : Int), .slice (some ⟨w1.heap.size, 0, none⟩) ns.length ns.length, .pointer (some ⟨w.heap.size, 1, none⟩), .slice (some ⟨b, off, none⟩) ns.length cap, .int .i64 (ns.length : Int), .int .i64 (ns.length : Int), .bool false, u30, u31, u32, u33, u34, u35, u36, u37, u38, u39, u40, u41, u42, u43, u44, u45, u46, .slice (some ⟨g, 0, none⟩) l.length kc, .int .i64 (l.length : Int), .int .i64 (j : Int), .bool true, .int .i64 (j : Int), .pointer (some ⟨g, j * 6, none⟩), .agg #[.int .i64 yop, .int .i64 yd, .int .i64 ya, .int .i64 yb, .int .i64 (tn : Int), .int .i64 (en : Int)], z54, z55, .slice (some ⟨g, 0, none⟩) l.length kc, z57, z58, z59, z60, z61, z62, z63, z64, z65, z66, z67, z68, z69, z70, z71, u72, undef, undef, undef, undef], defers := [] } ∧ w'' = W.drew.setCell ⟨g, j * 6 + 4, none⟩ (.int .i64 ((anewAt (rchL ns) tn : Nat) : Int))) (fun a' w'' h => ?_) ?_
                · obtain ⟨rfl, rfl⟩ := h
                  exact ⟨_, _, _, _, _, _, _, _, _, _, _, _, _, _, _, _, _, _, hsz', rfl, fun h => e0 (by rwa [keep 0 (by omega)] at h), fun h => e1 (by rwa [keep 1 (by omega)] at h), fun _ => rfl, fun h => e3 (by rwa [keep 3 (by omega)] at h), fun h => e4 (by rwa [keep 4 (by omega)] at h), fun h => e5 (by rwa [keep 5 (by omega)] at h), fun h => e6 (by rwa [keep 6 (by omega)] at h), fun h => e7 (by rwa [keep 7 (by omega)] at h), fun h => e8 (by rwa [keep 8 (by omega)] at h), fun h => e9 (by rwa [keep 9 (by omega)] at h), fun h => e10 (by rwa [keep 10 (by omega)] at h), fun h => e11 (by rwa [keep 11 (by omega)] at h), fun h => e12 (by rwa [keep 12 (by omega)] at h), fun h => e13 (by rwa [keep 13 (by omega)] at h), fun h => e14 (by rwa [keep 14 (by omega)] at h), fun h => e15 (by rwa [keep 15 (by omega)] at h), fun h => e17 (by rwa [keep 17 (by omega)] at h), fun h => e18 (by rwa [keep 18 (by omega)] at h), Or.inr (Or.inl ⟨(keep 16 (by omega)).trans g16, (keep 19 (by omega)).trans g19, rfl⟩)⟩
                · go_simp
              · rw [hall 2 (by omega)] at hl'; cases hl'
            | 3, _ =>
              simp at ho; subst ho
              clear hd
              rcases hw with ⟨g16, g19, hwe⟩ | ⟨g16, g19, hwe⟩ | ⟨hall, hwe⟩
              · obtain rfl := hwe.symm
                refine Oper.wpIn_mono (K := fun a' w'' => a' = { tmps := #[.agg #[.int .i64 r, .slice (some ⟨b, off, none⟩) ns.length cap], .pointer (some ⟨w.heap.size, 0, none⟩), .pointer (some ⟨w.heap.size + 1, 0, none⟩), .int .i64 0, .slice (some ⟨rb, 0, none⟩) ns.length rcap, .int .i64 0, .slice (some ⟨w1.heap.size, 0, none⟩) ns.length ns.length, .slice (some ⟨g, 0, none⟩) l.length kc, u8, u9, .int .i64 (j : Int), .pointer (some ⟨wr.heap.size, 0, none⟩), .tuple #[.slice (some ⟨rb, 0, none⟩) ns.length rcap, .int .i64 0], .agg #[.int .i64 r, .slice (some ⟨b, off, none⟩) ns.length cap], .tuple #[.slice (some ⟨rb, 0, none⟩) ns.length rcap, .int .i64 0], .slice (some ⟨rb, 0, none⟩) ns.length rcap, .int .i64 0, .int .i64 0, .bool false, undef, undef, .pointer (some ⟨w.heap.size, 1, none⟩), .slice (some ⟨b, off, none⟩) ns.length cap, .int .i64 (ns.length : Int), .slice (some ⟨w1.heap.size, 0, none⟩) ns.length ns.length, .pointer (some ⟨w.heap.size, 1, none⟩), .slice (some ⟨b, off, none⟩) ns.length cap, .int .i64 (ns.length : Int), .int .i64 (ns.length : Int), .bool false, u30, u31, u32, u33, u34, u35, u36, u37, u38, u39, u40, u41, u42, u43, u44, u45, u46, .slice (some ⟨g, 0, none⟩) l.length kc, .int .i64 (l.length : Int), .int .i64 (j : Int), .bool true, .int .i64 (j : Int), .pointer (some ⟨g, j * 6, none⟩), .agg #[.int .i64 yop, .int .i64 yd, .int .i64 ya, .int .i64 yb, .int .i64 (tn : Int), .int .i64 (en : Int)], z54, z55, z56, .int .i64 (j : Int), z58, z59, z60, z61, z62, z63, z64, z65, z66, z67, z68, z69, z70, z71, u72, undef, undef, undef, undef], defers := [] } ∧ w'' = W.drew) (fun a' w'' h => ?_) ?_
                · obtain ⟨rfl, rfl⟩ := h
                  exact ⟨_, _, _, _, _, _, _, _, _, _, _, _, _, _, _, _, _, _, hsz', rfl, fun h => e0 (by rwa [keep 0 (by omega)] at h), fun h => e1 (by rwa [keep 1 (by omega)] at h), fun h => e2 (by rwa [keep 2 (by omega)] at h), fun _ => rfl, fun h => e4 (by rwa [keep 4 (by omega)] at h), fun h => e5 (by rwa [keep 5 (by omega)] at h), fun h => e6 (by rwa [keep 6 (by omega)] at h), fun h => e7 (by rwa [keep 7 (by omega)] at h), fun h => e8 (by rwa [keep 8 (by omega)] at h), fun h => e9 (by rwa [keep 9 (by omega)] at h), fun h => e10 (by rwa [keep 10 (by omega)] at h), fun h => e11 (by rwa [keep 11 (by omega)] at h), fun h => e12 (by rwa [keep 12 (by omega)] at h), fun h => e13 (by rwa [keep 13 (by omega)] at h), fun h => e14 (by rwa [keep 14 (by omega)] at h), fun h => e15 (by rwa [keep 15 (by omega)] at h), fun h => e17 (by rwa [keep 17 (by omega)] at h), fun h => e18 (by rwa [keep 18 (by omega)] at h), Or.inl ⟨(keep 16 (by omega)).trans g16, (keep 19 (by omega)).trans g19, rfl⟩⟩
                · go_simp
              · obtain rfl := hwe.symm
                refine Oper.wpIn_mono (K := fun a' w'' => a' = { tmps := #[.agg #[.int .i64 r, .slice (some ⟨b, off, none⟩) ns.length cap], .pointer (some ⟨w.heap.size, 0, none⟩), .pointer (some ⟨w.heap.size + 1, 0, none⟩), .int .i64 0, .slice (some ⟨rb, 0, none⟩) ns.length rcap, .int .i64 0, .slice (some ⟨w1.heap.size, 0, none⟩) ns.length ns.length, .slice (some ⟨g, 0, none⟩) l.length kc, u8, u9, .int .i64 (j : Int), .pointer (some ⟨wr.heap.size, 0, none⟩), .tuple #[.slice (some ⟨rb, 0, none⟩) ns.length rcap, .int .i64 0], .agg #[.int .i64 r, .slice (some ⟨b, off, none⟩) ns.length cap], .tuple #[.slice (some ⟨rb, 0, none⟩) ns.length rcap, .int .i64 0], .slice (some ⟨rb, 0, none⟩) ns.length rcap, .int .i64 0, .int .i64 0, .bool false, undef, undef, .pointer (some ⟨w.heap.size, 1, none⟩), .slice (some ⟨b, off, none⟩) ns.length cap, .int .i64 (ns.length : Int), .slice (some ⟨w1.heap.size, 0, none⟩) ns.length ns.length, .pointer (some ⟨w.heap.size, 1, none⟩), .slice (some ⟨b, off, none⟩) ns.length cap, .int .i64 (ns.length : Int), .int .i64 (ns.length : Int), .bool false, u30, u31, u32, u33, u34, u35, u36, u37, u38, u39, u40, u41, u42, u43, u44, u45, u46, .slice (some ⟨g, 0, none⟩) l.length kc, .int .i64 (l.length : Int), .int .i64 (j : Int), .bool true, .int .i64 (j : Int), .pointer (some ⟨g, j * 6, none⟩), .agg #[.int .i64 yop, .int .i64 yd, .int .i64 ya, .int .i64 yb, .int .i64 (tn : Int), .int .i64 (en : Int)], z54, z55, z56, .int .i64 (j : Int), z58, z59, z60, z61, z62, z63, z64, z65, z66, z67, z68, z69, z70, z71, u72, undef, undef, undef, undef], defers := [] } ∧ w'' = W.drew.setCell ⟨g, j * 6 + 4, none⟩ (.int .i64 ((anewAt (rchL ns) tn : Nat) : Int))) (fun a' w'' h => ?_) ?_
                · obtain ⟨rfl, rfl⟩ := h
                  exact ⟨_, _, _, _, _, _, _, _, _, _, _, _, _, _, _, _, _, _, hsz', rfl, fun h => e0 (by rwa [keep 0 (by omega)] at h), fun h => e1 (by rwa [keep 1 (by omega)] at h), fun h => e2 (by rwa [keep 2 (by omega)] at h), fun _ => rfl, fun h => e4 (by rwa [keep 4 (by omega)] at h), fun h => e5 (by rwa [keep 5 (by omega)] at h), fun h => e6 (by rwa [keep 6 (by omega)] at h), fun h => e7 (by rwa [keep 7 (by omega)] at h), fun h => e8 (by rwa [keep 8 (by omega)] at h), fun h => e9 (by rwa [keep 9 (by omega)] at h), fun h => e10 (by rwa [keep 10 (by omega)] at h), fun h => e11 (by rwa [keep 11 (by omega)] at h), fun h => e12 (by rwa [keep 12 (by omega)] at h), fun h => e13 (by rwa [keep 13 (by omega)] at h), fun h => e14 (by rwa [keep 14 (by omega)] at h), fun h => e15 (by rwa [keep 15 (by omega)] at h), fun h => e17 (by rwa [keep 17 (by omega)] at h), fun h => e18 (by rwa [keep 18 (by omega)] at h), Or.inr (Or.inl ⟨(keep 16 (by omega)).trans g16, (keep 19 (by omega)).trans g19, rfl⟩)⟩
                · go_simp
              · rw [hall 3 (by omega)] at hl'; cases hl'
            | 4, _ =>
              simp at ho; subst ho
              clear hd
              rcases hw with ⟨g16, g19, hwe⟩ | ⟨g16, g19, hwe⟩ | ⟨hall, hwe⟩
              · obtain rfl := hwe.symm
                refine Oper.wpIn_mono (K := fun a' w'' => a' = { tmps := #[.agg #[.int .i64 r, .slice (some ⟨b, off, none⟩) ns.length cap], .pointer (some ⟨w.heap.size, 0, none⟩), .pointer (some ⟨w.heap.size + 1, 0, none⟩), .int .i64 0, .slice (some ⟨rb, 0, none⟩) ns.length rcap, .int .i64 0, .slice (some ⟨w1.heap.size, 0, none⟩) ns.length ns.length, .slice (some ⟨g, 0, none⟩) l.length kc, u8, u9, .int .i64 (j : Int), .pointer (some ⟨wr.heap.size, 0, none⟩), .tuple #[.slice (some ⟨rb, 0, none⟩) ns.length rcap, .int .i64 0], .agg #[.int .i64 r, .slice (some ⟨b, off, none⟩) ns.length cap], .tuple #[.slice (some ⟨rb, 0, none⟩) ns.length rcap, .int .i64 0], .slice (some ⟨rb, 0, none⟩) ns.length rcap, .int .i64 0, .int .i64 0, .bool false, undef, undef, .pointer (some ⟨w.heap.size, 1, none⟩), .slice (some ⟨b, off, none⟩) ns.length cap, .int .i64 (ns.length : Int), .slice (some ⟨w1.heap.size, 0, none⟩) ns.length ns.length, .pointer (some ⟨w.heap.size, 1, none⟩), .slice (some ⟨b, off, none⟩) ns.length cap, .int .i64 (ns.length : Int), .int .i64 (ns.length : Int), .bool false, u30, u31, u32, u33, u34, u35, u36, u37, u38, u39, u40, u41, u42, u43, u44, u45, u46, .slice (some ⟨g, 0, none⟩) l.length kc, .int .i64 (l.length : Int), .int .i64 (j : Int), .bool true, .int .i64 (j : Int), .pointer (some ⟨g, j * 6, none⟩), .agg #[.int .i64 yop, .int .i64 yd, .int .i64 ya, .int .i64 yb, .int .i64 (tn : Int), .int .i64 (en : Int)], z54, z55, z56, z57, .slice (some ⟨w1.heap.size, 0, none⟩) ns.length ns.length, z59, z60, z61, z62, z63, z64, z65, z66, z67, z68, z69, z70, z71, u72, undef, undef, undef, undef], defers := [] } ∧ w'' = W.drew) (fun a' w'' h => ?_) ?_
                · obtain ⟨rfl, rfl⟩ := h
                  exact ⟨_, _, _, _, _, _, _, _, _, _, _, _, _, _, _, _, _, _, hsz', rfl, fun h => e0 (by rwa [keep 0 (by omega)] at h), fun h => e1 (by rwa [keep 1 (by omega)] at h), fun h => e2 (by rwa [keep 2 (by omega)] at h), fun h => e3 (by rwa [keep 3 (by omega)] at h), fun _ => rfl, fun h => e5 (by rwa [keep 5 (by omega)] at h), fun h => e6 (by rwa [keep 6 (by omega)] at h), fun h => e7 (by rwa [keep 7 (by omega)] at h), fun h => e8 (by rwa [keep 8 (by omega)] at h), fun h => e9 (by rwa [keep 9 (by omega)] at h), fun h => e10 (by rwa [keep 10 (by omega)] at h), fun h => e11 (by rwa [keep 11 (by omega)] at h), fun h => e12 (by rwa [keep 12 (by omega)] at h), fun h => e13 (by rwa [keep 13 (by omega)] at h), fun h => e14 (by rwa [keep 14 (by omega)] at h), fun h => e15 (by rwa [keep 15 (by omega)] at h), fun h => e17 (by rwa [keep 17 (by omega)] at h), fun h => e18 (by rwa [keep 18 (by omega)] at h), Or.inl ⟨(keep 16 (by omega)).trans g16, (keep 19 (by omega)).trans g19, rfl⟩⟩
                · go_simp
              · rw [(hC 16 _ rfl g16 ⟨4, .phase⟩ (by simp) rfl)] at hl'; cases hl'
              · rw [hall 4 (by omega)] at hl'; cases hl'
            | 5, _ =>
              simp at ho; subst ho
              clear hd
              rcases hw with ⟨g16, g19, hwe⟩ | ⟨g16, g19, hwe⟩ | ⟨hall, hwe⟩
              · obtain rfl := hwe.symm
                refine Oper.wpIn_mono (K := fun a' w'' => a' = { tmps := #[.agg #[.int .i64 r, .slice (some ⟨b, off, none⟩) ns.length cap], .pointer (some ⟨w.heap.size, 0, none⟩), .pointer (some ⟨w.heap.size + 1, 0, none⟩), .int .i64 0, .slice (some ⟨rb, 0, none⟩) ns.length rcap, .int .i64 0, .slice (some ⟨w1.heap.size, 0, none⟩) ns.length ns.length, .slice (some ⟨g, 0, none⟩) l.length kc, u8, u9, .int .i64 (j : Int), .pointer (some ⟨wr.heap.size, 0, none⟩), .tuple #[.slice (some ⟨rb, 0, none⟩) ns.length rcap, .int .i64 0], .agg #[.int .i64 r, .slice (some ⟨b, off, none⟩) ns.length cap], .tuple #[.slice (some ⟨rb, 0, none⟩) ns.length rcap, .int .i64 0], .slice (some ⟨rb, 0, none⟩) ns.length rcap, .int .i64 0, .int .i64 0, .bool false, undef, undef, .pointer (some ⟨w.heap.size, 1, none⟩), .slice (some ⟨b, off, none⟩) ns.length cap, .int .i64 (ns.length : Int), .slice (some ⟨w1.heap.size, 0, none⟩) ns.length ns.length, .pointer (some ⟨w.heap.size, 1, none⟩), .slice (some ⟨b, off, none⟩) ns.length cap, .int .i64 (ns.length : Int), .int .i64 (ns.length : Int), .bool false, u30, u31, u32, u33, u34, u35, u36, u37, u38, u39, u40, u41, u42, u43, u44, u45, u46, .slice (some ⟨g, 0, none⟩) l.length kc, .int .i64 (l.length : Int), .int .i64 (j : Int), .bool true, .int .i64 (j : Int), .pointer (some ⟨g, j * 6, none⟩), .agg #[.int .i64 yop, .int .i64 yd, .int .i64 ya, .int .i64 yb, .int .i64 (tn : Int), .int .i64 (en : Int)], z54, z55, z56, z57, z58, .pointer (some ⟨wr.heap.size, 4, none⟩), z60, z61, z62, z63, z64, z65, z66, z67, z68, z69, z70, z71, u72, undef, undef, undef, undef], defers := [] } ∧ w'' = W.drew) (fun a' w'' h => ?_) ?_
                · obtain ⟨rfl, rfl⟩ := h
                  exact ⟨_, _, _, _, _, _, _, _, _, _, _, _, _, _, _, _, _, _, hsz', rfl, fun h => e0 (by rwa [keep 0 (by omega)] at h), fun h => e1 (by rwa [keep 1 (by omega)] at h), fun h => e2 (by rwa [keep 2 (by omega)] at h), fun h => e3 (by rwa [keep 3 (by omega)] at h), fun h => e4 (by rwa [keep 4 (by omega)] at h), fun _ => rfl, fun h => e6 (by rwa [keep 6 (by omega)] at h), fun h => e7 (by rwa [keep 7 (by omega)] at h), fun h => e8 (by rwa [keep 8 (by omega)] at h), fun h => e9 (by rwa [keep 9 (by omega)] at h), fun h => e10 (by rwa [keep 10 (by omega)] at h), fun h => e11 (by rwa [keep 11 (by omega)] at h), fun h => e12 (by rwa [keep 12 (by omega)] at h), fun h => e13 (by rwa [keep 13 (by omega)] at h), fun h => e14 (by rwa [keep 14 (by omega)] at h), fun h => e15 (by rwa [keep 15 (by omega)] at h), fun h => e17 (by rwa [keep 17 (by omega)] at h), fun h => e18 (by rwa [keep 18 (by omega)] at h), Or.inl ⟨(keep 16 (by omega)).trans g16, (keep 19 (by omega)).trans g19, rfl⟩⟩
                · go_simp
              · rw [(hC 16 _ rfl g16 ⟨5, .phase⟩ (by simp) rfl)] at hl'; cases hl'
              · rw [hall 5 (by omega)] at hl'; cases hl'
            | 6, _ =>
              simp at ho; subst ho
              have d5 : listed.getD 5 false = true := hd ⟨5, .data⟩ (by simp) rfl
              obtain rfl := (e5 d5).symm
              clear hd
              rcases hw with ⟨g16, g19, hwe⟩ | ⟨g16, g19, hwe⟩ | ⟨hall, hwe⟩
              · obtain rfl := hwe.symm
                refine Oper.wpIn_mono (K := fun a' w'' => a' = { tmps := #[.agg #[.int .i64 r, .slice (some ⟨b, off, none⟩) ns.length cap], .pointer (some ⟨w.heap.size, 0, none⟩), .pointer (some ⟨w.heap.size + 1, 0, none⟩), .int .i64 0, .slice (some ⟨rb, 0, none⟩) ns.length rcap, .int .i64 0, .slice (some ⟨w1.heap.size, 0, none⟩) ns.length ns.length, .slice (some ⟨g, 0, none⟩) l.length kc, u8, u9, .int .i64 (j : Int), .pointer (some ⟨wr.heap.size, 0, none⟩), .tuple #[.slice (some ⟨rb, 0, none⟩) ns.length rcap, .int .i64 0], .agg #[.int .i64 r, .slice (some ⟨b, off, none⟩) ns.length cap], .tuple #[.slice (some ⟨rb, 0, none⟩) ns.length rcap, .int .i64 0], .slice (some ⟨rb, 0, none⟩) ns.length rcap, .int .i64 0, .int .i64 0, .bool false, undef, undef, .pointer (some ⟨w.heap.size, 1, none⟩), .slice (some ⟨b, off, none⟩) ns.length cap, .int .i64 (ns.length : Int), .slice (some ⟨w1.heap.size, 0, none⟩) ns.length ns.length, .pointer (some ⟨w.heap.size, 1, none⟩), .slice (some ⟨b, off, none⟩) ns.length cap, .int .i64 (ns.length : Int), .int .i64 (ns.length : Int), .bool false, u30, u31, u32, u33, u34, u35, u36, u37, u38, u39, u40, u41, u42, u43, u44, u45, u46, .slice (some ⟨g, 0, none⟩) l.length kc, .int .i64 (l.length : Int), .int .i64 (j : Int), .bool true, .int .i64 (j : Int), .pointer (some ⟨g, j * 6, none⟩), .agg #[.int .i64 yop, .int .i64 yd, .int .i64 ya, .int .i64 yb, .int .i64 (tn : Int), .int .i64 (en : Int)], z54, z55, z56, z57, z58, .pointer (some ⟨wr.heap.size, 4, none⟩), .int .i64 (tn : Int), z61, z62, z63, z64, z65, z66, z67, z68, z69, z70, z71, u72, undef, undef, undef, undef], defers := [] } ∧ w'' = W.drew) (fun a' w'' h => ?_) ?_
                · obtain ⟨rfl, rfl⟩ := h
                  exact ⟨_, _, _, _, _, _, _, _, _, _, _, _, _, _, _, _, _, _, hsz', rfl, fun h => e0 (by rwa [keep 0 (by omega)] at h), fun h => e1 (by rwa [keep 1 (by omega)] at h), fun h => e2 (by rwa [keep 2 (by omega)] at h), fun h => e3 (by rwa [keep 3 (by omega)] at h), fun h => e4 (by rwa [keep 4 (by omega)] at h), fun _ => rfl, fun _ => rfl, fun h => e7 (by rwa [keep 7 (by omega)] at h), fun h => e8 (by rwa [keep 8 (by omega)] at h), fun h => e9 (by rwa [keep 9 (by omega)] at h), fun h => e10 (by rwa [keep 10 (by omega)] at h), fun h => e11 (by rwa [keep 11 (by omega)] at h), fun h => e12 (by rwa [keep 12 (by omega)] at h), fun h => e13 (by rwa [keep 13 (by omega)] at h), fun h => e14 (by rwa [keep 14 (by omega)] at h), fun h => e15 (by rwa [keep 15 (by omega)] at h), fun h => e17 (by rwa [keep 17 (by omega)] at h), fun h => e18 (by rwa [keep 18 (by omega)] at h), Or.inl ⟨(keep 16 (by omega)).trans g16, (keep 19 (by omega)).trans g19, rfl⟩⟩
                · go_simp
              · rw [(hC 16 _ rfl g16 ⟨6, .phase⟩ (by simp) rfl)] at hl'; cases hl'
              · rw [hall 6 (by omega)] at hl'; cases hl'
            | 7, _ =>
              simp at ho; subst ho
              have d4 : listed.getD 4 false = true := hd ⟨4, .data⟩ (by simp) rfl
              have d6 : listed.getD 6 false = true := hd ⟨6, .data⟩ (by simp) rfl
              have d5 : listed.getD 5 false = true := hC 6 _ rfl d6 ⟨5, .data⟩ (by simp) rfl
              obtain rfl := (e4 d4).symm
              obtain rfl := (e6 d6).symm
              obtain rfl := (e5 d5).symm
              clear hd
              rcases hw with ⟨g16, g19, hwe⟩ | ⟨g16, g19, hwe⟩ | ⟨hall, hwe⟩
              · obtain rfl := hwe.symm
                refine Oper.wpIn_mono (K := fun a' w'' => a' = { tmps := #[.agg #[.int .i64 r, .slice (some ⟨b, off, none⟩) ns.length cap], .pointer (some ⟨w.heap.size, 0, none⟩), .pointer (some ⟨w.heap.size + 1, 0, none⟩), .int .i64 0, .slice (some ⟨rb, 0, none⟩) ns.length rcap, .int .i64 0, .slice (some ⟨w1.heap.size, 0, none⟩) ns.length ns.length, .slice (some ⟨g, 0, none⟩) l.length kc, u8, u9, .int .i64 (j : Int), .pointer (some ⟨wr.heap.size, 0, none⟩), .tuple #[.slice (some ⟨rb, 0, none⟩) ns.length rcap, .int .i64 0], .agg #[.int .i64 r, .slice (some ⟨b, off, none⟩) ns.length cap], .tuple #[.slice (some ⟨rb, 0, none⟩) ns.length rcap, .int .i64 0], .slice (some ⟨rb, 0, none⟩) ns.length rcap, .int .i64 0, .int .i64 0, .bool false, undef, undef, .pointer (some ⟨w.heap.size, 1, none⟩), .slice (some ⟨b, off, none⟩) ns.length cap, .int .i64 (ns.length : Int), .slice (some ⟨w1.heap.size, 0, none⟩) ns.length ns.length, .pointer (some ⟨w.heap.size, 1, none⟩), .slice (some ⟨b, off, none⟩) ns.length cap, .int .i64 (ns.length : Int), .int .i64 (ns.length : Int), .bool false, u30, u31, u32, u33, u34, u35, u36, u37, u38, u39, u40, u41, u42, u43, u44, u45, u46, .slice (some ⟨g, 0, none⟩) l.length kc, .int .i64 (l.length : Int), .int .i64 (j : Int), .bool true, .int .i64 (j : Int), .pointer (some ⟨g, j * 6, none⟩), .agg #[.int .i64 yop, .int .i64 yd, .int .i64 ya, .int .i64 yb, .int .i64 (tn : Int), .int .i64 (en : Int)], z54, z55, z56, z57, .slice (some ⟨w1.heap.size, 0, none⟩) ns.length ns.length, .pointer (some ⟨wr.heap.size, 4, none⟩), .int .i64 (tn : Int), .pointer (some ⟨w1.heap.size, tn, none⟩), z62, z63, z64, z65, z66, z67, z68, z69, z70, z71, u72, undef, undef, undef, undef], defers := [] } ∧ w'' = W.drew) (fun a' w'' h => ?_) ?_
                · obtain ⟨rfl, rfl⟩ := h
                  exact ⟨_, _, _, _, _, _, _, _, _, _, _, _, _, _, _, _, _, _, hsz', rfl, fun h => e0 (by rwa [keep 0 (by omega)] at h), fun h => e1 (by rwa [keep 1 (by omega)] at h), fun h => e2 (by rwa [keep 2 (by omega)] at h), fun h => e3 (by rwa [keep 3 (by omega)] at h), fun _ => rfl, fun _ => rfl, fun _ => rfl, fun _ => rfl, fun h => e8 (by rwa [keep 8 (by omega)] at h), fun h => e9 (by rwa [keep 9 (by omega)] at h), fun h => e10 (by rwa [keep 10 (by omega)] at h), fun h => e11 (by rwa [keep 11 (by omega)] at h), fun h => e12 (by rwa [keep 12 (by omega)] at h), fun h => e13 (by rwa [keep 13 (by omega)] at h), fun h => e14 (by rwa [keep 14 (by omega)] at h), fun h => e15 (by rwa [keep 15 (by omega)] at h), fun h => e17 (by rwa [keep 17 (by omega)] at h), fun h => e18 (by rwa [keep 18 (by omega)] at h), Or.inl ⟨(keep 16 (by omega)).trans g16, (keep 19 (by omega)).trans g19, rfl⟩⟩
                · go_simp
              · rw [(hC 16 _ rfl g16 ⟨7, .phase⟩ (by simp) rfl)] at hl'; cases hl'
              · rw [hall 7 (by omega)] at hl'; cases hl'
            | 8, _ =>
              simp at ho; subst ho
              have d7 : listed.getD 7 false = true := hd ⟨7, .data⟩ (by simp) rfl
              have d4 : listed.getD 4 false = true := hC 7 _ rfl d7 ⟨4, .data⟩ (by simp) rfl
              have d6 : listed.getD 6 false = true := hC 7 _ rfl d7 ⟨6, .data⟩ (by simp) rfl
              have d5 : listed.getD 5 false = true := hC 6 _ rfl d6 ⟨5, .data⟩ (by simp) rfl
              obtain rfl := (e7 d7).symm
              obtain rfl := (e4 d4).symm
              obtain rfl := (e6 d6).symm
              obtain rfl := (e5 d5).symm
              clear hd
              rcases hw with ⟨g16, g19, hwe⟩ | ⟨g16, g19, hwe⟩ | ⟨hall, hwe⟩
              · obtain rfl := hwe.symm
                refine Oper.wpIn_mono (K := fun a' w'' => a' = { tmps := #[.agg #[.int .i64 r, .slice (some ⟨b, off, none⟩) ns.length cap], .pointer (some ⟨w.heap.size, 0, none⟩), .pointer (some ⟨w.heap.size + 1, 0, none⟩), .int .i64 0, .slice (some ⟨rb, 0, none⟩) ns.length rcap, .int .i64 0, .slice (some ⟨w1.heap.size, 0, none⟩) ns.length ns.length, .slice (some ⟨g, 0, none⟩) l.length kc, u8, u9, .int .i64 (j : Int), .pointer (some ⟨wr.heap.size, 0, none⟩), .tuple #[.slice (some ⟨rb, 0, none⟩) ns.length rcap, .int .i64 0], .agg #[.int .i64 r, .slice (some ⟨b, off, none⟩) ns.length cap], .tuple #[.slice (some ⟨rb, 0, none⟩) ns.length rcap, .int .i64 0], .slice (some ⟨rb, 0, none⟩) ns.length rcap, .int .i64 0, .int .i64 0, .bool false, undef, undef, .pointer (some ⟨w.heap.size, 1, none⟩), .slice (some ⟨b, off, none⟩) ns.length cap, .int .i64 (ns.length : Int), .slice (some ⟨w1.heap.size, 0, none⟩) ns.length ns.length, .pointer (some ⟨w.heap.size, 1, none⟩), .slice (some ⟨b, off, none⟩) ns.length cap, .int .i64 (ns.length : Int), .int .i64 (ns.length : Int), .bool false, u30, u31, u32, u33, u34, u35, u36, u37, u38, u39, u40, u41, u42, u43, u44, u45, u46, .slice (some ⟨g, 0, none⟩) l.length kc, .int .i64 (l.length : Int), .int .i64 (j : Int), .bool true, .int .i64 (j : Int), .pointer (some ⟨g, j * 6, none⟩), .agg #[.int .i64 yop, .int .i64 yd, .int .i64 ya, .int .i64 yb, .int .i64 (tn : Int), .int .i64 (en : Int)], z54, z55, z56, z57, .slice (some ⟨w1.heap.size, 0, none⟩) ns.length ns.length, .pointer (some ⟨wr.heap.size, 4, none⟩), .int .i64 (tn : Int), .pointer (some ⟨w1.heap.size, tn, none⟩), .int .i64 ((anewAt (rchL ns) tn : Nat) : Int), z63, z64, z65, z66, z67, z68, z69, z70, z71, u72, undef, undef, undef, undef], defers := [] } ∧ w'' = W.drew) (fun a' w'' h => ?_) ?_
                · obtain ⟨rfl, rfl⟩ := h
                  exact ⟨_, _, _, _, _, _, _, _, _, _, _, _, _, _, _, _, _, _, hsz', rfl, fun h => e0 (by rwa [keep 0 (by omega)] at h), fun h => e1 (by rwa [keep 1 (by omega)] at h), fun h => e2 (by rwa [keep 2 (by omega)] at h), fun h => e3 (by rwa [keep 3 (by omega)] at h), fun _ => rfl, fun _ => rfl, fun _ => rfl, fun _ => rfl, fun _ => rfl, fun h => e9 (by rwa [keep 9 (by omega)] at h), fun h => e10 (by rwa [keep 10 (by omega)] at h), fun h => e11 (by rwa [keep 11 (by omega)] at h), fun h => e12 (by rwa [keep 12 (by omega)] at h), fun h => e13 (by rwa [keep 13 (by omega)] at h), fun h => e14 (by rwa [keep 14 (by omega)] at h), fun h => e15 (by rwa [keep 15 (by omega)] at h), fun h => e17 (by rwa [keep 17 (by omega)] at h), fun h => e18 (by rwa [keep 18 (by omega)] at h), Or.inl ⟨(keep 16 (by omega)).trans g16, (keep 19 (by omega)).trans g19, rfl⟩⟩
                · go_simp
              · rw [(hC 16 _ rfl g16 ⟨8, .phase⟩ (by simp) rfl)] at hl'; cases hl'
              · rw [hall 8 (by omega)] at hl'; cases hl'
            | 9, _ =>
              simp at ho; subst ho
              clear hd
              rcases hw with ⟨g16, g19, hwe⟩ | ⟨g16, g19, hwe⟩ | ⟨hall, hwe⟩
              · obtain rfl := hwe.symm
                refine Oper.wpIn_mono (K := fun a' w'' => a' = { tmps := #[.agg #[.int .i64 r, .slice (some ⟨b, off, none⟩) ns.length cap], .pointer (some ⟨w.heap.size, 0, none⟩), .pointer (some ⟨w.heap.size + 1, 0, none⟩), .int .i64 0, .slice (some ⟨rb, 0, none⟩) ns.length rcap, .int .i64 0, .slice (some ⟨w1.heap.size, 0, none⟩) ns.length ns.length, .slice (some ⟨g, 0, none⟩) l.length kc, u8, u9, .int .i64 (j : Int), .pointer (some ⟨wr.heap.size, 0, none⟩), .tuple #[.slice (some ⟨rb, 0, none⟩) ns.length rcap, .int .i64 0], .agg #[.int .i64 r, .slice (some ⟨b, off, none⟩) ns.length cap], .tuple #[.slice (some ⟨rb, 0, none⟩) ns.length rcap, .int .i64 0], .slice (some ⟨rb, 0, none⟩) ns.length rcap, .int .i64 0, .int .i64 0, .bool false, undef, undef, .pointer (some ⟨w.heap.size, 1, none⟩), .slice (some ⟨b, off, none⟩) ns.length cap, .int .i64 (ns.length : Int), .slice (some ⟨w1.heap.size, 0, none⟩) ns.length ns.length, .pointer (some ⟨w.heap.size, 1, none⟩), .slice (some ⟨b, off, none⟩) ns.length cap, .int .i64 (ns.length : Int), .int .i64 (ns.length : Int), .bool false, u30, u31, u32, u33, u34, u35, u36, u37, u38, u39, u40, u41, u42, u43, u44, u45, u46, .slice (some ⟨g, 0, none⟩) l.length kc, .int .i64 (l.length : Int), .int .i64 (j : Int), .bool true, .int .i64 (j : Int), .pointer (some ⟨g, j * 6, none⟩), .agg #[.int .i64 yop, .int .i64 yd, .int .i64 ya, .int .i64 yb, .int .i64 (tn : Int), .int .i64 (en : Int)], z54, z55, z56, z57, z58, z59, z60, z61, z62, .slice (some ⟨w1.heap.size, 0, none⟩) ns.length ns.length, z64, z65, z66, z67, z68, z69, z70, z71, u72, undef, undef, undef, undef], defers := [] } ∧ w'' = W.drew) (fun a' w'' h => ?_) ?_
                · obtain ⟨rfl, rfl⟩ := h
                  exact ⟨_, _, _, _, _, _, _, _, _, _, _, _, _, _, _, _, _, _, hsz', rfl, fun h => e0 (by rwa [keep 0 (by omega)] at h), fun h => e1 (by rwa [keep 1 (by omega)] at h), fun h => e2 (by rwa [keep 2 (by omega)] at h), fun h => e3 (by rwa [keep 3 (by omega)] at h), fun h => e4 (by rwa [keep 4 (by omega)] at h), fun h => e5 (by rwa [keep 5 (by omega)] at h), fun h => e6 (by rwa [keep 6 (by omega)] at h), fun h => e7 (by rwa [keep 7 (by omega)] at h), fun h => e8 (by rwa [keep 8 (by omega)] at h), fun _ => rfl, fun h => e10 (by rwa [keep 10 (by omega)] at h), fun h => e11 (by rwa [keep 11 (by omega)] at h), fun h => e12 (by rwa [keep 12 (by omega)] at h), fun h => e13 (by rwa [keep 13 (by omega)] at h), fun h => e14 (by rwa [keep 14 (by omega)] at h), fun h => e15 (by rwa [keep 15 (by omega)] at h), fun h => e17 (by rwa [keep 17 (by omega)] at h), fun h => e18 (by rwa [keep 18 (by omega)] at h), Or.inl ⟨(keep 16 (by omega)).trans g16, (keep 19 (by omega)).trans g19, rfl⟩⟩
                · go_simp
              · rw [(hC 12 _ rfl (hC 13 _ rfl (hC 16 _ rfl g16 ⟨13, .phase⟩ (by simp) rfl) ⟨12, .data⟩ (by simp) rfl) ⟨9, .data⟩ (by simp) rfl)] at hl'; cases hl'
              · rw [hall 9 (by omega)] at hl'; cases hl'
            | 10, _ =>
              simp at ho; subst ho
              clear hd
              rcases hw with ⟨g16, g19, hwe⟩ | ⟨g16, g19, hwe⟩ | ⟨hall, hwe⟩
              · obtain rfl := hwe.symm
                refine Oper.wpIn_mono (K := fun a' w'' => a' = { tmps := #[.agg #[.int .i64 r, .slice (some ⟨b, off, none⟩) ns.length cap], .pointer (some ⟨w.heap.size, 0, none⟩), .pointer (some ⟨w.heap.size + 1, 0, none⟩), .int .i64 0, .slice (some ⟨rb, 0, none⟩) ns.length rcap, .int .i64 0, .slice (some ⟨w1.heap.size, 0, none⟩) ns.length ns.length, .slice (some ⟨g, 0, none⟩) l.length kc, u8, u9, .int .i64 (j : Int), .pointer (some ⟨wr.heap.size, 0, none⟩), .tuple #[.slice (some ⟨rb, 0, none⟩) ns.length rcap, .int .i64 0], .agg #[.int .i64 r, .slice (some ⟨b, off, none⟩) ns.length cap], .tuple #[.slice (some ⟨rb, 0, none⟩) ns.length rcap, .int .i64 0], .slice (some ⟨rb, 0, none⟩) ns.length rcap, .int .i64 0, .int .i64 0, .bool false, undef, undef, .pointer (some ⟨w.heap.size, 1, none⟩), .slice (some ⟨b, off, none⟩) ns.length cap, .int .i64 (ns.length : Int), .slice (some ⟨w1.heap.size, 0, none⟩) ns.length ns.length, .pointer (some ⟨w.heap.size, 1, none⟩), .slice (some ⟨b, off, none⟩) ns.length cap, .int .i64 (ns.length : Int), .int .i64 (ns.length : Int), .bool false, u30, u31, u32, u33, u34, u35, u36, u37, u38, u39, u40, u41, u42, u43, u44, u45, u46, .slice (some ⟨g, 0, none⟩) l.length kc, .int .i64 (l.length : Int), .int .i64 (j : Int), .bool true, .int .i64 (j : Int), .pointer (some ⟨g, j * 6, none⟩), .agg #[.int .i64 yop, .int .i64 yd, .int .i64 ya, .int .i64 yb, .int .i64 (tn : Int), .int .i64 (en : Int)], z54, z55, z56, z57, z58, z59, z60, z61, z62, z63, .pointer (some ⟨wr.heap.size, 5, none⟩), z65, z66, z67, z68, z69, z70, z71, u72, undef, undef, undef, undef], defers := [] } ∧ w'' = W.drew) (fun a' w'' h => ?_) ?_
                · obtain ⟨rfl, rfl⟩ := h
                  exact ⟨_, _, _, _, _, _, _, _, _, _, _, _, _, _, _, _, _, _, hsz', rfl, fun h => e0 (by rwa [keep 0 (by omega)] at h), fun h => e1 (by rwa [keep 1 (by omega)] at h), fun h => e2 (by rwa [keep 2 (by omega)] at h), fun h => e3 (by rwa [keep 3 (by omega)] at h), fun h => e4 (by rwa [keep 4 (by omega)] at h), fun h => e5 (by rwa [keep 5 (by omega)] at h), fun h => e6 (by rwa [keep 6 (by omega)] at h), fun h => e7 (by rwa [keep 7 (by omega)] at h), fun h => e8 (by rwa [keep 8 (by omega)] at h), fun h => e9 (by rwa [keep 9 (by omega)] at h), fun _ => rfl, fun h => e11 (by rwa [keep 11 (by omega)] at h), fun h => e12 (by rwa [keep 12 (by omega)] at h), fun h => e13 (by rwa [keep 13 (by omega)] at h), fun h => e14 (by rwa [keep 14 (by omega)] at h), fun h => e15 (by rwa [keep 15 (by omega)] at h), fun h => e17 (by rwa [keep 17 (by omega)] at h), fun h => e18 (by rwa [keep 18 (by omega)] at h), Or.inl ⟨(keep 16 (by omega)).trans g16, (keep 19 (by omega)).trans g19, rfl⟩⟩
                · go_simp
              · rw [(hC 11 _ rfl (hC 12 _ rfl (hC 13 _ rfl (hC 16 _ rfl g16 ⟨13, .phase⟩ (by simp) rfl) ⟨12, .data⟩ (by simp) rfl) ⟨11, .data⟩ (by simp) rfl) ⟨10, .data⟩ (by simp) rfl)] at hl'; cases hl'
              · rw [hall 10 (by omega)] at hl'; cases hl'
            | 11, _ =>
              simp at ho; subst ho
              have d10 : listed.getD 10 false = true := hd ⟨10, .data⟩ (by simp) rfl
              obtain rfl := (e10 d10).symm
              clear hd
              rcases hw with ⟨g16, g19, hwe⟩ | ⟨g16, g19, hwe⟩ | ⟨hall, hwe⟩
              · obtain rfl := hwe.symm
                refine Oper.wpIn_mono (K := fun a' w'' => a' = { tmps := #[.agg #[.int .i64 r, .slice (some ⟨b, off, none⟩) ns.length cap], .pointer (some ⟨w.heap.size, 0, none⟩), .pointer (some ⟨w.heap.size + 1, 0, none⟩), .int .i64 0, .slice (some ⟨rb, 0, none⟩) ns.length rcap, .int .i64 0, .slice (some ⟨w1.heap.size, 0, none⟩) ns.length ns.length, .slice (some ⟨g, 0, none⟩) l.length kc, u8, u9, .int .i64 (j : Int), .pointer (some ⟨wr.heap.size, 0, none⟩), .tuple #[.slice (some ⟨rb, 0, none⟩) ns.length rcap, .int .i64 0], .agg #[.int .i64 r, .slice (some ⟨b, off, none⟩) ns.length cap], .tuple #[.slice (some ⟨rb, 0, none⟩) ns.length rcap, .int .i64 0], .slice (some ⟨rb, 0, none⟩) ns.length rcap, .int .i64 0, .int .i64 0, .bool false, undef, undef, .pointer (some ⟨w.heap.size, 1, none⟩), .slice (some ⟨b, off, none⟩) ns.length cap, .int .i64 (ns.length : Int), .slice (some ⟨w1.heap.size, 0, none⟩) ns.length ns.length, .pointer (some ⟨w.heap.size, 1, none⟩), .slice (some ⟨b, off, none⟩) ns.length cap, .int .i64 (ns.length : Int), .int .i64 (ns.length : Int), .bool false, u30, u31, u32, u33, u34, u35, u36, u37, u38, u39, u40, u41, u42, u43, u44, u45, u46, .slice (some ⟨g, 0, none⟩) l.length kc, .int .i64 (l.length : Int), .int .i64 (j : Int), .bool true, .int .i64 (j : Int), .pointer (some ⟨g, j * 6, none⟩), .agg #[.int .i64 yop, .int .i64 yd, .int .i64 ya, .int .i64 yb, .int .i64 (tn : Int), .int .i64 (en : Int)], z54, z55, z56, z57, z58, z59, z60, z61, z62, z63, .pointer (some ⟨wr.heap.size, 5, none⟩), .int .i64 (en : Int), z66, z67, z68, z69, z70, z71, u72, undef, undef, undef, undef], defers := [] } ∧ w'' = W.drew) (fun a' w'' h => ?_) ?_
                · obtain ⟨rfl, rfl⟩ := h
                  exact ⟨_, _, _, _, _, _, _, _, _, _, _, _, _, _, _, _, _, _, hsz', rfl, fun h => e0 (by rwa [keep 0 (by omega)] at h), fun h => e1 (by rwa [keep 1 (by omega)] at h), fun h => e2 (by rwa [keep 2 (by omega)] at h), fun h => e3 (by rwa [keep 3 (by omega)] at h), fun h => e4 (by rwa [keep 4 (by omega)] at h), fun h => e5 (by rwa [keep 5 (by omega)] at h), fun h => e6 (by rwa [keep 6 (by omega)] at h), fun h => e7 (by rwa [keep 7 (by omega)] at h), fun h => e8 (by rwa [keep 8 (by omega)] at h), fun h => e9 (by rwa [keep 9 (by omega)] at h), fun _ => rfl, fun _ => rfl, fun h => e12 (by rwa [keep 12 (by omega)] at h), fun h => e13 (by rwa [keep 13 (by omega)] at h), fun h => e14 (by rwa [keep 14 (by omega)] at h), fun h => e15 (by rwa [keep 15 (by omega)] at h), fun h => e17 (by rwa [keep 17 (by omega)] at h), fun h => e18 (by rwa [keep 18 (by omega)] at h), Or.inl ⟨(keep 16 (by omega)).trans g16, (keep 19 (by omega)).trans g19, rfl⟩⟩
                · go_simp
              · rw [(hC 12 _ rfl (hC 13 _ rfl (hC 16 _ rfl g16 ⟨13, .phase⟩ (by simp) rfl) ⟨12, .data⟩ (by simp) rfl) ⟨11, .data⟩ (by simp) rfl)] at hl'; cases hl'
              · rw [hall 11 (by omega)] at hl'; cases hl'
            | 12, _ =>
              simp at ho; subst ho
              have d9 : listed.getD 9 false = true := hd ⟨9, .data⟩ (by simp) rfl
              have d11 : listed.getD 11 false = true := hd ⟨11, .data⟩ (by simp) rfl
              have d10 : listed.getD 10 false = true := hC 11 _ rfl d11 ⟨10, .data⟩ (by simp) rfl
              obtain rfl := (e9 d9).symm
              obtain rfl := (e11 d11).symm
              obtain rfl := (e10 d10).symm
              clear hd
              rcases hw with ⟨g16, g19, hwe⟩ | ⟨g16, g19, hwe⟩ | ⟨hall, hwe⟩
              · obtain rfl := hwe.symm
                refine Oper.wpIn_mono (K := fun a' w'' => a' = { tmps := #[.agg #[.int .i64 r, .slice (some ⟨b, off, none⟩) ns.length cap], .pointer (some ⟨w.heap.size, 0, none⟩), .pointer (some ⟨w.heap.size + 1, 0, none⟩), .int .i64 0, .slice (some ⟨rb, 0, none⟩) ns.length rcap, .int .i64 0, .slice (some ⟨w1.heap.size, 0, none⟩) ns.length ns.length, .slice (some ⟨g, 0, none⟩) l.length kc, u8, u9, .int .i64 (j : Int), .pointer (some ⟨wr.heap.size, 0, none⟩), .tuple #[.slice (some ⟨rb, 0, none⟩) ns.length rcap, .int .i64 0], .agg #[.int .i64 r, .slice (some ⟨b, off, none⟩) ns.length cap], .tuple #[.slice (some ⟨rb, 0, none⟩) ns.length rcap, .int .i64 0], .slice (some ⟨rb, 0, none⟩) ns.length rcap, .int .i64 0, .int .i64 0, .bool false, undef, undef, .pointer (some ⟨w.heap.size, 1, none⟩), .slice (some ⟨b, off, none⟩) ns.length cap, .int .i64 (ns.length : Int), .slice (some ⟨w1.heap.size, 0, none⟩) ns.length ns.length, .pointer (some ⟨w.heap.size, 1, none⟩), .slice (some ⟨b, off, none⟩) ns.length cap, .int .i64 (ns.length : Int), .int .i64 (ns.length : Int), .bool false, u30, u31, u32, u33, u34, u35, u36, u37, u38, u39, u40, u41, u42, u43, u44, u45, u46, .slice (some ⟨g, 0, none⟩) l.length kc, .int .i64 (l.length : Int), .int .i64 (j : Int), .bool true, .int .i64 (j : Int), .pointer (some ⟨g, j * 6, none⟩), .agg #[.int .i64 yop, .int .i64 yd, .int .i64 ya, .int .i64 yb, .int .i64 (tn : Int), .int .i64 (en : Int)], z54, z55, z56, z57, z58, z59, z60, z61, z62, .slice (some ⟨w1.heap.size, 0, none⟩) ns.length ns.length, .pointer (some ⟨wr.heap.size, 5, none⟩), .int .i64 (en : Int), .pointer (some ⟨w1.heap.size, en, none⟩), z67, z68, z69, z70, z71, u72, undef, undef, undef, undef], defers := [] } ∧ w'' = W.drew) (fun a' w'' h => ?_) ?_
                · obtain ⟨rfl, rfl⟩ := h
                  exact ⟨_, _, _, _, _, _, _, _, _, _, _, _, _, _, _, _, _, _, hsz', rfl, fun h => e0 (by rwa [keep 0 (by omega)] at h), fun h => e1 (by rwa [keep 1 (by omega)] at h), fun h => e2 (by rwa [keep 2 (by omega)] at h), fun h => e3 (by rwa [keep 3 (by omega)] at h), fun h => e4 (by rwa [keep 4 (by omega)] at h), fun h => e5 (by rwa [keep 5 (by omega)] at h), fun h => e6 (by rwa [keep 6 (by omega)] at h), fun h => e7 (by rwa [keep 7 (by omega)] at h), fun h => e8 (by rwa [keep 8 (by omega)] at h), fun _ => rfl, fun _ => rfl, fun _ => rfl, fun _ => rfl, fun h => e13 (by rwa [keep 13 (by omega)] at h), fun h => e14 (by rwa [keep 14 (by omega)] at h), fun h => e15 (by rwa [keep 15 (by omega)] at h), fun h => e17 (by rwa [keep 17 (by omega)] at h), fun h => e18 (by rwa [keep 18 (by omega)] at h), Or.inl ⟨(keep 16 (by omega)).trans g16, (keep 19 (by omega)).trans g19, rfl⟩⟩
                · go_simp
              · rw [(hC 13 _ rfl (hC 16 _ rfl g16 ⟨13, .phase⟩ (by simp) rfl) ⟨12, .data⟩ (by simp) rfl)] at hl'; cases hl'
              · rw [hall 12 (by omega)] at hl'; cases hl'
            | 13, _ =>
              simp at ho; subst ho
              have d12 : listed.getD 12 false = true := hd ⟨12, .data⟩ (by simp) rfl
              have d9 : listed.getD 9 false = true := hC 12 _ rfl d12 ⟨9, .data⟩ (by simp) rfl
              have d11 : listed.getD 11 false = true := hC 12 _ rfl d12 ⟨11, .data⟩ (by simp) rfl
              have d10 : listed.getD 10 false = true := hC 11 _ rfl d11 ⟨10, .data⟩ (by simp) rfl
              obtain rfl := (e12 d12).symm
              obtain rfl := (e9 d9).symm
              obtain rfl := (e11 d11).symm
              obtain rfl := (e10 d10).symm
              clear hd
              rcases hw with ⟨g16, g19, hwe⟩ | ⟨g16, g19, hwe⟩ | ⟨hall, hwe⟩
              · obtain rfl := hwe.symm
                refine Oper.wpIn_mono (K := fun a' w'' => a' = { tmps := #[.agg #[.int .i64 r, .slice (some ⟨b, off, none⟩) ns.length cap], .pointer (some ⟨w.heap.size, 0, none⟩), .pointer (some ⟨w.heap.size + 1, 0, none⟩), .int .i64 0, .slice (some ⟨rb, 0, none⟩) ns.length rcap, .int .i64 0, .slice (some ⟨w1.heap.size, 0, none⟩) ns.length ns.length, .slice (some ⟨g, 0, none⟩) l.length kc, u8, u9, .int .i64 (j : Int), .pointer (some ⟨wr.heap.size, 0, none⟩), .tuple #[.slice (some ⟨rb, 0, none⟩) ns.length rcap, .int .i64 0], .agg #[.int .i64 r, .slice (some ⟨b, off, none⟩) ns.length cap], .tuple #[.slice (some ⟨rb, 0, none⟩) ns.length rcap, .int .i64 0], .slice (some ⟨rb, 0, none⟩) ns.length rcap, .int .i64 0, .int .i64 0, .bool false, undef, undef, .pointer (some ⟨w.heap.size, 1, none⟩), .slice (some ⟨b, off, none⟩) ns.length cap, .int .i64 (ns.length : Int), .slice (some ⟨w1.heap.size, 0, none⟩) ns.length ns.length, .pointer (some ⟨w.heap.size, 1, none⟩), .slice (some ⟨b, off, none⟩) ns.length cap, .int .i64 (ns.length : Int), .int .i64 (ns.length : Int), .bool false, u30, u31, u32, u33, u34, u35, u36, u37, u38, u39, u40, u41, u42, u43, u44, u45, u46, .slice (some ⟨g, 0, none⟩) l.length kc, .int .i64 (l.length : Int), .int .i64 (j : Int), .bool true, .int .i64 (j : Int), .pointer (some ⟨g, j * 6, none⟩), .agg #[.int .i64 yop, .int .i64 yd, .int .i64 ya, .int .i64 yb, .int .i64 (tn : Int), .int .i64 (en : Int)], z54, z55, z56, z57, z58, z59, z60, z61, z62, .slice (some ⟨w1.heap.size, 0, none⟩) ns.length ns.length, .pointer (some ⟨wr.heap.size, 5, none⟩), .int .i64 (en : Int), .pointer (some ⟨w1.heap.size, en, none⟩), .int .i64 ((anewAt (rchL ns) en : Nat) : Int), z68, z69, z70, z71, u72, undef, undef, undef, undef], defers := [] } ∧ w'' = W.drew) (fun a' w'' h => ?_) ?_
                · obtain ⟨rfl, rfl⟩ := h
                  exact ⟨_, _, _, _, _, _, _, _, _, _, _, _, _, _, _, _, _, _, hsz', rfl, fun h => e0 (by rwa [keep 0 (by omega)] at h), fun h => e1 (by rwa [keep 1 (by omega)] at h), fun h => e2 (by rwa [keep 2 (by omega)] at h), fun h => e3 (by rwa [keep 3 (by omega)] at h), fun h => e4 (by rwa [keep 4 (by omega)] at h), fun h => e5 (by rwa [keep 5 (by omega)] at h), fun h => e6 (by rwa [keep 6 (by omega)] at h), fun h => e7 (by rwa [keep 7 (by omega)] at h), fun h => e8 (by rwa [keep 8 (by omega)] at h), fun _ => rfl, fun _ => rfl, fun _ => rfl, fun _ => rfl, fun _ => rfl, fun h => e14 (by rwa [keep 14 (by omega)] at h), fun h => e15 (by rwa [keep 15 (by omega)] at h), fun h => e17 (by rwa [keep 17 (by omega)] at h), fun h => e18 (by rwa [keep 18 (by omega)] at h), Or.inl ⟨(keep 16 (by omega)).trans g16, (keep 19 (by omega)).trans g19, rfl⟩⟩
                · go_simp
              · rw [(hC 16 _ rfl g16 ⟨13, .phase⟩ (by simp) rfl)] at hl'; cases hl'
              · rw [hall 13 (by omega)] at hl'; cases hl'
            | 14, _ =>
              simp at ho; subst ho
              have d0 : listed.getD 0 false = true := hd ⟨0, .data⟩ (by simp) rfl
              have d1 : listed.getD 1 false = true := hd ⟨1, .data⟩ (by simp) rfl
              have d4 : listed.getD 4 false = true := hd ⟨4, .phase⟩ (by simp) rfl
              have d5 : listed.getD 5 false = true := hd ⟨5, .phase⟩ (by simp) rfl
              have d6 : listed.getD 6 false = true := hd ⟨6, .phase⟩ (by simp) rfl
              have d7 : listed.getD 7 false = true := hd ⟨7, .phase⟩ (by simp) rfl
              have d8 : listed.getD 8 false = true := hd ⟨8, .phase⟩ (by simp) rfl
              have d13 : listed.getD 13 false = true := hd ⟨13, .phase⟩ (by simp) rfl
              have d12 : listed.getD 12 false = true := hC 13 _ rfl d13 ⟨12, .data⟩ (by simp) rfl
              have d9 : listed.getD 9 false = true := hC 12 _ rfl d12 ⟨9, .data⟩ (by simp) rfl
              have d11 : listed.getD 11 false = true := hC 12 _ rfl d12 ⟨11, .data⟩ (by simp) rfl
              have d10 : listed.getD 10 false = true := hC 11 _ rfl d11 ⟨10, .data⟩ (by simp) rfl
              obtain rfl := (e0 d0).symm
              obtain rfl := (e1 d1).symm
              obtain rfl := (e4 d4).symm
              obtain rfl := (e5 d5).symm
              obtain rfl := (e6 d6).symm
              obtain rfl := (e7 d7).symm
              obtain rfl := (e8 d8).symm
              obtain rfl := (e13 d13).symm
              obtain rfl := (e12 d12).symm
              obtain rfl := (e9 d9).symm
              obtain rfl := (e11 d11).symm
              obtain rfl := (e10 d10).symm
              clear hd
              rcases hw with ⟨g16, g19, hwe⟩ | ⟨g16, g19, hwe⟩ | ⟨hall, hwe⟩
              · obtain rfl := hwe.symm
                refine Oper.wpIn_mono (K := fun a' w'' => a' = { tmps := #[.agg #[.int .i64 r, .slice (some ⟨b, off, none⟩) ns.length cap], .pointer (some ⟨w.heap.size, 0, none⟩), .pointer (some ⟨w.heap.size + 1, 0, none⟩), .int .i64 0, .slice (some ⟨rb, 0, none⟩) ns.length rcap, .int .i64 0, .slice (some ⟨w1.heap.size, 0, none⟩) ns.length ns.length, .slice (some ⟨g, 0, none⟩) l.length kc, u8, u9, .int .i64 (j : Int), .pointer (some ⟨wr.heap.size, 0, none⟩), .tuple #[.slice (some ⟨rb, 0, none⟩) ns.length rcap, .int .i64 0], .agg #[.int .i64 r, .slice (some ⟨b, off, none⟩) ns.length cap], .tuple #[.slice (some ⟨rb, 0, none⟩) ns.length rcap, .int .i64 0], .slice (some ⟨rb, 0, none⟩) ns.length rcap, .int .i64 0, .int .i64 0, .bool false, undef, undef, .pointer (some ⟨w.heap.size, 1, none⟩), .slice (some ⟨b, off, none⟩) ns.length cap, .int .i64 (ns.length : Int), .slice (some ⟨w1.heap.size, 0, none⟩) ns.length ns.length, .pointer (some ⟨w.heap.size, 1, none⟩), .slice (some ⟨b, off, none⟩) ns.length cap, .int .i64 (ns.length : Int), .int .i64 (ns.length : Int), .bool false, u30, u31, u32, u33, u34, u35, u36, u37, u38, u39, u40, u41, u42, u43, u44, u45, u46, .slice (some ⟨g, 0, none⟩) l.length kc, .int .i64 (l.length : Int), .int .i64 (j : Int), .bool true, .int .i64 (j : Int), .pointer (some ⟨g, j * 6, none⟩), .agg #[.int .i64 yop, .int .i64 yd, .int .i64 ya, .int .i64 yb, .int .i64 (tn : Int), .int .i64 (en : Int)], .slice (some ⟨g, 0, none⟩) l.length kc, .int .i64 (j : Int), z56, z57, .slice (some ⟨w1.heap.size, 0, none⟩) ns.length ns.length, .pointer (some ⟨wr.heap.size, 4, none⟩), .int .i64 (tn : Int), .pointer (some ⟨w1.heap.size, tn, none⟩), .int .i64 ((anewAt (rchL ns) tn : Nat) : Int), .slice (some ⟨w1.heap.size, 0, none⟩) ns.length ns.length, .pointer (some ⟨wr.heap.size, 5, none⟩), .int .i64 (en : Int), .pointer (some ⟨w1.heap.size, en, none⟩), .int .i64 ((anewAt (rchL ns) en : Nat) : Int), .pointer (some ⟨g, j * 6, none⟩), z69, z70, z71, u72, undef, undef, undef, undef], defers := [] } ∧ w'' = W.drew) (fun a' w'' h => ?_) ?_
                · obtain ⟨rfl, rfl⟩ := h
                  exact ⟨_, _, _, _, _, _, _, _, _, _, _, _, _, _, _, _, _, _, hsz', rfl, fun _ => rfl, fun _ => rfl, fun h => e2 (by rwa [keep 2 (by omega)] at h), fun h => e3 (by rwa [keep 3 (by omega)] at h), fun _ => rfl, fun _ => rfl, fun _ => rfl, fun _ => rfl, fun _ => rfl, fun _ => rfl, fun _ => rfl, fun _ => rfl, fun _ => rfl, fun _ => rfl, fun _ => rfl, fun h => e15 (by rwa [keep 15 (by omega)] at h), fun h => e17 (by rwa [keep 17 (by omega)] at h), fun h => e18 (by rwa [keep 18 (by omega)] at h), Or.inl ⟨(keep 16 (by omega)).trans g16, (keep 19 (by omega)).trans g19, rfl⟩⟩
                · go_simp
              · rw [(hC 15 _ rfl (hC 16 _ rfl g16 ⟨15, .data⟩ (by simp) rfl) ⟨14, .data⟩ (by simp) rfl)] at hl'; cases hl'
              · rw [hall 14 (by omega)] at hl'; cases hl'
            | 15, _ =>
              simp at ho; subst ho
              have d14 : listed.getD 14 false = true := hd ⟨14, .data⟩ (by simp) rfl
              have d0 : listed.getD 0 false = true := hd ⟨0, .phase⟩ (by simp) rfl
              have d1 : listed.getD 1 false = true := hd ⟨1, .phase⟩ (by simp) rfl
              have d4 : listed.getD 4 false = true := hd ⟨4, .phase⟩ (by simp) rfl
              have d5 : listed.getD 5 false = true := hd ⟨5, .phase⟩ (by simp) rfl
              have d6 : listed.getD 6 false = true := hd ⟨6, .phase⟩ (by simp) rfl
              have d7 : listed.getD 7 false = true := hd ⟨7, .phase⟩ (by simp) rfl
              have d8 : listed.getD 8 false = true := hd ⟨8, .phase⟩ (by simp) rfl
              have d13 : listed.getD 13 false = true := hd ⟨13, .phase⟩ (by simp) rfl
              have d12 : listed.getD 12 false = true := hC 13 _ rfl d13 ⟨12, .data⟩ (by simp) rfl
              have d9 : listed.getD 9 false = true := hC 12 _ rfl d12 ⟨9, .data⟩ (by simp) rfl
              have d11 : listed.getD 11 false = true := hC 12 _ rfl d12 ⟨11, .data⟩ (by simp) rfl
              have d10 : listed.getD 10 false = true := hC 11 _ rfl d11 ⟨10, .data⟩ (by simp) rfl
              obtain rfl := (e14 d14).symm
              obtain rfl := (e0 d0).symm
              obtain rfl := (e1 d1).symm
              obtain rfl := (e4 d4).symm
              obtain rfl := (e5 d5).symm
              obtain rfl := (e6 d6).symm
              obtain rfl := (e7 d7).symm
              obtain rfl := (e8 d8).symm
              obtain rfl := (e13 d13).symm
              obtain rfl := (e12 d12).symm
              obtain rfl := (e9 d9).symm
              obtain rfl := (e11 d11).symm
              obtain rfl := (e10 d10).symm
              clear hd
              rcases hw with ⟨g16, g19, hwe⟩ | ⟨g16, g19, hwe⟩ | ⟨hall, hwe⟩
              · obtain rfl := hwe.symm
                refine Oper.wpIn_mono (K := fun a' w'' => a' = { tmps := #[.agg #[.int .i64 r, .slice (some ⟨b, off, none⟩) ns.length cap], .pointer (some ⟨w.heap.size, 0, none⟩), .pointer (some ⟨w.heap.size + 1, 0, none⟩), .int .i64 0, .slice (some ⟨rb, 0, none⟩) ns.length rcap, .int .i64 0, .slice (some ⟨w1.heap.size, 0, none⟩) ns.length ns.length, .slice (some ⟨g, 0, none⟩) l.length kc, u8, u9, .int .i64 (j : Int), .pointer (some ⟨wr.heap.size, 0, none⟩), .tuple #[.slice (some ⟨rb, 0, none⟩) ns.length rcap, .int .i64 0], .agg #[.int .i64 r, .slice (some ⟨b, off, none⟩) ns.length cap], .tuple #[.slice (some ⟨rb, 0, none⟩) ns.length rcap, .int .i64 0], .slice (some ⟨rb, 0, none⟩) ns.length rcap, .int .i64 0, .int .i64 0, .bool false, undef, undef, .pointer (some ⟨w.heap.size, 1, none⟩), .slice (some ⟨b, off, none⟩) ns.length cap, .int .i64 (ns.length : Int), .slice (some ⟨w1.heap.size, 0, none⟩) ns.length ns.length, .pointer (some ⟨w.heap.size, 1, none⟩), .slice (some ⟨b, off, none⟩) ns.length cap, .int .i64 (ns.length : Int), .int .i64 (ns.length : Int), .bool false, u30, u31, u32, u33, u34, u35, u36, u37, u38, u39, u40, u41, u42, u43, u44, u45, u46, .slice (some ⟨g, 0, none⟩) l.length kc, .int .i64 (l.length : Int), .int .i64 (j : Int), .bool true, .int .i64 (j : Int), .pointer (some ⟨g, j * 6, none⟩), .agg #[.int .i64 yop, .int .i64 yd, .int .i64 ya, .int .i64 yb, .int .i64 (tn : Int), .int .i64 (en : Int)], .slice (some ⟨g, 0, none⟩) l.length kc, .int .i64 (j : Int), z56, z57, .slice (some ⟨w1.heap.size, 0, none⟩) ns.length ns.length, .pointer (some ⟨wr.heap.size, 4, none⟩), .int .i64 (tn : Int), .pointer (some ⟨w1.heap.size, tn, none⟩), .int .i64 ((anewAt (rchL ns) tn : Nat) : Int), .slice (some ⟨w1.heap.size, 0, none⟩) ns.length ns.length, .pointer (some ⟨wr.heap.size, 5, none⟩), .int .i64 (en : Int), .pointer (some ⟨w1.heap.size, en, none⟩), .int .i64 ((anewAt (rchL ns) en : Nat) : Int), .pointer (some ⟨g, j * 6, none⟩), .pointer (some ⟨g, j * 6 + 4, none⟩), z70, z71, u72, undef, undef, undef, undef], defers := [] } ∧ w'' = W.drew) (fun a' w'' h => ?_) ?_
                · obtain ⟨rfl, rfl⟩ := h
                  exact ⟨_, _, _, _, _, _, _, _, _, _, _, _, _, _, _, _, _, _, hsz', rfl, fun _ => rfl, fun _ => rfl, fun h => e2 (by rwa [keep 2 (by omega)] at h), fun h => e3 (by rwa [keep 3 (by omega)] at h), fun _ => rfl, fun _ => rfl, fun _ => rfl, fun _ => rfl, fun _ => rfl, fun _ => rfl, fun _ => rfl, fun _ => rfl, fun _ => rfl, fun _ => rfl, fun _ => rfl, fun _ => rfl, fun h => e17 (by rwa [keep 17 (by omega)] at h), fun h => e18 (by rwa [keep 18 (by omega)] at h), Or.inl ⟨(keep 16 (by omega)).trans g16, (keep 19 (by omega)).trans g19, rfl⟩⟩
                · go_simp
              · rw [(hC 16 _ rfl g16 ⟨15, .data⟩ (by simp) rfl)] at hl'; cases hl'
              · rw [hall 15 (by omega)] at hl'; cases hl'
            | 16, _ =>
              simp at ho; subst ho
              have d15 : listed.getD 15 false = true := hd ⟨15, .data⟩ (by simp) rfl
              have d0 : listed.getD 0 false = true := hd ⟨0, .phase⟩ (by simp) rfl
              have d1 : listed.getD 1 false = true := hd ⟨1, .phase⟩ (by simp) rfl
              have d4 : listed.getD 4 false = true := hd ⟨4, .phase⟩ (by simp) rfl
              have d5 : listed.getD 5 false = true := hd ⟨5, .phase⟩ (by simp) rfl
              have d6 : listed.getD 6 false = true := hd ⟨6, .phase⟩ (by simp) rfl
              have d7 : listed.getD 7 false = true := hd ⟨7, .phase⟩ (by simp) rfl
              have d8 : listed.getD 8 false = true := hd ⟨8, .phase⟩ (by simp) rfl
              have d13 : listed.getD 13 false = true := hd ⟨13, .phase⟩ (by simp) rfl
              have d14 : listed.getD 14 false = true := hC 15 _ rfl d15 ⟨14, .data⟩ (by simp) rfl
              have d12 : listed.getD 12 false = true := hC 13 _ rfl d13 ⟨12, .data⟩ (by simp) rfl
              have d9 : listed.getD 9 false = true := hC 12 _ rfl d12 ⟨9, .data⟩ (by simp) rfl
              have d11 : listed.getD 11 false = true := hC 12 _ rfl d12 ⟨11, .data⟩ (by simp) rfl
              have d10 : listed.getD 10 false = true := hC 11 _ rfl d11 ⟨10, .data⟩ (by simp) rfl
              obtain rfl := (e15 d15).symm
              obtain rfl := (e0 d0).symm
              obtain rfl := (e1 d1).symm
              obtain rfl := (e4 d4).symm
              obtain rfl := (e5 d5).symm
              obtain rfl := (e6 d6).symm
              obtain rfl := (e7 d7).symm
              obtain rfl := (e8 d8).symm
              obtain rfl := (e13 d13).symm
              obtain rfl := (e14 d14).symm
              obtain rfl := (e12 d12).symm
              obtain rfl := (e9 d9).symm
              obtain rfl := (e11 d11).symm
              obtain rfl := (e10 d10).symm
              clear hd
              rcases hw with ⟨g16, g19, hwe⟩ | ⟨g16, g19, hwe⟩ | ⟨hall, hwe⟩
              · obtain rfl := hwe.symm
                refine Oper.wpIn_mono (K := fun a' w'' => a' = { tmps := #[.agg #[.int .i64 r, .slice (some ⟨b, off, none⟩) ns.length cap], .pointer (some ⟨w.heap.size, 0, none⟩), .pointer (some ⟨w.heap.size + 1, 0, none⟩), .int .i64 0, .slice (some ⟨rb, 0, none⟩) ns.length rcap, .int .i64 0, .slice (some ⟨w1.heap.size, 0, none⟩) ns.length ns.length, .slice (some ⟨g, 0, none⟩) l.length kc, u8, u9, .int .i64 (j : Int), .pointer (some ⟨wr.heap.size, 0, none⟩), .tuple #[.slice (some ⟨rb, 0, none⟩) ns.length rcap, .int .i64 0], .agg #[.int .i64 r, .slice (some ⟨b, off, none⟩) ns.length cap], .tuple #[.slice (some ⟨rb, 0, none⟩) ns.length rcap, .int .i64 0], .slice (some ⟨rb, 0, none⟩) ns.length rcap, .int .i64 0, .int .i64 0, .bool false, undef, undef, .pointer (some ⟨w.heap.size, 1, none⟩), .slice (some ⟨b, off, none⟩) ns.length cap, .int .i64 (ns.length : Int), .slice (some ⟨w1.heap.size, 0, none⟩) ns.length ns.length, .pointer (some ⟨w.heap.size, 1, none⟩), .slice (some ⟨b, off, none⟩) ns.length cap, .int .i64 (ns.length : Int), .int .i64 (ns.length : Int), .bool false, u30, u31, u32, u33, u34, u35, u36, u37, u38, u39, u40, u41, u42, u43, u44, u45, u46, .slice (some ⟨g, 0, none⟩) l.length kc, .int .i64 (l.length : Int), .int .i64 (j : Int), .bool true, .int .i64 (j : Int), .pointer (some ⟨g, j * 6, none⟩), .agg #[.int .i64 yop, .int .i64 yd, .int .i64 ya, .int .i64 yb, .int .i64 (tn : Int), .int .i64 (en : Int)], .slice (some ⟨g, 0, none⟩) l.length kc, .int .i64 (j : Int), z56, z57, .slice (some ⟨w1.heap.size, 0, none⟩) ns.length ns.length, .pointer (some ⟨wr.heap.size, 4, none⟩), .int .i64 (tn : Int), .pointer (some ⟨w1.heap.size, tn, none⟩), .int .i64 ((anewAt (rchL ns) tn : Nat) : Int), .slice (some ⟨w1.heap.size, 0, none⟩) ns.length ns.length, .pointer (some ⟨wr.heap.size, 5, none⟩), .int .i64 (en : Int), .pointer (some ⟨w1.heap.size, en, none⟩), .int .i64 ((anewAt (rchL ns) en : Nat) : Int), .pointer (some ⟨g, j * 6, none⟩), .pointer (some ⟨g, j * 6 + 4, none⟩), z70, z71, u72, undef, undef, undef, undef], defers := [] } ∧ w'' = W.drew.setCell ⟨g, j * 6 + 4, none⟩ (.int .i64 ((anewAt (rchL ns) tn : Nat) : Int))) (fun a' w'' h => ?_) ?_
                · obtain ⟨rfl, rfl⟩ := h
                  exact ⟨_, _, _, _, _, _, _, _, _, _, _, _, _, _, _, _, _, _, hsz', rfl, fun _ => rfl, fun _ => rfl, fun h => e2 (by rwa [keep 2 (by omega)] at h), fun h => e3 (by rwa [keep 3 (by omega)] at h), fun _ => rfl, fun _ => rfl, fun _ => rfl, fun _ => rfl, fun _ => rfl, fun _ => rfl, fun _ => rfl, fun _ => rfl, fun _ => rfl, fun _ => rfl, fun _ => rfl, fun _ => rfl, fun h => e17 (by rwa [keep 17 (by omega)] at h), fun h => e18 (by rwa [keep 18 (by omega)] at h), Or.inr (Or.inl ⟨sett, (keep 19 (by omega)).trans g19, rfl⟩)⟩
                · go_simp
              · rw [g16] at hl'; cases hl'
              · rw [hall 16 (by omega)] at hl'; cases hl'
            | 17, _ =>
              simp at ho; subst ho
              have d2 : listed.getD 2 false = true := hd ⟨2, .data⟩ (by simp) rfl
              have d3 : listed.getD 3 false = true := hd ⟨3, .data⟩ (by simp) rfl
              have d0 : listed.getD 0 false = true := hd ⟨0, .phase⟩ (by simp) rfl
              have d1 : listed.getD 1 false = true := hd ⟨1, .phase⟩ (by simp) rfl
              have d4 : listed.getD 4 false = true := hd ⟨4, .phase⟩ (by simp) rfl
              have d5 : listed.getD 5 false = true := hd ⟨5, .phase⟩ (by simp) rfl
              have d6 : listed.getD 6 false = true := hd ⟨6, .phase⟩ (by simp) rfl
              have d7 : listed.getD 7 false = true := hd ⟨7, .phase⟩ (by simp) rfl
              have d8 : listed.getD 8 false = true := hd ⟨8, .phase⟩ (by simp) rfl
              have d9 : listed.getD 9 false = true := hd ⟨9, .phase⟩ (by simp) rfl
              have d10 : listed.getD 10 false = true := hd ⟨10, .phase⟩ (by simp) rfl
              have d11 : listed.getD 11 false = true := hd ⟨11, .phase⟩ (by simp) rfl
              have d12 : listed.getD 12 false = true := hd ⟨12, .phase⟩ (by simp) rfl
              have d13 : listed.getD 13 false = true := hd ⟨13, .phase⟩ (by simp) rfl
              have d14 : listed.getD 14 false = true := hd ⟨14, .phase⟩ (by simp) rfl
              have d15 : listed.getD 15 false = true := hd ⟨15, .phase⟩ (by simp) rfl
              have d16 : listed.getD 16 false = true := hd ⟨16, .phase⟩ (by simp) rfl
              obtain rfl := (e2 d2).symm
              obtain rfl := (e3 d3).symm
              obtain rfl := (e0 d0).symm
              obtain rfl := (e1 d1).symm
              obtain rfl := (e4 d4).symm
              obtain rfl := (e5 d5).symm
              obtain rfl := (e6 d6).symm
              obtain rfl := (e7 d7).symm
              obtain rfl := (e8 d8).symm
              obtain rfl := (e9 d9).symm
              obtain rfl := (e10 d10).symm
              obtain rfl := (e11 d11).symm
              obtain rfl := (e12 d12).symm
              obtain rfl := (e13 d13).symm
              obtain rfl := (e14 d14).symm
              obtain rfl := (e15 d15).symm
              clear hd
              rcases hw with ⟨g16, g19, hwe⟩ | ⟨g16, g19, hwe⟩ | ⟨hall, hwe⟩
              · rw [d16] at g16; cases g16
              · obtain rfl := hwe.symm
                refine Oper.wpIn_mono (K := fun a' w'' => a' = { tmps := #[.agg #[.int .i64 r, .slice (some ⟨b, off, none⟩) ns.length cap], .pointer (some ⟨w.heap.size, 0, none⟩), .pointer (some ⟨w.heap.size + 1, 0, none⟩), .int .i64 0, .slice (some ⟨rb, 0, none⟩) ns.length rcap, .int .i64 0, .slice (some ⟨w1.heap.size, 0, none⟩) ns.length ns.length, .slice (some ⟨g, 0, none⟩) l.length kc, u8, u9, .int .i64 (j : Int), .pointer (some ⟨wr.heap.size, 0, none⟩), .tuple #[.slice (some ⟨rb, 0, none⟩) ns.length rcap, .int .i64 0], .agg #[.int .i64 r, .slice (some ⟨b, off, none⟩) ns.length cap], .tuple #[.slice (some ⟨rb, 0, none⟩) ns.length rcap, .int .i64 0], .slice (some ⟨rb, 0, none⟩) ns.length rcap, .int .i64 0, .int .i64 0, .bool false, undef, undef, .pointer (some ⟨w.heap.size, 1, none⟩), .slice (some ⟨b, off, none⟩) ns.length cap, .int .i64 (ns.length : Int), .slice (some ⟨w1.heap.size, 0, none⟩) ns.length ns.length, .pointer (some ⟨w.heap.size, 1, none⟩), .slice (some ⟨b, off, none⟩) ns.length cap, .int .i64 (ns.length : Int), .int .i64 (ns.length : Int), .bool false, u30, u31, u32, u33, u34, u35, u36, u37, u38, u39, u40, u41, u42, u43, u44, u45, u46, .slice (some ⟨g, 0, none⟩) l.length kc, .int .i64 (l.length : Int), .int .i64 (j : Int), .bool true, .int .i64 (j : Int), .pointer (some ⟨g, j * 6, none⟩), .agg #[.int .i64 yop, .int .i64 yd, .int .i64 ya, .int .i64 yb, .int .i64 (tn : Int), .int .i64 (en : Int)], .slice (some ⟨g, 0, none⟩) l.length kc, .int .i64 (j : Int), .slice (some ⟨g, 0, none⟩) l.length kc, .int .i64 (j : Int), .slice (some ⟨w1.heap.size, 0, none⟩) ns.length ns.length, .pointer (some ⟨wr.heap.size, 4, none⟩), .int .i64 (tn : Int), .pointer (some ⟨w1.heap.size, tn, none⟩), .int .i64 ((anewAt (rchL ns) tn : Nat) : Int), .slice (some ⟨w1.heap.size, 0, none⟩) ns.length ns.length, .pointer (some ⟨wr.heap.size, 5, none⟩), .int .i64 (en : Int), .pointer (some ⟨w1.heap.size, en, none⟩), .int .i64 ((anewAt (rchL ns) en : Nat) : Int), .pointer (some ⟨g, j * 6, none⟩), .pointer (some ⟨g, j * 6 + 4, none⟩), .pointer (some ⟨g, j * 6, none⟩), z71, u72, undef, undef, undef, undef], defers := [] } ∧ w'' = W.drew.setCell ⟨g, j * 6 + 4, none⟩ (.int .i64 ((anewAt (rchL ns) tn : Nat) : Int))) (fun a' w'' h => ?_) ?_
                · obtain ⟨rfl, rfl⟩ := h
                  exact ⟨_, _, _, _, _, _, _, _, _, _, _, _, _, _, _, _, _, _, hsz', rfl, fun _ => rfl, fun _ => rfl, fun _ => rfl, fun _ => rfl, fun _ => rfl, fun _ => rfl, fun _ => rfl, fun _ => rfl, fun _ => rfl, fun _ => rfl, fun _ => rfl, fun _ => rfl, fun _ => rfl, fun _ => rfl, fun _ => rfl, fun _ => rfl, fun _ => rfl, fun h => e18 (by rwa [keep 18 (by omega)] at h), Or.inr (Or.inl ⟨(keep 16 (by omega)).trans g16, (keep 19 (by omega)).trans g19, rfl⟩)⟩
                · go_simp
              · rw [hall 17 (by omega)] at hl'; cases hl'
            | 18, _ =>
              simp at ho; subst ho
              have d17 : listed.getD 17 false = true := hd ⟨17, .data⟩ (by simp) rfl
              have d0 : listed.getD 0 false = true := hd ⟨0, .phase⟩ (by simp) rfl
              have d1 : listed.getD 1 false = true := hd ⟨1, .phase⟩ (by simp) rfl
              have d2 : listed.getD 2 false = true := hd ⟨2, .phase⟩ (by simp) rfl
              have d3 : listed.getD 3 false = true := hd ⟨3, .phase⟩ (by simp) rfl
              have d4 : listed.getD 4 false = true := hd ⟨4, .phase⟩ (by simp) rfl
              have d5 : listed.getD 5 false = true := hd ⟨5, .phase⟩ (by simp) rfl
              have d6 : listed.getD 6 false = true := hd ⟨6, .phase⟩ (by simp) rfl
              have d7 : listed.getD 7 false = true := hd ⟨7, .phase⟩ (by simp) rfl
              have d8 : listed.getD 8 false = true := hd ⟨8, .phase⟩ (by simp) rfl
              have d9 : listed.getD 9 false = true := hd ⟨9, .phase⟩ (by simp) rfl
              have d10 : listed.getD 10 false = true := hd ⟨10, .phase⟩ (by simp) rfl
              have d11 : listed.getD 11 false = true := hd ⟨11, .phase⟩ (by simp) rfl
              have d12 : listed.getD 12 false = true := hd ⟨12, .phase⟩ (by simp) rfl
              have d13 : listed.getD 13 false = true := hd ⟨13, .phase⟩ (by simp) rfl
              have d14 : listed.getD 14 false = true := hd ⟨14, .phase⟩ (by simp) rfl
              have d15 : listed.getD 15 false = true := hd ⟨15, .phase⟩ (by simp) rfl
              have d16 : listed.getD 16 false = true := hd ⟨16, .phase⟩ (by simp) rfl
              obtain rfl := (e17 d17).symm
              obtain rfl := (e0 d0).symm
              obtain rfl := (e1 d1).symm
              obtain rfl := (e2 d2).symm
              obtain rfl := (e3 d3).symm
              obtain rfl := (e4 d4).symm
              obtain rfl := (e5 d5).symm
              obtain rfl := (e6 d6).symm
              obtain rfl := (e7 d7).symm
              obtain rfl := (e8 d8).symm
              obtain rfl := (e9 d9).symm
              obtain rfl := (e10 d10).symm
              obtain rfl := (e11 d11).symm
              obtain rfl := (e12 d12).symm
              obtain rfl := (e13 d13).symm
              obtain rfl := (e14 d14).symm
              obtain rfl := (e15 d15).symm
              clear hd
              rcases hw with ⟨g16, g19, hwe⟩ | ⟨g16, g19, hwe⟩ | ⟨hall, hwe⟩
              · rw [d16] at g16; cases g16
              · obtain rfl := hwe.symm
                refine Oper.wpIn_mono (K := fun a' w'' => a' = { tmps := #[.agg #[.int .i64 r, .slice (some ⟨b, off, none⟩) ns.length cap], .pointer (some ⟨w.heap.size, 0, none⟩), .pointer (some ⟨w.heap.size + 1, 0, none⟩), .int .i64 0, .slice (some ⟨rb, 0, none⟩) ns.length rcap, .int .i64 0, .slice (some ⟨w1.heap.size, 0, none⟩) ns.length ns.length, .slice (some ⟨g, 0, none⟩) l.length kc, u8, u9, .int .i64 (j : Int), .pointer (some ⟨wr.heap.size, 0, none⟩), .tuple #[.slice (some ⟨rb, 0, none⟩) ns.length rcap, .int .i64 0], .agg #[.int .i64 r, .slice (some ⟨b, off, none⟩) ns.length cap], .tuple #[.slice (some ⟨rb, 0, none⟩) ns.length rcap, .int .i64 0], .slice (some ⟨rb, 0, none⟩) ns.length rcap, .int .i64 0, .int .i64 0, .bool false, undef, undef, .pointer (some ⟨w.heap.size, 1, none⟩), .slice (some ⟨b, off, none⟩) ns.length cap, .int .i64 (ns.length : Int), .slice (some ⟨w1.heap.size, 0, none⟩) ns.length ns.length, .pointer (some ⟨w.heap.size, 1, none⟩), .slice (some ⟨b, off, none⟩) ns.length cap, .int .i64 (ns.length : Int), .int .i64 (ns.length : Int), .bool false, u30, u31, u32, u33, u34, u35, u36, u37, u38, u39, u40, u41, u42, u43, u44, u45, u46, .slice (some ⟨g, 0, none⟩) l.length kc, .int .i64 (l.length : Int), .int .i64 (j : Int), .bool true, .int .i64 (j : Int), .pointer (some ⟨g, j * 6, none⟩), .agg #[.int .i64 yop, .int .i64 yd, .int .i64 ya, .int .i64 yb, .int .i64 (tn : Int), .int .i64 (en : Int)], .slice (some ⟨g, 0, none⟩) l.length kc, .int .i64 (j : Int), .slice (some ⟨g, 0, none⟩) l.length kc, .int .i64 (j : Int), .slice (some ⟨w1.heap.size, 0, none⟩) ns.length ns.length, .pointer (some ⟨wr.heap.size, 4, none⟩), .int .i64 (tn : Int), .pointer (some ⟨w1.heap.size, tn, none⟩), .int .i64 ((anewAt (rchL ns) tn : Nat) : Int), .slice (some ⟨w1.heap.size, 0, none⟩) ns.length ns.length, .pointer (some ⟨wr.heap.size, 5, none⟩), .int .i64 (en : Int), .pointer (some ⟨w1.heap.size, en, none⟩), .int .i64 ((anewAt (rchL ns) en : Nat) : Int), .pointer (some ⟨g, j * 6, none⟩), .pointer (some ⟨g, j * 6 + 4, none⟩), .pointer (some ⟨g, j * 6, none⟩), .pointer (some ⟨g, j * 6 + 5, none⟩), u72, undef, undef, undef, undef], defers := [] } ∧ w'' = W.drew.setCell ⟨g, j * 6 + 4, none⟩ (.int .i64 ((anewAt (rchL ns) tn : Nat) : Int))) (fun a' w'' h => ?_) ?_
                · obtain ⟨rfl, rfl⟩ := h
                  exact ⟨_, _, _, _, _, _, _, _, _, _, _, _, _, _, _, _, _, _, hsz', rfl, fun _ => rfl, fun _ => rfl, fun _ => rfl, fun _ => rfl, fun _ => rfl, fun _ => rfl, fun _ => rfl, fun _ => rfl, fun _ => rfl, fun _ => rfl, fun _ => rfl, fun _ => rfl, fun _ => rfl, fun _ => rfl, fun _ => rfl, fun _ => rfl, fun _ => rfl, fun _ => rfl, Or.inr (Or.inl ⟨(keep 16 (by omega)).trans g16, (keep 19 (by omega)).trans g19, rfl⟩)⟩
                · go_simp
              · rw [hall 18 (by omega)] at hl'; cases hl'
            | 19, _ =>
              simp at ho; subst ho
              have d18 : listed.getD 18 false = true := hd ⟨18, .data⟩ (by simp) rfl
              have d0 : listed.getD 0 false = true := hd ⟨0, .phase⟩ (by simp) rfl
              have d1 : listed.getD 1 false = true := hd ⟨1, .phase⟩ (by simp) rfl
              have d2 : listed.getD 2 false = true := hd ⟨2, .phase⟩ (by simp) rfl
              have d3 : listed.getD 3 false = true := hd ⟨3, .phase⟩ (by simp) rfl
              have d4 : listed.getD 4 false = true := hd ⟨4, .phase⟩ (by simp) rfl
              have d5 : listed.getD 5 false = true := hd ⟨5, .phase⟩ (by simp) rfl
              have d6 : listed.getD 6 false = true := hd ⟨6, .phase⟩ (by simp) rfl
              have d7 : listed.getD 7 false = true := hd ⟨7, .phase⟩ (by simp) rfl
              have d8 : listed.getD 8 false = true := hd ⟨8, .phase⟩ (by simp) rfl
              have d9 : listed.getD 9 false = true := hd ⟨9, .phase⟩ (by simp) rfl
              have d10 : listed.getD 10 false = true := hd ⟨10, .phase⟩ (by simp) rfl
              have d11 : listed.getD 11 false = true := hd ⟨11, .phase⟩ (by simp) rfl
              have d12 : listed.getD 12 false = true := hd ⟨12, .phase⟩ (by simp) rfl
              have d13 : listed.getD 13 false = true := hd ⟨13, .phase⟩ (by simp) rfl
              have d14 : listed.getD 14 false = true := hd ⟨14, .phase⟩ (by simp) rfl
              have d15 : listed.getD 15 false = true := hd ⟨15, .phase⟩ (by simp) rfl
              have d16 : listed.getD 16 false = true := hd ⟨16, .phase⟩ (by simp) rfl
              have d17 : listed.getD 17 false = true := hC 18 _ rfl d18 ⟨17, .data⟩ (by simp) rfl
              obtain rfl := (e18 d18).symm
              obtain rfl := (e0 d0).symm
              obtain rfl := (e1 d1).symm
              obtain rfl := (e2 d2).symm
              obtain rfl := (e3 d3).symm
              obtain rfl := (e4 d4).symm
              obtain rfl := (e5 d5).symm
              obtain rfl := (e6 d6).symm
              obtain rfl := (e7 d7).symm
              obtain rfl := (e8 d8).symm
              obtain rfl := (e9 d9).symm
              obtain rfl := (e10 d10).symm
              obtain rfl := (e11 d11).symm
              obtain rfl := (e12 d12).symm
              obtain rfl := (e13 d13).symm
              obtain rfl := (e14 d14).symm
              obtain rfl := (e15 d15).symm
              obtain rfl := (e17 d17).symm
              clear hd
              rcases hw with ⟨g16, g19, hwe⟩ | ⟨g16, g19, hwe⟩ | ⟨hall, hwe⟩
              · rw [d16] at g16; cases g16
              · obtain rfl := hwe.symm
                refine Oper.wpIn_mono (K := fun a' w'' => a' = { tmps := #[.agg #[.int .i64 r, .slice (some ⟨b, off, none⟩) ns.length cap], .pointer (some ⟨w.heap.size, 0, none⟩), .pointer (some ⟨w.heap.size + 1, 0, none⟩), .int .i64 0, .slice (some ⟨rb, 0, none⟩) ns.length rcap, .int .i64 0, .slice (some ⟨w1.heap.size, 0, none⟩) ns.length ns.length, .slice (some ⟨g, 0, none⟩) l.length kc, u8, u9, .int .i64 (j : Int), .pointer (some ⟨wr.heap.size, 0, none⟩), .tuple #[.slice (some ⟨rb, 0, none⟩) ns.length rcap, .int .i64 0], .agg #[.int .i64 r, .slice (some ⟨b, off, none⟩) ns.length cap], .tuple #[.slice (some ⟨rb, 0, none⟩) ns.length rcap, .int .i64 0], .slice (some ⟨rb, 0, none⟩) ns.length rcap, .int .i64 0, .int .i64 0, .bool false, undef, undef, .pointer (some ⟨w.heap.size, 1, none⟩), .slice (some ⟨b, off, none⟩) ns.length cap, .int .i64 (ns.length : Int), .slice (some ⟨w1.heap.size, 0, none⟩) ns.length ns.length, .pointer (some ⟨w.heap.size, 1, none⟩), .slice (some ⟨b, off, none⟩) ns.length cap, .int .i64 (ns.length : Int), .int .i64 (ns.length : Int), .bool false, u30, u31, u32, u33, u34, u35, u36, u37, u38, u39, u40, u41, u42, u43, u44, u45, u46, .slice (some ⟨g, 0, none⟩) l.length kc, .int .i64 (l.length : Int), .int .i64 (j : Int), .bool true, .int .i64 (j : Int), .pointer (some ⟨g, j * 6, none⟩), .agg #[.int .i64 yop, .int .i64 yd, .int .i64 ya, .int .i64 yb, .int .i64 (tn : Int), .int .i64 (en : Int)], .slice (some ⟨g, 0, none⟩) l.length kc, .int .i64 (j : Int), .slice (some ⟨g, 0, none⟩) l.length kc, .int .i64 (j : Int), .slice (some ⟨w1.heap.size, 0, none⟩) ns.length ns.length, .pointer (some ⟨wr.heap.size, 4, none⟩), .int .i64 (tn : Int), .pointer (some ⟨w1.heap.size, tn, none⟩), .int .i64 ((anewAt (rchL ns) tn : Nat) : Int), .slice (some ⟨w1.heap.size, 0, none⟩) ns.length ns.length, .pointer (some ⟨wr.heap.size, 5, none⟩), .int .i64 (en : Int), .pointer (some ⟨w1.heap.size, en, none⟩), .int .i64 ((anewAt (rchL ns) en : Nat) : Int), .pointer (some ⟨g, j * 6, none⟩), .pointer (some ⟨g, j * 6 + 4, none⟩), .pointer (some ⟨g, j * 6, none⟩), .pointer (some ⟨g, j * 6 + 5, none⟩), u72, undef, undef, undef, undef], defers := [] } ∧ w'' = (W.drew.setCell ⟨g, j * 6 + 4, none⟩ (.int .i64 ((anewAt (rchL ns) tn : Nat) : Int))).setCell ⟨g, j * 6 + 5, none⟩ (.int .i64 ((anewAt (rchL ns) en : Nat) : Int))) (fun a' w'' h => ?_) ?_
                · obtain ⟨rfl, rfl⟩ := h
                  refine ⟨_, _, _, _, _, _, _, _, _, _, _, _, _, _, _, _, _, _, hsz', rfl, fun _ => rfl, fun _ => rfl, fun _ => rfl, fun _ => rfl, fun _ => rfl, fun _ => rfl, fun _ => rfl, fun _ => rfl, fun _ => rfl, fun _ => rfl, fun _ => rfl, fun _ => rfl, fun _ => rfl, fun _ => rfl, fun _ => rfl, fun _ => rfl, fun _ => rfl, fun _ => rfl, Or.inr (Or.inr (⟨fun j hj => ?_, rfl⟩))⟩
                  match j, hj with
                  | 0, _ => exact (keep 0 (by omega)).trans d0
                  | 1, _ => exact (keep 1 (by omega)).trans d1
                  | 2, _ => exact (keep 2 (by omega)).trans d2
                  | 3, _ => exact (keep 3 (by omega)).trans d3
                  | 4, _ => exact (keep 4 (by omega)).trans d4
                  | 5, _ => exact (keep 5 (by omega)).trans d5
                  | 6, _ => exact (keep 6 (by omega)).trans d6
                  | 7, _ => exact (keep 7 (by omega)).trans d7
                  | 8, _ => exact (keep 8 (by omega)).trans d8
                  | 9, _ => exact (keep 9 (by omega)).trans d9
                  | 10, _ => exact (keep 10 (by omega)).trans d10
                  | 11, _ => exact (keep 11 (by omega)).trans d11
                  | 12, _ => exact (keep 12 (by omega)).trans d12
                  | 13, _ => exact (keep 13 (by omega)).trans d13
                  | 14, _ => exact (keep 14 (by omega)).trans d14
                  | 15, _ => exact (keep 15 (by omega)).trans d15
                  | 16, _ => exact (keep 16 (by omega)).trans d16
                  | 17, _ => exact (keep 17 (by omega)).trans d17
                  | 18, _ => exact (keep 18 (by omega)).trans d18
                  | 19, _ => exact sett
                  | jx + 20, hj => exact absurd hj (by omega)
                · go_simp
              · rw [hall 19 (by omega)] at hl'; cases hl'
          case h1 =>
            rintro listed a w' ⟨_, _, _, _, _, _, _, _, _, _, _, _, _, _, _, _, _, _, hsz, rfl, e0, e1, e2, e3, e4, e5, e6, e7, e8, e9, e10, e11, e12, e13, e14, e15, e17, e18, hw⟩ hall
            obtain rfl := (e0 (hall 0 (by decide))).symm
            obtain rfl := (e1 (hall 1 (by decide))).symm
            obtain rfl := (e2 (hall 2 (by decide))).symm
            obtain rfl := (e3 (hall 3 (by decide))).symm
            obtain rfl := (e4 (hall 4 (by decide))).symm
            obtain rfl := (e5 (hall 5 (by decide))).symm
            obtain rfl := (e6 (hall 6 (by decide))).symm
            obtain rfl := (e7 (hall 7 (by decide))).symm
            obtain rfl := (e8 (hall 8 (by decide))).symm
            obtain rfl := (e9 (hall 9 (by decide))).symm
            obtain rfl := (e10 (hall 10 (by decide))).symm
            obtain rfl := (e11 (hall 11 (by decide))).symm
            obtain rfl := (e12 (hall 12 (by decide))).symm
            obtain rfl := (e13 (hall 13 (by decide))).symm
            obtain rfl := (e14 (hall 14 (by decide))).symm
            obtain rfl := (e15 (hall 15 (by decide))).symm
            obtain rfl := (e17 (hall 17 (by decide))).symm
            obtain rfl := (e18 (hall 18 (by decide))).symm
            rcases hw with ⟨g16, _, _⟩ | ⟨_, g19, _⟩ | ⟨_, hwe⟩
            · rw [hall 16 (by decide)] at g16; cases g16
            · rw [hall 19 (by decide)] at g19; cases g19
            obtain rfl := hwe.symm
            dsimp only
            have k1 := owns_write (u := .int .i64 ((anewAt (rchL ns) tn : Nat) : Int)) HKW.out (i := j * 6 + 4) (by omega)
            have k2 := owns_write (u := .int .i64 ((anewAt (rchL ns) en : Nat) : Int)) k1 (i := j * 6 + 5) (by omega)
            rw [flat_set 6 encNd encNd_len (turnedN (rchL ns) l j) j 4 _ ⟨yop, yd, ya, yb, ((anewAt (rchL ns) tn : Nat) : Int), (en : Int)⟩ _ HYT.out (by decide) rfl] at k2
            rw [flat_set 6 encNd encNd_len _ j 5 ⟨yop, yd, ya, yb, ((anewAt (rchL ns) tn : Nat) : Int), (en : Int)⟩ ⟨yop, yd, ya, yb, ((anewAt (rchL ns) tn : Nat) : Int), ((anewAt (rchL ns) en : Nat) : Int)⟩ _ (by rw [List.getElem?_set_self (by rw [turnedN_len]; exact hlt)]) (by decide) rfl, List.set_set] at k2
            have e1 : (turnedN (rchL ns) l j).set j ⟨yop, yd, ya, yb, ((anewAt (rchL ns) tn : Nat) : Int), ((anewAt (rchL ns) en : Nat) : Int)⟩ = turnedN (rchL ns) l (j + 1) := by
              rw [turnedN_succ HY.out]; simp [ren]
            rw [e1] at k2
            have k3 : ((W.drew.setCell ⟨g, j * 6 + 4, none⟩ (.int .i64 ((anewAt (rchL ns) tn : Nat) : Int))).setCell ⟨g, j * 6 + 5, none⟩ (.int .i64 ((anewAt (rchL ns) en : Nat) : Int))).ownsRow (w1.heap.size + 1) 66 6 (.slice (some ⟨g, 0, none⟩) l.length kc) l.length ((turnedN (rchL ns) l (j + 1)).flatMap encNd) := k2
            have k4 : ((W.drew.setCell ⟨g, j * 6 + 4, none⟩ (.int .i64 ((anewAt (rchL ns) tn : Nat) : Int))).setCell ⟨g, j * 6 + 5, none⟩ (.int .i64 ((anewAt (rchL ns) en : Nat) : Int))).heap[w1.heap.size]? = some (.cells ((anewL (rchL ns) ns.length ns.length).map (Value.int .i64)).toArray 3 (0, 0)) := (Below.heap_setCell _ _ _ _ hne2).trans ((Below.heap_setCell _ _ _ _ hne2).trans HAW.out)
            have k5 : Below w1.heap.size w1 ((W.drew.setCell ⟨g, j * 6 + 4, none⟩ (.int .i64 ((anewAt (rchL ns) tn : Nat) : Int))).setCell ⟨g, j * 6 + 5, none⟩ (.int .i64 ((anewAt (rchL ns) en : Nat) : Int))) := (((hB.trans (HBW.out.mono hs)).drew).setCell (p := ⟨g, j * 6 + 4, none⟩) (by simp; omega) _).setCell (p := ⟨g, j * 6 + 5, none⟩) (by simp; omega) _
            generalize ((W.drew.setCell ⟨g, j * 6 + 4, none⟩ (.int .i64 ((anewAt (rchL ns) tn : Nat) : Int))).setCell ⟨g, j * 6 + 5, none⟩ (.int .i64 ((anewAt (rchL ns) en : Nat) : Int))) = Wf at k3 k4 k5 ⊢
            gi_wp2
            go_roundw
            case rel => exact ⟨j + 1, by omega, by go_num, k4, k3, k5⟩
            case measure => simp [intOf]; omega
        · have ej : j = l.length := by omega
          subst ej
          rw [turnedN_all, ← HKT.out] at hK
          have hll : (trimN ns).length = l.length := by rw [HKT.out]; simp
          have P0 := (hB.block _ hlt1).trans p0
          have P1 := (hB.block _ hlt2).trans p1
          have q0 := blk_cell P0 0
          simp at q0
          have r0 := blk_cell P1 0
          have r1 := blk_cell P1 1
          have f0 := blk_frozen P1 0
          have f1 := blk_frozen P1 1
          simp at r0 r1
          have hltr : w.heap.size < wr.heap.size := by omega
          have hltr2 : w.heap.size + 1 < wr.heap.size := by omega
          have HK2 := hide' hK
          have HP1 := hide' P1
          clear hK P0 P1 hA
          gi_wp2
          have hk2 : ((wr.setCell ⟨w.heap.size + 1, 0, none⟩ (.int .i64 r)).setCell ⟨w.heap.size + 1, 1, none⟩ (.slice (some ⟨g, 0, none⟩) l.length kc)).heap[w.heap.size + 1]? = some (.cells #[.int .i64 r, .slice (some ⟨g, 0, none⟩) l.length kc] 24 (0, 0)) := by
            rw [blk_set _ (blk_set _ HP1.out)]; simp
          have y0 := blk_cell hk2 0
          have y1 := blk_cell hk2 1
          simp at y0 y1
          refine bodyPost_ret (v := .tuple #[.agg #[.int .i64 r, .slice (some ⟨g, 0, none⟩) l.length kc], .int .i64 0]) (by simp [results, Tryz.results25, go_sem, y0, y1]) rfl ⟨_, rfl, ?_, (((hB1.trans (hB.mono (by omega))).setCell (p := ⟨w.heap.size + 1, 0, none⟩) (by simp) _).setCell (p := ⟨w.heap.size + 1, 1, none⟩) (by simp) _)⟩
          have o1 := owns_set (o := 1) (u := .slice (some ⟨g, 0, none⟩) l.length kc) (owns_set (o := 0) (u := .int .i64 r) HK2.out HP1.out (by decide)) (blk_set _ HP1.out) (by decide)
          rw [hll]
          exact ownsRow_base o1 (by omega)
end Go.Proofs.YtoikglgnmjjpcabGreat
