/-
  hoistwayref.SplitOf, walked.
  hoistwayref.SplitOf, walked.
-/
import Derived.Test.YtoikglgnmjjpcaaLP
import Derived.Test.YtoikglgnmjjpcaaLJ
import Derived.Test.YtoikglgnmjjpcaaI
import Derived.Deep.DeepCutAuto
namespace Go.Proofs.Ytoikglgnmjjpcaa
open Go.RowKit Go.Shelf
set_option linter.unusedVariables false

theorem spl1_at {ns : List Nd} {n : Nat} {out : List Nd} {m : Int} {j : Nat} (h : j ≠ n) (hj : j < out.length) : nd (spl1 ns n out m) j = nd out j := by
  unfold spl1
  split
  · simp only [nd, List.getD_eq_getElem?_getD]
    rw [List.getElem?_append_left (by simpa using hj), List.getElem?_set_ne (Ne.symm h)]
  · rfl
theorem spl1s_at {ns : List Nd} {n j : Nat} (h : j ≠ n) : ∀ (l : List Int) (out : List Nd), j < out.length → nd (l.foldl (spl1 ns n) out) j = nd out j
  | [], _, _ => rfl
  | m :: l, out, hj => by
    rw [List.foldl_cons, spl1s_at h l _ (Nat.lt_of_lt_of_le hj (spl1_len ns n out m).2), spl1_at h hj]
theorem splTo_at {ns : List Nd} {j : Nat} (hj : j < ns.length) : ∀ k, k ≤ j → nd (splTo ns k) j = nd ns j
  | 0, _ => rfl
  | k + 1, h => by
    rw [splTo_succ, spl2]
    have ih := splTo_at hj k (by omega)
    split
    · exact ih
    · rw [spl1s_at (by omega) _ _ (Nat.lt_of_lt_of_le hj (splTo_len ns k).2), ih]

/-- What the first exit makes of it. -/
theorem spl1_first {r : Int} {ns : List Nd} {k : Nat} {out : List Nd} {y : Nd} (hF : Full r ns.length y) (h12 : y.op ≠ 12) (hy : nd out k = y) (hm : 1 < (ahl ns y.t.toNat).length) :
    spl1 ns k out y.t = out.set k { y with t := out.length, e := if y.op = 11 ∧ y.e = y.t then out.length else y.e } ++ [skp y.t] := by
  unfold spl1
  rw [if_pos hm, hy]
  have ht := hF.t h12
  congr 2
  simp only [trn]
  congr 1
  by_cases h11 : y.op = 11
  · simp [h11]
  · have := hF.e0 h11
    rw [if_neg (by omega), if_neg (by simp [h11])]
/-- .. and the second. -/
theorem spl1_second {r : Int} {ns : List Nd} {k : Nat} {out : List Nd} {y : Nd} (hF : Full r ns.length y) (h11 : y.op = 11) (hne : y.e ≠ y.t) (hlo : ns.length ≤ out.length) (hk : k < out.length) (hy : nd out k = y) (hm : 1 < (ahl ns y.e.toNat).length) :
    spl1 ns k (spl1 ns k out y.t) y.e = (spl1 ns k out y.t).set k { nd (spl1 ns k out y.t) k with e := (spl1 ns k out y.t).length } ++ [skp y.e] := by
  have he := hF.e h11
  have ht := hF.t (by omega)
  have hn : (nd (spl1 ns k out y.t) k).e = y.e ∧ (nd (spl1 ns k out y.t) k).t ≠ y.e := by
    by_cases hmt : 1 < (ahl ns y.t.toNat).length
    · rw [spl1_first hF (by omega) hy hmt]
      have : nd (out.set k { y with t := out.length, e := if y.op = 11 ∧ y.e = y.t then out.length else y.e } ++ [skp y.t]) k = { y with t := out.length, e := if y.op = 11 ∧ y.e = y.t then out.length else y.e } := by
        simp only [nd, List.getD_eq_getElem?_getD]
        rw [List.getElem?_append_left (by simpa using hk), List.getElem?_set_self hk]; rfl
      rw [this]
      refine ⟨?_, ?_⟩
      · simp [hne]
      · simp only; omega
    · have : spl1 ns k out y.t = out := by unfold spl1; rw [if_neg hmt]
      rw [this, hy]
      exact ⟨rfl, Ne.symm hne⟩
  generalize spl1 ns k out y.t = o1 at hn
  unfold spl1
  rw [if_pos hm]
  congr 2
  simp only [trn]
  congr 1
  · rw [if_neg hn.2]
  · rw [if_pos hn.1]

/-- The program that is being made, in its variable; and the node looked at, in its own. -/
structure Op1 (W2 : World) (base A nb : Nat) (r : Int) (y : Nd) (out : List Nd) (v : Value) (W : World) : Prop where
  o : W.heap[A]? = some (.cells #[.int .i64 r, v] 24 (0, 0))
  row : W.ownsRow base 87 6 v out.length (out.flatMap encNd)
  b : Below base W2 W
  n : W.heap[nb]? = some (.cells #[.int .i64 y.op, .int .i64 y.d, .int .i64 y.a, .int .i64 y.b, .int .i64 y.t, .int .i64 y.e] 87 (0, 0))
  ne : v.ownBlock ≠ some nb

theorem Op1.write {W2 : World} {base A nb : Nat} {r : Int} {y : Nd} {out : List Nd} {g L vc : Nat} {W : World} (h : Op1 W2 base A nb r y out (.slice (some ⟨g, 0, none⟩) L vc) W) (hL : L = out.length) {k i : Nat} {x y' : Nd} {u : Value} (hx : out[k]? = some x) (hi : i < 6) (hu : (encNd x).set i u = encNd y') :
    Op1 W2 base A nb r y (out.set k y') (.slice (some ⟨g, 0, none⟩) L vc) (W.setCell ⟨g, k * 6 + i, none⟩ u) := by
  subst hL
  have hk : k < out.length := by
    rw [List.getElem?_eq_some_iff] at hx; exact hx.1
  have hA : A ≠ g := fun e => owns_ne_ty h.row h.o (by decide) (by rw [e]; rfl)
  have hnb : nb ≠ g := fun e => h.ne (by rw [e]; rfl)
  have hw := owns_write (u := u) h.row (i := k * 6 + i) (by omega)
  rw [flat_set 6 encNd encNd_len out k i x y' u hx hi hu] at hw
  refine ⟨(Below.heap_setCell _ _ _ _ hA).trans h.o, ?_, h.b.setCell (p := ⟨g, k * 6 + i, none⟩) (h.row.lt g rfl).1 _, (Below.heap_setCell _ _ _ _ hnb).trans h.n, h.ne⟩
  rw [List.length_set]; exact hw

theorem Op1.append {W2 : World} {base A nb : Nat} {r : Int} {y x : Nd} {out : List Nd} {g L vc g' cap' : Nat} {W w5 : World} {C : Array Value} {t : TypeId} (h : Op1 W2 base A nb r y out (.slice (some ⟨g, 0, none⟩) L vc) W) (hL : L = out.length) (hl : 1 ≤ out.length) (hbA : base ≤ A)
    (hown : w5.ownsRow base 87 6 (.slice (some ⟨g', 0, none⟩) (L + 1) cap') (L + 1) (out.flatMap encNd ++ encNd x)) (hgrow : (W.alloc (.cells C t)).grownBy w5 (some g)) :
    Op1 W2 base A nb r y (out ++ [x]) (.slice (some ⟨g', 0, none⟩) (L + 1) cap') (w5.setCell ⟨A, 1, none⟩ (.slice (some ⟨g', 0, none⟩) (L + 1) cap')) := by
  subst hL
  have hAl := blk_lt h.o
  have hnl := blk_lt h.n
  have hA : some A ≠ some g := fun e => owns_ne_ty h.row h.o (by decide) e
  have hnb : some nb ≠ some g := fun e => h.ne e.symm
  have o5 := (hgrow.block _ (by simp; omega) hA).trans ((Below.heap_alloc _ _ _ hAl).trans h.o)
  have n5 := (hgrow.block _ (by simp; omega) hnb).trans ((Below.heap_alloc _ _ _ hnl).trans h.n)
  have hbs := h.b.size
  have b5 : Below base W2 w5 := (h.b.alloc (by omega) _).grown hgrow (by simp; omega) (fun j ej => by cases ej; exact (h.row.lt g rfl).1)
  have hne : g' ≠ nb := by
    intro q
    rcases hown.2 with ⟨qq, _⟩ | ⟨g9, cap9, cur9, qq, _, a2, a3, _, a5, _⟩
    · cases qq
    · cases qq
      rw [q, n5] at a2
      cases a2
      simp at a5
      omega
  refine ⟨by rw [blk_set _ o5]; simp, ?_, b5.setCell (p := ⟨A, 1, none⟩) hbA _, (Below.heap_setCell _ _ _ _ (fun e => ?_)).trans n5, fun e => hne (by cases e; rfl)⟩
  · rw [List.length_append, List.flatMap_append, List.flatMap_singleton]
    exact owns_set hown o5 (by decide)
  · exact boxed_ne n5 o5 (by decide) e

theorem Op1.cell {W2 : World} {base A nb : Nat} {r : Int} {y : Nd} {out : List Nd} {g L vc : Nat} {W : World} (h : Op1 W2 base A nb r y out (.slice (some ⟨g, 0, none⟩) L vc) W) {k i : Nat} {x : Nd} {u : Value} (hx : out[k]? = some x) (hi : i < 6) (hu : (encNd x)[i]? = some u) : W.cell? ⟨g, k * 6 + i, none⟩ = some u := by
  have := h.row.cells (g := g) (by
    rcases h.row.2 with ⟨q, _⟩ | ⟨g', cap', cur, q, _⟩
    · cases q
    · cases q; rfl) (k * 6 + i) u (by rw [flatK 6 encNd encNd_len _ k i x hx hi]; exact hu)
  have e : (⟨g, 0, none⟩ : Addr).add (k * 6 + i) = ⟨g, k * 6 + i, none⟩ := by
    cases h : k * 6 + i <;> simp [Addr.add]
  rw [e] at this; exact this
theorem Op1.blk {W2 : World} {base A nb : Nat} {r : Int} {y : Nd} {out : List Nd} {g L vc : Nat} {W : World} (h : Op1 W2 base A nb r y out (.slice (some ⟨g, 0, none⟩) L vc) W) : ∃ cur, W.heap[g]? = some (.cells cur 87 (0, 0)) := by
  rcases h.row.2 with ⟨q, _⟩ | ⟨g', cap', cur, q, _, a2, _⟩
  · cases q
  · cases q; exact ⟨cur, a2⟩
theorem Op1.grown {W2 : World} {base A nb : Nat} {r : Int} {y : Nd} {out : List Nd} {g L vc : Nat} {W w5 : World} {C : Array Value} {t : TypeId} (h : Op1 W2 base A nb r y out (.slice (some ⟨g, 0, none⟩) L vc) W) (hgrow : (W.alloc (.cells C t)).grownBy w5 (some g)) : w5.heap[A]? = some (.cells #[.int .i64 r, .slice (some ⟨g, 0, none⟩) L vc] 24 (0, 0)) := by
  have hAl := blk_lt h.o
  have hA : some A ≠ some g := fun e => owns_ne_ty h.row h.o (by decide) e
  exact (hgrow.block _ (by simp; omega) hA).trans ((Below.heap_alloc _ _ _ hAl).trans h.o)
theorem Op1.below {W2 : World} {base A nb : Nat} {r : Int} {y : Nd} {out : List Nd} {v : Value} {W W' : World} (h : Op1 W2 base A nb r y out v W) (hb : base ≤ W.heap.size) (hB : Below W.heap.size W W') : Op1 W2 base A nb r y out v W' :=
  ⟨(hB.block _ (blk_lt h.o)).trans h.o, ownsRow_below h.row hB (Nat.le_refl _), h.b.trans (hB.mono hb), (hB.block _ (blk_lt h.n)).trans h.n, h.ne⟩

end Go.Proofs.Ytoikglgnmjjpcaa

namespace Go.Proofs.Ytoikglgnmjjpcaa
open Go.RowKit Go.Shelf
set_option linter.unusedVariables false

set_option maxRecDepth 100000 in
set_option maxHeartbeats 4000000 in
theorem splitOf_any (r : Int) (b off cap : Nat) (ns : List Nd) (w : World) (hN : NodesAt w b off ns) (hc : chk r ns = 0) :
    Calls Try.prog 36 #[.agg #[.int .i64 r, .slice (some ⟨b, off, none⟩) ns.length cap]] w fun e w' => ∃ v1 v2 er, e = .returned (.tuple #[.agg #[.int .i64 v1, v2], .int .i64 er]) ∧ ((splitN ns).length ≤ 256 ∧ v1 = r ∧ er = 0 ∧ w'.ownsRow w.heap.size 87 6 v2 (splitN ns).length ((splitN ns).flatMap encNd) ∨ 256 < (splitN ns).length ∧ v1 = 0 ∧ er = 2 ∧ v2 = .slice none 0 0) ∧ Below w.heap.size w w' := by
  have hl := (chk_zero hc).1
  obtain ⟨i0, hi0, hz0, hz1, hz2⟩ := info_parts info_node
  go_enter Try.func36, Try.ntmps36
  go_upto_region 1 with fail
  have hb0 : Below w.heap.size w ((w.alloc (.cells #[.int .i64 r, .slice (some ⟨b, off, none⟩) ns.length cap] 24)).alloc (.cells #[.int .i64 0, .slice none 0 0] 24)) := ((Below.refl _ w).alloc (Nat.le_refl _) _).alloc (by simp) _
  have p0 : ((w.alloc (.cells #[.int .i64 r, .slice (some ⟨b, off, none⟩) ns.length cap] 24)).alloc (.cells #[.int .i64 0, .slice none 0 0] 24)).heap[w.heap.size]? = some (.cells #[.int .i64 r, .slice (some ⟨b, off, none⟩) ns.length cap] 24 (0, 0)) := (Below.heap_alloc _ _ _ (by simp)).trans (World.alloc_heap_new w _)
  have p1 : ((w.alloc (.cells #[.int .i64 r, .slice (some ⟨b, off, none⟩) ns.length cap] 24)).alloc (.cells #[.int .i64 0, .slice none 0 0] 24)).heap[w.heap.size + 1]? = some (.cells #[.int .i64 0, .slice none 0 0] 24 (0, 0)) := by
    have := World.alloc_heap_new (w.alloc (.cells #[.int .i64 r, .slice (some ⟨b, off, none⟩) ns.length cap] 24)) (.cells #[.int .i64 0, .slice none 0 0] 24)
    rwa [World.size_alloc] at this
  have hsz : ((w.alloc (.cells #[.int .i64 r, .slice (some ⟨b, off, none⟩) ns.length cap] 24)).alloc (.cells #[.int .i64 0, .slice none 0 0] 24)).heap.size = w.heap.size + 2 := by simp
  generalize ((w.alloc (.cells #[.int .i64 r, .slice (some ⟨b, off, none⟩) ns.length cap] 24)).alloc (.cells #[.int .i64 0, .slice none 0 0] 24)) = W2 at hb0 p0 p1 hsz ⊢
  have q0 := blk_cell p0 0
  have q1 := blk_cell p0 1
  simp at q0 q1
  have hop := callsIn_wide.1 (ownProg_in r b off cap ns W2 (hN.below hb0 hN.lt) (by omega))
  rw [hsz] at hop
  have HOP := hide hop
  clear hop
  have hz2' : w.heap.size < W2.heap.size := by omega
  go_upto_region 2 with (go_at_call 78; refine HOP.out.mono ?_; rintro e w1 ⟨v0, rfl, hV0, hB0⟩; obtain ⟨va0, vc0, rfl⟩ := owns_slice hV0)
  have hs1 := hB0.size
  have hO0 : (w1.alloc (.cells #[.int .i64 r, .slice va0 ns.length vc0] 24)).heap[w1.heap.size]? = some (.cells #[.int .i64 r, .slice va0 ns.length vc0] 24 (0, 0)) := World.alloc_heap_new w1 _
  have hBo : Below (w.heap.size + 2) W2 (w1.alloc (.cells #[.int .i64 r, .slice va0 ns.length vc0] 24)) := by
    exact hB0.alloc (by omega) _
  have hV1 := hV0.alloc (.cells #[.int .i64 r, .slice va0 ns.length vc0] 24)
  generalize w1.alloc (.cells #[.int .i64 r, .slice va0 ns.length vc0] 24) = WO at hO0 hBo hV1 ⊢
  have hbase : w.heap.size + 2 ≤ w1.heap.size := by omega
  clear hV0 hB0 hs1 HOP
  generalize w1.heap.size = A at hO0 hbase ⊢
  go_wp2
  go_loopw [5] (fun i wr => ∃ (k : Nat) (v : Value), k ≤ ns.length ∧ i = .int .i64 k ∧ wr.heap[A]? = some (.cells #[.int .i64 r, v] 24 (0, 0)) ∧ wr.ownsRow (w.heap.size + 2) 87 6 v (splTo ns k).length ((splTo ns k).flatMap encNd) ∧ Below (w.heap.size + 2) W2 wr) (fun i _ => ns.length - (intOf i).toNat)
  case atStart => exact ⟨0, _, Nat.zero_le _, rfl, hO0, hV1, hBo⟩
  case round =>
    obtain ⟨k, v, hk, rfl, hO, hV, hB⟩ := hrel
    have hs := hB.size
    have hal := blk_lt hO
    have hsp := splTo_len ns k
    have qr := (hB.cell (p := ⟨w.heap.size, 1, none⟩) (by simp)).trans q1
    have qr0 := (hB.cell (p := ⟨w.heap.size, 0, none⟩) (by simp)).trans q0
    have hl1 : w.heap.size < wr.heap.size := by omega
    obtain ⟨va, vc, hve⟩ := owns_slice hV
    subst hve
    by_cases hlt : k < ns.length
    · have hki : (k : Int) < (ns.length : Int) := by omega
      obtain ⟨y, hy⟩ := get_lt hlt
      have hN1 := hN.below (hb0.trans (hB.mono (by omega))) hN.lt
      have c0 := hN1.c0 k y hy
      have c1 := hN1.c1 k y hy
      have c2 := hN1.c2 k y hy
      have c3 := hN1.c3 k y hy
      have c4 := hN1.c4 k y hy
      have c5 := hN1.c5 k y hy
      have hblt := hN1.lt
      have hyn := nd_get hy
      have HYN := hide hyn
      have HV := hide hV
      have HO := hide hO
      have HFU : Hid (Full r ns.length y) := by
        have := chk_at hc hlt
        rw [hyn] at this; exact this
      have HBa : Hid (Below wr.heap.size wr (wr.alloc (.cells #[.int .i64 y.op, .int .i64 y.d, .int .i64 y.a, .int .i64 y.b, .int .i64 y.t, .int .i64 y.e] 87))) := (Below.refl _ wr).alloc (Nat.le_refl _) _
      have HNB : Hid ((wr.alloc (.cells #[.int .i64 y.op, .int .i64 y.d, .int .i64 y.a, .int .i64 y.b, .int .i64 y.t, .int .i64 y.e] 87)).heap[wr.heap.size]? = some (.cells #[.int .i64 y.op, .int .i64 y.d, .int .i64 y.a, .int .i64 y.b, .int .i64 y.t, .int .i64 y.e] 87 (0, 0))) := World.alloc_heap_new wr _
      clear hN1 hy hyn hV hO
      by_cases h0 : y.op = 0
      · have HS := hide (show splTo ns (k + 1) = splTo ns k by rw [splTo_succ, spl2, HYN.out, if_pos h0])
        rw [h0] at c0 HBa
        clear h0 HNB
        go_wp2
        go_roundw
        case rel => exact ⟨k + 1, _, by omega, by go_num, (HBa.out.block _ hal).trans HO.out, by rw [HS.out]; exact ownsRow_below HV.out HBa.out (Nat.le_refl _), hB.trans (HBa.out.mono (by omega))⟩
        case measure => simp [intOf]; omega
      · have h0b : (y.op == 0) = false := by simp [h0]
        have HS := hide (show splTo ns (k + 1) = (exo y).foldl (spl1 ns k) (splTo ns k) by rw [splTo_succ, spl2, HYN.out, if_neg h0])
        clear h0
        by_cases h12 : y.op = 12
        · have HS2 := hide (show (exo y).foldl (spl1 ns k) (splTo ns k) = splTo ns k by unfold exo; rw [h12]; rfl)
          rw [h12] at c0 HBa h0b
          clear h12 HNB
          go_wp2
          go_roundw
          case rel => exact ⟨k + 1, _, by omega, by go_num, (HBa.out.block _ hal).trans HO.out, by rw [HS.out, HS2.out]; exact ownsRow_below HV.out HBa.out (Nat.le_refl _), hB.trans (HBa.out.mono (by omega))⟩
          case measure => simp [intOf]; omega
        · have h12b : (y.op == 12) = false := by simp [h12]
          have hahA : ∀ (W : World), Below wr.heap.size wr W → Calls Try.prog 17 #[.agg #[.int .i64 r, .slice (some ⟨b, off, none⟩) ns.length cap], .int .i64 y.t] W fun e w' => ∃ v, e = .returned v ∧ w'.ownsRow W.heap.size 3 1 v (pick (ahB ns y.t.toNat) ns.length).length ((pick (ahB ns y.t.toNat) ns.length).map (Value.int .i64)) ∧ Below W.heap.size W w' := fun W h => by
            have := aheadOf_any r b off cap ns y.t.toNat W (hN.below ((hb0.trans (hB.mono (by omega))).trans (h.mono (by omega))) hN.lt) (by omega)
            rwa [Int.toNat_of_nonneg (show 0 ≤ y.t by have := HFU.out.t h12; omega)] at this
          have HAH := hide hahA
          have HN12 := hide h12
          have HL := hide hlt
          clear hahA h12
          go_upto_if 34 with (go_at_call 17; refine (HAH.out _ HBa.out).mono ?_; rintro e w3 ⟨v3, rfl, hv3, hB3⟩; rw [pick_ahl] at hv3; obtain ⟨va3, vc3, rfl⟩ := owns_slice hv3; clear hv3)
          have B3 : Below wr.heap.size wr w3 := HBa.out.trans (hB3.mono (by simp))
          have h3 : Op1 W2 (w.heap.size + 2) A wr.heap.size r y (splTo ns k) (.slice va (splTo ns k).length vc) w3 := ⟨(B3.block _ hal).trans HO.out, ownsRow_below HV.out B3 (Nat.le_refl _), hB.trans (B3.mono (by omega)), (hB3.block _ (by simp)).trans HNB.out, fun e => by have := (HV.out.lt _ e).2; omega⟩
          have hlg : Hid (nd (splTo ns k) k = y) := by show _ = _; rw [splTo_at HL.out k (Nat.le_refl _), HYN.out]
          have hko : k < (splTo ns k).length := by omega
          clear c0 c1 c2 c3 c4 c5 qr qr0 HBa HNB HO HV B3 hB3 hal
          generalize splTo ns k = out at *
          go_cut [] (fun wx => ∃ v, Op1 W2 (w.heap.size + 2) A wr.heap.size r y (spl1 ns k out y.t) v wx)
          case first =>
            by_cases hm : 1 < (ahl ns y.t.toNat).length
            · have hmi : (2 : Int) ≤ ((ahl ns y.t.toNat).length : Int) := by omega
              have HSP := hide (spl1_first HFU.out HN12.out hlg.out hm)
              obtain ⟨g, vc', hge, -, -⟩ := h3.row.form (by omega)
              cases hge
              obtain ⟨z, hz⟩ := get_lt hko
              have hzy : z = y := by rw [← nd_get hz, hlg.out]
              rw [hzy] at hz
              obtain ⟨L, hLL⟩ : ∃ L, L = out.length := ⟨_, rfl⟩
              rw [← hLL] at h3 hko hsp
              have hki2 : (k : Int) < (L : Int) := by omega
              clear hm hzy
              have HLL := hide hLL
              clear hLL
              have kc := h3.cell hz (i := 4) (by decide) rfl
              obtain ⟨cur, hgc⟩ := h3.blk
              have kf := blk_frozen hgc (k * 6 + 4)
              have o1 := blk_cell h3.o 1
              simp at o1
              have hAl := blk_lt h3.o
              have hgl := blk_lt hgc
              clear hgc
              go_upto_region 9 with fail
              have h4 := h3.write HLL.out hz (i := 4) (y' := { y with t := (L : Int) }) (u := .int .i64 (L : Int)) (by decide) rfl
              generalize w3.setCell ⟨g, k * 6 + 4, none⟩ (.int .i64 (L : Int)) = w4 at h4 ⊢
              clear kc kf o1 hAl hgl cur h3
              have hzb : (out.set k { y with t := (L : Int) })[k]? = some { y with t := (L : Int) } := List.getElem?_set_self (by rw [← HLL.out]; exact hko)
              have n0 := blk_cell h4.n 0
              have n5 := blk_cell h4.n 5
              have n4' := blk_cell h4.n 4
              simp at n0 n5 n4'
              have hNl' := blk_lt h4.n
              by_cases h11 : y.op = 11
              · have H11 := hide h11
                rw [h11] at n0
                clear h11
                by_cases het : y.e = y.t
                · have HET := hide het
                  rw [het] at n5
                  clear het
                  go_upto_region 10 with fail
                  have kc := h4.cell hzb (i := 5) (by decide) rfl
                  obtain ⟨cur, hgc⟩ := h4.blk
                  have kf := blk_frozen hgc (k * 6 + 5)
                  have o1 := blk_cell h4.o 1
                  simp at o1
                  have hAl := blk_lt h4.o
                  have hgl := blk_lt hgc
                  clear hgc
                  go_upto_region 11 with fail
                  have h5 := h4.write (by rw [List.length_set]; exact HLL.out) hzb (i := 5) (y' := { y with t := (L : Int), e := (L : Int) }) (u := .int .i64 (L : Int)) (by decide) rfl
                  generalize w4.setCell ⟨g, k * 6 + 5, none⟩ (.int .i64 (L : Int)) = w5 at h5 ⊢
                  rw [List.set_set] at h5
                  clear kc kf o1 hAl hgl cur h4
                  clear n0 n5 n4' hNl'
                  have o1 := blk_cell h5.o 1
                  have n4 := blk_cell h5.n 4
                  simp at o1 n4
                  have hAl := blk_lt h5.o
                  have hNl := blk_lt h5.n
                  have hbs := h5.b.size
                  have HX := hide h5
                  have hrow := h5.row
                  rw [List.length_set, ← HLL.out] at hrow
                  have HROW := hide hrow
                  clear h5 hrow
                  go_wp2_with (at_builtin; refine wpList_append_own _ rfl _ _ 22 rfl (w.heap.size + 2) 87 i0 _ 6 48 Try.underlying22 hi0 hz0 hz1 hz2 rfl (by decide) _ _ _ rfl (HROW.out.alloc _) ⟨w5.heap.size, 0, none⟩ 1 1 (encNd (skp y.t)) rfl rfl ?cells (by simp [encNd, skp, Value.oneCell']) (by unfold maxLen; omega) (by omega) (by simp; omega) ?_)
                  case cells =>
                    intro j u hj
                    first
                      | (rw [show (⟨w5.heap.size, 0, none⟩ : Addr).add j = ⟨w5.heap.size, j, none⟩ by cases j <;> simp [Addr.add], World.cell?_alloc_at _ _ _ _ rfl]; simpa [encNd, skp] using hj)
                      | simpa [encNd, skp] using hj
                  intro v' w6 hown' hgrow _
                  obtain ⟨g', cap', rfl⟩ := ownsRow_succ hown'
                  have hgr := HX.out.grown hgrow
                  have m0 := blk_cell hgr 1
                  have m1 := blk_frozen hgr 1
                  have m2 := blk_lt hgr
                  simp at m0
                  have HF := hide (HX.out.append (x := skp y.t) (by simp only [List.length_set]; exact HLL.out) (by simp only [List.length_set]; rw [← HLL.out]; omega) hbase hown' hgrow)
                  clear hown' hgrow hgr o1 n4 hAl hNl
                  go_wp2
                  go_meet
                  case rel => exact ⟨_, by rw [show spl1 ns k out y.t = out.set k { y with t := (L : Int), e := (L : Int) } ++ [skp y.t] by rw [HSP.out, if_pos ⟨H11.out, HET.out⟩, HLL.out]]; exact HF.out⟩
                · have HET := hide het
                  have heb : (y.e == y.t) = false := by simp [het]
                  clear het
                  go_upto_region 11 with fail
                  clear n0 n5 n4' hNl'
                  have o1 := blk_cell h4.o 1
                  have n4 := blk_cell h4.n 4
                  simp at o1 n4
                  have hAl := blk_lt h4.o
                  have hNl := blk_lt h4.n
                  have hbs := h4.b.size
                  have HX := hide h4
                  have hrow := h4.row
                  rw [List.length_set, ← HLL.out] at hrow
                  have HROW := hide hrow
                  clear h4 hrow
                  go_wp2_with (at_builtin; refine wpList_append_own _ rfl _ _ 22 rfl (w.heap.size + 2) 87 i0 _ 6 48 Try.underlying22 hi0 hz0 hz1 hz2 rfl (by decide) _ _ _ rfl (HROW.out.alloc _) ⟨w4.heap.size, 0, none⟩ 1 1 (encNd (skp y.t)) rfl rfl ?cells (by simp [encNd, skp, Value.oneCell']) (by unfold maxLen; omega) (by omega) (by simp; omega) ?_)
                  case cells =>
                    intro j u hj
                    first
                      | (rw [show (⟨w4.heap.size, 0, none⟩ : Addr).add j = ⟨w4.heap.size, j, none⟩ by cases j <;> simp [Addr.add], World.cell?_alloc_at _ _ _ _ rfl]; simpa [encNd, skp] using hj)
                      | simpa [encNd, skp] using hj
                  intro v' w6 hown' hgrow _
                  obtain ⟨g', cap', rfl⟩ := ownsRow_succ hown'
                  have hgr := HX.out.grown hgrow
                  have m0 := blk_cell hgr 1
                  have m1 := blk_frozen hgr 1
                  have m2 := blk_lt hgr
                  simp at m0
                  have HF := hide (HX.out.append (x := skp y.t) (by simp only [List.length_set]; exact HLL.out) (by simp only [List.length_set]; rw [← HLL.out]; omega) hbase hown' hgrow)
                  clear hown' hgrow hgr o1 n4 hAl hNl
                  go_wp2
                  go_meet
                  case rel => exact ⟨_, by rw [show spl1 ns k out y.t = out.set k { y with t := (L : Int) } ++ [skp y.t] by rw [HSP.out, if_neg (by simp [HET.out]), HLL.out]]; exact HF.out⟩
              · have HET := hide h11
                have h11b : (y.op == 11) = false := by simp [h11]
                clear h11
                go_upto_region 11 with fail
                clear n0 n5 n4' hNl'
                have o1 := blk_cell h4.o 1
                have n4 := blk_cell h4.n 4
                simp at o1 n4
                have hAl := blk_lt h4.o
                have hNl := blk_lt h4.n
                have hbs := h4.b.size
                have HX := hide h4
                have hrow := h4.row
                rw [List.length_set, ← HLL.out] at hrow
                have HROW := hide hrow
                clear h4 hrow
                go_wp2_with (at_builtin; refine wpList_append_own _ rfl _ _ 22 rfl (w.heap.size + 2) 87 i0 _ 6 48 Try.underlying22 hi0 hz0 hz1 hz2 rfl (by decide) _ _ _ rfl (HROW.out.alloc _) ⟨w4.heap.size, 0, none⟩ 1 1 (encNd (skp y.t)) rfl rfl ?cells (by simp [encNd, skp, Value.oneCell']) (by unfold maxLen; omega) (by omega) (by simp; omega) ?_)
                case cells =>
                  intro j u hj
                  first
                    | (rw [show (⟨w4.heap.size, 0, none⟩ : Addr).add j = ⟨w4.heap.size, j, none⟩ by cases j <;> simp [Addr.add], World.cell?_alloc_at _ _ _ _ rfl]; simpa [encNd, skp] using hj)
                    | simpa [encNd, skp] using hj
                intro v' w6 hown' hgrow _
                obtain ⟨g', cap', rfl⟩ := ownsRow_succ hown'
                have hgr := HX.out.grown hgrow
                have m0 := blk_cell hgr 1
                have m1 := blk_frozen hgr 1
                have m2 := blk_lt hgr
                simp at m0
                have HF := hide (HX.out.append (x := skp y.t) (by simp only [List.length_set]; exact HLL.out) (by simp only [List.length_set]; rw [← HLL.out]; omega) hbase hown' hgrow)
                clear hown' hgrow hgr o1 n4 hAl hNl
                go_wp2
                go_meet
                case rel => exact ⟨_, by rw [show spl1 ns k out y.t = out.set k { y with t := (L : Int) } ++ [skp y.t] by rw [HSP.out, if_neg (by simp [HET.out]), HLL.out]]; exact HF.out⟩
            · have hmi : ¬ (2 : Int) ≤ ((ahl ns y.t.toNat).length : Int) := by omega
              have HSP := hide (show spl1 ns k out y.t = out by unfold spl1; rw [if_neg hm])
              have H3 := hide h3
              clear hm h3
              go_wp2
              go_meet
              case rel => exact ⟨_, by rw [HSP.out]; exact H3.out⟩
          case rest =>
            obtain ⟨v, h1⟩ := hcut
            have HOL := hide (spl1_len ns k out y.t)
            have hol := HOL.out
            have n0 := blk_cell h1.n 0
            have n5 := blk_cell h1.n 5
            have n4' := blk_cell h1.n 4
            simp at n0 n5 n4'
            have hNl' := blk_lt h1.n
            have hbs1 := h1.b.size
            by_cases h11 : y.op = 11
            · have H11 := hide h11
              rw [h11] at n0
              clear h11
              by_cases het : y.e = y.t
              · have HXO := hide (show splTo ns (k + 1) = spl1 ns k out y.t by rw [HS.out]; unfold exo; rw [if_pos H11.out, if_pos het]; rfl)
                rw [het] at n5
                clear het
                have H1 := hide h1
                clear h1
                go_wp2
                go_roundw
                case rel => exact ⟨k + 1, _, by omega, by go_num, H1.out.o, by rw [HXO.out]; exact H1.out.row, H1.out.b⟩
                case measure => simp [intOf]; omega
              · have HET := hide het
                have heb : (y.e != y.t) = true := by simp [het]
                have HXO := hide (show splTo ns (k + 1) = spl1 ns k (spl1 ns k out y.t) y.e by rw [HS.out]; unfold exo; rw [if_pos H11.out, if_neg het]; rfl)
                clear het
                have H1 := hide h1
                have hahE : ∀ (W : World), Below (w.heap.size + 2) W2 W → Calls Try.prog 17 #[.agg #[.int .i64 r, .slice (some ⟨b, off, none⟩) ns.length cap], .int .i64 y.e] W fun e w' => ∃ v, e = .returned v ∧ w'.ownsRow W.heap.size 3 1 v (pick (ahB ns y.e.toNat) ns.length).length ((pick (ahB ns y.e.toNat) ns.length).map (Value.int .i64)) ∧ Below W.heap.size W w' := fun W h => by
                  have := aheadOf_any r b off cap ns y.e.toNat W (hN.below (hb0.trans (h.mono (by omega))) hN.lt) (by omega)
                  rwa [Int.toNat_of_nonneg (show 0 ≤ y.e by have := HFU.out.e H11.out; omega)] at this
                have HAE := hide hahE
                have qr := (h1.b.cell (p := ⟨w.heap.size, 1, none⟩) (by simp)).trans q1
                have qr0 := (h1.b.cell (p := ⟨w.heap.size, 0, none⟩) (by simp)).trans q0
                have hlw : w.heap.size < wc.heap.size := by omega
                clear hahE h1
                go_upto_if 86 with (go_at_call 17; refine (HAE.out _ H1.out.b).mono ?_; rintro e w7 ⟨v7, rfl, hv7, hB7⟩; rw [pick_ahl] at hv7; obtain ⟨va7, vc7, rfl⟩ := owns_slice hv7; clear hv7)
                have h7 := H1.out.below (by omega) hB7
                clear n0 n5 n4' hNl' qr qr0 H1
                by_cases hm : 1 < (ahl ns y.e.toNat).length
                · have hmi : (2 : Int) ≤ ((ahl ns y.e.toNat).length : Int) := by omega
                  have HSP := hide (spl1_second HFU.out H11.out HET.out hsp.2 hko hlg.out hm)
                  have hko1 : k < (spl1 ns k out y.t).length := by omega
                  obtain ⟨g, vc', hge, -, -⟩ := h7.row.form (by omega)
                  subst hge
                  generalize spl1 ns k out y.t = o1 at *
                  obtain ⟨z, hz⟩ := get_lt hko1
                  have hzy : nd o1 k = z := nd_get hz
                  rw [hzy] at HSP
                  obtain ⟨L, hLL⟩ : ∃ L, L = o1.length := ⟨_, rfl⟩
                  rw [← hLL] at h7 hko1 hol
                  have hki2 : (k : Int) < (L : Int) := by omega
                  have HLL := hide hLL
                  clear hm hzy hLL
                  have kc := h7.cell hz (i := 5) (by decide) rfl
                  obtain ⟨cur, hgc⟩ := h7.blk
                  have kf := blk_frozen hgc (k * 6 + 5)
                  have o1c := blk_cell h7.o 1
                  simp at o1c
                  have hAl := blk_lt h7.o
                  have hgl := blk_lt hgc
                  clear hgc
                  go_upto_region 14 with fail
                  have h8 := h7.write HLL.out hz (i := 5) (y' := { z with e := (L : Int) }) (u := .int .i64 (L : Int)) (by decide) rfl
                  generalize w7.setCell ⟨g, k * 6 + 5, none⟩ (.int .i64 (L : Int)) = w8 at h8 ⊢
                  clear kc kf o1c hAl hgl cur h7
                  have o1c := blk_cell h8.o 1
                  have n4 := blk_cell h8.n 5
                  simp at o1c n4
                  have hAl := blk_lt h8.o
                  have hNl := blk_lt h8.n
                  have hbs := h8.b.size
                  have HX := hide h8
                  have hrow := h8.row
                  rw [List.length_set, ← HLL.out] at hrow
                  have HROW := hide hrow
                  clear h8 hrow
                  go_wp2_with (at_builtin; refine wpList_append_own _ rfl _ _ 22 rfl (w.heap.size + 2) 87 i0 _ 6 48 Try.underlying22 hi0 hz0 hz1 hz2 rfl (by decide) _ _ _ rfl (HROW.out.alloc _) ⟨w8.heap.size, 0, none⟩ 1 1 (encNd (skp y.e)) rfl rfl ?cells (by simp [encNd, skp, Value.oneCell']) (by unfold maxLen; omega) (by omega) (by simp; omega) ?_)
                  case cells =>
                    intro j u hj
                    first
                      | (rw [show (⟨w8.heap.size, 0, none⟩ : Addr).add j = ⟨w8.heap.size, j, none⟩ by cases j <;> simp [Addr.add], World.cell?_alloc_at _ _ _ _ rfl]; simpa [encNd, skp] using hj)
                      | simpa [encNd, skp] using hj
                  intro v' w9 hown' hgrow _
                  obtain ⟨g', cap', rfl⟩ := ownsRow_succ hown'
                  have hgr := HX.out.grown hgrow
                  have m0 := blk_cell hgr 1
                  have m1 := blk_frozen hgr 1
                  have m2 := blk_lt hgr
                  simp at m0
                  have HF := hide (HX.out.append (x := skp y.e) (by simp only [List.length_set]; exact HLL.out) (by simp only [List.length_set]; rw [← HLL.out]; omega) hbase hown' hgrow)
                  clear hown' hgrow hgr o1c n4 hAl hNl
                  go_wp2
                  go_roundw
                  case rel => exact ⟨k + 1, _, by omega, by go_num, HF.out.o, by rw [HXO.out, HSP.out, ← HLL.out]; exact HF.out.row, HF.out.b⟩
                  case measure => simp [intOf]; omega
                · have hmi : ¬ (2 : Int) ≤ ((ahl ns y.e.toNat).length : Int) := by omega
                  have HSP := hide (show spl1 ns k (spl1 ns k out y.t) y.e = spl1 ns k out y.t by
                    generalize spl1 ns k out y.t = o1
                    unfold spl1; rw [if_neg hm])
                  have H7 := hide h7
                  clear hm h7
                  go_wp2
                  go_roundw
                  case rel => exact ⟨k + 1, _, by omega, by go_num, H7.out.o, by rw [HXO.out, HSP.out]; exact H7.out.row, H7.out.b⟩
                  case measure => simp [intOf]; omega
            · have h11b : (y.op == 11) = false := by simp [h11]
              have HXO := hide (show splTo ns (k + 1) = spl1 ns k out y.t by
                rw [HS.out]; unfold exo
                have := HFU.out.op
                have := HN12.out
                rw [if_neg h11, if_pos (by rw [wi_iff]; omega)]; rfl)
              have H1 := hide h1
              clear h1 h11
              go_wp2
              go_roundw
              case rel => exact ⟨k + 1, _, by omega, by go_num, H1.out.o, by rw [HXO.out]; exact H1.out.row, H1.out.b⟩
              case measure => simp [intOf]; omega
    · have ek : k = ns.length := by omega
      subst ek
      have R0 := (hB.block _ (by omega)).trans p0
      have R1 := (hB.block (w.heap.size + 1) (by omega)).trans p1
      have e0 := blk_cell R1 0
      have e1 := blk_cell R1 1
      have f0 := blk_frozen R1 0
      have f1 := blk_frozen R1 1
      have o0 := blk_cell hO 0
      have o1 := blk_cell hO 1
      simp at e0 e1 o0 o1
      have hl2 : w.heap.size + 1 < wr.heap.size := by omega
      have HV := hide hV
      have HR1 := hide R1
      have hspl : splTo ns ns.length = splitN ns := rfl
      rw [hspl] at HV o1 hsp
      clear hV R0 R1 hO hspl
      by_cases hbig : 256 < (splitN ns).length
      · have hbi : (256 : Int) < ((splitN ns).length : Int) := by omega
        have HBG := hide hbig
        clear hbig
        go_wp2
        have hk2 : ((wr.setCell ⟨w.heap.size + 1, 0, none⟩ (.int .i64 0)).setCell ⟨w.heap.size + 1, 1, none⟩ (.slice none 0 0)).heap[w.heap.size + 1]? = some (.cells #[.int .i64 0, .slice none 0 0] 24 (0, 0)) := by
          rw [blk_set _ (blk_set _ HR1.out)]; simp
        have a0 := blk_cell hk2 0
        have a1 := blk_cell hk2 1
        simp at a0 a1
        refine bodyPost_ret (v := .tuple #[.agg #[.int .i64 0, .slice none 0 0], .int .i64 2]) (by simp [results, Try.results36, go_sem, a0, a1]) rfl ⟨_, _, _, rfl, ?_, ((hb0.trans (hB.mono (by omega))).setCell (p := ⟨w.heap.size + 1, 0, none⟩) (by simp) _).setCell (p := ⟨w.heap.size + 1, 1, none⟩) (by simp) _⟩
        first
          | exact Or.inr ⟨HBG.out, rfl, rfl, rfl⟩
          | exact ⟨rfl, rfl, rfl⟩
      · have hbi : ¬ (256 : Int) < ((splitN ns).length : Int) := by omega
        have HBG := hide hbig
        clear hbig
        go_wp2
        have hk2 : ((wr.setCell ⟨w.heap.size + 1, 0, none⟩ (.int .i64 r)).setCell ⟨w.heap.size + 1, 1, none⟩ (.slice va (splitN ns).length vc)).heap[w.heap.size + 1]? = some (.cells #[.int .i64 r, .slice va (splitN ns).length vc] 24 (0, 0)) := by
          rw [blk_set _ (blk_set _ HR1.out)]; simp
        have a0 := blk_cell hk2 0
        have a1 := blk_cell hk2 1
        simp at a0 a1
        have o2 := owns_set (o := 1) (u := .slice va (splitN ns).length vc) (owns_set (o := 0) (u := .int .i64 r) HV.out HR1.out (by decide)) (blk_set _ HR1.out) (by decide)
        refine bodyPost_ret (v := .tuple #[.agg #[.int .i64 r, .slice va (splitN ns).length vc], .int .i64 0]) (by simp [results, Try.results36, go_sem, a0, a1]) rfl ⟨_, _, _, rfl, ?_, ((hb0.trans (hB.mono (by omega))).setCell (p := ⟨w.heap.size + 1, 0, none⟩) (by simp) _).setCell (p := ⟨w.heap.size + 1, 1, none⟩) (by simp) _⟩
        have o3 := ownsRow_base (base' := w.heap.size) o2 (by omega)
        have hle := Nat.not_lt.1 HBG.out
        first
          | exact Or.inl ⟨hle, rfl, rfl, o3⟩
          | exact ⟨hle, rfl, rfl, o3⟩
          | exact Or.inl ⟨rfl, rfl, o3⟩
end Go.Proofs.Ytoikglgnmjjpcaa

