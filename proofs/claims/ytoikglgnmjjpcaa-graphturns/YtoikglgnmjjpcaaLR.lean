/-
  hoistwayref.SplitOf, walked.
-/
import Derived.Test.YtoikglgnmjjpcaaLP
import Derived.Test.YtoikglgnmjjpcaaLJ
import Derived.Test.YtoikglgnmjjpcaaI
import Derived.Deep.DeepCutAuto
namespace Go.Proofs.Ytoikglgnmjjpcaa
open Go.RowKit Go.Shelf
set_option linter.unusedVariables false

theorem spl1_at {ns : List Nd} {n : Nat} {out : List Nd} {m : Int} {j : Nat} (h : j ≠ n) (hj : j < out.length) : nd (spl1 ns n out m) j = nd out j := by
  unfold spl1
  split
  · simp only [nd, List.getD_eq_getElem?_getD]
    rw [List.getElem?_append_left (by simpa using hj), List.getElem?_set_ne (Ne.symm h)]
  · rfl
theorem spl1s_at {ns : List Nd} {n j : Nat} (h : j ≠ n) : ∀ (l : List Int) (out : List Nd), j < out.length → nd (l.foldl (spl1 ns n) out) j = nd out j
  | [], _, _ => rfl
  | m :: l, out, hj => by
    rw [List.foldl_cons, spl1s_at h l _ (Nat.lt_of_lt_of_le hj (spl1_len ns n out m).2), spl1_at h hj]
theorem splTo_at {ns : List Nd} {j : Nat} (hj : j < ns.length) : ∀ k, k ≤ j → nd (splTo ns k) j = nd ns j
  | 0, _ => rfl
  | k + 1, h => by
    rw [splTo_succ, spl2]
    have ih := splTo_at hj k (by omega)
    split
    · exact ih
    · rw [spl1s_at (by omega) _ _ (Nat.lt_of_lt_of_le hj (splTo_len ns k).2), ih]

/-- What the first exit makes of it. -/
theorem spl1_first {r : Int} {ns : List Nd} {k : Nat} {out : List Nd} {y : Nd} (hF : Full r ns.length y) (h12 : y.op ≠ 12) (hy : nd out k = y) (hm : 1 < (ahl ns y.t.toNat).length) :
    spl1 ns k out y.t = out.set k { y with t := out.length, e := if y.op = 11 ∧ y.e = y.t then out.length else y.e } ++ [skp y.t] := by
  unfold spl1
  rw [if_pos hm, hy]
  have ht := hF.t h12
  congr 2
  simp only [trn]
  congr 1
  by_cases h11 : y.op = 11
  · simp [h11]
  · have := hF.e0 h11
    rw [if_neg (by omega), if_neg (by simp [h11])]
/-- .. and the second. -/
theorem spl1_second {r : Int} {ns : List Nd} {k : Nat} {out : List Nd} {y : Nd} (hF : Full r ns.length y) (h11 : y.op = 11) (hne : y.e ≠ y.t) (hlo : ns.length ≤ out.length) (hk : k < out.length) (hy : nd out k = y) (hm : 1 < (ahl ns y.e.toNat).length) :
    spl1 ns k (spl1 ns k out y.t) y.e = (spl1 ns k out y.t).set k { nd (spl1 ns k out y.t) k with e := (spl1 ns k out y.t).length } ++ [skp y.e] := by
  have he := hF.e h11
  have ht := hF.t (by omega)
  have hn : (nd (spl1 ns k out y.t) k).e = y.e ∧ (nd (spl1 ns k out y.t) k).t ≠ y.e := by
    by_cases hmt : 1 < (ahl ns y.t.toNat).length
    · rw [spl1_first hF (by omega) hy hmt]
      have : nd (out.set k { y with t := out.length, e := if y.op = 11 ∧ y.e = y.t then out.length else y.e } ++ [skp y.t]) k = { y with t := out.length, e := if y.op = 11 ∧ y.e = y.t then out.length else y.e } := by
        simp only [nd, List.getD_eq_getElem?_getD]
        rw [List.getElem?_append_left (by simpa using hk), List.getElem?_set_self hk]; rfl
      rw [this]
      refine ⟨?_, ?_⟩
      · simp [hne]
      · simp only; omega
    · have : spl1 ns k out y.t = out := by unfold spl1; rw [if_neg hmt]
      rw [this, hy]
      exact ⟨rfl, Ne.symm hne⟩
  generalize spl1 ns k out y.t = o1 at hn
  unfold spl1
  rw [if_pos hm]
  congr 2
  simp only [trn]
  congr 1
  · rw [if_neg hn.2]
  · rw [if_pos hn.1]

/-- The program that is being made, in its variable; and the node looked at, in its own. -/
structure Op1 (W2 : World) (base A nb : Nat) (r : Int) (y : Nd) (out : List Nd) (v : Value) (W : World) : Prop where
  o : W.heap[A]? = some (.cells #[.int .i64 r, v] 24 (0, 0))
  row : W.ownsRow base 87 6 v out.length (out.flatMap encNd)
  b : Below base W2 W
  n : W.heap[nb]? = some (.cells #[.int .i64 y.op, .int .i64 y.d, .int .i64 y.a, .int .i64 y.b, .int .i64 y.t, .int .i64 y.e] 87 (0, 0))
  ne : v.ownBlock ≠ some nb

theorem Op1.write {W2 : World} {base A nb : Nat} {r : Int} {y : Nd} {out : List Nd} {g L vc : Nat} {W : World} (h : Op1 W2 base A nb r y out (.slice (some ⟨g, 0, none⟩) L vc) W) (hL : L = out.length) {k i : Nat} {x y' : Nd} {u : Value} (hx : out[k]? = some x) (hi : i < 6) (hu : (encNd x).set i u = encNd y') :
    Op1 W2 base A nb r y (out.set k y') (.slice (some ⟨g, 0, none⟩) L vc) (W.setCell ⟨g, k * 6 + i, none⟩ u) := by
  subst hL
  have hk : k < out.length := by
    rw [List.getElem?_eq_some_iff] at hx; exact hx.1
  have hA : A ≠ g := fun e => owns_ne_ty h.row h.o (by decide) (by rw [e]; rfl)
  have hnb : nb ≠ g := fun e => h.ne (by rw [e]; rfl)
  have hw := owns_write (u := u) h.row (i := k * 6 + i) (by omega)
  rw [flat_set 6 encNd encNd_len out k i x y' u hx hi hu] at hw
  refine ⟨(Below.heap_setCell _ _ _ _ hA).trans h.o, ?_, h.b.setCell (p := ⟨g, k * 6 + i, none⟩) (h.row.lt g rfl).1 _, (Below.heap_setCell _ _ _ _ hnb).trans h.n, h.ne⟩
  rw [List.length_set]; exact hw

theorem Op1.append {W2 : World} {base A nb : Nat} {r : Int} {y x : Nd} {out : List Nd} {g L vc g' cap' : Nat} {W w5 : World} {C : Array Value} {t : TypeId} (h : Op1 W2 base A nb r y out (.slice (some ⟨g, 0, none⟩) L vc) W) (hL : L = out.length) (hl : 1 ≤ out.length) (hbA : base ≤ A)
    (hown : w5.ownsRow base 87 6 (.slice (some ⟨g', 0, none⟩) (L + 1) cap') (L + 1) (out.flatMap encNd ++ encNd x)) (hgrow : (W.alloc (.cells C t)).grownBy w5 (some g)) :
    Op1 W2 base A nb r y (out ++ [x]) (.slice (some ⟨g', 0, none⟩) (L + 1) cap') (w5.setCell ⟨A, 1, none⟩ (.slice (some ⟨g', 0, none⟩) (L + 1) cap')) := by
  subst hL
  have hAl := blk_lt h.o
  have hnl := blk_lt h.n
  have hA : some A ≠ some g := fun e => owns_ne_ty h.row h.o (by decide) e
  have hnb : some nb ≠ some g := fun e => h.ne e.symm
  have o5 := (hgrow.block _ (by simp; omega) hA).trans ((Below.heap_alloc _ _ _ hAl).trans h.o)
  have n5 := (hgrow.block _ (by simp; omega) hnb).trans ((Below.heap_alloc _ _ _ hnl).trans h.n)
  have hbs := h.b.size
  have b5 : Below base W2 w5 := (h.b.alloc (by omega) _).grown hgrow (by simp; omega) (fun j ej => by cases ej; exact (h.row.lt g rfl).1)
  have hne : g' ≠ nb := by
    intro q
    rcases hown.2 with ⟨qq, _⟩ | ⟨g9, cap9, cur9, qq, _, a2, a3, _, a5, _⟩
    · cases qq
    · cases qq
      rw [q, n5] at a2
      cases a2
      simp at a5
      omega
  refine ⟨by rw [blk_set _ o5]; simp, ?_, b5.setCell (p := ⟨A, 1, none⟩) hbA _, (Below.heap_setCell _ _ _ _ (fun e => ?_)).trans n5, fun e => hne (by cases e; rfl)⟩
  · rw [List.length_append, List.flatMap_append, List.flatMap_singleton]
    exact owns_set hown o5 (by decide)
  · exact boxed_ne n5 o5 (by decide) e

theorem Op1.cell {W2 : World} {base A nb : Nat} {r : Int} {y : Nd} {out : List Nd} {g L vc : Nat} {W : World} (h : Op1 W2 base A nb r y out (.slice (some ⟨g, 0, none⟩) L vc) W) {k i : Nat} {x : Nd} {u : Value} (hx : out[k]? = some x) (hi : i < 6) (hu : (encNd x)[i]? = some u) : W.cell? ⟨g, k * 6 + i, none⟩ = some u := by
  have := h.row.cells (g := g) (by
    rcases h.row.2 with ⟨q, _⟩ | ⟨g', cap', cur, q, _⟩
    · cases q
    · cases q; rfl) (k * 6 + i) u (by rw [flatK 6 encNd encNd_len _ k i x hx hi]; exact hu)
  have e : (⟨g, 0, none⟩ : Addr).add (k * 6 + i) = ⟨g, k * 6 + i, none⟩ := by
    cases h : k * 6 + i <;> simp [Addr.add]
  rw [e] at this; exact this
theorem Op1.blk {W2 : World} {base A nb : Nat} {r : Int} {y : Nd} {out : List Nd} {g L vc : Nat} {W : World} (h : Op1 W2 base A nb r y out (.slice (some ⟨g, 0, none⟩) L vc) W) : ∃ cur, W.heap[g]? = some (.cells cur 87 (0, 0)) := by
  rcases h.row.2 with ⟨q, _⟩ | ⟨g', cap', cur, q, _, a2, _⟩
  · cases q
  · cases q; exact ⟨cur, a2⟩
theorem Op1.grown {W2 : World} {base A nb : Nat} {r : Int} {y : Nd} {out : List Nd} {g L vc : Nat} {W w5 : World} {C : Array Value} {t : TypeId} (h : Op1 W2 base A nb r y out (.slice (some ⟨g, 0, none⟩) L vc) W) (hgrow : (W.alloc (.cells C t)).grownBy w5 (some g)) : w5.heap[A]? = some (.cells #[.int .i64 r, .slice (some ⟨g, 0, none⟩) L vc] 24 (0, 0)) := by
  have hAl := blk_lt h.o
  have hA : some A ≠ some g := fun e => owns_ne_ty h.row h.o (by decide) e
  exact (hgrow.block _ (by simp; omega) hA).trans ((Below.heap_alloc _ _ _ hAl).trans h.o)
theorem Op1.below {W2 : World} {base A nb : Nat} {r : Int} {y : Nd} {out : List Nd} {v : Value} {W W' : World} (h : Op1 W2 base A nb r y out v W) (hb : base ≤ W.heap.size) (hB : Below W.heap.size W W') : Op1 W2 base A nb r y out v W' :=
  ⟨(hB.block _ (blk_lt h.o)).trans h.o, ownsRow_below h.row hB (Nat.le_refl _), h.b.trans (hB.mono hb), (hB.block _ (blk_lt h.n)).trans h.n, h.ne⟩

end Go.Proofs.Ytoikglgnmjjpcaa
