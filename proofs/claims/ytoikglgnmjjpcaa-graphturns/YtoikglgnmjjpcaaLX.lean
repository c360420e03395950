/-
  hoistwaylaw.GraphTurns, walked: the program is right.
-/
import Derived.Test.YtoikglgnmjjpcaaLU
import Derived.Test.YtoikglgnmjjpcaaE
namespace Go.Proofs.Ytoikglgnmjjpcaa
open Go.RowKit Go.Shelf
set_option linter.unusedVariables false

/-- What Split gives back: a program of n nodes, and an error. -/
def SplitAt (r : Int) (ns : List Nd) (base : Nat) (sr : Int) (sa : Option Addr) (sn sc : Nat) (er : Int) (W : World) : Prop :=
  ((splitN ns).length ≤ 256 ∧ sr = r ∧ er = 0 ∧ sn = (splitN ns).length ∧ W.ownsRow base 87 6 (.slice sa sn sc) (splitN ns).length ((splitN ns).flatMap encNd)) ∨ (256 < (splitN ns).length ∧ sr = 0 ∧ er = 2 ∧ sa = none ∧ sn = 0 ∧ sc = 0)
theorem SplitAt.alloc {r : Int} {ns : List Nd} {base : Nat} {sr : Int} {sa : Option Addr} {sn sc : Nat} {er : Int} {W : World} (h : SplitAt r ns base sr sa sn sc er W) (o : Obj) : SplitAt r ns base sr sa sn sc er (W.alloc o) :=
  h.imp (fun ⟨h1, h2, h3, h4, h5⟩ => ⟨h1, h2, h3, h4, h5.alloc o⟩) id
theorem SplitAt.below {r : Int} {ns : List Nd} {base : Nat} {sr : Int} {sa : Option Addr} {sn sc : Nat} {er : Int} {W W' : World} (h : SplitAt r ns base sr sa sn sc er W) (hB : Below W.heap.size W W') : SplitAt r ns base sr sa sn sc er W' :=
  h.imp (fun ⟨h1, h2, h3, h4, h5⟩ => ⟨h1, h2, h3, h4, ownsRow_below h5 hB (Nat.le_refl _)⟩) id
theorem SplitAt.set {r : Int} {ns : List Nd} {base : Nat} {sr : Int} {sa : Option Addr} {sn sc : Nat} {er : Int} {W : World} {g o : Nat} {u : Value} {vs : Array Value} (h : SplitAt r ns base sr sa sn sc er W) (hb : W.heap[g]? = some (.cells vs 24 (0, 0))) : SplitAt r ns base sr sa sn sc er (W.setCell ⟨g, o, none⟩ u) :=
  h.imp (fun ⟨h1, h2, h3, h4, h5⟩ => ⟨h1, h2, h3, h4, owns_set h5 hb (by decide)⟩) id
/-- What it is made of: the same, whoever reckons it. -/
def splR (r : Int) (ns : List Nd) : Int := if (splitN ns).length ≤ 256 then r else 0
def splE (ns : List Nd) : Int := if (splitN ns).length ≤ 256 then 0 else 2
def splM (ns : List Nd) : List Nd := if (splitN ns).length ≤ 256 then splitN ns else []
theorem SplitAt.form {r : Int} {ns : List Nd} {base : Nat} {sr : Int} {sa : Option Addr} {sn sc : Nat} {er : Int} {W : World} (h : SplitAt r ns base sr sa sn sc er W) : sr = splR r ns ∧ er = splE ns ∧ sn = (splM ns).length ∧ SlN W sa (splM ns) ∧ (splM ns).length ≤ 256 := by
  rcases h with ⟨h1, h2, h3, h4, h5⟩ | ⟨h1, h2, h3, h4, h5, h6⟩
  · simp only [splR, splE, splM, if_pos h1]
    obtain ⟨a, c, e, hs⟩ := nodes_of_owns h5
    cases e
    exact ⟨h2, h3, h4, hs, h1⟩
  · have hn : ¬ (splitN ns).length ≤ 256 := by omega
    simp only [splR, splE, splM, if_neg hn]
    exact ⟨h2, h3, h5, Or.inl rfl, by simp⟩
theorem split_forms {r : Int} {ns : List Nd} {base : Nat} {v1 : Int} {v2 : Value} {er : Int} {W : World} (h : ((splitN ns).length ≤ 256 ∧ v1 = r ∧ er = 0 ∧ W.ownsRow base 87 6 v2 (splitN ns).length ((splitN ns).flatMap encNd) ∨ 256 < (splitN ns).length ∧ v1 = 0 ∧ er = 2 ∧ v2 = .slice none 0 0)) : ∃ sa sn sc, v2 = .slice sa sn sc ∧ SplitAt r ns base v1 sa sn sc er W := by
  rcases h with ⟨h1, h2, h3, h4⟩ | ⟨h1, h2, h3, rfl⟩
  · obtain ⟨a, c, rfl⟩ := owns_slice h4
    exact ⟨a, _, c, rfl, Or.inl ⟨h1, h2, h3, rfl, h4⟩⟩
  · exact ⟨none, 0, 0, rfl, Or.inr ⟨h1, h2, h3, rfl, rfl, rfl⟩⟩
theorem split_form (r : Int) (b off cap : Nat) (ns : List Nd) (w : World) (hN : NodesAt w b off ns) (hc : chk r ns = 0) :
    Calls Try.prog 33 #[.agg #[.int .i64 r, .slice (some ⟨b, off, none⟩) ns.length cap]] w fun e w' => ∃ sr sa sn sc er, e = .returned (.tuple #[.agg #[.int .i64 sr, .slice sa sn sc], .int .i64 er]) ∧ SplitAt r ns w.heap.size sr sa sn sc er w' ∧ Below w.heap.size w w' := by
  refine (callsIn_wide.1 (split_ok r b off cap ns w hN hc)).mono ?_
  rintro e w' ⟨v1, v2, er, rfl, h, hB⟩
  obtain ⟨sa, sn, sc, rfl, hS⟩ := split_forms h
  exact ⟨v1, sa, sn, sc, er, rfl, hS, hB⟩
theorem splitOf_form (r : Int) (b off cap : Nat) (ns : List Nd) (w : World) (hN : NodesAt w b off ns) (hc : chk r ns = 0) :
    Calls Try.prog 36 #[.agg #[.int .i64 r, .slice (some ⟨b, off, none⟩) ns.length cap]] w fun e w' => ∃ sr sa sn sc er, e = .returned (.tuple #[.agg #[.int .i64 sr, .slice sa sn sc], .int .i64 er]) ∧ SplitAt r ns w.heap.size sr sa sn sc er w' ∧ Below w.heap.size w w' := by
  refine (splitOf_any r b off cap ns w hN hc).mono ?_
  rintro e w' ⟨v1, v2, er, rfl, h, hB⟩
  obtain ⟨sa, sn, sc, rfl, hS⟩ := split_forms h
  exact ⟨v1, sa, sn, sc, er, rfl, hS, hB⟩

set_option maxRecDepth 100000 in
set_option maxHeartbeats 4000000 in
theorem graphTurns_right (r : Int) (b off cap : Nat) (ns : List Nd) (w : World) (hN : NodesAt w b off ns) (hc : chk r ns = 0) :
    Calls Try.prog 7 #[.agg #[.int .i64 r, .slice (some ⟨b, off, none⟩) ns.length cap]] w fun e w' => e = .returned (.bool true) ∧ Below w.heap.size w w' := by
  have HC := hide hc
  clear hc
  go_enter Try.func7, Try.ntmps7
  go_upto_region 1 with fail
  have hb0 : Below w.heap.size w (w.alloc (.cells #[.int .i64 r, .slice (some ⟨b, off, none⟩) ns.length cap] 24)) := (Below.refl _ w).alloc (Nat.le_refl _) _
  have hp0 : (w.alloc (.cells #[.int .i64 r, .slice (some ⟨b, off, none⟩) ns.length cap] 24)).heap[w.heap.size]? = some (.cells #[.int .i64 r, .slice (some ⟨b, off, none⟩) ns.length cap] 24 (0, 0)) := World.alloc_heap_new w _
  generalize w.alloc (.cells #[.int .i64 r, .slice (some ⟨b, off, none⟩) ns.length cap] 24) = W0 at hb0 hp0 ⊢
  have p0 := blk_cell hp0 0
  have p1 := blk_cell hp0 1
  have pl := blk_lt hp0
  simp at p0 p1
  have HB0 := hide hb0
  clear hb0 hp0
  go_upto_region 2 with (go_at_call 31; refine (reach_any r b off cap ns _ (hN.below HB0.out hN.lt) HC.out).mono ?_; rintro e w1 ⟨v1, rfl, hv1, hb1⟩; obtain ⟨va1, vc1, rfl⟩ := owns_slice hv1)
  have HV1 := hide hv1
  have HB1 := hide (HB0.out.trans (hb1.mono HB0.out.size))
  replace p0 := (hb1.cell (p := ⟨w.heap.size, 0, none⟩) pl).trans p0
  replace p1 := (hb1.cell (p := ⟨w.heap.size, 1, none⟩) pl).trans p1
  replace pl := Nat.lt_of_lt_of_le pl hb1.size
  clear hb1 HB0 hv1
  go_upto_region 3 with (go_at_call 32; refine (callsIn_wide.1 (trim_ok r b off cap ns _ (hN.below HB1.out hN.lt) HC.out)).mono ?_; rintro e w2 ⟨v2, rfl, hv2, hb2⟩; obtain ⟨va2, vc2, rfl⟩ := owns_slice hv2)
  have HB2 := hide ((HB1.out.trans (hb2.mono HB1.out.size)).alloc (Nat.le_trans HB1.out.size hb2.size) (.cells #[.int .i64 r, .slice va2 (trimN ns).length vc2] 24))
  have hT2 : (w2.alloc (.cells #[.int .i64 r, .slice va2 (trimN ns).length vc2] 24)).heap[w2.heap.size]? = some (.cells #[.int .i64 r, .slice va2 (trimN ns).length vc2] 24 (0, 0)) := World.alloc_heap_new w2 _
  have hb2' := hb2.alloc hb2.size (.cells #[.int .i64 r, .slice va2 (trimN ns).length vc2] 24)
  have HV2 := hide (hv2.alloc (.cells #[.int .i64 r, .slice va2 (trimN ns).length vc2] 24))
  replace HV1 := hide (ownsRow_below HV1.out hb2' (Nat.le_refl _))
  replace p0 := (hb2'.cell (p := ⟨w.heap.size, 0, none⟩) pl).trans p0
  replace p1 := (hb2'.cell (p := ⟨w.heap.size, 1, none⟩) pl).trans p1
  replace pl := Nat.lt_of_lt_of_le pl hb2'.size
  clear hb2 hb2' HB1 hv2
  generalize w2.alloc (.cells #[.int .i64 r, .slice va2 (trimN ns).length vc2] 24) = W2 at HB2 hT2 HV1 HV2 p0 p1 pl ⊢
  generalize w2.heap.size = T at hT2 ⊢
  go_upto_region 4 with (go_at_call 33; refine (split_form r b off cap ns _ (hN.below HB2.out hN.lt) HC.out).mono ?_; rintro e w3 ⟨sr, sa, sn, sc, er, rfl, hS3, hb3⟩)
  have HB3 := hide ((HB2.out.trans (hb3.mono HB2.out.size)).alloc (Nat.le_trans HB2.out.size hb3.size) (.cells #[.int .i64 sr, .slice sa sn sc] 24))
  have hQ3 : (w3.alloc (.cells #[.int .i64 sr, .slice sa sn sc] 24)).heap[w3.heap.size]? = some (.cells #[.int .i64 sr, .slice sa sn sc] 24 (0, 0)) := World.alloc_heap_new w3 _
  have hb3' := hb3.alloc hb3.size (.cells #[.int .i64 sr, .slice sa sn sc] 24)
  have HS3 := hide (hS3.alloc (.cells #[.int .i64 sr, .slice sa sn sc] 24))
  replace HV1 := hide (ownsRow_below HV1.out hb3' (Nat.le_refl _))
  replace HV2 := hide (ownsRow_below HV2.out hb3' (Nat.le_refl _))
  replace p0 := (hb3'.cell (p := ⟨w.heap.size, 0, none⟩) pl).trans p0
  replace p1 := (hb3'.cell (p := ⟨w.heap.size, 1, none⟩) pl).trans p1
  replace pl := Nat.lt_of_lt_of_le pl hb3'.size
  have hT3 := (hb3'.block _ (blk_lt hT2)).trans hT2
  clear hb3 hb3' HB2 hT2 hS3
  generalize w3.alloc (.cells #[.int .i64 sr, .slice sa sn sc] 24) = W3 at HB3 hQ3 hT3 HV1 HV2 HS3 p0 p1 pl ⊢
  generalize w3.heap.size = Q at hQ3 ⊢
  have hck := checkProg_any r (some ⟨b, off, none⟩) cap ns W3 (Or.inr ⟨b, off, rfl, hN.below HB3.out hN.lt⟩)
  rw [HC.out] at hck
  have HCK := hide hck
  clear hck
  go_upto_region 9 with (go_at_call 15; refine HCK.out.mono ?_; rintro e w4 ⟨rfl, hb4⟩)
  have HB4 := hide (HB3.out.trans (hb4.mono HB3.out.size))
  have hT4 := (hb4.block _ (blk_lt hT3)).trans hT3
  have hQ4 := (hb4.block _ (blk_lt hQ3)).trans hQ3
  replace HV1 := hide (ownsRow_below HV1.out hb4 (Nat.le_refl _))
  replace HV2 := hide (ownsRow_below HV2.out hb4 (Nat.le_refl _))
  replace HS3 := hide (HS3.out.below hb4)
  replace p0 := (hb4.cell (p := ⟨w.heap.size, 0, none⟩) pl).trans p0
  replace p1 := (hb4.cell (p := ⟨w.heap.size, 1, none⟩) pl).trans p1
  replace pl := Nat.lt_of_lt_of_le pl hb4.size
  clear hb4 HB3 hT3 hQ3 HCK
  have hb5 : Below w4.heap.size w4 ((w4.alloc (.cells #[.int .i64 0, .slice none 0 0] 24)).alloc (.cells #[.int .i64 0, .slice none 0 0] 24)) := ((Below.refl _ w4).alloc (Nat.le_refl _) _).alloc (by simp) _
  have hX5 : ((w4.alloc (.cells #[.int .i64 0, .slice none 0 0] 24)).alloc (.cells #[.int .i64 0, .slice none 0 0] 24)).heap[w4.heap.size]? = some (.cells #[.int .i64 0, .slice none 0 0] 24 (0, 0)) := (Below.heap_alloc _ _ _ (by simp)).trans (World.alloc_heap_new w4 _)
  have hY5 : ((w4.alloc (.cells #[.int .i64 0, .slice none 0 0] 24)).alloc (.cells #[.int .i64 0, .slice none 0 0] 24)).heap[w4.heap.size + 1]? = some (.cells #[.int .i64 0, .slice none 0 0] 24 (0, 0)) := by
    have := World.alloc_heap_new (w4.alloc (.cells #[.int .i64 0, .slice none 0 0] 24)) (.cells #[.int .i64 0, .slice none 0 0] 24)
    rwa [World.size_alloc] at this
  generalize ((w4.alloc (.cells #[.int .i64 0, .slice none 0 0] 24)).alloc (.cells #[.int .i64 0, .slice none 0 0] 24)) = W5 at hb5 hX5 hY5 ⊢
  obtain ⟨X, hX⟩ : ∃ X, X = w4.heap.size := ⟨_, rfl⟩
  rw [← hX] at hX5 hY5 ⊢
  have HXE := hide hX
  have HH : Hid (∀ u : World, Below W5.heap.size W5 u → u.cell? ⟨w.heap.size, 0, none⟩ = some (.int .i64 r) ∧ u.cell? ⟨w.heap.size, 1, none⟩ = some (.slice (some ⟨b, off, none⟩) ns.length cap) ∧ u.cell? ⟨X, 0, none⟩ = some (.int .i64 0) ∧ u.cell? ⟨X, 1, none⟩ = some (.slice none 0 0) ∧ u.frozen? ⟨X, 0, none⟩ = false ∧ u.frozen? ⟨X, 1, none⟩ = false ∧ X < u.heap.size ∧ w.heap.size < u.heap.size) := fun u h => by
    have hx := (h.block _ (blk_lt hX5)).trans hX5
    have k0 := (hb5.cell (p := ⟨w.heap.size, 0, none⟩) pl).trans p0
    have k1 := (hb5.cell (p := ⟨w.heap.size, 1, none⟩) pl).trans p1
    have kl := Nat.lt_of_lt_of_le pl hb5.size
    exact ⟨(h.cell (p := ⟨w.heap.size, 0, none⟩) kl).trans k0, (h.cell (p := ⟨w.heap.size, 1, none⟩) kl).trans k1, by rw [blk_cell hx]; rfl, by rw [blk_cell hx]; rfl, blk_frozen hx 0, blk_frozen hx 1, blk_lt hx, Nat.lt_of_lt_of_le kl h.size⟩
  have HNN : Hid (∀ u : World, Below W5.heap.size W5 u → NodesAt u b off ns) := fun u h => hN.below (HB4.out.trans ((hb5.trans (h.mono hb5.size)).mono HB4.out.size)) hN.lt
  have HX5 := hide (And.intro hX5 hY5)
  have Hb5 := hide hb5
  have HTQ := hide (And.intro hT4 hQ4)
  have HPP := hide (And.intro p0 (And.intro p1 pl))
  have hpX : w.heap.size < X := by have := pl; omega
  clear hX5 hY5 hb5 hT4 hQ4 p0 p1 pl hX
  go_cut [11] from 34 to 37 (fun v11 wx => ∃ ra rc ta tc, v11 = .slice ra ns.length rc ∧ wx.ownsRow X 4 1 (.slice ra ns.length rc) ns.length ((rchL ns).map Value.bool) ∧ wx.heap[X]? = some (.cells #[.int .i64 r, .slice ta (trimN ns).length tc] 24 (0, 0)) ∧ wx.ownsRow X 87 6 (.slice ta (trimN ns).length tc) (trimN ns).length ((trimN ns).flatMap encNd) ∧ wx.heap[X + 1]? = some (.cells #[.int .i64 0, .slice none 0 0] 24 (0, 0)) ∧ Below X w4 wx)
  case first =>
    have hne : w.heap.size ≠ X := by omega
    have hneX : X ≠ w.heap.size := fun e => hne e.symm
    go_region_held3 (fun u => u.cell? ⟨w.heap.size, 0, none⟩ = some (.int .i64 r) ∧ u.cell? ⟨w.heap.size, 1, none⟩ = some (.slice (some ⟨b, off, none⟩) ns.length cap)) (first
      | exact ⟨(HH.out _ hBt).1, (HH.out _ hBt).2.1⟩
      | exact ⟨(HH.out _ hBr).1, (HH.out _ hBr).2.1⟩
      | exact ⟨(HH.out _ (Below.refl _ W5).drew).1, (HH.out _ (Below.refl _ W5).drew).2.1⟩
      | exact ⟨(HH.out _ (Below.refl _ W5)).1, (HH.out _ (Below.refl _ W5)).2.1⟩
      | exact ⟨(World.cell?_of_block ((Below.heap_setCell _ _ _ _ hne).trans (Below.heap_setCell _ _ _ _ hne))).trans (HH.out _ hBt).1, (World.cell?_of_block ((Below.heap_setCell _ _ _ _ hne).trans (Below.heap_setCell _ _ _ _ hne))).trans (HH.out _ hBt).2.1⟩) (first
      | (go_at_call 34; refine (reachOf_any r b off cap ns _ (by first | exact HNN.out _ (Below.refl _ W5).drew | exact HNN.out _ (Below.refl _ W5)) HC.out).mono ?_; rintro e wa ⟨va, rfl, hva, hba⟩; obtain ⟨ra, rc, rfl⟩ := owns_slice hva; have hBr : Below W5.heap.size W5 wa := (by first | exact (Below.refl _ W5).drew.trans hba | exact hba))
      | (go_at_call 35; refine (callsIn_wide.1 (trimOf_in r b off cap ns _ (HNN.out _ hBr) HC.out)).mono ?_; rintro e wb ⟨vb, rfl, hvb, hbb⟩; obtain ⟨ta, tc, rfl⟩ := owns_slice hvb; have hBt : Below W5.heap.size W5 wb := (hBr.trans (hbb.mono hBr.size)); obtain ⟨-, -, x0, x1, xf0, xf1, xl, -⟩ := HH.out _ hBt))
    go_wp2_with fail
    go_meet
    have hX7 := (hBt.block _ (blk_lt HX5.out.1)).trans HX5.out.1
    have hY7 := (hBt.block _ (blk_lt HX5.out.2)).trans HX5.out.2
    have hra := ownsRow_base (ownsRow_below hva hbb (Nat.le_refl _)) (base' := X) (by have := blk_lt HX5.out.1; simp; omega)
    have hta := ownsRow_base hvb (base' := X) (by have := blk_lt HX5.out.1; have := hBr.size; simp; omega)
    have hX8 := blk_set (i := 0) (.int .i64 r) hX7
    refine ⟨ra, rc, ta, tc, rfl, owns_set (owns_set hra hX7 (by decide)) hX8 (by decide), ?_, owns_set (owns_set hta hX7 (by decide)) hX8 (by decide), ?_, ?_⟩
    · rw [blk_set _ hX8]; simp
    · exact (Below.heap_setCell _ _ _ _ (by simp)).trans ((Below.heap_setCell _ _ _ _ (by simp)).trans hY7)
    · have hb := (Hb5.out.trans (hBt.mono Hb5.out.size))
      rw [← HXE.out] at hb
      exact (hb.setCell (p := ⟨X, 0, none⟩) (by simp) _).setCell (p := ⟨X, 1, none⟩) (by simp) _
  case rest =>
    obtain ⟨ra, rc, ta, tc, rfl, hRw, hXb, hTw, hYb, hBx⟩ := hcut
    have p0 := (hBx.cell (p := ⟨w.heap.size, 0, none⟩) hpX).trans HPP.out.1
    have p1 := (hBx.cell (p := ⟨w.heap.size, 1, none⟩) hpX).trans HPP.out.2.1
    have pl : w.heap.size < wc.heap.size := Nat.lt_of_lt_of_le (Nat.lt_of_lt_of_le HPP.out.2.2 (Nat.le_refl _)) hBx.size
    have hTX : T < X := by have := blk_lt HTQ.out.1; rw [HXE.out]; exact this
    have hQX : Q < X := by have := blk_lt HTQ.out.2; rw [HXE.out]; exact this
    have hTx := (hBx.block _ hTX).trans HTQ.out.1
    have hQx := (hBx.block _ hQX).trans HTQ.out.2
    have hle : w4.heap.size ≤ X := by rw [HXE.out]; exact Nat.le_refl _
    have hV1 := ownsRow_below HV1.out hBx hle
    have hV2 := ownsRow_below HV2.out hBx hle
    have hS3 := HS3.out.below (hBx.mono hle)
    have hNx : NodesAt wc b off ns := hN.below (HB4.out.trans (hBx.mono (Nat.le_of_lt hpX))) hN.lt
    have HT := hide hTx
    have HQ := hide hQx
    have HXb := hide hXb
    have HYb := hide hYb
    have HRw := hide hRw
    have HTw := hide hTw
    have HW1 := hide hV1
    have HW2 := hide hV2
    have HW3 := hide hS3
    have HNx := hide hNx
    have HBx := hide hBx
    clear hTx hQx hXb hYb hRw hTw hV1 hV2 hS3 hNx hBx HV1 HV2 HS3 HTQ HX5 HPP HH HNN Hb5 hle
    go_upto_region 11 with (go_at_call 36; refine (splitOf_form r b off cap ns _ HNx.out HC.out).mono ?_; rintro e w6 ⟨sr', sa', sn', sc', er', rfl, hS6, hb6⟩; have hY6 := (hb6.block _ (blk_lt HYb.out)).trans HYb.out; have y0 := blk_cell hY6 0; have y1 := blk_cell hY6 1; simp at y0 y1; have yf0 := blk_frozen hY6 0; have yf1 := blk_frozen hY6 1; have yl := blk_lt hY6)
    have hY7 := blk_set (i := 0) (.int .i64 sr') hY6
    have hY8 := blk_set (i := 1) (.slice sa' sn' sc') hY7
    have hB7 : Below X w4 ((w6.setCell ⟨X + 1, 0, none⟩ (.int .i64 sr')).setCell ⟨X + 1, 1, none⟩ (.slice sa' sn' sc')) := (((HBx.out.trans (hb6.mono (Nat.le_of_lt (blk_lt HXb.out)))).setCell (p := ⟨X + 1, 0, none⟩) (by simp) _).setCell (p := ⟨X + 1, 1, none⟩) (by simp) _)
    have hkeep : ∀ (k : Nat) (o : Obj), k ≠ X + 1 → k < wc.heap.size → wc.heap[k]? = some o → ((w6.setCell ⟨X + 1, 0, none⟩ (.int .i64 sr')).setCell ⟨X + 1, 1, none⟩ (.slice sa' sn' sc')).heap[k]? = some o := fun k o h1 h2 h3 => (Below.heap_setCell _ _ _ _ h1).trans ((Below.heap_setCell _ _ _ _ h1).trans ((hb6.block _ h2).trans h3))
    have hT7 := hkeep _ _ (by omega) (blk_lt HT.out) HT.out
    have hQ7 := hkeep _ _ (by omega) (blk_lt HQ.out) HQ.out
    have hX7 := hkeep _ _ (by omega) (blk_lt HXb.out) HXb.out
    have hr1 := owns_set (o := 1) (u := .slice sa' sn' sc') (owns_set (o := 0) (u := .int .i64 sr') (ownsRow_below HW1.out hb6 (Nat.le_refl _)) hY6 (by decide)) hY7 (by decide)
    have hr2 := owns_set (o := 1) (u := .slice sa' sn' sc') (owns_set (o := 0) (u := .int .i64 sr') (ownsRow_below HW2.out hb6 (Nat.le_refl _)) hY6 (by decide)) hY7 (by decide)
    have hr3 := owns_set (o := 1) (u := .slice sa' sn' sc') (owns_set (o := 0) (u := .int .i64 sr') (ownsRow_below HRw.out hb6 (Nat.le_refl _)) hY6 (by decide)) hY7 (by decide)
    have hr4 := owns_set (o := 1) (u := .slice sa' sn' sc') (owns_set (o := 0) (u := .int .i64 sr') (ownsRow_below HTw.out hb6 (Nat.le_refl _)) hY6 (by decide)) hY7 (by decide)
    have hr5 := ((HW3.out.below hb6).set (o := 0) (u := .int .i64 sr') hY6).set (o := 1) (u := .slice sa' sn' sc') hY7
    have hr6 := (hS6.set (o := 0) (u := .int .i64 sr') hY6).set (o := 1) (u := .slice sa' sn' sc') hY7
    clear hkeep y0 y1 yf0 yf1 yl hY6 hb6 HT HQ HXb HYb HRw HTw HW1 HW2 HW3 HNx hS6
    have HY8 := hide hY8
    clear hY7 hY8
    generalize ((w6.setCell ⟨X + 1, 0, none⟩ (.int .i64 sr')).setCell ⟨X + 1, 1, none⟩ (.slice sa' sn' sc')) = W7 at hB7 HY8 hT7 hQ7 hX7 hr1 hr2 hr3 hr4 hr5 hr6 ⊢
    obtain ⟨rfl, rfl, rfl, hs5, hl5⟩ := hr5.form
    obtain ⟨rfl, rfl, rfl, hs6, _⟩ := hr6.form
    have hlr : (rchL ns).length = ns.length := rchL_len ns
    have hll := (chk_zero HC.out).1
    have hlt : (trimN ns).length ≤ ns.length := by rw [trimN_len]; have := List.length_filter_le (fun n => bat (rchL ns) n) (List.range ns.length); simpa [keptI] using this
    rw [← hlr] at hr1 hr3
    have hr1' : W7.ownsRow _ 4 1 (.slice va1 (rchL ns).length vc1) (rchL ns).length ((rchL ns).map Value.bool) := hr1
    have hr3' : W7.ownsRow _ 4 1 (.slice ra (rchL ns).length rc) (rchL ns).length ((rchL ns).map Value.bool) := hr3
    obtain ⟨_, _, e1, b1⟩ := bools_of_owns hr1'
    cases e1
    obtain ⟨_, _, e3, b3⟩ := bools_of_owns hr3'
    cases e3
    obtain ⟨_, _, e2, n2⟩ := nodes_of_owns hr2
    cases e2
    obtain ⟨_, _, e4, n4⟩ := nodes_of_owns hr4
    cases e4
    have H1 := hide (And.intro b1 b3)
    have H2 := hide (And.intro n2 n4)
    have H3 := hide (And.intro hs5 hs6)
    have HTB := hide (And.intro hT7 (And.intro hX7 hQ7))
    have HBB := hide (HB4.out.trans (hB7.mono (Nat.le_of_lt hpX)))
    clear hr1 hr2 hr3 hr4 hr5 hr6 hr1' hr3' b1 b3 n2 n4 hs5 hs6 hT7 hX7 hQ7 hB7 HBx
    generalize hsE : splE ns = E
    clear hsE
    go_wp2_with fail
    refine (graphBegun_any _).mono ?_
    rintro e w8 ⟨rfl, hb8⟩
    go_wp2_with fail
    have hsb := sameBools_same va1 ra vc1 rc (rchL ns) w8 (H1.out.1.below hb8) (H1.out.2.below hb8) (by omega)
    rw [hlr] at hsb
    refine hsb.mono ?_
    rintro e w9 ⟨rfl, hb9⟩
    have hB9 : Below W7.heap.size W7 w9 := hb8.trans (hb9.mono hb8.size)
    have hT9 := (hB9.block _ (blk_lt HTB.out.1)).trans HTB.out.1
    have hX9 := (hB9.block _ (blk_lt HTB.out.2.1)).trans HTB.out.2.1
    have t0 := blk_cell hT9 0
    have t1 := blk_cell hT9 1
    have x0 := blk_cell hX9 0
    have x1 := blk_cell hX9 1
    simp at t0 t1 x0 x1
    have tl := blk_lt hT9
    have xl := blk_lt hX9
    clear hT9 hX9 hb8 hb9
    go_wp2_with fail
    refine (sameProgs_same r va2 ta vc2 tc (trimN ns) _ (H2.out.1.below hB9) (H2.out.2.below hB9) (by omega)).mono ?_
    rintro e w10 ⟨rfl, hb10⟩
    have hB10 : Below W7.heap.size W7 w10 := hB9.trans (hb10.mono hB9.size)
    have hQ10 := (hB10.block _ (blk_lt HTB.out.2.2)).trans HTB.out.2.2
    have hY10 := (hB10.block _ (blk_lt HY8.out)).trans HY8.out
    have q0 := blk_cell hQ10 0
    have q1 := blk_cell hQ10 1
    have y0 := blk_cell hY10 0
    have y1 := blk_cell hY10 1
    simp at q0 q1 y0 y1
    have ql := blk_lt hQ10
    have yl := blk_lt hY10
    clear t0 t1 x0 x1 tl xl hQ10 hY10 hb10
    go_wp2_with fail
    refine (sameProgs_same (splR r ns) sa sa' sc sc' (splM ns) _ (H3.out.1.below hB10) (H3.out.2.below hB10) (by omega)).mono ?_
    rintro e w11 ⟨rfl, hb11⟩
    have hB11 : Below W7.heap.size W7 w11 := hB10.trans (hb11.mono hB10.size)
    go_wp2
    go_ret
    exact ⟨rfl, HBB.out.trans (hB11.mono HBB.out.size)⟩
end Go.Proofs.Ytoikglgnmjjpcaa
