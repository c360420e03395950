/-
  facts.look, walked: the survey.
  facts.Of, walked.
  The document's FactsError and SameFacts, walked.
  move.Lazy, Busy and Rival: their errors; Lazy and Busy, walked.
  move.surelyThere and move.Rival, walked.
  move.Rival, walked.
-/
import Derived.Test.YtoikglgnmjjpcabGreatX2
import Derived.Test.YtoikglgnmjjpcabGreatX5
import Derived.Test.YtoikglgnmjjpcabGreatX6
import Derived.Test.YtoikglgnmjjpcabGreatX7
namespace Go.Proofs.YtoikglgnmjjpcabGreat
open Go.RowKit Go.Shelf
set_option linter.unusedVariables false
set_option linter.unusedSimpArgs false

theorem blk_set6 {w : World} {b : Nat} {x0 x1 x2 x3 x4 x5 v0 v1 v2 v3 v4 v5 : Value} {t : TypeId} {fr : Nat × Nat} (h : w.heap[b]? = some (.cells #[x0, x1, x2, x3, x4, x5] t fr)) : ((((((w.setCell ⟨b, 0, none⟩ v0).setCell ⟨b, 1, none⟩ v1).setCell ⟨b, 2, none⟩ v2).setCell ⟨b, 3, none⟩ v3).setCell ⟨b, 4, none⟩ v4).setCell ⟨b, 5, none⟩ v5).heap[b]? = some (.cells #[v0, v1, v2, v3, v4, v5] t fr) := by
  rw [blk_set _ (blk_set _ (blk_set _ (blk_set _ (blk_set _ (blk_set _ h)))))]; simp
theorem owns_set6 {w : World} {base b : Nat} {e t : TypeId} {size : Nat} {v : Value} {n : Nat} {xs : List Value} {cs : Array Value} {v0 v1 v2 v3 v4 v5 : Value} (h : w.ownsRow base e size v n xs) (hb : w.heap[b]? = some (.cells cs t (0, 0))) (hte : t ≠ e) : ((((((w.setCell ⟨b, 0, none⟩ v0).setCell ⟨b, 1, none⟩ v1).setCell ⟨b, 2, none⟩ v2).setCell ⟨b, 3, none⟩ v3).setCell ⟨b, 4, none⟩ v4).setCell ⟨b, 5, none⟩ v5).ownsRow base e size v n xs :=
  owns_set (owns_set (owns_set (owns_set (owns_set (owns_set h hb hte) (blk_set _ hb) hte) (blk_set _ (blk_set _ hb)) hte) (blk_set _ (blk_set _ (blk_set _ hb))) hte) (blk_set _ (blk_set _ (blk_set _ (blk_set _ hb)))) hte) (blk_set _ (blk_set _ (blk_set _ (blk_set _ (blk_set _ hb))))) hte
theorem rowsT_set6 {w : World} {rb L b : Nat} {F : Nat → List Nat} {cs : Array Value} {t : TypeId} {v0 v1 v2 v3 v4 v5 : Value} (h : RowsT w rb L F) (hb : w.heap[b]? = some (.cells cs t (0, 0))) (h1 : t ≠ 40) (h2 : t ≠ 3) : RowsT ((((((w.setCell ⟨b, 0, none⟩ v0).setCell ⟨b, 1, none⟩ v1).setCell ⟨b, 2, none⟩ v2).setCell ⟨b, 3, none⟩ v3).setCell ⟨b, 4, none⟩ v4).setCell ⟨b, 5, none⟩ v5) rb L F :=
  (((((h.set hb h1 h2).set (blk_set _ hb) h1 h2).set (blk_set _ (blk_set _ hb)) h1 h2).set (blk_set _ (blk_set _ (blk_set _ hb))) h1 h2).set (blk_set _ (blk_set _ (blk_set _ (blk_set _ hb)))) h1 h2).set (blk_set _ (blk_set _ (blk_set _ (blk_set _ (blk_set _ hb))))) h1 h2
theorem below_set6 {B : Nat} {w0 w : World} {b : Nat} {v0 v1 v2 v3 v4 v5 : Value} (h : Below B w0 w) (hb : B ≤ b) : Below B w0 ((((((w.setCell ⟨b, 0, none⟩ v0).setCell ⟨b, 1, none⟩ v1).setCell ⟨b, 2, none⟩ v2).setCell ⟨b, 3, none⟩ v3).setCell ⟨b, 4, none⟩ v4).setCell ⟨b, 5, none⟩ v5) :=
  (((((h.setCell (p := ⟨b, 0, none⟩) hb _).setCell (p := ⟨b, 1, none⟩) hb _).setCell (p := ⟨b, 2, none⟩) hb _).setCell (p := ⟨b, 3, none⟩) hb _).setCell (p := ⟨b, 4, none⟩) hb _).setCell (p := ⟨b, 5, none⟩) hb _

structure SMT (w : World) (ns : List Nd) (t : Tm) (rb1 rb2 : Nat) (v4 v5 : Value) : Prop where
  nx : RowsT w rb1 ns.length (nxl ns)
  ah : RowsT w rb2 ns.length (ahl ns)
  rk : w.ownsRow 0 4 1 v4 ns.length ((rcl ns t).map Value.bool)
  kp : w.ownsRow 0 4 1 v5 ns.length ((kpl ns t).map Value.bool)
theorem SMT.below {w w' : World} {ns : List Nd} {t : Tm} {rb1 rb2 : Nat} {v4 v5 : Value} (h : SMT w ns t rb1 rb2 v4 v5) (hb : Below w.heap.size w w') : SMT w' ns t rb1 rb2 v4 v5 :=
  ⟨h.nx.below hb, h.ah.below hb, ownsRow_below h.rk hb (Nat.le_refl _), ownsRow_below h.kp hb (Nat.le_refl _)⟩
theorem SMT.set {w : World} {ns : List Nd} {t : Tm} {rb1 rb2 b o : Nat} {v4 v5 u : Value} {cs : Array Value} {ty : TypeId} (h : SMT w ns t rb1 rb2 v4 v5) (hb : w.heap[b]? = some (.cells cs ty (0, 0))) (h1 : ty ≠ 40) (h2 : ty ≠ 3) (h3 : ty ≠ 4) : SMT (w.setCell ⟨b, o, none⟩ u) ns t rb1 rb2 v4 v5 :=
  ⟨h.nx.set hb h1 h2, h.ah.set hb h1 h2, owns_set h.rk hb h3, owns_set h.kp hb h3⟩
theorem SMT.set6 {w : World} {ns : List Nd} {t : Tm} {rb1 rb2 b : Nat} {v4' v5' v0 v1 v2 v3 v4 v5 : Value} {cs : Array Value} {ty : TypeId} (h : SMT w ns t rb1 rb2 v4' v5') (hb : w.heap[b]? = some (.cells cs ty (0, 0))) (h1 : ty ≠ 40) (h2 : ty ≠ 3) (h3 : ty ≠ 4) : SMT ((((((w.setCell ⟨b, 0, none⟩ v0).setCell ⟨b, 1, none⟩ v1).setCell ⟨b, 2, none⟩ v2).setCell ⟨b, 3, none⟩ v3).setCell ⟨b, 4, none⟩ v4).setCell ⟨b, 5, none⟩ v5) ns t rb1 rb2 v4' v5' :=
  ⟨rowsT_set6 h.nx hb h1 h2, rowsT_set6 h.ah hb h1 h2, owns_set6 h.rk hb h3, owns_set6 h.kp hb h3⟩
theorem SMT.read {w : World} {ns : List Nd} {t : Tm} {rb1 rb2 kc pc : Nat} {ka pa : Option Addr} (h : SMT w ns t rb1 rb2 (.slice ka ns.length kc) (.slice pa ns.length pc)) : SM w ns t rb1 rb2 ka pa :=
  ⟨h.nx.read, h.ah.read, bools_owned h.rk (rcl_len _ _), bools_owned h.kp (kpl_len _ _)⟩

theorem range_bat (x : List Bool) : (List.range x.length).map (bat x) = x := by
  refine List.ext_getElem (by simp) fun i h1 h2 => ?_
  simp [bat, h2]
theorem rcl_eq (ns : List Nd) (t : Tm) : (List.range ns.length).map (fun n => bat (ns.map (rcB t)) n) = rcl ns t := by
  have := range_bat (ns.map (rcB t))
  rwa [List.length_map] at this
theorem kpl_eq (ns : List Nd) (t : Tm) : (List.range ns.length).map (fun n => bat (ns.map (kpB t)) n) = kpl ns t := by
  have := range_bat (ns.map (kpB t))
  rwa [List.length_map] at this

def LookInv (w W : World) (r : Int) (b off cap : Nat) (ns : List Nd) (t : Tm) (listed : Array Bool) (a : Act) (w' : World) : Prop := ∃ u5 u6 u7 u8 u9 u10 u11 : Value, listed.size = 8 ∧ a = { tmps := #[.agg #[.int .i64 r, .slice (some ⟨b, off, none⟩) ns.length cap], .agg #[.int .i64 t.op, .int .i64 t.a, .int .i64 t.b], .pointer (some ⟨w.heap.size, 0, none⟩), .pointer (some ⟨w.heap.size + 1, 0, none⟩), .pointer (some ⟨w.heap.size + 2, 0, none⟩), u5, u6, u7, u8, u9, u10, u11, undef, undef, undef, undef, undef, undef, undef, undef, undef], defers := [] } ∧ ((listed.getD 7 false = false ∧ Below W.heap.size W w' ∧ (listed.getD 0 false = true → u6 = .agg #[.int .i64 r, .slice (some ⟨b, off, none⟩) ns.length cap]) ∧ (listed.getD 1 false = true → u7 = .agg #[.int .i64 r, .slice (some ⟨b, off, none⟩) ns.length cap]) ∧ (listed.getD 2 false = true → ∃ rb1, u8 = .slice (some ⟨rb1, 0, none⟩) ns.length ns.length ∧ RowsT w' rb1 ns.length (nxl ns)) ∧ (listed.getD 3 false = true → u9 = .agg #[.int .i64 r, .slice (some ⟨b, off, none⟩) ns.length cap]) ∧ (listed.getD 4 false = true → ∃ rb2, u10 = .slice (some ⟨rb2, 0, none⟩) ns.length ns.length ∧ RowsT w' rb2 ns.length (ahl ns)) ∧ (listed.getD 5 false = true → ∃ rb1 rb2, u8 = .slice (some ⟨rb1, 0, none⟩) ns.length ns.length ∧ u10 = .slice (some ⟨rb2, 0, none⟩) ns.length ns.length ∧ u11 = .agg #[.int .i64 r, .slice (some ⟨b, off, none⟩) ns.length cap, .slice (some ⟨rb1, 0, none⟩) ns.length ns.length, .slice (some ⟨rb2, 0, none⟩) ns.length ns.length, .slice none 0 0, .slice none 0 0]) ∧ (listed.getD 6 false = true → ∃ s, u5 = .pointer (some ⟨s, 0, none⟩) ∧ W.heap.size ≤ s ∧ w'.heap[s]? = some (.cells #[.int .i64 0, .slice none 0 0, .slice none 0 0, .slice none 0 0, .slice none 0 0, .slice none 0 0] 98 (0, 0)))) ∨ (listed.getD 7 false = true ∧ (∀ j, j < 7 → listed.getD j false = true) ∧ ∃ s rb1 rb2, u5 = .pointer (some ⟨s, 0, none⟩) ∧ W.heap.size ≤ s ∧ w'.heap[s]? = some (.cells #[.int .i64 r, .slice (some ⟨b, off, none⟩) ns.length cap, .slice (some ⟨rb1, 0, none⟩) ns.length ns.length, .slice (some ⟨rb2, 0, none⟩) ns.length ns.length, .slice none 0 0, .slice none 0 0] 98 (0, 0)) ∧ RowsT w' rb1 ns.length (nxl ns) ∧ RowsT w' rb2 ns.length (ahl ns) ∧ Below W.heap.size W w'))

set_option maxRecDepth 100000 in
set_option maxHeartbeats 4000000 in
theorem look_any (r : Int) (b off cap : Nat) (ns : List Nd) (t : Tm) (w : World) (hN : NodesAt w b off ns) (hc : chk r ns = 0) (ht : 3 ≤ t.op ∧ t.op ≤ 8) :
    CallsIn Fence.wide 1 Tryz.prog 63 #[.agg #[.int .i64 r, .slice (some ⟨b, off, none⟩) ns.length cap], .agg #[.int .i64 t.op, .int .i64 t.a, .int .i64 t.b]] w fun e w' => ∃ rb1 rb2 ka pa kc pc, e = .returned (.agg #[.int .i64 r, .slice (some ⟨b, off, none⟩) ns.length cap, .slice (some ⟨rb1, 0, none⟩) ns.length ns.length, .slice (some ⟨rb2, 0, none⟩) ns.length ns.length, .slice ka ns.length kc, .slice pa ns.length pc]) ∧ SMT w' ns t rb1 rb2 (.slice ka ns.length kc) (.slice pa ns.length pc) ∧ Below w.heap.size w w' := by
  have hl := (chk_zero hc).1
  have eg1 : ∀ args w, (callFunc 105 args).run Tryz.prog w = .ok (.enter 105 args) w := enters_of Tryz.func105 (by kernel_rfl) rfl
  have eg2 : ∀ args w, (callFunc 106 args).run Tryz.prog w = .ok (.enter 106 args) w := enters_of Tryz.func106 (by kernel_rfl) rfl
  refine callsIn_of_wp Tryz.func63 rfl trivial ?_ rfl
  simp only [Tryz.ntmps63, List.size_toArray, List.length_cons, List.length_nil, Nat.reduceAdd, Nat.reduceSub, Array.replicate_succ, Array.replicate_zero, List.push_toArray, List.append_toArray, List.nil_append, List.cons_append]
  gi_upto_region 1 with fail
  have hB0 : Below w.heap.size w (((w.alloc (.cells #[.int .i64 r, .slice (some ⟨b, off, none⟩) ns.length cap] 24)).alloc (.cells #[.int .i64 t.op, .int .i64 t.a, .int .i64 t.b] 26)).alloc (.cells #[.int .i64 0, .slice none 0 0, .slice none 0 0, .slice none 0 0, .slice none 0 0, .slice none 0 0] 98)) := (((Below.refl _ w).alloc (Nat.le_refl _) _).alloc (by simp) _).alloc (by simp; omega) _
  have p0 : (((w.alloc (.cells #[.int .i64 r, .slice (some ⟨b, off, none⟩) ns.length cap] 24)).alloc (.cells #[.int .i64 t.op, .int .i64 t.a, .int .i64 t.b] 26)).alloc (.cells #[.int .i64 0, .slice none 0 0, .slice none 0 0, .slice none 0 0, .slice none 0 0, .slice none 0 0] 98)).heap[w.heap.size]? = some (.cells #[.int .i64 r, .slice (some ⟨b, off, none⟩) ns.length cap] 24 (0, 0)) := (Below.heap_alloc _ _ _ (by simp; omega)).trans ((Below.heap_alloc _ _ _ (by simp)).trans (World.alloc_heap_new w _))
  have p1 : (((w.alloc (.cells #[.int .i64 r, .slice (some ⟨b, off, none⟩) ns.length cap] 24)).alloc (.cells #[.int .i64 t.op, .int .i64 t.a, .int .i64 t.b] 26)).alloc (.cells #[.int .i64 0, .slice none 0 0, .slice none 0 0, .slice none 0 0, .slice none 0 0, .slice none 0 0] 98)).heap[w.heap.size + 1]? = some (.cells #[.int .i64 t.op, .int .i64 t.a, .int .i64 t.b] 26 (0, 0)) := by
    have := World.alloc_heap_new (w.alloc (.cells #[.int .i64 r, .slice (some ⟨b, off, none⟩) ns.length cap] 24)) (.cells #[.int .i64 t.op, .int .i64 t.a, .int .i64 t.b] 26)
    rw [World.size_alloc] at this
    exact (Below.heap_alloc _ _ _ (by simp)).trans this
  have p2 : (((w.alloc (.cells #[.int .i64 r, .slice (some ⟨b, off, none⟩) ns.length cap] 24)).alloc (.cells #[.int .i64 t.op, .int .i64 t.a, .int .i64 t.b] 26)).alloc (.cells #[.int .i64 0, .slice none 0 0, .slice none 0 0, .slice none 0 0, .slice none 0 0, .slice none 0 0] 98)).heap[w.heap.size + 2]? = some (.cells #[.int .i64 0, .slice none 0 0, .slice none 0 0, .slice none 0 0, .slice none 0 0, .slice none 0 0] 98 (0, 0)) := by
    have := World.alloc_heap_new ((w.alloc (.cells #[.int .i64 r, .slice (some ⟨b, off, none⟩) ns.length cap] 24)).alloc (.cells #[.int .i64 t.op, .int .i64 t.a, .int .i64 t.b] 26)) (.cells #[.int .i64 0, .slice none 0 0, .slice none 0 0, .slice none 0 0, .slice none 0 0, .slice none 0 0] 98)
    rwa [World.size_alloc, World.size_alloc] at this
  generalize (((w.alloc (.cells #[.int .i64 r, .slice (some ⟨b, off, none⟩) ns.length cap] 24)).alloc (.cells #[.int .i64 t.op, .int .i64 t.a, .int .i64 t.b] 26)).alloc (.cells #[.int .i64 0, .slice none 0 0, .slice none 0 0, .slice none 0 0, .slice none 0 0, .slice none 0 0] 98)) = W at hB0 p0 p1 p2 ⊢
  refine region_inv (by kernel_rfl) (LookInv w W r b off cap ns t) ?hg ?hsz ?h0 ?hs ?h1
  case hg =>
    intro ix o ho
    match ix, ho with
    | 0, ho | 1, ho | 2, ho | 3, ho | 4, ho | 5, ho | 6, ho | 7, ho => simp at ho; subst ho; simp [Region.binds]
    | ix + 8, ho => simp at ho
  case hsz => unfold LookInv; rintro listed a w' ⟨_, _, _, _, _, _, _, h, _⟩; simpa using h
  case h0 =>
    unfold LookInv
    refine ⟨_, _, _, _, _, _, _, by simp, rfl, Or.inl ⟨by simp, (Below.refl _ W).drew, by simp, by simp, by simp, by simp, by simp, by simp, by simp⟩⟩
  case hs =>
    intro listed a w' ix o hI
    unfold LookInv at hI
    revert hI
    rintro ⟨u5, u6, u7, u8, u9, u10, u11, hsz, rfl, hw⟩ hC ho hl' hd
    have hltn : ix < 8 := (Array.getElem?_eq_some_iff.1 ho).1
    replace hl' : listed.getD ix false = false := by
      simp only [Array.getD] at hl' ⊢
      rw [dif_pos (by omega)] at hl' ⊢; exact hl'
    have keep : ∀ j, j ≠ ix → (listed.setIfInBounds ix true).getD j false = listed.getD j false := fun j hj => getD_set_ne false (fun e => hj e.symm)
    have sett : (listed.setIfInBounds ix true).getD ix false = true := by simp [hsz, hltn]
    have hsz' : (listed.setIfInBounds ix true).size = 8 := by simp [hsz]
    rcases hw with ⟨g7, hB, e0, e1, e2, e3, e4, e5, e6⟩ | ⟨g7, hall, _⟩
    case inr =>
      exfalso
      by_cases e : ix = 7
      · subst e; rw [g7] at hl'; cases hl'
      · rw [hall ix (by omega)] at hl'; cases hl'
    have hp0 := (hB.block _ (blk_lt p0)).trans p0
    have c0 := blk_cell hp0 0
    have c1 := blk_cell hp0 1
    simp at c0 c1
    have pl := blk_lt hp0
    clear hp0
    match ix, hltn with
    | 0, _ =>
      simp at ho; subst ho
      clear hd
      go_simp
      unfold LookInv
      exact ⟨_, _, _, _, _, _, _, hsz', rfl, Or.inl ⟨(keep 7 (by omega)).trans g7, hB, fun _ => rfl, fun h => e1 (by rwa [keep 1 (by omega)] at h), fun h => e2 (by rwa [keep 2 (by omega)] at h), fun h => e3 (by rwa [keep 3 (by omega)] at h), fun h => e4 (by rwa [keep 4 (by omega)] at h), fun h => e5 (by rwa [keep 5 (by omega)] at h), fun h => e6 (by rwa [keep 6 (by omega)] at h)⟩⟩
    | 1, _ =>
      simp at ho; subst ho
      clear hd
      go_simp
      unfold LookInv
      exact ⟨_, _, _, _, _, _, _, hsz', rfl, Or.inl ⟨(keep 7 (by omega)).trans g7, hB, fun h => e0 (by rwa [keep 0 (by omega)] at h), fun _ => rfl, fun h => e2 (by rwa [keep 2 (by omega)] at h), fun h => e3 (by rwa [keep 3 (by omega)] at h), fun h => e4 (by rwa [keep 4 (by omega)] at h), fun h => e5 (by rwa [keep 5 (by omega)] at h), fun h => e6 (by rwa [keep 6 (by omega)] at h)⟩⟩
    | 3, _ =>
      simp at ho; subst ho
      clear hd
      go_simp
      unfold LookInv
      exact ⟨_, _, _, _, _, _, _, hsz', rfl, Or.inl ⟨(keep 7 (by omega)).trans g7, hB, fun h => e0 (by rwa [keep 0 (by omega)] at h), fun h => e1 (by rwa [keep 1 (by omega)] at h), fun h => e2 (by rwa [keep 2 (by omega)] at h), fun _ => rfl, fun h => e4 (by rwa [keep 4 (by omega)] at h), fun h => e5 (by rwa [keep 5 (by omega)] at h), fun h => e6 (by rwa [keep 6 (by omega)] at h)⟩⟩
    | 2, _ =>
      simp at ho; subst ho
      have d1 : listed.getD 1 false = true := hd ⟨1, .data⟩ (by simp) rfl
      obtain rfl := (e1 d1).symm
      clear hd
      have hNw := hN.below (hB0.trans (hB.mono hB0.size)) hN.lt
      go_simp
      refine ⟨trivial, (callsIn_wide.2 (linksNext_rows r b off cap ns w' hNw hc)).mono ?_⟩
      rintro e w2 ⟨rb1, rfl, hR, hb⟩
      have hB' : Below W.heap.size W w2 := hB.trans (hb.mono hB.size)
      unfold LookInv
      exact ⟨_, _, _, _, _, _, _, hsz', rfl, Or.inl ⟨(keep 7 (by omega)).trans g7, hB', fun h => e0 (by rwa [keep 0 (by omega)] at h), fun h => e1 (by rwa [keep 1 (by omega)] at h), fun _ => ⟨rb1, rfl, hR⟩, fun h => e3 (by rwa [keep 3 (by omega)] at h), fun h => by obtain ⟨z, q1, q2⟩ := e4 (by rwa [keep 4 (by omega)] at h); exact ⟨z, q1, q2.below hb⟩, fun h => absurd (hC 5 _ rfl (by rwa [keep 5 (by omega)] at h) ⟨2, .data⟩ (by simp) rfl) (by rw [hl']; simp), fun h => by obtain ⟨z, q1, q2, q3⟩ := e6 (by rwa [keep 6 (by omega)] at h); exact ⟨z, q1, q2, (Below.block hb _ (blk_lt q3)).trans q3⟩⟩⟩
    | 4, _ =>
      simp at ho; subst ho
      have d3 : listed.getD 3 false = true := hd ⟨3, .data⟩ (by simp) rfl
      have d2 : listed.getD 2 false = true := hd ⟨2, .chain⟩ (by simp) rfl
      obtain rfl := (e3 d3).symm
      clear hd
      have hNw := hN.below (hB0.trans (hB.mono hB0.size)) hN.lt
      go_simp
      refine ⟨trivial, (callsIn_wide.2 (linksAhead_rows r b off cap ns w' hNw hc)).mono ?_⟩
      rintro e w2 ⟨rb2, rfl, hR, hb⟩
      have hB' : Below W.heap.size W w2 := hB.trans (hb.mono hB.size)
      unfold LookInv
      exact ⟨_, _, _, _, _, _, _, hsz', rfl, Or.inl ⟨(keep 7 (by omega)).trans g7, hB', fun h => e0 (by rwa [keep 0 (by omega)] at h), fun h => e1 (by rwa [keep 1 (by omega)] at h), fun h => by obtain ⟨z, q1, q2⟩ := e2 (by rwa [keep 2 (by omega)] at h); exact ⟨z, q1, q2.below hb⟩, fun h => e3 (by rwa [keep 3 (by omega)] at h), fun _ => ⟨rb2, rfl, hR⟩, fun h => absurd (hC 5 _ rfl (by rwa [keep 5 (by omega)] at h) ⟨4, .data⟩ (by simp) rfl) (by rw [hl']; simp), fun h => by obtain ⟨z, q1, q2, q3⟩ := e6 (by rwa [keep 6 (by omega)] at h); exact ⟨z, q1, q2, (Below.block hb _ (blk_lt q3)).trans q3⟩⟩⟩
    | 5, _ =>
      simp at ho; subst ho
      have d0 : listed.getD 0 false = true := hd ⟨0, .data⟩ (by simp) rfl
      have d2 : listed.getD 2 false = true := hd ⟨2, .data⟩ (by simp) rfl
      have d4 : listed.getD 4 false = true := hd ⟨4, .data⟩ (by simp) rfl
      obtain rfl := (e0 d0).symm
      obtain ⟨rb1, rfl, hR1⟩ := e2 d2
      obtain ⟨rb2, rfl, hR2⟩ := e4 d4
      clear hd
      go_simp
      unfold LookInv
      exact ⟨_, _, _, _, _, _, _, hsz', rfl, Or.inl ⟨(keep 7 (by omega)).trans g7, hB, fun h => e0 (by rwa [keep 0 (by omega)] at h), fun h => e1 (by rwa [keep 1 (by omega)] at h), fun h => e2 (by rwa [keep 2 (by omega)] at h), fun h => e3 (by rwa [keep 3 (by omega)] at h), fun h => e4 (by rwa [keep 4 (by omega)] at h), fun _ => ⟨_, _, rfl, rfl, rfl⟩, fun h => e6 (by rwa [keep 6 (by omega)] at h)⟩⟩
    | 6, _ =>
      simp at ho; subst ho
      clear hd
      have hb : Below w'.heap.size w' (w'.alloc (.cells #[.int .i64 0, .slice none 0 0, .slice none 0 0, .slice none 0 0, .slice none 0 0, .slice none 0 0] 98)) := (Below.refl _ w').alloc (Nat.le_refl _) _
      have hB' : Below W.heap.size W (w'.alloc (.cells #[.int .i64 0, .slice none 0 0, .slice none 0 0, .slice none 0 0, .slice none 0 0, .slice none 0 0] 98)) := hB.trans (hb.mono hB.size)
      have hnew := World.alloc_heap_new w' (.cells #[.int .i64 0, .slice none 0 0, .slice none 0 0, .slice none 0 0, .slice none 0 0, .slice none 0 0] 98)
      go_simp
      unfold LookInv
      exact ⟨_, _, _, _, _, _, _, hsz', rfl, Or.inl ⟨(keep 7 (by omega)).trans g7, hB', fun h => e0 (by rwa [keep 0 (by omega)] at h), fun h => e1 (by rwa [keep 1 (by omega)] at h), fun h => by obtain ⟨z, q1, q2⟩ := e2 (by rwa [keep 2 (by omega)] at h); exact ⟨z, q1, q2.below hb⟩, fun h => e3 (by rwa [keep 3 (by omega)] at h), fun h => by obtain ⟨z, q1, q2⟩ := e4 (by rwa [keep 4 (by omega)] at h); exact ⟨z, q1, q2.below hb⟩, fun h => e5 (by rwa [keep 5 (by omega)] at h), fun _ => ⟨_, rfl, hB.size, hnew⟩⟩⟩
    | 7, _ =>
      simp at ho; subst ho
      have d6 : listed.getD 6 false = true := hd ⟨6, .data⟩ (by simp) rfl
      have d5 : listed.getD 5 false = true := hd ⟨5, .data⟩ (by simp) rfl
      have d0 : listed.getD 0 false = true := hd ⟨0, .phase⟩ (by simp) rfl
      have d1 : listed.getD 1 false = true := hd ⟨1, .phase⟩ (by simp) rfl
      have d2 : listed.getD 2 false = true := hd ⟨2, .phase⟩ (by simp) rfl
      have d3 : listed.getD 3 false = true := hd ⟨3, .phase⟩ (by simp) rfl
      have d4 : listed.getD 4 false = true := hd ⟨4, .phase⟩ (by simp) rfl
      obtain ⟨s, rfl, hsl, hsb⟩ := e6 d6
      obtain ⟨rb1, rb2, rfl, rfl, rfl⟩ := e5 d5
      obtain ⟨x1, ex1, hR1⟩ := e2 d2
      obtain ⟨x2, ex2, hR2⟩ := e4 d4
      obtain rfl : rb1 = x1 := by simpa using ex1
      obtain rfl : rb2 = x2 := by simpa using ex2
      clear hd
      have s0 := blk_cell hsb 0
      have s1 := blk_cell hsb 1
      have s2 := blk_cell hsb 2
      have s3 := blk_cell hsb 3
      have s4 := blk_cell hsb 4
      have s5 := blk_cell hsb 5
      simp at s0 s1 s2 s3 s4 s5
      have f0 := blk_frozen hsb 0
      have f1 := blk_frozen hsb 1
      have f2 := blk_frozen hsb 2
      have f3 := blk_frozen hsb 3
      have f4 := blk_frozen hsb 4
      have f5 := blk_frozen hsb 5
      have slt := blk_lt hsb
      have HSB := hide hsb
      clear hsb e0 e1 e2 e3 e4 e5 e6 ex1 ex2
      go_simp
      unfold LookInv
      refine ⟨_, _, _, _, _, _, _, hsz', rfl, Or.inr ⟨sett, fun j hj => ?_, s, rb1, rb2, rfl, hsl, ?_, ?_, ?_, ?_⟩⟩
      · match j, hj with
        | 0, _ => exact (keep 0 (by omega)).trans d0
        | 1, _ => exact (keep 1 (by omega)).trans d1
        | 2, _ => exact (keep 2 (by omega)).trans d2
        | 3, _ => exact (keep 3 (by omega)).trans d3
        | 4, _ => exact (keep 4 (by omega)).trans d4
        | 5, _ => exact (keep 5 (by omega)).trans d5
        | 6, _ => exact (keep 6 (by omega)).trans d6
        | jx + 7, hj => exact absurd hj (by omega)
      · exact blk_set6 HSB.out
      · exact rowsT_set6 hR1 HSB.out (by decide) (by decide)
      · exact rowsT_set6 hR2 HSB.out (by decide) (by decide)
      · exact below_set6 hB hsl
  case h1 =>
    intro listed a w' hI
    unfold LookInv at hI
    revert hI
    rintro ⟨u5, u6, u7, u8, u9, u10, u11, hsz, rfl, hw⟩ hall
    rcases hw with ⟨g7, _⟩ | ⟨_, _, s, rb1, rb2, rfl, hsl, hsb, hR1, hR2, hB⟩
    · rw [hall 7 (by decide)] at g7; cases g7
    clear hall
    have hNv := hN.below (hB0.trans (hB.mono hB0.size)) hN.lt
    have hPv := (hB.block _ (blk_lt p0)).trans p0
    have hTv := (hB.block _ (blk_lt p1)).trans p1
    have hsr : w.heap.size + 2 < W.heap.size := blk_lt p2
    have hea := fun (U : World) (v4 v5 : Value) (hU : Below W.heap.size W U) => each_any (fun n => bat (ns.map (rcB t)) n) 105 #[.pointer (some ⟨w.heap.size, 0, none⟩), .pointer (some ⟨w.heap.size + 1, 0, none⟩)] r (some ⟨b, off, none⟩) ns.length cap (.slice (some ⟨rb1, 0, none⟩) ns.length ns.length) (.slice (some ⟨rb2, 0, none⟩) ns.length ns.length) v4 v5 U hl.2 eg1 (fun i hi X hX => look1_any i _ _ r b off cap ns t X (hN.below (hB0.trans ((hU.trans (hX.mono hU.size)).mono hB0.size)) hN.lt) hi (((hU.trans (hX.mono hU.size)).block _ (blk_lt p0)).trans p0) (((hU.trans (hX.mono hU.size)).block _ (blk_lt p1)).trans p1) ht)
    have heb := fun (U : World) (v4 v5 : Value) (hU : Below W.heap.size W U) => each_any (fun n => bat (ns.map (kpB t)) n) 106 #[.pointer (some ⟨w.heap.size, 0, none⟩), .pointer (some ⟨w.heap.size + 1, 0, none⟩)] r (some ⟨b, off, none⟩) ns.length cap (.slice (some ⟨rb1, 0, none⟩) ns.length ns.length) (.slice (some ⟨rb2, 0, none⟩) ns.length ns.length) v4 v5 U hl.2 eg2 (fun i hi X hX => look2_any i _ _ r b off cap ns t X (hN.below (hB0.trans ((hU.trans (hX.mono hU.size)).mono hB0.size)) hN.lt) hi (((hU.trans (hX.mono hU.size)).block _ (blk_lt p0)).trans p0) (((hU.trans (hX.mono hU.size)).block _ (blk_lt p1)).trans p1) ht)
    simp only [rcl_eq] at hea
    simp only [kpl_eq] at heb
    have HEA := hide' (hea w' (.slice none 0 0) (.slice none 0 0) hB)
    have HEB := hide' heb
    have s0 := blk_cell hsb 0
    have s1 := blk_cell hsb 1
    have s2 := blk_cell hsb 2
    have s3 := blk_cell hsb 3
    have s4 := blk_cell hsb 4
    have s5 := blk_cell hsb 5
    simp at s0 s1 s2 s3 s4 s5
    have slt := blk_lt hsb
    have HSB := hide' hsb
    have HR1 := hide' hR1
    have HR2 := hide' hR2
    have HB := hide' hB
    have HB0 := hide' hB0
    have HP2 := hide' p2
    clear hsb hR1 hR2 hB hB0 hea heb hNv hPv hTv p0 p1 p2 hN hc ht
    gi_upto_region 3 with (refine ⟨trivial, ?_⟩; gi_at_call 104; refine (callsIn_wide.2 HEA.out).mono ?_; rintro e V1 ⟨v4, rfl, hv4, hb4⟩; obtain ⟨ka, kc, rfl⟩ := owns_slice hv4; have hs4 := (hb4.block _ slt).trans HSB.out; have t4 := blk_cell hs4 4; simp at t4; have u4 := blk_frozen hs4 4; have tlt := blk_lt hs4)
    have hs5 : (V1.setCell ⟨s, 4, none⟩ (.slice ka ns.length kc)).heap[s]? = some (.cells #[.int .i64 r, .slice (some ⟨b, off, none⟩) ns.length cap, .slice (some ⟨rb1, 0, none⟩) ns.length ns.length, .slice (some ⟨rb2, 0, none⟩) ns.length ns.length, .slice ka ns.length kc, .slice none 0 0] 98 (0, 0)) := by rw [blk_set _ hs4]; simp
    have hBV : Below W.heap.size W (V1.setCell ⟨s, 4, none⟩ (.slice ka ns.length kc)) := (HB.out.trans (hb4.mono HB.out.size)).setCell (p := ⟨s, 4, none⟩) hsl _
    have m1 : RowsT (V1.setCell ⟨s, 4, none⟩ (.slice ka ns.length kc)) rb1 ns.length (nxl ns) := (HR1.out.below hb4).set hs4 (by decide) (by decide)
    have m2 : RowsT (V1.setCell ⟨s, 4, none⟩ (.slice ka ns.length kc)) rb2 ns.length (ahl ns) := (HR2.out.below hb4).set hs4 (by decide) (by decide)
    have m3 := owns_set (o := 4) (u := .slice ka ns.length kc) (ownsRow_base hv4 (Nat.zero_le _)) hs4 (by decide)
    clear s0 s1 s2 s3 s4 s5 t4 u4 hs4 hv4 hb4 HEA
    generalize (V1.setCell ⟨s, 4, none⟩ (.slice ka ns.length kc)) = V2 at hs5 hBV m1 m2 m3 ⊢
    have HEC := hide' (HEB.out V2 (.slice ka ns.length kc) (.slice none 0 0) hBV)
    have s0 := blk_cell hs5 0
    have s1 := blk_cell hs5 1
    have s2 := blk_cell hs5 2
    have s3 := blk_cell hs5 3
    have s4 := blk_cell hs5 4
    have s5 := blk_cell hs5 5
    simp at s0 s1 s2 s3 s4 s5
    have slt2 := blk_lt hs5
    have HSB2 := hide' hs5
    have HBV := hide' hBV
    have M1 := hide' m1
    have M2 := hide' m2
    have M3 := hide' m3
    clear hs5 hBV m1 m2 m3
    gi_upto_region 4 with (refine ⟨trivial, ?_⟩; gi_at_call 104; refine (callsIn_wide.2 HEC.out).mono ?_; rintro e V3 ⟨v5, rfl, hv5, hb5⟩; obtain ⟨pa, pc, rfl⟩ := owns_slice hv5; have hs6 := (hb5.block _ slt2).trans HSB2.out; have t5 := blk_cell hs6 5; simp at t5; have u5 := blk_frozen hs6 5; have tlt2 := blk_lt hs6)
    have hs7 : (V3.setCell ⟨s, 5, none⟩ (.slice pa ns.length pc)).heap[s]? = some (.cells #[.int .i64 r, .slice (some ⟨b, off, none⟩) ns.length cap, .slice (some ⟨rb1, 0, none⟩) ns.length ns.length, .slice (some ⟨rb2, 0, none⟩) ns.length ns.length, .slice ka ns.length kc, .slice pa ns.length pc] 98 (0, 0)) := by rw [blk_set _ hs6]; simp
    have hBV : Below W.heap.size W (V3.setCell ⟨s, 5, none⟩ (.slice pa ns.length pc)) := (HBV.out.trans (hb5.mono HBV.out.size)).setCell (p := ⟨s, 5, none⟩) hsl _
    have hM : SMT (V3.setCell ⟨s, 5, none⟩ (.slice pa ns.length pc)) ns t rb1 rb2 (.slice ka ns.length kc) (.slice pa ns.length pc) := ⟨(M1.out.below hb5).set hs6 (by decide) (by decide), (M2.out.below hb5).set hs6 (by decide) (by decide), owns_set (ownsRow_below M3.out hb5 (Nat.le_refl _)) hs6 (by decide), owns_set (ownsRow_base hv5 (Nat.zero_le _)) hs6 (by decide)⟩
    clear s0 s1 s2 s3 s4 s5 t5 u5 hs6 hv5 hb5 HEC HEB
    generalize (V3.setCell ⟨s, 5, none⟩ (.slice pa ns.length pc)) = V4 at hs7 hBV hM ⊢
    have s0 := blk_cell hs7 0
    have s1 := blk_cell hs7 1
    have s2 := blk_cell hs7 2
    have s3 := blk_cell hs7 3
    have s4 := blk_cell hs7 4
    have s5 := blk_cell hs7 5
    simp at s0 s1 s2 s3 s4 s5
    have slt3 := blk_lt hs7
    have hR4 := (hBV.block _ hsr).trans HP2.out
    have y0 := blk_cell hR4 0
    have y1 := blk_cell hR4 1
    have y2 := blk_cell hR4 2
    have y3 := blk_cell hR4 3
    have y4 := blk_cell hR4 4
    have y5 := blk_cell hR4 5
    simp at y0 y1 y2 y3 y4 y5
    have z0 := blk_frozen hR4 0
    have z1 := blk_frozen hR4 1
    have z2 := blk_frozen hR4 2
    have z3 := blk_frozen hR4 3
    have z4 := blk_frozen hR4 4
    have z5 := blk_frozen hR4 5
    have ylt := blk_lt hR4
    have HR4 := hide' hR4
    have HBV4 := hide' hBV
    have HM := hide' hM
    clear hs7 hBV hM hR4 hsr
    gi_wp2
    have hk := blk_set6 (v0 := .int .i64 r) (v1 := .slice (some ⟨b, off, none⟩) ns.length cap) (v2 := .slice (some ⟨rb1, 0, none⟩) ns.length ns.length) (v3 := .slice (some ⟨rb2, 0, none⟩) ns.length ns.length) (v4 := .slice ka ns.length kc) (v5 := .slice pa ns.length pc) HR4.out
    have k0 := blk_cell hk 0
    have k1 := blk_cell hk 1
    have k2 := blk_cell hk 2
    have k3 := blk_cell hk 3
    have k4 := blk_cell hk 4
    have k5 := blk_cell hk 5
    simp at k0 k1 k2 k3 k4 k5
    refine bodyPost_ret (v := .agg #[.int .i64 r, .slice (some ⟨b, off, none⟩) ns.length cap, .slice (some ⟨rb1, 0, none⟩) ns.length ns.length, .slice (some ⟨rb2, 0, none⟩) ns.length ns.length, .slice ka ns.length kc, .slice pa ns.length pc]) (by simp [results, Tryz.results63, go_sem, k0, k1, k2, k3, k4, k5]) rfl ⟨rb1, rb2, ka, pa, kc, pc, rfl, HM.out.set6 HR4.out (by decide) (by decide) (by decide), below_set6 (HB0.out.trans (HBV4.out.mono HB0.out.size)) (by omega)⟩
end Go.Proofs.YtoikglgnmjjpcabGreat

namespace Go.Proofs.YtoikglgnmjjpcabGreat
open Go.RowKit Go.Shelf
set_option linter.unusedVariables false
set_option linter.unusedSimpArgs false

theorem tchk_zero {r : Int} {ns : List Nd} {t : Tm} (h : tchk r ns t = 0) : chk r ns = 0 ∧ (3 ≤ t.op ∧ t.op ≤ 8) ∧ ((0 ≤ t.a ∧ t.a < r) ∧ (0 ≤ t.b ∧ t.b < r)) := by
  unfold tchk at h
  by_cases h1 : chk r ns = 0
  · rw [if_pos h1] at h
    by_cases h2 : 3 ≤ t.op ∧ t.op ≤ 8
    · rw [if_pos h2] at h
      by_cases h3 : (0 ≤ t.a ∧ t.a < r) ∧ (0 ≤ t.b ∧ t.b < r)
      · exact ⟨h1, h2, h3⟩
      · rw [if_neg h3] at h; cases h
    · rw [if_neg h2] at h; cases h
  · rw [if_neg h1] at h; exact absurd h h1

set_option maxHeartbeats 4000000 in
set_option maxRecDepth 100000 in
theorem of_wrong (r : Int) (a : Option Addr) (cap : Nat) (ns : List Nd) (t : Tm) (w : World) (hN : SlN w a ns) (hc : tchk r ns t ≠ 0) :
    Calls Tryz.prog 27 #[.agg #[.int .i64 r, .slice a ns.length cap], .agg #[.int .i64 t.op, .int .i64 t.a, .int .i64 t.b]] w fun e w' => e = .returned (.tuple #[.agg #[.slice none 0 0, .slice none 0 0, .slice none 0 0, .slice none 0 0, .slice none 0 0, .slice none 0 0], .int .i64 (tchk r ns t)]) ∧ Below w.heap.size w w' := by
  have hck := fun W (h : Below w.heap.size w W) => tcheck_any r a cap ns t W (hN.below h)
  generalize tchk r ns t = C at hck hc ⊢
  have HCK := hide hck
  clear hck
  have hCb : (C == 0) = false := by simp [hc]
  have hbA : Below w.heap.size w (((w.alloc (.cells #[.int .i64 r, .slice a ns.length cap] 24)).alloc (.cells #[.int .i64 t.op, .int .i64 t.a, .int .i64 t.b] 26)).alloc (.cells #[.slice none 0 0, .slice none 0 0, .slice none 0 0, .slice none 0 0, .slice none 0 0, .slice none 0 0] 58)) := (((Below.refl _ w).alloc (Nat.le_refl _) _).alloc (by simp) _).alloc (by simp; omega) _
  have p0 : (((w.alloc (.cells #[.int .i64 r, .slice a ns.length cap] 24)).alloc (.cells #[.int .i64 t.op, .int .i64 t.a, .int .i64 t.b] 26)).alloc (.cells #[.slice none 0 0, .slice none 0 0, .slice none 0 0, .slice none 0 0, .slice none 0 0, .slice none 0 0] 58)).heap[w.heap.size]? = some (.cells #[.int .i64 r, .slice a ns.length cap] 24 (0, 0)) := (Below.heap_alloc _ _ _ (by simp; omega)).trans ((Below.heap_alloc _ _ _ (by simp)).trans (World.alloc_heap_new w _))
  have p1 : (((w.alloc (.cells #[.int .i64 r, .slice a ns.length cap] 24)).alloc (.cells #[.int .i64 t.op, .int .i64 t.a, .int .i64 t.b] 26)).alloc (.cells #[.slice none 0 0, .slice none 0 0, .slice none 0 0, .slice none 0 0, .slice none 0 0, .slice none 0 0] 58)).heap[w.heap.size + 1]? = some (.cells #[.int .i64 t.op, .int .i64 t.a, .int .i64 t.b] 26 (0, 0)) := by
    have := World.alloc_heap_new (w.alloc (.cells #[.int .i64 r, .slice a ns.length cap] 24)) (.cells #[.int .i64 t.op, .int .i64 t.a, .int .i64 t.b] 26)
    rw [World.size_alloc] at this
    exact (Below.heap_alloc _ _ _ (by simp)).trans this
  have p2 : (((w.alloc (.cells #[.int .i64 r, .slice a ns.length cap] 24)).alloc (.cells #[.int .i64 t.op, .int .i64 t.a, .int .i64 t.b] 26)).alloc (.cells #[.slice none 0 0, .slice none 0 0, .slice none 0 0, .slice none 0 0, .slice none 0 0, .slice none 0 0] 58)).heap[w.heap.size + 2]? = some (.cells #[.slice none 0 0, .slice none 0 0, .slice none 0 0, .slice none 0 0, .slice none 0 0, .slice none 0 0] 58 (0, 0)) := by
    have := World.alloc_heap_new ((w.alloc (.cells #[.int .i64 r, .slice a ns.length cap] 24)).alloc (.cells #[.int .i64 t.op, .int .i64 t.a, .int .i64 t.b] 26)) (.cells #[.slice none 0 0, .slice none 0 0, .slice none 0 0, .slice none 0 0, .slice none 0 0, .slice none 0 0] 58)
    rwa [World.size_alloc, World.size_alloc] at this
  go_enter Tryz.func27, Tryz.ntmps27
  go_upto_region 1 with fail
  generalize (((w.alloc (.cells #[.int .i64 r, .slice a ns.length cap] 24)).alloc (.cells #[.int .i64 t.op, .int .i64 t.a, .int .i64 t.b] 26)).alloc (.cells #[.slice none 0 0, .slice none 0 0, .slice none 0 0, .slice none 0 0, .slice none 0 0, .slice none 0 0] 58)) = W at hbA p0 p1 p2 ⊢
  rw [show w.heap.size + 1 + 1 = w.heap.size + 2 from rfl]
  have q0 := blk_cell p0 0
  have q1 := blk_cell p0 1
  simp at q0 q1
  have t0 := blk_cell p1 0
  have t1 := blk_cell p1 1
  have t2 := blk_cell p1 2
  simp at t0 t1 t2
  have pl := blk_lt p0
  have tl := blk_lt p1
  have HB := hide hbA
  have HP2 := hide p2
  clear hbA p0 p1 p2
  go_wp2_with fail
  refine (HCK.out _ HB.out).mono ?_
  rintro e w1 ⟨rfl, hb1⟩
  have hR := ((hb1.block _ (blk_lt HP2.out))).trans HP2.out
  have y0 := blk_cell hR 0
  have y1 := blk_cell hR 1
  have y2 := blk_cell hR 2
  have y3 := blk_cell hR 3
  have y4 := blk_cell hR 4
  have y5 := blk_cell hR 5
  simp at y0 y1 y2 y3 y4 y5
  have z0 := blk_frozen hR 0
  have z1 := blk_frozen hR 1
  have z2 := blk_frozen hR 2
  have z3 := blk_frozen hR 3
  have z4 := blk_frozen hR 4
  have z5 := blk_frozen hR 5
  have ylt := blk_lt hR
  have HR := hide hR
  have HB1 := hide (HB.out.trans (hb1.mono HB.out.size))
  clear hR hb1 q0 q1 t0 t1 t2
  go_wp2
  have hk := blk_set6 (v0 := .slice none 0 0) (v1 := .slice none 0 0) (v2 := .slice none 0 0) (v3 := .slice none 0 0) (v4 := .slice none 0 0) (v5 := .slice none 0 0) HR.out
  have k0 := blk_cell hk 0
  have k1 := blk_cell hk 1
  have k2 := blk_cell hk 2
  have k3 := blk_cell hk 3
  have k4 := blk_cell hk 4
  have k5 := blk_cell hk 5
  simp at k0 k1 k2 k3 k4 k5
  exact bodyPost_ret (v := .tuple #[.agg #[.slice none 0 0, .slice none 0 0, .slice none 0 0, .slice none 0 0, .slice none 0 0, .slice none 0 0], .int .i64 C]) (by simp [results, Tryz.results27, go_sem, k0, k1, k2, k3, k4, k5]) rfl ⟨rfl, below_set6 HB1.out (by omega)⟩

set_option maxHeartbeats 8000000 in
set_option maxRecDepth 100000 in
theorem of_right (r : Int) (b off cap : Nat) (ns : List Nd) (t : Tm) (w : World) (hN : NodesAt w b off ns) (hc : tchk r ns t = 0) :
    Calls Tryz.prog 27 #[.agg #[.int .i64 r, .slice (some ⟨b, off, none⟩) ns.length cap], .agg #[.int .i64 t.op, .int .i64 t.a, .int .i64 t.b]] w fun e w' => ∃ a0 a1 a2 a3 a4 a5 c0 c1 c2 c3 c4 c5, e = .returned (.tuple #[.agg #[.slice a0 ns.length c0, .slice a1 ns.length c1, .slice a2 ns.length c2, .slice a3 ns.length c3, .slice a4 ns.length c4, .slice a5 ns.length c5], .int .i64 0]) ∧ (w'.ownsRow w.heap.size 4 1 (.slice a0 ns.length c0) ns.length ((downL ns t).map Value.bool) ∧ w'.ownsRow w.heap.size 4 1 (.slice a1 ns.length c1) ns.length ((upL ns t).map Value.bool) ∧ w'.ownsRow w.heap.size 4 1 (.slice a2 ns.length c2) ns.length ((earlyL ns t).map Value.bool) ∧ w'.ownsRow w.heap.size 4 1 (.slice a3 ns.length c3) ns.length ((delayL ns t).map Value.bool) ∧ w'.ownsRow w.heap.size 4 1 (.slice a4 ns.length c4) ns.length ((lateL ns t).map Value.bool) ∧ w'.ownsRow w.heap.size 4 1 (.slice a5 ns.length c5) ns.length ((aloneL ns t).map Value.bool)) ∧ Below w.heap.size w w' := by
  have hck := fun W (h : Below w.heap.size w W) => tcheck_any r (some ⟨b, off, none⟩) cap ns t W (Or.inr ⟨b, off, rfl, hN.below h hN.lt⟩)
  rw [hc] at hck
  obtain ⟨hcr, hto, _⟩ := tchk_zero hc
  have hl := (chk_zero hcr).1
  have hlk := fun W (h : Below w.heap.size w W) => callsIn_wide.1 (look_any r b off cap ns t W (hN.below h hN.lt) hcr hto)
  have HCK := hide hck
  have HLK := hide hlk
  have HN := hide hN
  have HC := hide hcr
  have HL := hide hl
  clear hck hlk hN hcr hl hto
  have hbA : Below w.heap.size w (((w.alloc (.cells #[.int .i64 r, .slice (some ⟨b, off, none⟩) ns.length cap] 24)).alloc (.cells #[.int .i64 t.op, .int .i64 t.a, .int .i64 t.b] 26)).alloc (.cells #[.slice none 0 0, .slice none 0 0, .slice none 0 0, .slice none 0 0, .slice none 0 0, .slice none 0 0] 58)) := (((Below.refl _ w).alloc (Nat.le_refl _) _).alloc (by simp) _).alloc (by simp; omega) _
  have p0 : (((w.alloc (.cells #[.int .i64 r, .slice (some ⟨b, off, none⟩) ns.length cap] 24)).alloc (.cells #[.int .i64 t.op, .int .i64 t.a, .int .i64 t.b] 26)).alloc (.cells #[.slice none 0 0, .slice none 0 0, .slice none 0 0, .slice none 0 0, .slice none 0 0, .slice none 0 0] 58)).heap[w.heap.size]? = some (.cells #[.int .i64 r, .slice (some ⟨b, off, none⟩) ns.length cap] 24 (0, 0)) := (Below.heap_alloc _ _ _ (by simp; omega)).trans ((Below.heap_alloc _ _ _ (by simp)).trans (World.alloc_heap_new w _))
  have p1 : (((w.alloc (.cells #[.int .i64 r, .slice (some ⟨b, off, none⟩) ns.length cap] 24)).alloc (.cells #[.int .i64 t.op, .int .i64 t.a, .int .i64 t.b] 26)).alloc (.cells #[.slice none 0 0, .slice none 0 0, .slice none 0 0, .slice none 0 0, .slice none 0 0, .slice none 0 0] 58)).heap[w.heap.size + 1]? = some (.cells #[.int .i64 t.op, .int .i64 t.a, .int .i64 t.b] 26 (0, 0)) := by
    have := World.alloc_heap_new (w.alloc (.cells #[.int .i64 r, .slice (some ⟨b, off, none⟩) ns.length cap] 24)) (.cells #[.int .i64 t.op, .int .i64 t.a, .int .i64 t.b] 26)
    rw [World.size_alloc] at this
    exact (Below.heap_alloc _ _ _ (by simp)).trans this
  have p2 : (((w.alloc (.cells #[.int .i64 r, .slice (some ⟨b, off, none⟩) ns.length cap] 24)).alloc (.cells #[.int .i64 t.op, .int .i64 t.a, .int .i64 t.b] 26)).alloc (.cells #[.slice none 0 0, .slice none 0 0, .slice none 0 0, .slice none 0 0, .slice none 0 0, .slice none 0 0] 58)).heap[w.heap.size + 2]? = some (.cells #[.slice none 0 0, .slice none 0 0, .slice none 0 0, .slice none 0 0, .slice none 0 0, .slice none 0 0] 58 (0, 0)) := by
    have := World.alloc_heap_new ((w.alloc (.cells #[.int .i64 r, .slice (some ⟨b, off, none⟩) ns.length cap] 24)).alloc (.cells #[.int .i64 t.op, .int .i64 t.a, .int .i64 t.b] 26)) (.cells #[.slice none 0 0, .slice none 0 0, .slice none 0 0, .slice none 0 0, .slice none 0 0, .slice none 0 0] 58)
    rwa [World.size_alloc, World.size_alloc] at this
  go_enter Tryz.func27, Tryz.ntmps27
  go_upto_region 1 with fail
  generalize (((w.alloc (.cells #[.int .i64 r, .slice (some ⟨b, off, none⟩) ns.length cap] 24)).alloc (.cells #[.int .i64 t.op, .int .i64 t.a, .int .i64 t.b] 26)).alloc (.cells #[.slice none 0 0, .slice none 0 0, .slice none 0 0, .slice none 0 0, .slice none 0 0, .slice none 0 0] 58)) = W at hbA p0 p1 p2 ⊢
  rw [show w.heap.size + 1 + 1 = w.heap.size + 2 from rfl]
  have q0 := blk_cell p0 0
  have q1 := blk_cell p0 1
  simp at q0 q1
  have t0 := blk_cell p1 0
  have t1 := blk_cell p1 1
  have t2 := blk_cell p1 2
  simp at t0 t1 t2
  have pl := blk_lt p0
  have tl := blk_lt p1
  have HB := hide hbA
  have HP0 := hide p0
  have HP1 := hide p1
  have HP2 := hide p2
  clear hbA p0 p1 p2
  go_wp2_with fail
  refine (HCK.out _ HB.out).mono ?_
  rintro e w1 ⟨rfl, hb1⟩
  have HB1 := hide (HB.out.trans (hb1.mono HB.out.size))
  have hP := (hb1.block _ pl).trans HP0.out
  have hT := (hb1.block _ tl).trans HP1.out
  have HR1 := hide ((hb1.block _ (blk_lt HP2.out)).trans HP2.out)
  clear hb1 q0 q1 t0 t1 t2 pl tl HB HP0 HP1 HP2
  have q0 := blk_cell hP 0
  have q1 := blk_cell hP 1
  simp at q0 q1
  have t0 := blk_cell hT 0
  have t1 := blk_cell hT 1
  have t2 := blk_cell hT 2
  simp at t0 t1 t2
  have pl := blk_lt hP
  have tl := blk_lt hT
  clear hP hT
  go_wp2_with fail
  refine (HLK.out _ HB1.out).mono ?_
  rintro e w2 ⟨rb1, rb2, ka, pa, kc, pc, rfl, hM, hb2⟩
  clear q0 q1 t0 t1 t2 pl tl
  have HB2 := hide (HB1.out.trans (hb2.mono HB1.out.size))
  have HR2 := hide ((hb2.block _ (blk_lt HR1.out)).trans HR1.out)
  have HM := hide hM
  clear hM hb2 HB1 HR1 HCK HLK
  go_upto_region 6 with fail
  have hS : (w2.alloc (.cells #[.int .i64 r, .slice (some ⟨b, off, none⟩) ns.length cap, .slice (some ⟨rb1, 0, none⟩) ns.length ns.length, .slice (some ⟨rb2, 0, none⟩) ns.length ns.length, .slice ka ns.length kc, .slice pa ns.length pc] 98)).heap[w2.heap.size]? = some (.cells #[.int .i64 r, .slice (some ⟨b, off, none⟩) ns.length cap, .slice (some ⟨rb1, 0, none⟩) ns.length ns.length, .slice (some ⟨rb2, 0, none⟩) ns.length ns.length, .slice ka ns.length kc, .slice pa ns.length pc] 98 (0, 0)) := World.alloc_heap_new w2 _
  have hbS : Below w2.heap.size w2 (w2.alloc (.cells #[.int .i64 r, .slice (some ⟨b, off, none⟩) ns.length cap, .slice (some ⟨rb1, 0, none⟩) ns.length ns.length, .slice (some ⟨rb2, 0, none⟩) ns.length ns.length, .slice ka ns.length kc, .slice pa ns.length pc] 98)) := (Below.refl _ w2).alloc (Nat.le_refl _) _
  have hMS : SMT (w2.alloc (.cells #[.int .i64 r, .slice (some ⟨b, off, none⟩) ns.length cap, .slice (some ⟨rb1, 0, none⟩) ns.length ns.length, .slice (some ⟨rb2, 0, none⟩) ns.length ns.length, .slice ka ns.length kc, .slice pa ns.length pc] 98)) ns t rb1 rb2 (.slice ka ns.length kc) (.slice pa ns.length pc) := HM.out.below hbS
  have hsz : (w2.alloc (.cells #[.int .i64 r, .slice (some ⟨b, off, none⟩) ns.length cap, .slice (some ⟨rb1, 0, none⟩) ns.length ns.length, .slice (some ⟨rb2, 0, none⟩) ns.length ns.length, .slice ka ns.length kc, .slice pa ns.length pc] 98)).heap.size = w2.heap.size + 1 := World.size_alloc _ _
  generalize (w2.alloc (.cells #[.int .i64 r, .slice (some ⟨b, off, none⟩) ns.length cap, .slice (some ⟨rb1, 0, none⟩) ns.length ns.length, .slice (some ⟨rb2, 0, none⟩) ns.length ns.length, .slice ka ns.length kc, .slice pa ns.length pc] 98)) = WS at hS hbS hMS hsz ⊢
  have hF0 := World.alloc_heap_new WS (.cells #[.slice none 0 0, .slice none 0 0, .slice none 0 0, .slice none 0 0, .slice none 0 0, .slice none 0 0] 58)
  have hbF : Below WS.heap.size WS (WS.alloc (.cells #[.slice none 0 0, .slice none 0 0, .slice none 0 0, .slice none 0 0, .slice none 0 0, .slice none 0 0] 58)) := (Below.refl _ WS).alloc (Nat.le_refl _) _
  have hF : (WS.alloc (.cells #[.slice none 0 0, .slice none 0 0, .slice none 0 0, .slice none 0 0, .slice none 0 0, .slice none 0 0] 58)).heap[w2.heap.size + 1]? = some (.cells #[.slice none 0 0, .slice none 0 0, .slice none 0 0, .slice none 0 0, .slice none 0 0, .slice none 0 0] 58 (0, 0)) := by rw [← hsz]; exact hF0
  have hS' : (WS.alloc (.cells #[.slice none 0 0, .slice none 0 0, .slice none 0 0, .slice none 0 0, .slice none 0 0, .slice none 0 0] 58)).heap[w2.heap.size]? = some (.cells #[.int .i64 r, .slice (some ⟨b, off, none⟩) ns.length cap, .slice (some ⟨rb1, 0, none⟩) ns.length ns.length, .slice (some ⟨rb2, 0, none⟩) ns.length ns.length, .slice ka ns.length kc, .slice pa ns.length pc] 98 (0, 0)) := (hbF.block _ (blk_lt hS)).trans hS
  have HB := hide (HB2.out.trans ((hbS.trans (hbF.mono hbS.size)).mono HB2.out.size))
  have HR := hide (((hbS.trans (hbF.mono hbS.size)).block _ (blk_lt HR2.out)).trans HR2.out)
  have HM0 := hide (hMS.below hbF)
  try rw [hsz]
  have H2 := hide HB2.out.size
  have H3 : Hid (w.heap.size + 2 < w2.heap.size) := blk_lt HR2.out
  clear HB2 HR2 HM hS hbS hMS hF0 hbF hsz
  generalize (WS.alloc (.cells #[.slice none 0 0, .slice none 0 0, .slice none 0 0, .slice none 0 0, .slice none 0 0, .slice none 0 0] 58)) = V0 at HB HR HM0 hF hS' ⊢
  have HF0 := hide hF
  have HS0 := hide hS'
  clear hF hS'
  have HCA := hide (down_any r b off cap ns t rb1 rb2 ka pa kc pc V0 (HN.out.below HB.out HN.out.lt) HC.out HM0.out.read)
  have hS := HS0.out
  have hF := HF0.out
  have s0 := blk_cell hS 0
  have s1 := blk_cell hS 1
  have s2 := blk_cell hS 2
  have s3 := blk_cell hS 3
  have s4 := blk_cell hS 4
  have s5 := blk_cell hS 5
  simp at s0 s1 s2 s3 s4 s5
  have slt := blk_lt hS
  have flt := blk_lt hF
  clear hS hF
  go_upto_region 7 with (go_at_call 64; refine HCA.out.mono ?_; rintro e U ⟨v, rfl, hv, hb⟩; obtain ⟨a0, c0, rfl⟩ := owns_slice hv; have hfu := (hb.block _ flt).trans HF0.out; have g0 := blk_cell hfu 0; simp at g0; have h0 := blk_frozen hfu 0; have flu := blk_lt hfu)
  have hF' : (U.setCell ⟨w2.heap.size + 1, 0, none⟩ (.slice a0 ns.length c0)).heap[w2.heap.size + 1]? = some (.cells #[.slice a0 ns.length c0, .slice none 0 0, .slice none 0 0, .slice none 0 0, .slice none 0 0, .slice none 0 0] 58 (0, 0)) := by rw [blk_set _ hfu]; simp
  have hS' : (U.setCell ⟨w2.heap.size + 1, 0, none⟩ (.slice a0 ns.length c0)).heap[w2.heap.size]? = some (.cells #[.int .i64 r, .slice (some ⟨b, off, none⟩) ns.length cap, .slice (some ⟨rb1, 0, none⟩) ns.length ns.length, .slice (some ⟨rb2, 0, none⟩) ns.length ns.length, .slice ka ns.length kc, .slice pa ns.length pc] 98 (0, 0)) := blk_set_ne _ ((hb.block _ slt).trans HS0.out) (by omega)
  have hB' : Below w.heap.size w (U.setCell ⟨w2.heap.size + 1, 0, none⟩ (.slice a0 ns.length c0)) := (HB.out.trans (hb.mono HB.out.size)).setCell (p := ⟨w2.heap.size + 1, 0, none⟩) (by have := H2.out; show _ ≤ w2.heap.size + 1; omega) _
  have hR' : (U.setCell ⟨w2.heap.size + 1, 0, none⟩ (.slice a0 ns.length c0)).heap[w.heap.size + 2]? = some (.cells #[.slice none 0 0, .slice none 0 0, .slice none 0 0, .slice none 0 0, .slice none 0 0, .slice none 0 0] 58 (0, 0)) := blk_set_ne _ ((hb.block _ (blk_lt HR.out)).trans HR.out) (by have := H3.out; omega)
  have hM' : SMT (U.setCell ⟨w2.heap.size + 1, 0, none⟩ (.slice a0 ns.length c0)) ns t rb1 rb2 (.slice ka ns.length kc) (.slice pa ns.length pc) := (HM0.out.below hb).set hfu (by decide) (by decide) (by decide)
  have o0 := owns_set (o := 0) (u := .slice a0 ns.length c0) (ownsRow_base (base' := w.heap.size) hv HB.out.size) hfu (by decide)
  clear HB HR HCA hb hv hfu g0 h0 s0 s1 s2 s3 s4 s5  slt flt flu HS0 HF0 HM0 
  generalize (U.setCell ⟨w2.heap.size + 1, 0, none⟩ (.slice a0 ns.length c0)) = V1 at hF' hS' hB' hR' hM' o0 ⊢
  have HF1 := hide hF'
  have HS1 := hide hS'
  have HB := hide hB'
  have HR := hide hR'
  have HM1 := hide hM'
  have HO0 := hide o0
  clear hF' hS' hB' hR' hM' o0
  have HCA := hide (up_any r b off cap ns t rb1 rb2 ka pa kc pc V1 (HN.out.below HB.out HN.out.lt) HC.out HM1.out.read)
  have hS := HS1.out
  have hF := HF1.out
  have s0 := blk_cell hS 0
  have s1 := blk_cell hS 1
  have s2 := blk_cell hS 2
  have s3 := blk_cell hS 3
  have s4 := blk_cell hS 4
  have s5 := blk_cell hS 5
  simp at s0 s1 s2 s3 s4 s5
  have slt := blk_lt hS
  have flt := blk_lt hF
  clear hS hF
  go_upto_region 8 with (go_at_call 65; refine HCA.out.mono ?_; rintro e U ⟨v, rfl, hv, hb⟩; obtain ⟨a1, c1, rfl⟩ := owns_slice hv; have hfu := (hb.block _ flt).trans HF1.out; have g1 := blk_cell hfu 1; simp at g1; have h1 := blk_frozen hfu 1; have flu := blk_lt hfu)
  have hF' : (U.setCell ⟨w2.heap.size + 1, 1, none⟩ (.slice a1 ns.length c1)).heap[w2.heap.size + 1]? = some (.cells #[.slice a0 ns.length c0, .slice a1 ns.length c1, .slice none 0 0, .slice none 0 0, .slice none 0 0, .slice none 0 0] 58 (0, 0)) := by rw [blk_set _ hfu]; simp
  have hS' : (U.setCell ⟨w2.heap.size + 1, 1, none⟩ (.slice a1 ns.length c1)).heap[w2.heap.size]? = some (.cells #[.int .i64 r, .slice (some ⟨b, off, none⟩) ns.length cap, .slice (some ⟨rb1, 0, none⟩) ns.length ns.length, .slice (some ⟨rb2, 0, none⟩) ns.length ns.length, .slice ka ns.length kc, .slice pa ns.length pc] 98 (0, 0)) := blk_set_ne _ ((hb.block _ slt).trans HS1.out) (by omega)
  have hB' : Below w.heap.size w (U.setCell ⟨w2.heap.size + 1, 1, none⟩ (.slice a1 ns.length c1)) := (HB.out.trans (hb.mono HB.out.size)).setCell (p := ⟨w2.heap.size + 1, 1, none⟩) (by have := H2.out; show _ ≤ w2.heap.size + 1; omega) _
  have hR' : (U.setCell ⟨w2.heap.size + 1, 1, none⟩ (.slice a1 ns.length c1)).heap[w.heap.size + 2]? = some (.cells #[.slice none 0 0, .slice none 0 0, .slice none 0 0, .slice none 0 0, .slice none 0 0, .slice none 0 0] 58 (0, 0)) := blk_set_ne _ ((hb.block _ (blk_lt HR.out)).trans HR.out) (by have := H3.out; omega)
  have hM' : SMT (U.setCell ⟨w2.heap.size + 1, 1, none⟩ (.slice a1 ns.length c1)) ns t rb1 rb2 (.slice ka ns.length kc) (.slice pa ns.length pc) := (HM1.out.below hb).set hfu (by decide) (by decide) (by decide)
  have o0 := owns_set (o := 1) (u := .slice a1 ns.length c1) (ownsRow_below HO0.out hb (Nat.le_refl _)) hfu (by decide)
  have o1 := owns_set (o := 1) (u := .slice a1 ns.length c1) (ownsRow_base (base' := w.heap.size) hv HB.out.size) hfu (by decide)
  clear HB HR HCA hb hv hfu g1 h1 s0 s1 s2 s3 s4 s5  slt flt flu HS1 HF1 HM1 HO0
  generalize (U.setCell ⟨w2.heap.size + 1, 1, none⟩ (.slice a1 ns.length c1)) = V2 at hF' hS' hB' hR' hM' o0 o1 ⊢
  have HF2 := hide hF'
  have HS2 := hide hS'
  have HB := hide hB'
  have HR := hide hR'
  have HM2 := hide hM'
  have HO0 := hide o0
  have HO1 := hide o1
  clear hF' hS' hB' hR' hM' o0 o1
  have HCA := hide (earliest_any r b off cap ns t rb1 rb2 ka pa a0 a1 kc pc c0 c1 (.slice none 0 0) (.slice none 0 0) (.slice none 0 0) (.slice none 0 0) V2 HL.out.2 HM2.out.read (bools_owned HO0.out (solve_len _ _)) (bools_owned HO1.out (solve_len _ _)))
  have hS := HS2.out
  have hF := HF2.out
  have s0 := blk_cell hS 0
  have s1 := blk_cell hS 1
  have s2 := blk_cell hS 2
  have s3 := blk_cell hS 3
  have s4 := blk_cell hS 4
  have s5 := blk_cell hS 5
  simp at s0 s1 s2 s3 s4 s5
  have f0 := blk_cell hF 0
  have f1 := blk_cell hF 1
  have f2 := blk_cell hF 2
  have f3 := blk_cell hF 3
  have f4 := blk_cell hF 4
  have f5 := blk_cell hF 5
  simp at f0 f1 f2 f3 f4 f5
  have slt := blk_lt hS
  have flt := blk_lt hF
  clear hS hF
  go_upto_region 9 with (go_at_call 66; refine HCA.out.mono ?_; rintro e U ⟨v, rfl, hv, hb⟩; obtain ⟨a2, c2, rfl⟩ := owns_slice hv; have hfu := (hb.block _ flt).trans HF2.out; have g2 := blk_cell hfu 2; simp at g2; have h2 := blk_frozen hfu 2; have flu := blk_lt hfu)
  have hF' : (U.setCell ⟨w2.heap.size + 1, 2, none⟩ (.slice a2 ns.length c2)).heap[w2.heap.size + 1]? = some (.cells #[.slice a0 ns.length c0, .slice a1 ns.length c1, .slice a2 ns.length c2, .slice none 0 0, .slice none 0 0, .slice none 0 0] 58 (0, 0)) := by rw [blk_set _ hfu]; simp
  have hS' : (U.setCell ⟨w2.heap.size + 1, 2, none⟩ (.slice a2 ns.length c2)).heap[w2.heap.size]? = some (.cells #[.int .i64 r, .slice (some ⟨b, off, none⟩) ns.length cap, .slice (some ⟨rb1, 0, none⟩) ns.length ns.length, .slice (some ⟨rb2, 0, none⟩) ns.length ns.length, .slice ka ns.length kc, .slice pa ns.length pc] 98 (0, 0)) := blk_set_ne _ ((hb.block _ slt).trans HS2.out) (by omega)
  have hB' : Below w.heap.size w (U.setCell ⟨w2.heap.size + 1, 2, none⟩ (.slice a2 ns.length c2)) := (HB.out.trans (hb.mono HB.out.size)).setCell (p := ⟨w2.heap.size + 1, 2, none⟩) (by have := H2.out; show _ ≤ w2.heap.size + 1; omega) _
  have hR' : (U.setCell ⟨w2.heap.size + 1, 2, none⟩ (.slice a2 ns.length c2)).heap[w.heap.size + 2]? = some (.cells #[.slice none 0 0, .slice none 0 0, .slice none 0 0, .slice none 0 0, .slice none 0 0, .slice none 0 0] 58 (0, 0)) := blk_set_ne _ ((hb.block _ (blk_lt HR.out)).trans HR.out) (by have := H3.out; omega)
  have hM' : SMT (U.setCell ⟨w2.heap.size + 1, 2, none⟩ (.slice a2 ns.length c2)) ns t rb1 rb2 (.slice ka ns.length kc) (.slice pa ns.length pc) := (HM2.out.below hb).set hfu (by decide) (by decide) (by decide)
  have o0 := owns_set (o := 2) (u := .slice a2 ns.length c2) (ownsRow_below HO0.out hb (Nat.le_refl _)) hfu (by decide)
  have o1 := owns_set (o := 2) (u := .slice a2 ns.length c2) (ownsRow_below HO1.out hb (Nat.le_refl _)) hfu (by decide)
  have o2 := owns_set (o := 2) (u := .slice a2 ns.length c2) (ownsRow_base (base' := w.heap.size) hv HB.out.size) hfu (by decide)
  clear HB HR HCA hb hv hfu g2 h2 s0 s1 s2 s3 s4 s5 f0 f1 f2 f3 f4 f5 slt flt flu HS2 HF2 HM2 HO0 HO1
  generalize (U.setCell ⟨w2.heap.size + 1, 2, none⟩ (.slice a2 ns.length c2)) = V3 at hF' hS' hB' hR' hM' o0 o1 o2 ⊢
  have HF3 := hide hF'
  have HS3 := hide hS'
  have HB := hide hB'
  have HR := hide hR'
  have HM3 := hide hM'
  have HO0 := hide o0
  have HO1 := hide o1
  have HO2 := hide o2
  clear hF' hS' hB' hR' hM' o0 o1 o2
  have HCA := hide (delay_any r b off cap ns t rb1 rb2 ka pa a2 kc pc c2 (.slice a0 ns.length c0) (.slice a1 ns.length c1) (.slice none 0 0) (.slice none 0 0) (.slice none 0 0) V3 (HN.out.below HB.out HN.out.lt) HC.out HM3.out.read (bools_owned HO2.out (by simp [earlyL])))
  have hS := HS3.out
  have hF := HF3.out
  have s0 := blk_cell hS 0
  have s1 := blk_cell hS 1
  have s2 := blk_cell hS 2
  have s3 := blk_cell hS 3
  have s4 := blk_cell hS 4
  have s5 := blk_cell hS 5
  simp at s0 s1 s2 s3 s4 s5
  have f0 := blk_cell hF 0
  have f1 := blk_cell hF 1
  have f2 := blk_cell hF 2
  have f3 := blk_cell hF 3
  have f4 := blk_cell hF 4
  have f5 := blk_cell hF 5
  simp at f0 f1 f2 f3 f4 f5
  have slt := blk_lt hS
  have flt := blk_lt hF
  clear hS hF
  go_upto_region 10 with (go_at_call 67; refine HCA.out.mono ?_; rintro e U ⟨v, rfl, hv, hb⟩; obtain ⟨a3, c3, rfl⟩ := owns_slice hv; have hfu := (hb.block _ flt).trans HF3.out; have g3 := blk_cell hfu 3; simp at g3; have h3 := blk_frozen hfu 3; have flu := blk_lt hfu)
  have hF' : (U.setCell ⟨w2.heap.size + 1, 3, none⟩ (.slice a3 ns.length c3)).heap[w2.heap.size + 1]? = some (.cells #[.slice a0 ns.length c0, .slice a1 ns.length c1, .slice a2 ns.length c2, .slice a3 ns.length c3, .slice none 0 0, .slice none 0 0] 58 (0, 0)) := by rw [blk_set _ hfu]; simp
  have hS' : (U.setCell ⟨w2.heap.size + 1, 3, none⟩ (.slice a3 ns.length c3)).heap[w2.heap.size]? = some (.cells #[.int .i64 r, .slice (some ⟨b, off, none⟩) ns.length cap, .slice (some ⟨rb1, 0, none⟩) ns.length ns.length, .slice (some ⟨rb2, 0, none⟩) ns.length ns.length, .slice ka ns.length kc, .slice pa ns.length pc] 98 (0, 0)) := blk_set_ne _ ((hb.block _ slt).trans HS3.out) (by omega)
  have hB' : Below w.heap.size w (U.setCell ⟨w2.heap.size + 1, 3, none⟩ (.slice a3 ns.length c3)) := (HB.out.trans (hb.mono HB.out.size)).setCell (p := ⟨w2.heap.size + 1, 3, none⟩) (by have := H2.out; show _ ≤ w2.heap.size + 1; omega) _
  have hR' : (U.setCell ⟨w2.heap.size + 1, 3, none⟩ (.slice a3 ns.length c3)).heap[w.heap.size + 2]? = some (.cells #[.slice none 0 0, .slice none 0 0, .slice none 0 0, .slice none 0 0, .slice none 0 0, .slice none 0 0] 58 (0, 0)) := blk_set_ne _ ((hb.block _ (blk_lt HR.out)).trans HR.out) (by have := H3.out; omega)
  have hM' : SMT (U.setCell ⟨w2.heap.size + 1, 3, none⟩ (.slice a3 ns.length c3)) ns t rb1 rb2 (.slice ka ns.length kc) (.slice pa ns.length pc) := (HM3.out.below hb).set hfu (by decide) (by decide) (by decide)
  have o0 := owns_set (o := 3) (u := .slice a3 ns.length c3) (ownsRow_below HO0.out hb (Nat.le_refl _)) hfu (by decide)
  have o1 := owns_set (o := 3) (u := .slice a3 ns.length c3) (ownsRow_below HO1.out hb (Nat.le_refl _)) hfu (by decide)
  have o2 := owns_set (o := 3) (u := .slice a3 ns.length c3) (ownsRow_below HO2.out hb (Nat.le_refl _)) hfu (by decide)
  have o3 := owns_set (o := 3) (u := .slice a3 ns.length c3) (ownsRow_base (base' := w.heap.size) hv HB.out.size) hfu (by decide)
  clear HB HR HCA hb hv hfu g3 h3 s0 s1 s2 s3 s4 s5 f0 f1 f2 f3 f4 f5 slt flt flu HS3 HF3 HM3 HO0 HO1 HO2
  generalize (U.setCell ⟨w2.heap.size + 1, 3, none⟩ (.slice a3 ns.length c3)) = V4 at hF' hS' hB' hR' hM' o0 o1 o2 o3 ⊢
  have HF4 := hide hF'
  have HS4 := hide hS'
  have HB := hide hB'
  have HR := hide hR'
  have HM4 := hide hM'
  have HO0 := hide o0
  have HO1 := hide o1
  have HO2 := hide o2
  have HO3 := hide o3
  clear hF' hS' hB' hR' hM' o0 o1 o2 o3
  have HCA := hide (latest_any r b off cap ns t rb1 rb2 ka pa a3 kc pc c3 (.slice a0 ns.length c0) (.slice a1 ns.length c1) (.slice a2 ns.length c2) (.slice none 0 0) (.slice none 0 0) V4 HL.out.2 HM4.out.read (bools_owned HO3.out (solve_len _ _)))
  have hS := HS4.out
  have hF := HF4.out
  have s0 := blk_cell hS 0
  have s1 := blk_cell hS 1
  have s2 := blk_cell hS 2
  have s3 := blk_cell hS 3
  have s4 := blk_cell hS 4
  have s5 := blk_cell hS 5
  simp at s0 s1 s2 s3 s4 s5
  have f0 := blk_cell hF 0
  have f1 := blk_cell hF 1
  have f2 := blk_cell hF 2
  have f3 := blk_cell hF 3
  have f4 := blk_cell hF 4
  have f5 := blk_cell hF 5
  simp at f0 f1 f2 f3 f4 f5
  have slt := blk_lt hS
  have flt := blk_lt hF
  clear hS hF
  go_upto_region 11 with (go_at_call 68; refine HCA.out.mono ?_; rintro e U ⟨v, rfl, hv, hb⟩; obtain ⟨a4, c4, rfl⟩ := owns_slice hv; have hfu := (hb.block _ flt).trans HF4.out; have g4 := blk_cell hfu 4; simp at g4; have h4 := blk_frozen hfu 4; have flu := blk_lt hfu)
  have hF' : (U.setCell ⟨w2.heap.size + 1, 4, none⟩ (.slice a4 ns.length c4)).heap[w2.heap.size + 1]? = some (.cells #[.slice a0 ns.length c0, .slice a1 ns.length c1, .slice a2 ns.length c2, .slice a3 ns.length c3, .slice a4 ns.length c4, .slice none 0 0] 58 (0, 0)) := by rw [blk_set _ hfu]; simp
  have hS' : (U.setCell ⟨w2.heap.size + 1, 4, none⟩ (.slice a4 ns.length c4)).heap[w2.heap.size]? = some (.cells #[.int .i64 r, .slice (some ⟨b, off, none⟩) ns.length cap, .slice (some ⟨rb1, 0, none⟩) ns.length ns.length, .slice (some ⟨rb2, 0, none⟩) ns.length ns.length, .slice ka ns.length kc, .slice pa ns.length pc] 98 (0, 0)) := blk_set_ne _ ((hb.block _ slt).trans HS4.out) (by omega)
  have hB' : Below w.heap.size w (U.setCell ⟨w2.heap.size + 1, 4, none⟩ (.slice a4 ns.length c4)) := (HB.out.trans (hb.mono HB.out.size)).setCell (p := ⟨w2.heap.size + 1, 4, none⟩) (by have := H2.out; show _ ≤ w2.heap.size + 1; omega) _
  have hR' : (U.setCell ⟨w2.heap.size + 1, 4, none⟩ (.slice a4 ns.length c4)).heap[w.heap.size + 2]? = some (.cells #[.slice none 0 0, .slice none 0 0, .slice none 0 0, .slice none 0 0, .slice none 0 0, .slice none 0 0] 58 (0, 0)) := blk_set_ne _ ((hb.block _ (blk_lt HR.out)).trans HR.out) (by have := H3.out; omega)
  have hM' : SMT (U.setCell ⟨w2.heap.size + 1, 4, none⟩ (.slice a4 ns.length c4)) ns t rb1 rb2 (.slice ka ns.length kc) (.slice pa ns.length pc) := (HM4.out.below hb).set hfu (by decide) (by decide) (by decide)
  have o0 := owns_set (o := 4) (u := .slice a4 ns.length c4) (ownsRow_below HO0.out hb (Nat.le_refl _)) hfu (by decide)
  have o1 := owns_set (o := 4) (u := .slice a4 ns.length c4) (ownsRow_below HO1.out hb (Nat.le_refl _)) hfu (by decide)
  have o2 := owns_set (o := 4) (u := .slice a4 ns.length c4) (ownsRow_below HO2.out hb (Nat.le_refl _)) hfu (by decide)
  have o3 := owns_set (o := 4) (u := .slice a4 ns.length c4) (ownsRow_below HO3.out hb (Nat.le_refl _)) hfu (by decide)
  have o4 := owns_set (o := 4) (u := .slice a4 ns.length c4) (ownsRow_base (base' := w.heap.size) hv HB.out.size) hfu (by decide)
  clear HB HR HCA hb hv hfu g4 h4 s0 s1 s2 s3 s4 s5 f0 f1 f2 f3 f4 f5 slt flt flu HS4 HF4 HM4 HO0 HO1 HO2 HO3
  generalize (U.setCell ⟨w2.heap.size + 1, 4, none⟩ (.slice a4 ns.length c4)) = V5 at hF' hS' hB' hR' hM' o0 o1 o2 o3 o4 ⊢
  have HF5 := hide hF'
  have HS5 := hide hS'
  have HB := hide hB'
  have HR := hide hR'
  have HM5 := hide hM'
  have HO0 := hide o0
  have HO1 := hide o1
  have HO2 := hide o2
  have HO3 := hide o3
  have HO4 := hide o4
  clear hF' hS' hB' hR' hM' o0 o1 o2 o3 o4
  have HCA := hide (alone_any r b off cap ns t rb1 rb2 ka pa a4 kc pc c4 (.slice a0 ns.length c0) (.slice a1 ns.length c1) (.slice a2 ns.length c2) (.slice a3 ns.length c3) (.slice none 0 0) V5 (HN.out.below HB.out HN.out.lt) HC.out HM5.out.read (bools_owned HO4.out (by simp [lateL])))
  have hS := HS5.out
  have hF := HF5.out
  have s0 := blk_cell hS 0
  have s1 := blk_cell hS 1
  have s2 := blk_cell hS 2
  have s3 := blk_cell hS 3
  have s4 := blk_cell hS 4
  have s5 := blk_cell hS 5
  simp at s0 s1 s2 s3 s4 s5
  have f0 := blk_cell hF 0
  have f1 := blk_cell hF 1
  have f2 := blk_cell hF 2
  have f3 := blk_cell hF 3
  have f4 := blk_cell hF 4
  have f5 := blk_cell hF 5
  simp at f0 f1 f2 f3 f4 f5
  have slt := blk_lt hS
  have flt := blk_lt hF
  clear hS hF
  go_upto_region 12 with (go_at_call 69; refine HCA.out.mono ?_; rintro e U ⟨v, rfl, hv, hb⟩; obtain ⟨a5, c5, rfl⟩ := owns_slice hv; have hfu := (hb.block _ flt).trans HF5.out; have g5 := blk_cell hfu 5; simp at g5; have h5 := blk_frozen hfu 5; have flu := blk_lt hfu)
  have hF' : (U.setCell ⟨w2.heap.size + 1, 5, none⟩ (.slice a5 ns.length c5)).heap[w2.heap.size + 1]? = some (.cells #[.slice a0 ns.length c0, .slice a1 ns.length c1, .slice a2 ns.length c2, .slice a3 ns.length c3, .slice a4 ns.length c4, .slice a5 ns.length c5] 58 (0, 0)) := by rw [blk_set _ hfu]; simp
  have hS' : (U.setCell ⟨w2.heap.size + 1, 5, none⟩ (.slice a5 ns.length c5)).heap[w2.heap.size]? = some (.cells #[.int .i64 r, .slice (some ⟨b, off, none⟩) ns.length cap, .slice (some ⟨rb1, 0, none⟩) ns.length ns.length, .slice (some ⟨rb2, 0, none⟩) ns.length ns.length, .slice ka ns.length kc, .slice pa ns.length pc] 98 (0, 0)) := blk_set_ne _ ((hb.block _ slt).trans HS5.out) (by omega)
  have hB' : Below w.heap.size w (U.setCell ⟨w2.heap.size + 1, 5, none⟩ (.slice a5 ns.length c5)) := (HB.out.trans (hb.mono HB.out.size)).setCell (p := ⟨w2.heap.size + 1, 5, none⟩) (by have := H2.out; show _ ≤ w2.heap.size + 1; omega) _
  have hR' : (U.setCell ⟨w2.heap.size + 1, 5, none⟩ (.slice a5 ns.length c5)).heap[w.heap.size + 2]? = some (.cells #[.slice none 0 0, .slice none 0 0, .slice none 0 0, .slice none 0 0, .slice none 0 0, .slice none 0 0] 58 (0, 0)) := blk_set_ne _ ((hb.block _ (blk_lt HR.out)).trans HR.out) (by have := H3.out; omega)
  have hM' : SMT (U.setCell ⟨w2.heap.size + 1, 5, none⟩ (.slice a5 ns.length c5)) ns t rb1 rb2 (.slice ka ns.length kc) (.slice pa ns.length pc) := (HM5.out.below hb).set hfu (by decide) (by decide) (by decide)
  have o0 := owns_set (o := 5) (u := .slice a5 ns.length c5) (ownsRow_below HO0.out hb (Nat.le_refl _)) hfu (by decide)
  have o1 := owns_set (o := 5) (u := .slice a5 ns.length c5) (ownsRow_below HO1.out hb (Nat.le_refl _)) hfu (by decide)
  have o2 := owns_set (o := 5) (u := .slice a5 ns.length c5) (ownsRow_below HO2.out hb (Nat.le_refl _)) hfu (by decide)
  have o3 := owns_set (o := 5) (u := .slice a5 ns.length c5) (ownsRow_below HO3.out hb (Nat.le_refl _)) hfu (by decide)
  have o4 := owns_set (o := 5) (u := .slice a5 ns.length c5) (ownsRow_below HO4.out hb (Nat.le_refl _)) hfu (by decide)
  have o5 := owns_set (o := 5) (u := .slice a5 ns.length c5) (ownsRow_base (base' := w.heap.size) hv HB.out.size) hfu (by decide)
  clear HB HR HCA hb hv hfu g5 h5 s0 s1 s2 s3 s4 s5 f0 f1 f2 f3 f4 f5 slt flt flu HS5 HF5 HM5 HO0 HO1 HO2 HO3 HO4
  generalize (U.setCell ⟨w2.heap.size + 1, 5, none⟩ (.slice a5 ns.length c5)) = V6 at hF' hS' hB' hR' hM' o0 o1 o2 o3 o4 o5 ⊢
  have HF6 := hide hF'
  have HS6 := hide hS'
  have HB := hide hB'
  have HR := hide hR'
  have HM6 := hide hM'
  have HO0 := hide o0
  have HO1 := hide o1
  have HO2 := hide o2
  have HO3 := hide o3
  have HO4 := hide o4
  have HO5 := hide o5
  clear hF' hS' hB' hR' hM' o0 o1 o2 o3 o4 o5
  have hF := HF6.out
  have hR := HR.out
  have f0 := blk_cell hF 0
  have f1 := blk_cell hF 1
  have f2 := blk_cell hF 2
  have f3 := blk_cell hF 3
  have f4 := blk_cell hF 4
  have f5 := blk_cell hF 5
  simp at f0 f1 f2 f3 f4 f5
  have y0 := blk_cell hR 0
  have y1 := blk_cell hR 1
  have y2 := blk_cell hR 2
  have y3 := blk_cell hR 3
  have y4 := blk_cell hR 4
  have y5 := blk_cell hR 5
  simp at y0 y1 y2 y3 y4 y5
  have z0 := blk_frozen hR 0
  have z1 := blk_frozen hR 1
  have z2 := blk_frozen hR 2
  have z3 := blk_frozen hR 3
  have z4 := blk_frozen hR 4
  have z5 := blk_frozen hR 5
  have flt := blk_lt hF
  have ylt := blk_lt hR
  clear hF hR
  go_wp2
  have hk := blk_set6 (v0 := .slice a0 ns.length c0) (v1 := .slice a1 ns.length c1) (v2 := .slice a2 ns.length c2) (v3 := .slice a3 ns.length c3) (v4 := .slice a4 ns.length c4) (v5 := .slice a5 ns.length c5) HR.out
  have k0 := blk_cell hk 0
  have k1 := blk_cell hk 1
  have k2 := blk_cell hk 2
  have k3 := blk_cell hk 3
  have k4 := blk_cell hk 4
  have k5 := blk_cell hk 5
  simp at k0 k1 k2 k3 k4 k5
  exact bodyPost_ret (v := .tuple #[.agg #[.slice a0 ns.length c0, .slice a1 ns.length c1, .slice a2 ns.length c2, .slice a3 ns.length c3, .slice a4 ns.length c4, .slice a5 ns.length c5], .int .i64 0]) (by simp [results, Tryz.results27, go_sem, k0, k1, k2, k3, k4, k5]) rfl ⟨a0, a1, a2, a3, a4, a5, c0, c1, c2, c3, c4, c5, rfl, ⟨owns_set6 HO0.out HR.out (by decide), owns_set6 HO1.out HR.out (by decide), owns_set6 HO2.out HR.out (by decide), owns_set6 HO3.out HR.out (by decide), owns_set6 HO4.out HR.out (by decide), owns_set6 HO5.out HR.out (by decide)⟩, below_set6 HB.out (by omega)⟩
end Go.Proofs.YtoikglgnmjjpcabGreat

namespace Go.Proofs.YtoikglgnmjjpcabGreat
open Go.RowKit Go.Shelf
set_option linter.unusedVariables false
set_option linter.unusedSimpArgs false

end Go.Proofs.YtoikglgnmjjpcabGreat


namespace Go.Proofs.YtoikglgnmjjpcabGreat
open Go.RowKit Go.Shelf
set_option linter.unusedVariables false
set_option linter.unusedSimpArgs false

theorem blk_set2 {w : World} {B : Nat} {x0 x1 v0 v1 : Value} {t : TypeId} (h : w.heap[B]? = some (.cells #[x0, x1] t (0, 0))) : ((w.setCell ⟨B, 0, none⟩ v0).setCell ⟨B, 1, none⟩ v1).heap[B]? = some (.cells #[v0, v1] t (0, 0)) := by
  rw [blk_set _ (blk_set _ h)]; simp
theorem below_set2 {w u : World} {B : Nat} {v0 v1 : Value} (h : Below w.heap.size w u) (hB : w.heap.size ≤ B) : Below w.heap.size w ((u.setCell ⟨B, 0, none⟩ v0).setCell ⟨B, 1, none⟩ v1) :=
  (h.setCell (p := ⟨B, 0, none⟩) hB v0).setCell (p := ⟨B, 1, none⟩) hB v1

set_option maxHeartbeats 4000000 in
set_option maxRecDepth 100000 in
theorem lazy_wrong (r : Int) (a : Option Addr) (cap : Nat) (ns : List Nd) (t : Tm) (w : World) (hN : SlN w a ns) (hc : tchk r ns t ≠ 0) :
    Calls Tryz.prog 31 #[.agg #[.int .i64 r, .slice a ns.length cap], .agg #[.int .i64 t.op, .int .i64 t.a, .int .i64 t.b]] w fun e w' => e = .returned (.tuple #[.agg #[.slice none 0 0, .slice none 0 0], .int .i64 (tchk r ns t)]) ∧ Below w.heap.size w w' := by
  have HOF := hide (fun W (h : Below w.heap.size w W) => of_wrong r a cap ns t W (hN.below h) hc)
  have hCb : (tchk r ns t == 0) = false := by simp [hc]
  have hCn : (tchk r ns t != 0) = true := by simp [hc]
  clear hc hN
  generalize tchk r ns t = C at *
  have hbA : Below w.heap.size w (((w.alloc (.cells #[.int .i64 r, .slice a ns.length cap] 24)).alloc (.cells #[.int .i64 t.op, .int .i64 t.a, .int .i64 t.b] 26)).alloc (.cells #[.slice none 0 0, .slice none 0 0] 29)) := ((((Below.refl _ w).alloc (Nat.le_refl _) _).alloc (by simp) _).alloc (by simp; omega) _)
  have p0 : (((w.alloc (.cells #[.int .i64 r, .slice a ns.length cap] 24)).alloc (.cells #[.int .i64 t.op, .int .i64 t.a, .int .i64 t.b] 26)).alloc (.cells #[.slice none 0 0, .slice none 0 0] 29)).heap[w.heap.size]? = some (.cells #[.int .i64 r, .slice a ns.length cap] 24 (0, 0)) := by
    have := World.alloc_heap_new w (.cells #[.int .i64 r, .slice a ns.length cap] 24)
    exact ((Below.heap_alloc _ _ _ (by simp; try omega)).trans (((Below.heap_alloc _ _ _ (by simp; try omega)).trans (this))))
  have p1 : (((w.alloc (.cells #[.int .i64 r, .slice a ns.length cap] 24)).alloc (.cells #[.int .i64 t.op, .int .i64 t.a, .int .i64 t.b] 26)).alloc (.cells #[.slice none 0 0, .slice none 0 0] 29)).heap[w.heap.size + 1]? = some (.cells #[.int .i64 t.op, .int .i64 t.a, .int .i64 t.b] 26 (0, 0)) := by
    have := World.alloc_heap_new (w.alloc (.cells #[.int .i64 r, .slice a ns.length cap] 24)) (.cells #[.int .i64 t.op, .int .i64 t.a, .int .i64 t.b] 26)
    simp only [World.size_alloc] at this
    exact ((Below.heap_alloc _ _ _ (by simp; try omega)).trans (this))
  have p2 : (((w.alloc (.cells #[.int .i64 r, .slice a ns.length cap] 24)).alloc (.cells #[.int .i64 t.op, .int .i64 t.a, .int .i64 t.b] 26)).alloc (.cells #[.slice none 0 0, .slice none 0 0] 29)).heap[w.heap.size + 2]? = some (.cells #[.slice none 0 0, .slice none 0 0] 29 (0, 0)) := by
    have := World.alloc_heap_new ((w.alloc (.cells #[.int .i64 r, .slice a ns.length cap] 24)).alloc (.cells #[.int .i64 t.op, .int .i64 t.a, .int .i64 t.b] 26)) (.cells #[.slice none 0 0, .slice none 0 0] 29)
    simp only [World.size_alloc] at this
    exact this
  go_enter Tryz.func31, Tryz.ntmps31
  go_upto_region 1 with fail
  generalize (((w.alloc (.cells #[.int .i64 r, .slice a ns.length cap] 24)).alloc (.cells #[.int .i64 t.op, .int .i64 t.a, .int .i64 t.b] 26)).alloc (.cells #[.slice none 0 0, .slice none 0 0] 29)) = W at hbA p0 p1 p2 ⊢
  try rw [show w.heap.size + 1 + 1 = w.heap.size + 2 from rfl]
  have q0 := blk_cell p0 0
  have q1 := blk_cell p0 1
  simp at q0 q1
  have t0 := blk_cell p1 0
  have t1 := blk_cell p1 1
  have t2 := blk_cell p1 2
  simp at t0 t1 t2
  have pl := blk_lt p0
  have tl := blk_lt p1
  have HB := hide hbA
  have HR := hide p2
  clear hbA p0 p1 p2
  go_wp2_with fail
  refine (HOF.out _ HB.out).mono ?_
  rintro e w1 ⟨rfl, hb1⟩
  have hR := (hb1.block _ (blk_lt HR.out)).trans HR.out
  have y0 := blk_cell hR 0
  have y1 := blk_cell hR 1
  simp at y0 y1
  have z0 := blk_frozen hR 0
  have z1 := blk_frozen hR 1
  have ylt := blk_lt hR
  have HR1 := hide hR
  have HB1 := hide (HB.out.trans (hb1.mono HB.out.size))
  clear hR hb1 q0 q1 t0 t1 t2 pl tl HB HR HOF
  have hbF : Below w1.heap.size w1 (w1.alloc (.cells #[.slice none 0 0, .slice none 0 0, .slice none 0 0, .slice none 0 0, .slice none 0 0, .slice none 0 0] 58)) := (Below.refl _ w1).alloc (Nat.le_refl _) _
  have HR2 := hide ((hbF.block _ ylt).trans HR1.out)
  have HB2 := hide (HB1.out.trans (hbF.mono HB1.out.size))
  clear hbF
  go_wp2
  have hk0 := blk_set2 (v0 := .slice none 0 0) (v1 := .slice none 0 0) HR1.out
  have hB5 := below_set2 (v0 := .slice none 0 0) (v1 := .slice none 0 0) HB1.out (B := w.heap.size + 2) (by omega)
  have hk := (Below.heap_alloc _ (.cells #[.slice none 0 0, .slice none 0 0, .slice none 0 0, .slice none 0 0, .slice none 0 0, .slice none 0 0] 58) _ (blk_lt hk0)).trans hk0
  have k0 := blk_cell hk 0
  have k1 := blk_cell hk 1
  simp at k0 k1
  exact bodyPost_ret (v := .tuple #[.agg #[.slice none 0 0, .slice none 0 0], .int .i64 C]) (by simp [results, Tryz.results31, go_sem, k0, k1]) rfl ⟨rfl, hB5.alloc hB5.size _⟩

set_option maxHeartbeats 8000000 in
set_option maxRecDepth 100000 in
theorem lazy_right (r : Int) (b off cap : Nat) (ns : List Nd) (t : Tm) (w : World) (hN : NodesAt w b off ns) (hc : tchk r ns t = 0) :
    Calls Tryz.prog 31 #[.agg #[.int .i64 r, .slice (some ⟨b, off, none⟩) ns.length cap], .agg #[.int .i64 t.op, .int .i64 t.a, .int .i64 t.b]] w fun e w' => ∃ a1 c1 a2 c2, e = .returned (.tuple #[.agg #[.slice a1 ns.length c1, .slice a2 ns.length c2], .int .i64 0]) ∧ w'.ownsRow w.heap.size 4 1 (.slice a1 ns.length c1) ns.length ((lazyPut ns t).map Value.bool) ∧ w'.ownsRow w.heap.size 4 1 (.slice a2 ns.length c2) ns.length ((lazyTake ns t).map Value.bool) ∧ Below w.heap.size w w' := by
  have HOF := hide (fun W (h : Below w.heap.size w W) => of_right r b off cap ns t W (hN.below h hN.lt) hc)
  obtain ⟨hcr, hto, _⟩ := tchk_zero hc
  have HL := hide (chk_zero hcr).1
  have HTO := hide hto
  have HN := hide hN
  clear hc hN hcr hto
  have hbA : Below w.heap.size w (((w.alloc (.cells #[.int .i64 r, .slice (some ⟨b, off, none⟩) ns.length cap] 24)).alloc (.cells #[.int .i64 t.op, .int .i64 t.a, .int .i64 t.b] 26)).alloc (.cells #[.slice none 0 0, .slice none 0 0] 29)) := ((((Below.refl _ w).alloc (Nat.le_refl _) _).alloc (by simp) _).alloc (by simp; omega) _)
  have p0 : (((w.alloc (.cells #[.int .i64 r, .slice (some ⟨b, off, none⟩) ns.length cap] 24)).alloc (.cells #[.int .i64 t.op, .int .i64 t.a, .int .i64 t.b] 26)).alloc (.cells #[.slice none 0 0, .slice none 0 0] 29)).heap[w.heap.size]? = some (.cells #[.int .i64 r, .slice (some ⟨b, off, none⟩) ns.length cap] 24 (0, 0)) := by
    have := World.alloc_heap_new w (.cells #[.int .i64 r, .slice (some ⟨b, off, none⟩) ns.length cap] 24)
    exact ((Below.heap_alloc _ _ _ (by simp; try omega)).trans (((Below.heap_alloc _ _ _ (by simp; try omega)).trans (this))))
  have p1 : (((w.alloc (.cells #[.int .i64 r, .slice (some ⟨b, off, none⟩) ns.length cap] 24)).alloc (.cells #[.int .i64 t.op, .int .i64 t.a, .int .i64 t.b] 26)).alloc (.cells #[.slice none 0 0, .slice none 0 0] 29)).heap[w.heap.size + 1]? = some (.cells #[.int .i64 t.op, .int .i64 t.a, .int .i64 t.b] 26 (0, 0)) := by
    have := World.alloc_heap_new (w.alloc (.cells #[.int .i64 r, .slice (some ⟨b, off, none⟩) ns.length cap] 24)) (.cells #[.int .i64 t.op, .int .i64 t.a, .int .i64 t.b] 26)
    simp only [World.size_alloc] at this
    exact ((Below.heap_alloc _ _ _ (by simp; try omega)).trans (this))
  have p2 : (((w.alloc (.cells #[.int .i64 r, .slice (some ⟨b, off, none⟩) ns.length cap] 24)).alloc (.cells #[.int .i64 t.op, .int .i64 t.a, .int .i64 t.b] 26)).alloc (.cells #[.slice none 0 0, .slice none 0 0] 29)).heap[w.heap.size + 2]? = some (.cells #[.slice none 0 0, .slice none 0 0] 29 (0, 0)) := by
    have := World.alloc_heap_new ((w.alloc (.cells #[.int .i64 r, .slice (some ⟨b, off, none⟩) ns.length cap] 24)).alloc (.cells #[.int .i64 t.op, .int .i64 t.a, .int .i64 t.b] 26)) (.cells #[.slice none 0 0, .slice none 0 0] 29)
    simp only [World.size_alloc] at this
    exact this
  go_enter Tryz.func31, Tryz.ntmps31
  go_upto_region 1 with fail
  generalize (((w.alloc (.cells #[.int .i64 r, .slice (some ⟨b, off, none⟩) ns.length cap] 24)).alloc (.cells #[.int .i64 t.op, .int .i64 t.a, .int .i64 t.b] 26)).alloc (.cells #[.slice none 0 0, .slice none 0 0] 29)) = W at hbA p0 p1 p2 ⊢
  try rw [show w.heap.size + 1 + 1 = w.heap.size + 2 from rfl]
  have q0 := blk_cell p0 0
  have q1 := blk_cell p0 1
  simp at q0 q1
  have t0 := blk_cell p1 0
  have t1 := blk_cell p1 1
  have t2 := blk_cell p1 2
  simp at t0 t1 t2
  have pl := blk_lt p0
  have tl := blk_lt p1
  have HB := hide hbA
  have HP := hide p0
  have HT := hide p1
  have HR := hide p2
  clear hbA p0 p1 p2
  go_wp2_with fail
  refine (HOF.out _ HB.out).mono ?_
  rintro e w1 ⟨a0, a1, a2, a3, a4, a5, c0, c1, c2, c3, c4, c5, rfl, ⟨o0, o1, o2, o3, o4, o5⟩, hb1⟩
  have hbF : Below w1.heap.size w1 (w1.alloc (.cells #[.slice a0 ns.length c0, .slice a1 ns.length c1, .slice a2 ns.length c2, .slice a3 ns.length c3, .slice a4 ns.length c4, .slice a5 ns.length c5] 58)) := (Below.refl _ w1).alloc (Nat.le_refl _) _
  have hF : (w1.alloc (.cells #[.slice a0 ns.length c0, .slice a1 ns.length c1, .slice a2 ns.length c2, .slice a3 ns.length c3, .slice a4 ns.length c4, .slice a5 ns.length c5] 58)).heap[w1.heap.size]? = some (.cells #[.slice a0 ns.length c0, .slice a1 ns.length c1, .slice a2 ns.length c2, .slice a3 ns.length c3, .slice a4 ns.length c4, .slice a5 ns.length c5] 58 (0, 0)) := World.alloc_heap_new w1 _
  have HBW := hide (hb1.trans (hbF.mono hb1.size))
  have HB2 := hide (HB.out.trans (HBW.out.mono HB.out.size))
  have Y0 : Hid (BoolsAt (w1.alloc (.cells #[.slice a0 ns.length c0, .slice a1 ns.length c1, .slice a2 ns.length c2, .slice a3 ns.length c3, .slice a4 ns.length c4, .slice a5 ns.length c5] 58)) a0 (downL ns t)) := (bools_owned o0 (solve_len ns _)).below hbF
  have Y1 : Hid (BoolsAt (w1.alloc (.cells #[.slice a0 ns.length c0, .slice a1 ns.length c1, .slice a2 ns.length c2, .slice a3 ns.length c3, .slice a4 ns.length c4, .slice a5 ns.length c5] 58)) a1 (upL ns t)) := (bools_owned o1 (solve_len ns _)).below hbF
  have Y2 : Hid (BoolsAt (w1.alloc (.cells #[.slice a0 ns.length c0, .slice a1 ns.length c1, .slice a2 ns.length c2, .slice a3 ns.length c3, .slice a4 ns.length c4, .slice a5 ns.length c5] 58)) a2 (earlyL ns t)) := (bools_owned o2 (by simp [earlyL])).below hbF
  have Y3 : Hid (BoolsAt (w1.alloc (.cells #[.slice a0 ns.length c0, .slice a1 ns.length c1, .slice a2 ns.length c2, .slice a3 ns.length c3, .slice a4 ns.length c4, .slice a5 ns.length c5] 58)) a3 (delayL ns t)) := (bools_owned o3 (solve_len ns _)).below hbF
  have Y4 : Hid (BoolsAt (w1.alloc (.cells #[.slice a0 ns.length c0, .slice a1 ns.length c1, .slice a2 ns.length c2, .slice a3 ns.length c3, .slice a4 ns.length c4, .slice a5 ns.length c5] 58)) a4 (lateL ns t)) := (bools_owned o4 (by simp [lateL])).below hbF
  have Y5 : Hid (BoolsAt (w1.alloc (.cells #[.slice a0 ns.length c0, .slice a1 ns.length c1, .slice a2 ns.length c2, .slice a3 ns.length c3, .slice a4 ns.length c4, .slice a5 ns.length c5] 58)) a5 (aloneL ns t)) := (bools_owned o5 (solve_len ns _)).below hbF
  have hP := (HBW.out.block _ pl).trans HP.out
  have hT := (HBW.out.block _ tl).trans HT.out
  have HR2 := hide ((HBW.out.block _ (blk_lt HR.out)).trans HR.out)
  have hFs : w.heap.size + 2 < w1.heap.size := by have h1 := blk_lt HR.out; have h2 := hb1.size; omega
  clear o0 o1 o2 o3 o4 o5 hb1 q0 q1 t0 t1 t2 pl tl HB HR HP HT HOF HBW
  go_upto_region 6 with fail
  generalize (w1.alloc (.cells #[.slice a0 ns.length c0, .slice a1 ns.length c1, .slice a2 ns.length c2, .slice a3 ns.length c3, .slice a4 ns.length c4, .slice a5 ns.length c5] 58)) = V at hF hbF HB2 Y0 Y1 Y2 Y3 Y4 Y5 hP hT HR2 ⊢
  generalize w1.heap.size = FB at *
  have q0 := blk_cell hP 0
  have q1 := blk_cell hP 1
  simp at q0 q1
  have pl := blk_lt hP
  have HPL := hide (places_any (fun n => bat (lateL ns t) n && !bat (aloneL ns t) n) (fun n => bat (rcl ns t) n && !(bat (lateL ns t) n && bat (aloneL ns t) n)) 70 71 #[.pointer (some ⟨FB, 0, none⟩)] #[.pointer (some ⟨w.heap.size, 0, none⟩), .pointer (some ⟨w.heap.size + 1, 0, none⟩), .pointer (some ⟨FB, 0, none⟩)] r (some ⟨b, off, none⟩) ns.length cap V (by have := HL.out; omega) (enters_of Tryz.func70 (by kernel_rfl) rfl) (enters_of Tryz.func71 (by kernel_rfl) rfl) (fun i hi U hU => (lazy1_any i FB ns.length (lateL ns t) (aloneL ns t) a4 a5 c4 c5 U (by rw [blk_cell ((hU.block _ (blk_lt hF)).trans hF)]; rfl) (by rw [blk_cell ((hU.block _ (blk_lt hF)).trans hF)]; rfl) (blk_lt ((hU.block _ (blk_lt hF)).trans hF)) (Y4.out.below hU) (Y5.out.below hU) (by simp [lateL]) (solve_len ns _) hi).mono fun e w' h => ⟨h.1, by rw [h.2]; exact Below.refl _ _⟩) (fun i hi U hU => lazy2_any i w.heap.size (w.heap.size + 1) FB r b off cap ns t (lateL ns t) (aloneL ns t) a4 a5 c4 c5 U (HN.out.below (HB2.out.trans (hU.mono HB2.out.size)) HN.out.lt) hi ((hU.block _ (blk_lt hP)).trans hP) ((hU.block _ (blk_lt hT)).trans hT) HTO.out (blk_lt ((hU.block _ (blk_lt hF)).trans hF)) (by rw [blk_cell ((hU.block _ (blk_lt hF)).trans hF)]; rfl) (by rw [blk_cell ((hU.block _ (blk_lt hF)).trans hF)]; rfl) (Y4.out.below hU) (Y5.out.below hU) (by simp [lateL]) (solve_len ns _)))
  have HRV := hide (blk_lt HR2.out)
  clear hF hbF hT
  go_wp2_with fail
  refine HPL.out.mono ?_
  rintro e w2 ⟨x1, d1, x2, d2, rfl, hV1, hV2, hb2⟩
  have hR := (hb2.block _ (blk_lt HR2.out)).trans HR2.out
  have y0 := blk_cell hR 0
  have y1 := blk_cell hR 1
  simp at y0 y1
  have z0 := blk_frozen hR 0
  have z1 := blk_frozen hR 1
  have ylt := blk_lt hR
  have HR3 := hide hR
  have HB3 := hide (HB2.out.trans (hb2.mono HB2.out.size))
  have HV1 := hide (ownsRow_base hV1 (base' := w.heap.size) HB2.out.size)
  have HV2 := hide (ownsRow_base hV2 (base' := w.heap.size) HB2.out.size)
  clear hR hb2 q0 q1 pl hV1 hV2 HPL
  go_wp2
  have hk := blk_set2 (v0 := .slice x1 ns.length d1) (v1 := .slice x2 ns.length d2) HR3.out
  have T1 := owns_set (o := 1) (u := .slice x2 ns.length d2) (owns_set (o := 0) (u := .slice x1 ns.length d1) HV1.out HR3.out (by decide)) (blk_set (i := 0) (.slice x1 ns.length d1) HR3.out) (by decide)
  have T2 := owns_set (o := 1) (u := .slice x2 ns.length d2) (owns_set (o := 0) (u := .slice x1 ns.length d1) HV2.out HR3.out (by decide)) (blk_set (i := 0) (.slice x1 ns.length d1) HR3.out) (by decide)
  have k0 := blk_cell hk 0
  have k1 := blk_cell hk 1
  simp at k0 k1
  exact bodyPost_ret (v := .tuple #[.agg #[.slice x1 ns.length d1, .slice x2 ns.length d2], .int .i64 0]) (by simp [results, Tryz.results31, go_sem, k0, k1]) rfl ⟨x1, d1, x2, d2, rfl, T1, T2, below_set2 HB3.out (by omega)⟩

def busyPut (ns : List Nd) (t : Tm) : List Bool := (List.range ns.length).map fun n => bat (earlyL ns t) n
def busyTake (ns : List Nd) (t : Tm) : List Bool := (List.range ns.length).map fun n => bat (rcl ns t) n

set_option maxHeartbeats 8000000 in
set_option maxRecDepth 100000 in
theorem busy_right (r : Int) (b off cap : Nat) (ns : List Nd) (t : Tm) (w : World) (hN : NodesAt w b off ns) (hc : tchk r ns t = 0) :
    Calls Tryz.prog 20 #[.agg #[.int .i64 r, .slice (some ⟨b, off, none⟩) ns.length cap], .agg #[.int .i64 t.op, .int .i64 t.a, .int .i64 t.b]] w fun e w' => ∃ a1 c1 a2 c2, e = .returned (.tuple #[.agg #[.slice a1 ns.length c1, .slice a2 ns.length c2], .int .i64 0]) ∧ w'.ownsRow w.heap.size 4 1 (.slice a1 ns.length c1) ns.length ((busyPut ns t).map Value.bool) ∧ w'.ownsRow w.heap.size 4 1 (.slice a2 ns.length c2) ns.length ((busyTake ns t).map Value.bool) ∧ Below w.heap.size w w' := by
  have HOF := hide (fun W (h : Below w.heap.size w W) => of_right r b off cap ns t W (hN.below h hN.lt) hc)
  obtain ⟨hcr, hto, _⟩ := tchk_zero hc
  have HL := hide (chk_zero hcr).1
  have HTO := hide hto
  have HN := hide hN
  clear hc hN hcr hto
  have hbA : Below w.heap.size w (((w.alloc (.cells #[.int .i64 r, .slice (some ⟨b, off, none⟩) ns.length cap] 24)).alloc (.cells #[.int .i64 t.op, .int .i64 t.a, .int .i64 t.b] 26)).alloc (.cells #[.slice none 0 0, .slice none 0 0] 29)) := ((((Below.refl _ w).alloc (Nat.le_refl _) _).alloc (by simp) _).alloc (by simp; omega) _)
  have p0 : (((w.alloc (.cells #[.int .i64 r, .slice (some ⟨b, off, none⟩) ns.length cap] 24)).alloc (.cells #[.int .i64 t.op, .int .i64 t.a, .int .i64 t.b] 26)).alloc (.cells #[.slice none 0 0, .slice none 0 0] 29)).heap[w.heap.size]? = some (.cells #[.int .i64 r, .slice (some ⟨b, off, none⟩) ns.length cap] 24 (0, 0)) := by
    have := World.alloc_heap_new w (.cells #[.int .i64 r, .slice (some ⟨b, off, none⟩) ns.length cap] 24)
    exact ((Below.heap_alloc _ _ _ (by simp; try omega)).trans (((Below.heap_alloc _ _ _ (by simp; try omega)).trans (this))))
  have p1 : (((w.alloc (.cells #[.int .i64 r, .slice (some ⟨b, off, none⟩) ns.length cap] 24)).alloc (.cells #[.int .i64 t.op, .int .i64 t.a, .int .i64 t.b] 26)).alloc (.cells #[.slice none 0 0, .slice none 0 0] 29)).heap[w.heap.size + 1]? = some (.cells #[.int .i64 t.op, .int .i64 t.a, .int .i64 t.b] 26 (0, 0)) := by
    have := World.alloc_heap_new (w.alloc (.cells #[.int .i64 r, .slice (some ⟨b, off, none⟩) ns.length cap] 24)) (.cells #[.int .i64 t.op, .int .i64 t.a, .int .i64 t.b] 26)
    simp only [World.size_alloc] at this
    exact ((Below.heap_alloc _ _ _ (by simp; try omega)).trans (this))
  have p2 : (((w.alloc (.cells #[.int .i64 r, .slice (some ⟨b, off, none⟩) ns.length cap] 24)).alloc (.cells #[.int .i64 t.op, .int .i64 t.a, .int .i64 t.b] 26)).alloc (.cells #[.slice none 0 0, .slice none 0 0] 29)).heap[w.heap.size + 2]? = some (.cells #[.slice none 0 0, .slice none 0 0] 29 (0, 0)) := by
    have := World.alloc_heap_new ((w.alloc (.cells #[.int .i64 r, .slice (some ⟨b, off, none⟩) ns.length cap] 24)).alloc (.cells #[.int .i64 t.op, .int .i64 t.a, .int .i64 t.b] 26)) (.cells #[.slice none 0 0, .slice none 0 0] 29)
    simp only [World.size_alloc] at this
    exact this
  go_enter Tryz.func20, Tryz.ntmps20
  go_upto_region 1 with fail
  generalize (((w.alloc (.cells #[.int .i64 r, .slice (some ⟨b, off, none⟩) ns.length cap] 24)).alloc (.cells #[.int .i64 t.op, .int .i64 t.a, .int .i64 t.b] 26)).alloc (.cells #[.slice none 0 0, .slice none 0 0] 29)) = W at hbA p0 p1 p2 ⊢
  try rw [show w.heap.size + 1 + 1 = w.heap.size + 2 from rfl]
  have q0 := blk_cell p0 0
  have q1 := blk_cell p0 1
  simp at q0 q1
  have t0 := blk_cell p1 0
  have t1 := blk_cell p1 1
  have t2 := blk_cell p1 2
  simp at t0 t1 t2
  have pl := blk_lt p0
  have tl := blk_lt p1
  have HB := hide hbA
  have HP := hide p0
  have HT := hide p1
  have HR := hide p2
  clear hbA p0 p1 p2
  go_wp2_with fail
  refine (HOF.out _ HB.out).mono ?_
  rintro e w1 ⟨a0, a1, a2, a3, a4, a5, c0, c1, c2, c3, c4, c5, rfl, ⟨o0, o1, o2, o3, o4, o5⟩, hb1⟩
  have hbF : Below w1.heap.size w1 (w1.alloc (.cells #[.slice a0 ns.length c0, .slice a1 ns.length c1, .slice a2 ns.length c2, .slice a3 ns.length c3, .slice a4 ns.length c4, .slice a5 ns.length c5] 58)) := (Below.refl _ w1).alloc (Nat.le_refl _) _
  have hF : (w1.alloc (.cells #[.slice a0 ns.length c0, .slice a1 ns.length c1, .slice a2 ns.length c2, .slice a3 ns.length c3, .slice a4 ns.length c4, .slice a5 ns.length c5] 58)).heap[w1.heap.size]? = some (.cells #[.slice a0 ns.length c0, .slice a1 ns.length c1, .slice a2 ns.length c2, .slice a3 ns.length c3, .slice a4 ns.length c4, .slice a5 ns.length c5] 58 (0, 0)) := World.alloc_heap_new w1 _
  have HBW := hide (hb1.trans (hbF.mono hb1.size))
  have HB2 := hide (HB.out.trans (HBW.out.mono HB.out.size))
  have Y0 : Hid (BoolsAt (w1.alloc (.cells #[.slice a0 ns.length c0, .slice a1 ns.length c1, .slice a2 ns.length c2, .slice a3 ns.length c3, .slice a4 ns.length c4, .slice a5 ns.length c5] 58)) a0 (downL ns t)) := (bools_owned o0 (solve_len ns _)).below hbF
  have Y1 : Hid (BoolsAt (w1.alloc (.cells #[.slice a0 ns.length c0, .slice a1 ns.length c1, .slice a2 ns.length c2, .slice a3 ns.length c3, .slice a4 ns.length c4, .slice a5 ns.length c5] 58)) a1 (upL ns t)) := (bools_owned o1 (solve_len ns _)).below hbF
  have Y2 : Hid (BoolsAt (w1.alloc (.cells #[.slice a0 ns.length c0, .slice a1 ns.length c1, .slice a2 ns.length c2, .slice a3 ns.length c3, .slice a4 ns.length c4, .slice a5 ns.length c5] 58)) a2 (earlyL ns t)) := (bools_owned o2 (by simp [earlyL])).below hbF
  have Y3 : Hid (BoolsAt (w1.alloc (.cells #[.slice a0 ns.length c0, .slice a1 ns.length c1, .slice a2 ns.length c2, .slice a3 ns.length c3, .slice a4 ns.length c4, .slice a5 ns.length c5] 58)) a3 (delayL ns t)) := (bools_owned o3 (solve_len ns _)).below hbF
  have Y4 : Hid (BoolsAt (w1.alloc (.cells #[.slice a0 ns.length c0, .slice a1 ns.length c1, .slice a2 ns.length c2, .slice a3 ns.length c3, .slice a4 ns.length c4, .slice a5 ns.length c5] 58)) a4 (lateL ns t)) := (bools_owned o4 (by simp [lateL])).below hbF
  have Y5 : Hid (BoolsAt (w1.alloc (.cells #[.slice a0 ns.length c0, .slice a1 ns.length c1, .slice a2 ns.length c2, .slice a3 ns.length c3, .slice a4 ns.length c4, .slice a5 ns.length c5] 58)) a5 (aloneL ns t)) := (bools_owned o5 (solve_len ns _)).below hbF
  have hP := (HBW.out.block _ pl).trans HP.out
  have hT := (HBW.out.block _ tl).trans HT.out
  have HR2 := hide ((HBW.out.block _ (blk_lt HR.out)).trans HR.out)
  have hFs : w.heap.size + 2 < w1.heap.size := by have h1 := blk_lt HR.out; have h2 := hb1.size; omega
  clear o0 o1 o2 o3 o4 o5 hb1 q0 q1 t0 t1 t2 pl tl HB HR HP HT HOF HBW
  go_upto_region 6 with fail
  generalize (w1.alloc (.cells #[.slice a0 ns.length c0, .slice a1 ns.length c1, .slice a2 ns.length c2, .slice a3 ns.length c3, .slice a4 ns.length c4, .slice a5 ns.length c5] 58)) = V at hF hbF HB2 Y0 Y1 Y2 Y3 Y4 Y5 hP hT HR2 ⊢
  generalize w1.heap.size = FB at *
  have q0 := blk_cell hP 0
  have q1 := blk_cell hP 1
  simp at q0 q1
  have pl := blk_lt hP
  have HPL := hide (places_any (fun n => bat (earlyL ns t) n) (fun n => bat (rcl ns t) n) 48 49 #[.pointer (some ⟨FB, 0, none⟩)] #[.pointer (some ⟨w.heap.size, 0, none⟩), .pointer (some ⟨w.heap.size + 1, 0, none⟩)] r (some ⟨b, off, none⟩) ns.length cap V (by have := HL.out; omega) (enters_of Tryz.func48 (by kernel_rfl) rfl) (enters_of Tryz.func49 (by kernel_rfl) rfl) (fun i hi U hU => (busy1_any i FB ns.length (earlyL ns t) a2 c2 U (by rw [blk_cell ((hU.block _ (blk_lt hF)).trans hF)]; rfl) (blk_lt ((hU.block _ (blk_lt hF)).trans hF)) (Y2.out.below hU) (by simp [earlyL]) hi).mono fun e w' h => ⟨h.1, by rw [h.2]; exact Below.refl _ _⟩) (fun i hi U hU => busy2_any i w.heap.size (w.heap.size + 1) r b off cap ns t U (HN.out.below (HB2.out.trans (hU.mono HB2.out.size)) HN.out.lt) hi ((hU.block _ (blk_lt hP)).trans hP) ((hU.block _ (blk_lt hT)).trans hT) HTO.out))
  have HRV := hide (blk_lt HR2.out)
  clear hF hbF hT
  go_wp2_with fail
  refine HPL.out.mono ?_
  rintro e w2 ⟨x1, d1, x2, d2, rfl, hV1, hV2, hb2⟩
  have hR := (hb2.block _ (blk_lt HR2.out)).trans HR2.out
  have y0 := blk_cell hR 0
  have y1 := blk_cell hR 1
  simp at y0 y1
  have z0 := blk_frozen hR 0
  have z1 := blk_frozen hR 1
  have ylt := blk_lt hR
  have HR3 := hide hR
  have HB3 := hide (HB2.out.trans (hb2.mono HB2.out.size))
  have HV1 := hide (ownsRow_base hV1 (base' := w.heap.size) HB2.out.size)
  have HV2 := hide (ownsRow_base hV2 (base' := w.heap.size) HB2.out.size)
  clear hR hb2 q0 q1 pl hV1 hV2 HPL
  go_wp2
  have hk := blk_set2 (v0 := .slice x1 ns.length d1) (v1 := .slice x2 ns.length d2) HR3.out
  have T1 := owns_set (o := 1) (u := .slice x2 ns.length d2) (owns_set (o := 0) (u := .slice x1 ns.length d1) HV1.out HR3.out (by decide)) (blk_set (i := 0) (.slice x1 ns.length d1) HR3.out) (by decide)
  have T2 := owns_set (o := 1) (u := .slice x2 ns.length d2) (owns_set (o := 0) (u := .slice x1 ns.length d1) HV2.out HR3.out (by decide)) (blk_set (i := 0) (.slice x1 ns.length d1) HR3.out) (by decide)
  have k0 := blk_cell hk 0
  have k1 := blk_cell hk 1
  simp at k0 k1
  exact bodyPost_ret (v := .tuple #[.agg #[.slice x1 ns.length d1, .slice x2 ns.length d2], .int .i64 0]) (by simp [results, Tryz.results20, go_sem, k0, k1]) rfl ⟨x1, d1, x2, d2, rfl, T1, T2, below_set2 HB3.out (by omega)⟩

end Go.Proofs.YtoikglgnmjjpcabGreat

namespace Go.Proofs.YtoikglgnmjjpcabGreat
open Go.RowKit Go.Shelf
set_option linter.unusedVariables false
set_option linter.unusedSimpArgs false

set_option maxHeartbeats 2000000 in
theorem there1_any (R : Nat → Bool) (g : Nat) (cb : Array Value) (P : Nat) (r : Int) (pa : Option Addr) (n cap : Nat) (w : World) (hn : n ≤ 256)
    (eg : ∀ args w, (callFunc g args).run Tryz.prog w = .ok (.enter g args) w)
    (hP : w.heap[P]? = some (.cells #[.int .i64 r, .slice pa n cap] 24 (0, 0)))
    (hg : ∀ i, i < n → ∀ W : World, Below w.heap.size w W → Calls Tryz.prog g (#[.int .i64 (i : Int)] ++ cb) W fun e w' => e = .returned (.bool (R i)) ∧ Below W.heap.size W w') :
    Calls Tryz.prog 82 #[.func (.func g) #[] cb, .pointer (some ⟨P, 0, none⟩)] w fun e w' => ∃ a c, e = .returned (.slice a n c) ∧ w'.ownsRow w.heap.size 4 1 (.slice a n c) n (((List.range n).map R).map Value.bool) ∧ Below w.heap.size w w' := by
  have HAE := hide (askEach_any R g cb n w hn eg hg)
  have q1 := blk_cell hP 1
  simp at q1
  have pl := blk_lt hP
  clear hg hP
  go_enter Tryz.func82, Tryz.ntmps82
  go_wp2_with fail
  refine HAE.out.mono ?_
  rintro e w1 ⟨v, rfl, hv, hb1⟩
  obtain ⟨a, c, rfl⟩ := owns_slice hv
  have HV := hide hv
  clear hv
  go_wp2
  go_ret
  exact ⟨_, _, rfl, HV.out, hb1⟩

theorem range_yes (n : Nat) : (List.range n).map (fun _ => true) = yesl n := map_const true n
theorem range_no (n : Nat) : (List.range n).map (fun _ => false) = nol n := map_const false n

set_option maxHeartbeats 8000000 in
set_option maxRecDepth 100000 in
theorem surelyThere_any (R : Nat → Bool) (g : Nat) (cb : Array Value) (r : Int) (b off cap : Nat) (ns : List Nd) (t : Tm) (w : World) (hN : NodesAt w b off ns) (hc : chk r ns = 0) (ht : 3 ≤ t.op ∧ t.op ≤ 8)
    (eg : ∀ args w, (callFunc g args).run Tryz.prog w = .ok (.enter g args) w)
    (hg : ∀ i, i < ns.length → ∀ W : World, Below w.heap.size w W → Calls Tryz.prog g (#[.int .i64 (i : Int)] ++ cb) W fun e w' => e = .returned (.bool (R i)) ∧ Below W.heap.size W w') :
    Calls Tryz.prog 53 #[.agg #[.int .i64 r, .slice (some ⟨b, off, none⟩) ns.length cap], .agg #[.int .i64 t.op, .int .i64 t.a, .int .i64 t.b], .func (.func g) #[] cb] w fun e w' => ∃ a c, e = .returned (.slice a ns.length c) ∧ w'.ownsRow w.heap.size 4 1 (.slice a ns.length c) ns.length ((thereL ns t ((List.range ns.length).map R)).map Value.bool) ∧ Below w.heap.size w w' := by
  have hl := (chk_zero hc).1
  have hbA : Below w.heap.size w ((w.alloc (.cells #[.int .i64 r, .slice (some ⟨b, off, none⟩) ns.length cap] 24)).alloc (.cells #[.int .i64 t.op, .int .i64 t.a, .int .i64 t.b] 26)) := ((Below.refl _ w).alloc (Nat.le_refl _) _).alloc (by simp) _
  have p0 : ((w.alloc (.cells #[.int .i64 r, .slice (some ⟨b, off, none⟩) ns.length cap] 24)).alloc (.cells #[.int .i64 t.op, .int .i64 t.a, .int .i64 t.b] 26)).heap[w.heap.size]? = some (.cells #[.int .i64 r, .slice (some ⟨b, off, none⟩) ns.length cap] 24 (0, 0)) := (Below.heap_alloc _ _ _ (by simp)).trans (World.alloc_heap_new w _)
  have p1 : ((w.alloc (.cells #[.int .i64 r, .slice (some ⟨b, off, none⟩) ns.length cap] 24)).alloc (.cells #[.int .i64 t.op, .int .i64 t.a, .int .i64 t.b] 26)).heap[w.heap.size + 1]? = some (.cells #[.int .i64 t.op, .int .i64 t.a, .int .i64 t.b] 26 (0, 0)) := by
    have := World.alloc_heap_new (w.alloc (.cells #[.int .i64 r, .slice (some ⟨b, off, none⟩) ns.length cap] 24)) (.cells #[.int .i64 t.op, .int .i64 t.a, .int .i64 t.b] 26)
    rwa [World.size_alloc] at this
  have HN := hide hN
  have hn : ns.length ≤ 256 := by omega
  have hfc : fchk r ns (thereW ns t ((List.range ns.length).map R)) = 0 := fchk_of hc (by simp [thereW]) (by simp [thereW, yesl]) (by simp [thereW, nol]) (by simp [thereW, kpl])
  have HFC := hide hfc
  have HG := hide hg
  have HT := hide ht
  have HEG := hide eg
  clear hN hfc hg ht hc eg
  go_enter Tryz.func53, Tryz.ntmps53
  go_upto_region 2 with fail
  generalize ((w.alloc (.cells #[.int .i64 r, .slice (some ⟨b, off, none⟩) ns.length cap] 24)).alloc (.cells #[.int .i64 t.op, .int .i64 t.a, .int .i64 t.b] 26)) = W at hbA p0 p1 ⊢
  have HP : Hid (∀ u : World, Below W.heap.size W u → u.heap[w.heap.size]? = some (.cells #[.int .i64 r, .slice (some ⟨b, off, none⟩) ns.length cap] 24 (0, 0))) := fun u h => (h.block _ (blk_lt p0)).trans p0
  have HQ : Hid (∀ u : World, Below W.heap.size W u → u.heap[w.heap.size + 1]? = some (.cells #[.int .i64 t.op, .int .i64 t.a, .int .i64 t.b] 26 (0, 0))) := fun u h => (h.block _ (blk_lt p1)).trans p1
  have HS : Hid (∀ u : World, Below W.heap.size W u → u.cell? ⟨w.heap.size, 0, none⟩ = some (.int .i64 r) ∧ u.cell? ⟨w.heap.size, 1, none⟩ = some (.slice (some ⟨b, off, none⟩) ns.length cap)) := fun u h => by
    have k1 := HP.out u h
    refine ⟨?_, ?_⟩
    · rw [blk_cell k1]; rfl
    · rw [blk_cell k1]; rfl
  have HW := hide hbA
  have pl := blk_lt p0
  clear p0 p1 hbA
  have HE1 := hide (fun U (h : Below W.heap.size W U) => there1_any R g cb w.heap.size r (some ⟨b, off, none⟩) ns.length cap U hn HEG.out (HP.out U h) (fun i hi V hV => HG.out i hi V (HW.out.trans ((h.trans (hV.mono h.size)).mono HW.out.size))))
  have HE2 := hide (fun U (h : Below W.heap.size W U) => there1_any (fun _ => true) 84 #[] w.heap.size r (some ⟨b, off, none⟩) ns.length cap U hn (enters_of Tryz.func84 (by kernel_rfl) rfl) (HP.out U h) (fun i hi V hV => (there2_any i V).mono fun e w' h => ⟨h.1, by rw [h.2]; exact Below.refl _ _⟩))
  have HE3 := hide (fun U (h : Below W.heap.size W U) => there1_any (fun _ => false) 85 #[] w.heap.size r (some ⟨b, off, none⟩) ns.length cap U hn (enters_of Tryz.func85 (by kernel_rfl) rfl) (HP.out U h) (fun i hi V hV => (there3_any i V).mono fun e w' h => ⟨h.1, by rw [h.2]; exact Below.refl _ _⟩))
  have HE4 := hide (fun U (h : Below W.heap.size W U) => there1_any (fun n => bat (ns.map (kpB t)) n) 86 #[.pointer (some ⟨w.heap.size, 0, none⟩), .pointer (some ⟨w.heap.size + 1, 0, none⟩)] w.heap.size r (some ⟨b, off, none⟩) ns.length cap U hn (enters_of Tryz.func86 (by kernel_rfl) rfl) (HP.out U h) (fun i hi V hV => there4_any i w.heap.size (w.heap.size + 1) r b off cap ns t V (HN.out.below (HW.out.trans ((h.trans (hV.mono h.size)).mono HW.out.size)) HN.out.lt) hi (HP.out _ (h.trans (hV.mono h.size))) (HQ.out _ (h.trans (hV.mono h.size))) HT.out))
  simp only [range_yes] at HE2
  simp only [range_no] at HE3
  simp only [kpl_eq] at HE4
  have HSO := hide (fun (U : World) (h : Below W.heap.size W U) (a1 a2 a3 a4 : Option Addr) (c1 c2 c3 c4 : Nat) (h1 : BoolsAt U a1 ((List.range ns.length).map R)) (h2 : BoolsAt U a2 (yesl ns.length)) (h3 : BoolsAt U a3 (nol ns.length)) (h4 : BoolsAt U a4 (kpl ns t)) => solve_right r b off cap ns (thereW ns t ((List.range ns.length).map R)) a1 a2 a3 a4 c1 c2 c3 c4 U (HN.out.below (HW.out.trans (h.mono HW.out.size)) HN.out.lt) HFC.out h1 h2 h3 h4)
  simp only [thereW, List.length_map, List.length_range, yesl_len, nol_len, kpl_len] at HSO
  have HTL : Hid (thereL ns t ((List.range ns.length).map R) = solve ns ⟨false, false, (List.range ns.length).map R, yesl ns.length, nol ns.length, kpl ns t⟩) := rfl
  go_region_held3 (fun u => u.cell? ⟨w.heap.size, 0, none⟩ = some (.int .i64 r) ∧ u.cell? ⟨w.heap.size, 1, none⟩ = some (.slice (some ⟨b, off, none⟩) ns.length cap)) (with_reducible refine HS.out _ ?_; first | with_reducible exact hB5 | with_reducible exact hB4 | with_reducible exact hB3 | with_reducible exact hB2 | with_reducible exact hB1 | with_reducible exact (Below.refl _ W).drew | with_reducible exact (Below.refl _ W)) (first
    | (go_at_call 83; refine (HSO.out _ hB4 a1 a2 a3 a4 c1 c2 c3 c4 (((bools_owned hV1 (by simp)).below hb2).below hb3 |>.below hb4) (((bools_owned hV2 (by simp [yesl])).below hb3).below hb4) ((bools_owned hV3 (by simp [nol])).below hb4) (bools_owned hV4 (by simp [kpl]))).mono ?_; rintro e w5 ⟨v5, rfl, hV5, hb5⟩; obtain ⟨a5, c5, rfl⟩ := owns_slice hV5; have hB5 : Below W.heap.size W w5 := hB4.trans (hb5.mono hB4.size))
    | (go_at_call 82; have hx := hB3; clear hx; refine (HE4.out _ hB3).mono ?_; rintro e w4 ⟨a4, c4, rfl, hV4, hb4⟩; have hB4 : Below W.heap.size W w4 := hB3.trans (hb4.mono hB3.size))
    | (go_at_call 82; have hx := hB2; clear hx; refine (HE3.out _ hB2).mono ?_; rintro e w3 ⟨a3, c3, rfl, hV3, hb3⟩; have hB3 : Below W.heap.size W w3 := hB2.trans (hb3.mono hB2.size))
    | (go_at_call 82; have hx := hB1; clear hx; refine (HE2.out _ hB1).mono ?_; rintro e w2 ⟨a2, c2, rfl, hV2, hb2⟩; have hB2 : Below W.heap.size W w2 := hB1.trans (hb2.mono hB1.size))
    | (go_at_call 82; refine (HE1.out _ (by first | exact (Below.refl _ W).drew | exact Below.refl _ W)).mono ?_; rintro e w1 ⟨a1, c1, rfl, hV1, hb1⟩; have hB1 : Below W.heap.size W w1 := (by first | exact (Below.refl _ W).drew.trans hb1 | exact hb1)))
  all_goals have HV := hide (ownsRow_base hV5 (base' := w.heap.size) (by have h1 := hB4.size; have h2 := HW.out.size; omega))
  all_goals clear hV1 hV2 hV3 hV4 hV5
  all_goals go_wp2
  all_goals go_ret
  all_goals exact ⟨_, _, rfl, by rw [HTL.out]; exact HV.out, HW.out.trans (hB5.mono HW.out.size)⟩

end Go.Proofs.YtoikglgnmjjpcabGreat

namespace Go.Proofs.YtoikglgnmjjpcabGreat
open Go.RowKit Go.Shelf
set_option linter.unusedVariables false
set_option linter.unusedSimpArgs false

set_option maxHeartbeats 8000000 in
set_option maxRecDepth 100000 in
theorem rival_right (r : Int) (b off cap : Nat) (ns : List Nd) (t : Tm) (ua : Option Addr) (uc : Nat) (us : List Bool) (w : World) (hN : NodesAt w b off ns) (hc : tchk r ns t = 0) (hu : BoolsAt w ua us) (hul : us.length = ns.length) :
    Calls Tryz.prog 21 #[.agg #[.int .i64 r, .slice (some ⟨b, off, none⟩) ns.length cap], .agg #[.int .i64 t.op, .int .i64 t.a, .int .i64 t.b], .slice ua us.length uc] w fun e w' => ∃ a1 c1 a2 c2, e = .returned (.tuple #[.agg #[.slice a1 ns.length c1, .slice a2 ns.length c2], .int .i64 0]) ∧ w'.ownsRow w.heap.size 4 1 (.slice a1 ns.length c1) ns.length ((rivPut ns t us).map Value.bool) ∧ w'.ownsRow w.heap.size 4 1 (.slice a2 ns.length c2) ns.length ((rivTake ns t us).map Value.bool) ∧ Below w.heap.size w w' := by
  obtain ⟨hcr, hto, _⟩ := tchk_zero hc
  have HL := hide (chk_zero hcr).1
  have HTO := hide hto
  have HCR := hide hcr
  have HUB := hide hu
  have HUL := hide hul
  have HN := hide hN
  rw [hul]
  have HOF := hide (fun W (h : Below w.heap.size w W) => of_right r b off cap ns t W (hN.below h hN.lt) hc)
  have hbA : Below w.heap.size w ((((w.alloc (.cells #[.int .i64 r, .slice (some ⟨b, off, none⟩) ns.length cap] 24)).alloc (.cells #[.int .i64 t.op, .int .i64 t.a, .int .i64 t.b] 26)).alloc (.cells #[.slice ua ns.length uc] 27)).alloc (.cells #[.slice none 0 0, .slice none 0 0] 29)) := (((((Below.refl _ w).alloc (Nat.le_refl _) _).alloc (by simp) _).alloc (by simp; omega) _).alloc (by simp; omega) _)
  have p0 : ((((w.alloc (.cells #[.int .i64 r, .slice (some ⟨b, off, none⟩) ns.length cap] 24)).alloc (.cells #[.int .i64 t.op, .int .i64 t.a, .int .i64 t.b] 26)).alloc (.cells #[.slice ua ns.length uc] 27)).alloc (.cells #[.slice none 0 0, .slice none 0 0] 29)).heap[w.heap.size]? = some (.cells #[.int .i64 r, .slice (some ⟨b, off, none⟩) ns.length cap] 24 (0, 0)) := by
    have := World.alloc_heap_new w (.cells #[.int .i64 r, .slice (some ⟨b, off, none⟩) ns.length cap] 24)
    exact ((Below.heap_alloc _ _ _ (by simp; try omega)).trans (((Below.heap_alloc _ _ _ (by simp; try omega)).trans (((Below.heap_alloc _ _ _ (by simp; try omega)).trans (this))))))
  have p1 : ((((w.alloc (.cells #[.int .i64 r, .slice (some ⟨b, off, none⟩) ns.length cap] 24)).alloc (.cells #[.int .i64 t.op, .int .i64 t.a, .int .i64 t.b] 26)).alloc (.cells #[.slice ua ns.length uc] 27)).alloc (.cells #[.slice none 0 0, .slice none 0 0] 29)).heap[w.heap.size + 1]? = some (.cells #[.int .i64 t.op, .int .i64 t.a, .int .i64 t.b] 26 (0, 0)) := by
    have := World.alloc_heap_new (w.alloc (.cells #[.int .i64 r, .slice (some ⟨b, off, none⟩) ns.length cap] 24)) (.cells #[.int .i64 t.op, .int .i64 t.a, .int .i64 t.b] 26)
    simp only [World.size_alloc] at this
    exact ((Below.heap_alloc _ _ _ (by simp; try omega)).trans (((Below.heap_alloc _ _ _ (by simp; try omega)).trans (this))))
  have p2 : ((((w.alloc (.cells #[.int .i64 r, .slice (some ⟨b, off, none⟩) ns.length cap] 24)).alloc (.cells #[.int .i64 t.op, .int .i64 t.a, .int .i64 t.b] 26)).alloc (.cells #[.slice ua ns.length uc] 27)).alloc (.cells #[.slice none 0 0, .slice none 0 0] 29)).heap[w.heap.size + 2]? = some (.cells #[.slice ua ns.length uc] 27 (0, 0)) := by
    have := World.alloc_heap_new ((w.alloc (.cells #[.int .i64 r, .slice (some ⟨b, off, none⟩) ns.length cap] 24)).alloc (.cells #[.int .i64 t.op, .int .i64 t.a, .int .i64 t.b] 26)) (.cells #[.slice ua ns.length uc] 27)
    simp only [World.size_alloc] at this
    exact ((Below.heap_alloc _ _ _ (by simp; try omega)).trans (this))
  have p3 : ((((w.alloc (.cells #[.int .i64 r, .slice (some ⟨b, off, none⟩) ns.length cap] 24)).alloc (.cells #[.int .i64 t.op, .int .i64 t.a, .int .i64 t.b] 26)).alloc (.cells #[.slice ua ns.length uc] 27)).alloc (.cells #[.slice none 0 0, .slice none 0 0] 29)).heap[w.heap.size + 3]? = some (.cells #[.slice none 0 0, .slice none 0 0] 29 (0, 0)) := by
    have := World.alloc_heap_new (((w.alloc (.cells #[.int .i64 r, .slice (some ⟨b, off, none⟩) ns.length cap] 24)).alloc (.cells #[.int .i64 t.op, .int .i64 t.a, .int .i64 t.b] 26)).alloc (.cells #[.slice ua ns.length uc] 27)) (.cells #[.slice none 0 0, .slice none 0 0] 29)
    simp only [World.size_alloc] at this
    exact this
  go_enter Tryz.func21, Tryz.ntmps21
  go_upto_region 1 with fail
  generalize ((((w.alloc (.cells #[.int .i64 r, .slice (some ⟨b, off, none⟩) ns.length cap] 24)).alloc (.cells #[.int .i64 t.op, .int .i64 t.a, .int .i64 t.b] 26)).alloc (.cells #[.slice ua ns.length uc] 27)).alloc (.cells #[.slice none 0 0, .slice none 0 0] 29)) = W at hbA p0 p1 p2 p3 ⊢
  try rw [show w.heap.size + 1 + 1 = w.heap.size + 2 from rfl]
  try rw [show w.heap.size + 2 + 1 = w.heap.size + 3 from rfl]
  have q0 := blk_cell p0 0
  have q1 := blk_cell p0 1
  simp at q0 q1
  have t0 := blk_cell p1 0
  have t1 := blk_cell p1 1
  have t2 := blk_cell p1 2
  simp at t0 t1 t2
  have pl := blk_lt p0
  have tl := blk_lt p1
  have HB := hide hbA
  have HP := hide p0
  have HT := hide p1
  have HU := hide p2
  have HR := hide p3
  clear hbA p0 p1 p2 p3
  go_wp2_with fail
  refine (HOF.out _ HB.out).mono ?_
  rintro e w1 ⟨a0, a1, a2, a3, a4, a5, c0, c1, c2, c3, c4, c5, rfl, ⟨o0, o1, o2, o3, o4, o5⟩, hb1⟩
  have hbF : Below w1.heap.size w1 (w1.alloc (.cells #[.slice a0 ns.length c0, .slice a1 ns.length c1, .slice a2 ns.length c2, .slice a3 ns.length c3, .slice a4 ns.length c4, .slice a5 ns.length c5] 58)) := (Below.refl _ w1).alloc (Nat.le_refl _) _
  have hF : (w1.alloc (.cells #[.slice a0 ns.length c0, .slice a1 ns.length c1, .slice a2 ns.length c2, .slice a3 ns.length c3, .slice a4 ns.length c4, .slice a5 ns.length c5] 58)).heap[w1.heap.size]? = some (.cells #[.slice a0 ns.length c0, .slice a1 ns.length c1, .slice a2 ns.length c2, .slice a3 ns.length c3, .slice a4 ns.length c4, .slice a5 ns.length c5] 58 (0, 0)) := World.alloc_heap_new w1 _
  have HBW := hide (hb1.trans (hbF.mono hb1.size))
  have HB2 := hide (HB.out.trans (HBW.out.mono HB.out.size))
  have Y0 : Hid (BoolsAt (w1.alloc (.cells #[.slice a0 ns.length c0, .slice a1 ns.length c1, .slice a2 ns.length c2, .slice a3 ns.length c3, .slice a4 ns.length c4, .slice a5 ns.length c5] 58)) a0 (downL ns t)) := (bools_owned o0 (solve_len ns _)).below hbF
  have hP := (HBW.out.block _ pl).trans HP.out
  have hT := (HBW.out.block _ tl).trans HT.out
  have hU := (HBW.out.block _ (blk_lt HU.out)).trans HU.out
  have hR := (HBW.out.block _ (blk_lt HR.out)).trans HR.out
  have hFs : w.heap.size + 3 < w1.heap.size := by have h1 := blk_lt HR.out; have h2 := hb1.size; omega
  have ul1 := Nat.lt_of_lt_of_le (blk_lt HU.out) hb1.size
  have rl1 := Nat.lt_of_lt_of_le (blk_lt HR.out) hb1.size
  have HY := hide (HUB.out.below HB2.out)
  clear o0 o1 o2 o3 o4 o5 hb1 q0 q1 t0 t1 t2 pl tl HB HR HP HT HOF HBW hcr hto hu hul hc hN HU ul1 rl1
  have u0 := blk_cell hU 0
  simp at u0
  have ul := blk_lt hU
  have q0 := blk_cell hP 0
  have q1 := blk_cell hP 1
  simp at q0 q1
  have pl := blk_lt hP
  clear ul pl u0 q0 q1
  go_upto_region 4 with fail
  generalize (w1.alloc (.cells #[.slice a0 ns.length c0, .slice a1 ns.length c1, .slice a2 ns.length c2, .slice a3 ns.length c3, .slice a4 ns.length c4, .slice a5 ns.length c5] 58)) = V at hF hbF HB2 Y0 HY hP hT hU hR ⊢
  generalize w1.heap.size = FB at *
  have u0 := blk_cell hU 0
  simp at u0
  have ul := blk_lt hU
  have q0 := blk_cell hP 0
  have q1 := blk_cell hP 1
  simp at q0 q1
  have pl := blk_lt hP
  have t0 := blk_cell hT 0
  have t1 := blk_cell hT 1
  have t2 := blk_cell hT 2
  simp at t0 t1 t2
  have tl := blk_lt hT
  have HF := hide hF
  have HP := hide hP
  have HT := hide hT
  have HU := hide hU
  have HR := hide hR
  clear hF hP hT hU hR hbF
  have HST := hide (surelyThere_any (fun n => bat us n && bat (downL ns t) n) 52 #[.pointer (some ⟨w.heap.size + 2, 0, none⟩), .pointer (some ⟨FB, 0, none⟩)] r b off cap ns t V (HN.out.below HB2.out HN.out.lt) HCR.out HTO.out (enters_of Tryz.func52 (by kernel_rfl) rfl) (fun i hi U hX => (rival1_any i (w.heap.size + 2) FB ns.length us (downL ns t) ua a0 uc c0 U (by rw [blk_cell ((hX.block _ (blk_lt HU.out)).trans HU.out)]; rfl) (by rw [blk_cell ((hX.block _ (blk_lt HF.out)).trans HF.out)]; rfl) (blk_lt ((hX.block _ (blk_lt HU.out)).trans HU.out)) (blk_lt ((hX.block _ (blk_lt HF.out)).trans HF.out)) (HY.out.below hX) (Y0.out.below hX) HUL.out (solve_len ns _) hi).mono fun e w' h => ⟨h.1, by rw [h.2]; exact Below.refl _ _⟩))
  have HRP : Hid ((List.range ns.length).map (fun n => bat us n && bat (downL ns t) n) = rivPut ns t us) := rfl
  rw [HRP.out] at HST
  go_wp2_with fail
  refine HST.out.mono ?_
  rintro e w2 ⟨x3, d3, rfl, hV3, hb2⟩
  have hbD : Below w2.heap.size w2 (w2.alloc (.cells #[.slice x3 ns.length d3] 27)) := (Below.refl _ w2).alloc (Nat.le_refl _) _
  have hD : (w2.alloc (.cells #[.slice x3 ns.length d3] 27)).heap[w2.heap.size]? = some (.cells #[.slice x3 ns.length d3] 27 (0, 0)) := World.alloc_heap_new w2 _
  have HBX := hide (hb2.trans (hbD.mono hb2.size))
  have HY3 : Hid (BoolsAt (w2.alloc (.cells #[.slice x3 ns.length d3] 27)) x3 (thereL ns t (rivPut ns t us))) := (bools_owned hV3 (solve_len ns _)).below hbD
  have hs2 : w.heap.size + 3 < w2.heap.size := by have h1 := hb2.size; have h2 := blk_lt HR.out; omega
  clear q0 q1 t0 t1 t2 pl tl u0 ul hV3 hb2 hbD HST
  go_upto_region 9 with fail
  generalize (w2.alloc (.cells #[.slice x3 ns.length d3] 27)) = X at hD HBX HY3 ⊢
  generalize w2.heap.size = DB at *
  have hP := ((HBX.out.block _ (blk_lt HP.out)).trans HP.out)
  have q0 := blk_cell hP 0
  have q1 := blk_cell hP 1
  simp at q0 q1
  have pl := blk_lt hP
  have HD := hide hD
  clear hP hD
  have HPL := hide (places_any (fun n => bat us n && bat (downL ns t) n) (fun n => bat (rcl ns t) n && bat (thereL ns t (rivPut ns t us)) n) 52 54 #[.pointer (some ⟨w.heap.size + 2, 0, none⟩), .pointer (some ⟨FB, 0, none⟩)] #[.pointer (some ⟨w.heap.size, 0, none⟩), .pointer (some ⟨w.heap.size + 1, 0, none⟩), .pointer (some ⟨DB, 0, none⟩)] r (some ⟨b, off, none⟩) ns.length cap X (by have := HL.out; omega) (enters_of Tryz.func52 (by kernel_rfl) rfl) (enters_of Tryz.func54 (by kernel_rfl) rfl) (fun i hi U hX => (rival1_any i (w.heap.size + 2) FB ns.length us (downL ns t) ua a0 uc c0 U (by rw [blk_cell (((HBX.out.trans (hX.mono HBX.out.size)).block _ (blk_lt HU.out)).trans HU.out)]; rfl) (by rw [blk_cell (((HBX.out.trans (hX.mono HBX.out.size)).block _ (blk_lt HF.out)).trans HF.out)]; rfl) (blk_lt (((HBX.out.trans (hX.mono HBX.out.size)).block _ (blk_lt HU.out)).trans HU.out)) (blk_lt (((HBX.out.trans (hX.mono HBX.out.size)).block _ (blk_lt HF.out)).trans HF.out)) (HY.out.below (HBX.out.trans (hX.mono HBX.out.size))) (Y0.out.below (HBX.out.trans (hX.mono HBX.out.size))) HUL.out (solve_len ns _) hi).mono fun e w' h => ⟨h.1, by rw [h.2]; exact Below.refl _ _⟩) (fun i hi U hX => rival2_any i w.heap.size (w.heap.size + 1) DB r b off cap ns t (thereL ns t (rivPut ns t us)) x3 d3 U (HN.out.below (HB2.out.trans ((HBX.out.trans (hX.mono HBX.out.size)).mono HB2.out.size)) HN.out.lt) hi (((HBX.out.trans (hX.mono HBX.out.size)).block _ (blk_lt HP.out)).trans HP.out) (((HBX.out.trans (hX.mono HBX.out.size)).block _ (blk_lt HT.out)).trans HT.out) HTO.out ((hX.block _ (blk_lt HD.out)).trans HD.out) (HY3.out.below hX) (solve_len ns _)))
  have HR2 := hide ((HBX.out.block _ (blk_lt HR.out)).trans HR.out)
  have HB4 := hide (HB2.out.trans (HBX.out.mono HB2.out.size))
  go_wp2_with fail
  refine HPL.out.mono ?_
  rintro e w3 ⟨x1, d1, x2, d2, rfl, hV1, hV2, hb3⟩
  have hR := (hb3.block _ (blk_lt HR2.out)).trans HR2.out
  have y0 := blk_cell hR 0
  have y1 := blk_cell hR 1
  simp at y0 y1
  have z0 := blk_frozen hR 0
  have z1 := blk_frozen hR 1
  have ylt := blk_lt hR
  have HR3 := hide hR
  have HB3 := hide (HB4.out.trans (hb3.mono HB4.out.size))
  have HV1 := hide (ownsRow_base hV1 (base' := w.heap.size) HB4.out.size)
  have HV2 := hide (ownsRow_base hV2 (base' := w.heap.size) HB4.out.size)
  clear hR hb3 q0 q1 pl hV1 hV2 HPL
  go_wp2
  have hk := blk_set2 (v0 := .slice x1 ns.length d1) (v1 := .slice x2 ns.length d2) HR3.out
  have T1 := owns_set (o := 1) (u := .slice x2 ns.length d2) (owns_set (o := 0) (u := .slice x1 ns.length d1) HV1.out HR3.out (by decide)) (blk_set (i := 0) (.slice x1 ns.length d1) HR3.out) (by decide)
  have T2 := owns_set (o := 1) (u := .slice x2 ns.length d2) (owns_set (o := 0) (u := .slice x1 ns.length d1) HV2.out HR3.out (by decide)) (blk_set (i := 0) (.slice x1 ns.length d1) HR3.out) (by decide)
  have k0 := blk_cell hk 0
  have k1 := blk_cell hk 1
  simp at k0 k1
  exact bodyPost_ret (v := .tuple #[.agg #[.slice x1 ns.length d1, .slice x2 ns.length d2], .int .i64 0]) (by simp [results, Tryz.results21, go_sem, k0, k1]) rfl ⟨x1, d1, x2, d2, rfl, T1, T2, below_set2 HB3.out (by omega)⟩

end Go.Proofs.YtoikglgnmjjpcabGreat
