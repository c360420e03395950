/-
  links.Next, walked; rows of numbers that are only read.
  prog.Ahead, walked.
-/
import Derived.Test.YtoikglgnmjjpcabLD
import Derived.Test.YtoikglgnmjjpcabLG
import Derived.Test.YtoikglgnmjjpcabLK
namespace Go.Proofs.Ytoikglgnmjjpcab
open Go.RowKit Go.Shelf
set_option linter.unusedVariables false

theorem linksAhead_any (r : Int) (b off cap : Nat) (ns : List Nd) (w : World) (hN : NodesAt w b off ns) (hc : chk r ns = 0) :
    Calls Try.prog 40 #[.agg #[.int .i64 r, .slice (some ⟨b, off, none⟩) ns.length cap]] w fun e w' => ∃ rb vs, e = .returned (.slice (some ⟨rb, 0, none⟩) ns.length ns.length) ∧ RowsAt w' w.heap.size rb ns.length vs (fun m => pick (ahB ns m) ns.length) ∧ Below w.heap.size w w' :=
  callsIn_wide.1 (linksAhead_in 4 (by decide) r b off cap ns w hN hc)

end Go.Proofs.Ytoikglgnmjjpcab

namespace Go.Proofs.Ytoikglgnmjjpcab
open Go.RowKit Go.Shelf
set_option linter.unusedVariables false

def ints (l : List Nat) : List Int := l.map fun k : Nat => (k : Int)
theorem ints_len (l : List Nat) : (ints l).length = l.length := by simp [ints]

/-- Rows of numbers, to be read. -/
structure RowsR (w : World) (rb L : Nat) (F : Nat → List Nat) : Prop where
  lt : rb < w.heap.size
  row : ∀ m, m < L → ∃ a c, w.cell? ⟨rb, m, none⟩ = some (.slice a (F m).length c) ∧ IntsAt w a (ints (F m))

theorem RowsR.below {w w' : World} {rb L : Nat} {F : Nat → List Nat} (h : RowsR w rb L F) (hb : Below w.heap.size w w') : RowsR w' rb L F :=
  ⟨Nat.lt_of_lt_of_le h.lt hb.size, fun m hm => by
    obtain ⟨a, c, h1, h2⟩ := h.row m hm
    exact ⟨a, c, (hb.cell (p := ⟨rb, m, none⟩) h.lt).trans h1, h2.below hb⟩⟩

/-- .. with the types of their blocks told: what is written elsewhere leaves them. -/
def RowsT (w : World) (rb L : Nat) (F : Nat → List Nat) : Prop :=
  ∃ vs : List Value, w.heap[rb]? = some (.cells vs.toArray 36 (0, 0)) ∧ vs.length = L ∧ ∀ (m : Nat) (v : Value), vs[m]? = some v → w.ownsRow 0 3 1 v (ints (F m)).length ((ints (F m)).map (Value.int .i64))

theorem RowsT.below {w w' : World} {rb L : Nat} {F : Nat → List Nat} (h : RowsT w rb L F) (hb : Below w.heap.size w w') : RowsT w' rb L F := by
  obtain ⟨vs, h1, h2, h3⟩ := h
  exact ⟨vs, (hb.block _ (blk_lt h1)).trans h1, h2, fun m v hv => ownsRow_below (h3 m v hv) hb (Nat.le_refl _)⟩

theorem RowsT.set {w : World} {rb L b o : Nat} {F : Nat → List Nat} {cs : Array Value} {t : TypeId} {u : Value} (h : RowsT w rb L F) (hb : w.heap[b]? = some (.cells cs t (0, 0))) (h1 : t ≠ 36) (h2 : t ≠ 3) : RowsT (w.setCell ⟨b, o, none⟩ u) rb L F := by
  obtain ⟨vs, k1, k2, k3⟩ := h
  refine ⟨vs, ?_, k2, fun m v hv => owns_set (k3 m v hv) hb h2⟩
  refine (Below.heap_setCell _ _ _ _ ?_).trans k1
  rintro rfl
  rw [k1] at hb
  cases hb
  exact h1 rfl

theorem RowsT.read {w : World} {rb L : Nat} {F : Nat → List Nat} (h : RowsT w rb L F) : RowsR w rb L F := by
  obtain ⟨vs, k1, k2, k3⟩ := h
  refine ⟨blk_lt k1, fun m hm => ?_⟩
  have hl : m < vs.length := by rw [k2]; exact hm
  have hv : vs[m]? = some vs[m] := List.getElem?_eq_getElem hl
  obtain ⟨a, c, e, hI⟩ := ints_of_owns (k3 m _ hv)
  rw [ints_len] at e
  exact ⟨a, c, by rw [blk_cell k1, List.getElem?_toArray, hv, e], hI⟩

theorem rowsT_of {w : World} {base rb L : Nat} {vs : List Value} {f : Nat → List Int} {F : Nat → List Nat} (h : RowsAt w base rb L vs f) (hf : ∀ m, f m = ints (F m)) : RowsT w rb L F :=
  ⟨vs, h.blk, h.len, fun m v hv => by rw [← hf m]; exact ownsRow_base (h.own m v hv) (Nat.zero_le _)⟩

theorem linksAhead_rows (r : Int) (b off cap : Nat) (ns : List Nd) (w : World) (hN : NodesAt w b off ns) (hc : chk r ns = 0) :
    Calls Try.prog 40 #[.agg #[.int .i64 r, .slice (some ⟨b, off, none⟩) ns.length cap]] w fun e w' => ∃ rb, e = .returned (.slice (some ⟨rb, 0, none⟩) ns.length ns.length) ∧ RowsT w' rb ns.length (ahl ns) ∧ Below w.heap.size w w' := by
  refine (linksAhead_any r b off cap ns w hN hc).mono ?_
  rintro e w' ⟨rb, vs, rfl, hR, hB⟩
  exact ⟨rb, rfl, rowsT_of hR (fun m => rfl), hB⟩

theorem pick_nxl {ns : List Nd} {n : Nat} {x : Nd} (hx : ns[n]? = some x) : pick (ldB x) ns.length = ints (nxl ns n) := by
  simp only [pick, ints, nxl]
  congr 1
  refine List.filter_congr fun m _ => ?_
  simp [ahB, hx]

set_option maxRecDepth 100000 in
set_option maxHeartbeats 2000000 in
theorem linksNext_rows (r : Int) (b off cap : Nat) (ns : List Nd) (w : World) (hN : NodesAt w b off ns) (hc : chk r ns = 0) :
    Calls Try.prog 39 #[.agg #[.int .i64 r, .slice (some ⟨b, off, none⟩) ns.length cap]] w fun e w' => ∃ rb, e = .returned (.slice (some ⟨rb, 0, none⟩) ns.length ns.length) ∧ RowsT w' rb ns.length (nxl ns) ∧ Below w.heap.size w w' := by
  have hl := (chk_zero hc).1
  have HC := hide hc
  clear hc
  have hms : ∀ W : World, Sem.run Try.prog (Instr.makeSlice 25 (.int .i64 (ns.length : Int)) (.int .i64 (ns.length : Int))) W = .ok (.slice (some ⟨W.heap.size, 0, none⟩) ns.length ns.length) (W.alloc (.cells (madeCells #[.slice none 0 0] ns.length) 36)) := fun W => run_make_row' 25 36 _ 24 Try.underlying25 info_ints rfl .i64 .i64 ns.length (by omega) (by omega) W
  go_enter Try.func39, Try.ntmps39
  go_wp2
  have hB0 : Below w.heap.size w ((w.alloc (.cells #[.int .i64 r, .slice (some ⟨b, off, none⟩) ns.length cap] 24)).alloc (.cells (madeCells #[.slice none 0 0] ns.length) 36)) := ((Below.refl _ w).alloc (Nat.le_refl _) _).alloc (by simp) _
  have hR0 : ((w.alloc (.cells #[.int .i64 r, .slice (some ⟨b, off, none⟩) ns.length cap] 24)).alloc (.cells (madeCells #[.slice none 0 0] ns.length) 36)).heap[w.heap.size + 1]? = some (.cells (List.replicate ns.length (Value.slice none 0 0)).toArray 36 (0, 0)) := by
    have := World.alloc_heap_new (w.alloc (.cells #[.int .i64 r, .slice (some ⟨b, off, none⟩) ns.length cap] 24)) (.cells (madeCells #[.slice none 0 0] ns.length) 36)
    rw [made_rows] at this
    rw [made_rows]
    rwa [World.size_alloc] at this
  generalize ((w.alloc (.cells #[.int .i64 r, .slice (some ⟨b, off, none⟩) ns.length cap] 24)).alloc (.cells (madeCells #[.slice none 0 0] ns.length) 36)) = W0 at hB0 hR0 ⊢
  have HR0 := hide hR0
  clear hR0 hms
  go_loopw [13] (fun i wr => ∃ k : Nat, k ≤ ns.length ∧ i = .int .i64 k ∧ (∃ vs : List Value, wr.heap[w.heap.size + 1]? = some (.cells vs.toArray 36 (0, 0)) ∧ vs.length = ns.length ∧ ∀ m, m < k → ∃ v, vs[m]? = some v ∧ wr.ownsRow (w.heap.size + 1) 3 1 v (ints (nxl ns m)).length ((ints (nxl ns m)).map (Value.int .i64))) ∧ Below w.heap.size w wr) (fun i _ => ns.length - (intOf i).toNat)
  case atStart => exact ⟨0, Nat.zero_le _, rfl, ⟨_, HR0.out, by simp, fun m hm => absurd hm (by omega)⟩, hB0⟩
  case round =>
    obtain ⟨k, hk, rfl, ⟨vs, hR, hvl, hrow⟩, hb⟩ := hrel
    have hsz := hb.size
    have hRl := blk_lt hR
    by_cases hlt : k < ns.length
    · obtain ⟨x, hx⟩ := get_lt hlt
      have hN1 := hN.below hb hN.lt
      have c0 := hN1.c0 k x hx
      have c1 := hN1.c1 k x hx
      have c2 := hN1.c2 k x hx
      have c3 := hN1.c3 k x hx
      have c4 := hN1.c4 k x hx
      have c5 := hN1.c5 k x hx
      have hblt := hN1.lt
      have HX := hide hx
      have HR := hide hR
      have HV := hide hrow
      have hli : (k : Int) < (ns.length : Int) := by omega
      clear hx hN1 hR hrow
      go_wp2_with (go_at_call 54; refine (callsIn_wide.1 (exits_in 1 _ _ _ _ _ _ _)).mono ?_; rintro e w2 ⟨rfl, rfl⟩)
      have hbA : Below wr.heap.size wr ((wr.alloc (.cells #[.int .i64 x.op, .int .i64 x.d, .int .i64 x.a, .int .i64 x.b, .int .i64 x.t, .int .i64 x.e] 53)).alloc (.cells #[.int .i64 x.op, .int .i64 x.d, .int .i64 x.a, .int .i64 x.b, .int .i64 x.t, .int .i64 x.e] 53)) := ((Below.refl _ wr).alloc (Nat.le_refl _) _).alloc (by simp) _
      have hnb : NodeBox ((wr.alloc (.cells #[.int .i64 x.op, .int .i64 x.d, .int .i64 x.a, .int .i64 x.b, .int .i64 x.t, .int .i64 x.e] 53)).alloc (.cells #[.int .i64 x.op, .int .i64 x.d, .int .i64 x.a, .int .i64 x.b, .int .i64 x.t, .int .i64 x.e] 53)) (wr.heap.size + 1) x := by
        have := nodeBox_new (wr.alloc (.cells #[.int .i64 x.op, .int .i64 x.d, .int .i64 x.a, .int .i64 x.b, .int .i64 x.t, .int .i64 x.e] 53)) x
        rwa [World.size_alloc] at this
      generalize ((wr.alloc (.cells #[.int .i64 x.op, .int .i64 x.d, .int .i64 x.a, .int .i64 x.b, .int .i64 x.t, .int .i64 x.e] 53)).alloc (.cells #[.int .i64 x.op, .int .i64 x.d, .int .i64 x.a, .int .i64 x.b, .int .i64 x.t, .int .i64 x.e] 53)) = W2 at hbA hnb ⊢
      have hsA := hbA.size
      clear c0 c1 c2 c3 c4 c5
      refine (callsIn_wide.1 (sorted_in 5 (by decide) (wr.heap.size + 1) x W2 hnb)).mono ?_
      rintro e w3 ⟨v, rfl, hown, hb3⟩
      obtain ⟨va, vc, rfl⟩ := owns_slice hown
      have hB3 : Below wr.heap.size wr w3 := hbA.trans (hb3.mono hsA)
      have hR3 := (hB3.block _ hRl).trans HR.out
      have hR3l := blk_lt hR3
      have hRc : w3.cell? ⟨w.heap.size + 1, k, none⟩ = some (vs[k]'(by omega)) := by
        rw [blk_cell hR3, List.getElem?_toArray]; exact List.getElem?_eq_getElem _
      have hRf := blk_frozen hR3 k
      have HO := hide hown
      have HR3 := hide hR3
      have HB3 := hide hB3
      have e1 : exl x = ints (nxl ns k) := by rw [← pick_nxl HX.out]; exact exl_ok HC.out (List.mem_of_getElem? HX.out)
      rw [e1] at HO ⊢
      have hvk : k < vs.length := by omega
      generalize vs[k]'hvk = vk at hRc
      clear hown hR3 hB3 hb3 hnb hbA e1
      go_wp2_with fail
      go_roundw
      case rel =>
        have hle : w.heap.size + 1 ≤ W2.heap.size := by omega
        refine ⟨k + 1, by omega, by go_num, ⟨vs.set k (.slice va (ints (nxl ns k)).length vc), ?_, by simp [hvl], fun m hm => ?_⟩, (hb.trans (HB3.out.mono hsz)).setCell (p := ⟨w.heap.size + 1, k, none⟩) (by simp) _⟩
        · rw [blk_set _ HR3.out]; simp
        · by_cases e : m = k
          · subst e
            exact ⟨_, by rw [List.getElem?_set_self hvk], owns_set (ownsRow_base HO.out hle) HR3.out (by decide)⟩
          · obtain ⟨u, h1, h2⟩ := HV.out m (by omega)
            exact ⟨u, by rw [List.getElem?_set_ne (fun q => e q.symm)]; exact h1, owns_set (ownsRow_below h2 HB3.out (Nat.le_refl _)) HR3.out (by decide)⟩
      case measure => simp [intOf]; omega
    · have ek : k = ns.length := by omega
      have HR := hide hR
      have HV := hide hrow
      clear hR hrow
      go_wp2
      go_ret
      refine ⟨_, rfl, ⟨vs, HR.out, hvl, fun m v hv => ?_⟩, hb⟩
      obtain ⟨u, h1, h2⟩ := HV.out m (by have := (List.getElem?_eq_some_iff.1 hv).1; omega)
      rw [h1] at hv
      cases hv
      exact ownsRow_base h2 (Nat.zero_le _)
end Go.Proofs.Ytoikglgnmjjpcab

