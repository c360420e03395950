/-
  graph.Split, walked.
-/
import Derived.Test.YtoikglgnmjjpcabLO
import Derived.Test.YtoikglgnmjjpcabLD
import Derived.Test.YtoikglgnmjjpcabLH
import Derived.Test.YtoikglgnmjjpcabGV
import Derived.Sort.CutIn
namespace Go.Proofs.Ytoikglgnmjjpcab
open Go.RowKit Go.Shelf
set_option linter.unusedVariables false

attribute [local go_sem] Oper.semAt_some

theorem pick_ahl (ns : List Nd) (m : Nat) : (pick (ahB ns m) ns.length).length = (ahl ns m).length := by simp [pick, ahl]

theorem spl1_len (ns : List Nd) (n : Nat) (out : List Nd) (m : Int) : (spl1 ns n out m).length ≤ out.length + 1 ∧ out.length ≤ (spl1 ns n out m).length := by
  unfold spl1; split <;> simp
theorem spl1s_len (ns : List Nd) (n : Nat) : ∀ (l : List Int) (out : List Nd), (l.foldl (spl1 ns n) out).length ≤ out.length + l.length ∧ out.length ≤ (l.foldl (spl1 ns n) out).length
  | [], out => by simp
  | m :: l, out => by
    have h1 := spl1s_len ns n l (spl1 ns n out m)
    have h2 := spl1_len ns n out m
    simp only [List.foldl_cons, List.length_cons]; omega
theorem exo_le (x : Nd) : (exo x).length ≤ 2 := exo_len x
theorem splTo_len (ns : List Nd) : ∀ k, (splTo ns k).length ≤ ns.length + 2 * k ∧ ns.length ≤ (splTo ns k).length
  | 0 => by simp [splTo]
  | k + 1 => by
    have ih := splTo_len ns k
    rw [splTo_succ]
    unfold spl2
    split
    · omega
    · have h1 := spl1s_len ns k (exo (nd ns k)) (splTo ns k)
      have h2 := exo_le (nd ns k)
      omega

/-- A node of a row of the call's own is written, cell by cell. -/
theorem owns_node {w : World} {base g cap : Nat} {l : List Nd} {j : Nat} {y : Nd} (h : w.ownsRow base 53 6 (.slice (some ⟨g, 0, none⟩) l.length cap) l.length (l.flatMap encNd)) (hj : j < l.length) :
    ((((((w.setCell ⟨g, j * 6, none⟩ (.int .i64 y.op)).setCell ⟨g, j * 6 + 1, none⟩ (.int .i64 y.d)).setCell ⟨g, j * 6 + 2, none⟩ (.int .i64 y.a)).setCell ⟨g, j * 6 + 3, none⟩ (.int .i64 y.b)).setCell ⟨g, j * 6 + 4, none⟩ (.int .i64 y.t)).setCell ⟨g, j * 6 + 5, none⟩ (.int .i64 y.e)).ownsRow base 53 6 (.slice (some ⟨g, 0, none⟩) (l.set j y).length cap) (l.set j y).length ((l.set j y).flatMap encNd) := by
  obtain ⟨x, hx⟩ := get_lt hj
  have gs : ∀ (z : Nd), (l.set j z)[j]? = some z := fun z => by rw [List.getElem?_set_self hj]
  have k0 := owns_write (u := .int .i64 y.op) h (i := j * 6 + 0) (by omega)
  rw [flat_set 6 encNd encNd_len l j 0 x ⟨y.op, x.d, x.a, x.b, x.t, x.e⟩ _ hx (by decide) rfl] at k0
  have k1 := owns_write (u := .int .i64 y.d) k0 (i := j * 6 + 1) (by omega)
  rw [flat_set 6 encNd encNd_len (l.set j ⟨y.op, x.d, x.a, x.b, x.t, x.e⟩) j 1 ⟨y.op, x.d, x.a, x.b, x.t, x.e⟩ ⟨y.op, y.d, x.a, x.b, x.t, x.e⟩ (.int .i64 y.d) (gs _) (by decide) rfl, List.set_set] at k1
  have k2 := owns_write (u := .int .i64 y.a) k1 (i := j * 6 + 2) (by omega)
  rw [flat_set 6 encNd encNd_len (l.set j ⟨y.op, y.d, x.a, x.b, x.t, x.e⟩) j 2 ⟨y.op, y.d, x.a, x.b, x.t, x.e⟩ ⟨y.op, y.d, y.a, x.b, x.t, x.e⟩ (.int .i64 y.a) (gs _) (by decide) rfl, List.set_set] at k2
  have k3 := owns_write (u := .int .i64 y.b) k2 (i := j * 6 + 3) (by omega)
  rw [flat_set 6 encNd encNd_len (l.set j ⟨y.op, y.d, y.a, x.b, x.t, x.e⟩) j 3 ⟨y.op, y.d, y.a, x.b, x.t, x.e⟩ ⟨y.op, y.d, y.a, y.b, x.t, x.e⟩ (.int .i64 y.b) (gs _) (by decide) rfl, List.set_set] at k3
  have k4 := owns_write (u := .int .i64 y.t) k3 (i := j * 6 + 4) (by omega)
  rw [flat_set 6 encNd encNd_len (l.set j ⟨y.op, y.d, y.a, y.b, x.t, x.e⟩) j 4 ⟨y.op, y.d, y.a, y.b, x.t, x.e⟩ ⟨y.op, y.d, y.a, y.b, y.t, x.e⟩ (.int .i64 y.t) (gs _) (by decide) rfl, List.set_set] at k4
  have k5 := owns_write (u := .int .i64 y.e) k4 (i := j * 6 + 5) (by omega)
  rw [flat_set 6 encNd encNd_len (l.set j ⟨y.op, y.d, y.a, y.b, y.t, x.e⟩) j 5 ⟨y.op, y.d, y.a, y.b, y.t, x.e⟩ ⟨y.op, y.d, y.a, y.b, y.t, y.e⟩ (.int .i64 y.e) (gs _) (by decide) rfl, List.set_set] at k5
  rw [List.length_set]
  exact k5

/-- Six cells of a block are written. -/
def six (w : World) (g j : Nat) (y : Nd) : World := (((((w.setCell ⟨g, j * 6, none⟩ (.int .i64 y.op)).setCell ⟨g, j * 6 + 1, none⟩ (.int .i64 y.d)).setCell ⟨g, j * 6 + 2, none⟩ (.int .i64 y.a)).setCell ⟨g, j * 6 + 3, none⟩ (.int .i64 y.b)).setCell ⟨g, j * 6 + 4, none⟩ (.int .i64 y.t)).setCell ⟨g, j * 6 + 5, none⟩ (.int .i64 y.e)
theorem six_other {w : World} {g j b : Nat} {y : Nd} (h : b ≠ g) : (six w g j y).heap[b]? = w.heap[b]? := by
  unfold six
  rw [Below.heap_setCell _ _ _ _ h, Below.heap_setCell _ _ _ _ h, Below.heap_setCell _ _ _ _ h, Below.heap_setCell _ _ _ _ h, Below.heap_setCell _ _ _ _ h, Below.heap_setCell _ _ _ _ h]
theorem six_keeps (w : World) (g j : Nat) (y : Nd) : KeepsOthers w (six w g j y) :=
  (((((KeepsOthers.setCell _ _ _).trans (KeepsOthers.setCell _ _ _)).trans (KeepsOthers.setCell _ _ _)).trans (KeepsOthers.setCell _ _ _)).trans (KeepsOthers.setCell _ _ _)).trans (KeepsOthers.setCell _ _ _)
theorem six_below {B : Nat} (w : World) {g : Nat} (j : Nat) (y : Nd) (h : B ≤ g) : Below B w (six w g j y) :=
  ((((((Below.refl B w).setCell (p := ⟨g, _, none⟩) h _).setCell (p := ⟨g, _, none⟩) h _).setCell (p := ⟨g, _, none⟩) h _).setCell (p := ⟨g, _, none⟩) h _).setCell (p := ⟨g, _, none⟩) h _).setCell (p := ⟨g, _, none⟩) h _
theorem six_kt {w : World} {g j N : Nat} {y : Nd} {cur : Array Value} (h : w.heap[g]? = some (.cells cur 53 (0, 0))) (hN : N ≠ g) : KT N w (six w g j y) :=
  ⟨six_other hN, fun i vs fr e => six_other fun q => by
    subst q; rw [h] at e; cases e⟩

end Go.Proofs.Ytoikglgnmjjpcab
