/-
  What the row's condition says of the world: Env.
-/
import Derived.Test.YtoikglgnmjjpcaaDoorTQ
import Derived.Test.YtoikglgnmjjpcaaDoorRows
import Derived.Stop.LaidErr
import Derived.Deep.DeepHandedRow
import Derived.Lib.LaidTab
namespace Go.Proofs.YtoikglgnmjjpcaaDoor
open Go.RowKit
set_option linter.unusedVariables false

theorem laid_tail {P : Program} {x : String × DataW Unit} {r : List (String × DataW Unit)} {w : World} (h : laidMet P (x :: r) w) : laidMet P r w := by
  obtain ⟨ps, ⟨g, t, cs, fuel, p, q, h1, h2, h3, h4, h5, rfl⟩, hn, hr⟩ := h
  exact ⟨q, h5, (List.nodup_append.1 hn).2.1, fun b off hm => hr b off (List.mem_append_right _ hm)⟩

theorem star_es : "*" ++ "errors.errorString" = "*errors.errorString" := by decide
theorem es_row (u : TypeId) (h : Tryd.prog.typeName? 3 u = some "*errors.errorString") : u = 127 :=
  typeName_ptr_named (nm := "errors.errorString") (by rw [star_es]; kernel_rfl) (by kernel_rfl) (by decide) u (by rw [star_es]; exact h)

theorem env_of {W : World} (h : laidMetH Tryd.prog Rows.textBackRow.laid W) (hs : W.ShapedOpen Tryd.prog) : Env W := by
  have h0 : laidMet Tryd.prog Rows.textBackRow.laid W := h
  have h1 := laid_tail (laid_tail h0)
  have h2 := laid_tail (laid_tail h1)
  have h3 := laid_tail h2
  have ht : Lib.TabIs Tryd.prog W "internal/strconv.uint64pow10" .u64 Lib.pow10Tab := Lib.tabIs_of_head (rest := _) (g := 0) (t := 107) (e := 91) (by kernel_rfl) (by kernel_rfl) Tryd.underlying107 Tryd.underlying91 (by kernel_rfl) (by kernel_rfl) h1
  obtain ⟨a1, s1, hv1, -, -, -⟩ := laid_sentinel (g := 2) (ti := 44) (tp := 127) (te := 129) (ts := 9) h2 (by kernel_rfl) (by kernel_rfl) Tryd.underlying44 es_row Tryd.underlying127 Tryd.underlying129 rfl rfl Tryd.underlying9 (by kernel_rfl) (by kernel_rfl)
  obtain ⟨a2, s2, hv2, -, -, -⟩ := laid_sentinel (g := 1) (ti := 44) (tp := 127) (te := 129) (ts := 9) h3 (by kernel_rfl) (by kernel_rfl) Tryd.underlying44 es_row Tryd.underlying127 Tryd.underlying129 rfl rfl Tryd.underlying9 (by kernel_rfl) (by kernel_rfl)
  exact ⟨ht, ⟨_, _, hv2⟩, ⟨_, _, hv1⟩, hs⟩

end Go.Proofs.YtoikglgnmjjpcaaDoor
