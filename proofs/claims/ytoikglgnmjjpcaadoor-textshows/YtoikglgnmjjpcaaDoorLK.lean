/-
  hoistwayref.SameBools and SameProgs, walked: of the same lists, and of the same programs.
-/
import Derived.Test.YtoikglgnmjjpcaaDoorLI
import Derived.Test.YtoikglgnmjjpcaaDoorF
import Derived.Deep.QuietTactic
import Derived.BigQuiet
namespace Go.Proofs.YtoikglgnmjjpcaaDoor
open Go.RowKit
set_option linter.unusedVariables false

/-- The list of yes and no lies at the place a. -/
def BoolsAt (w : World) (a : Option Addr) (zs : List Bool) : Prop :=
  zs = [] ∨ ∃ b off, a = some ⟨b, off, none⟩ ∧ b < w.heap.size ∧ ∀ (j : Nat) (z : Bool), zs[j]? = some z → w.cell? ⟨b, off + j, none⟩ = some (.bool z)

theorem BoolsAt.below {w w' : World} {a : Option Addr} {zs : List Bool} (h : BoolsAt w a zs) (hb : Below w.heap.size w w') : BoolsAt w' a zs := by
  rcases h with h | ⟨b, off, rfl, hlt, h⟩
  · exact Or.inl h
  · exact Or.inr ⟨b, off, rfl, Nat.lt_of_lt_of_le hlt hb.size, fun j z hz => by rw [hb.cell (p := ⟨b, _, none⟩) hlt]; exact h j z hz⟩

theorem BoolsAt.at {w : World} {a : Option Addr} {zs : List Bool} (h : BoolsAt w a zs) {k : Nat} (hk : k < zs.length) : ∃ b off, a = some ⟨b, off, none⟩ ∧ b < w.heap.size ∧ ∀ (j : Nat) (z : Bool), zs[j]? = some z → w.cell? ⟨b, off + j, none⟩ = some (.bool z) := by
  rcases h with rfl | h
  · simp at hk
  · exact h

theorem bools_of_owns {w : World} {base : Nat} {e : TypeId} {v : Value} {zs : List Bool} (h : w.ownsRow base e 1 v zs.length (zs.map Value.bool)) : ∃ a cap, v = .slice a zs.length cap ∧ BoolsAt w a zs := by
  have hc : ∀ g, v.ownBlock = some g → ∀ j u, (zs.map Value.bool)[j]? = some u → w.cell? ((⟨g, 0, none⟩ : Addr).add j) = some u := fun g hg => h.cells hg
  obtain ⟨_, h⟩ := h
  rcases h with ⟨rfl, h0⟩ | ⟨g, cap, cur, rfl, h1, h2, h3, h4, h5, h6⟩
  · have : zs = [] := by cases zs; rfl; simp at h0
    subst this
    exact ⟨none, 0, rfl, Or.inl rfl⟩
  · refine ⟨_, cap, rfl, Or.inr ⟨g, 0, rfl, (Array.getElem?_eq_some_iff.1 h2).1, ?_⟩⟩
    intro j z hz
    have := hc g rfl j (.bool z) (by simp [hz])
    have e : (⟨g, 0, none⟩ : Addr).add j = ⟨g, 0 + j, none⟩ := by cases j <;> simp [Addr.add]
    rw [e] at this; exact this

set_option maxHeartbeats 2000000 in
theorem sameProgs_same (r : Int) (a b : Option Addr) (ca cb : Nat) (ns : List Nd) (w : World) (hx : SlN w a ns) (hy : SlN w b ns) (hl : ns.length ≤ 140737488351232) :
    Calls Tryd.prog 11 #[.agg #[.int .i64 r, .slice a ns.length ca], .agg #[.int .i64 r, .slice b ns.length cb]] w fun e w' => e = .returned (.bool true) ∧ Below w.heap.size w w' := by
  go_enter Tryd.func11, Tryd.ntmps11
  go_wp2
  have hB0 : Below w.heap.size w ((w.alloc (.cells #[.int .i64 r, .slice a ns.length ca] 24)).alloc (.cells #[.int .i64 r, .slice b ns.length cb] 24)) := ((Below.refl _ w).alloc (Nat.le_refl _) _).alloc (by simp) _
  have p1 : ((w.alloc (.cells #[.int .i64 r, .slice a ns.length ca] 24)).alloc (.cells #[.int .i64 r, .slice b ns.length cb] 24)).cell? ⟨w.heap.size, 1, none⟩ = some (.slice a ns.length ca) := by simp
  have p2 : ((w.alloc (.cells #[.int .i64 r, .slice a ns.length ca] 24)).alloc (.cells #[.int .i64 r, .slice b ns.length cb] 24)).cell? ⟨w.heap.size + 1, 1, none⟩ = some (.slice b ns.length cb) := by rw [World.cell?_alloc_at _ _ _ _ (by simp)]; rfl
  have hs2 : w.heap.size + 1 < ((w.alloc (.cells #[.int .i64 r, .slice a ns.length ca] 24)).alloc (.cells #[.int .i64 r, .slice b ns.length cb] 24)).heap.size := by simp
  generalize ((w.alloc (.cells #[.int .i64 r, .slice a ns.length ca] 24)).alloc (.cells #[.int .i64 r, .slice b ns.length cb] 24)) = W at hB0 p1 p2 hs2 ⊢
  replace hx := hx.below hB0
  replace hy := hy.below hB0
  have hs1 : w.heap.size < W.heap.size := by omega
  go_loopw [5] (fun i wr => ∃ k : Nat, k ≤ ns.length ∧ i = .int .i64 k ∧ ∃ n, wr = W.drewN n) (fun i _ => ns.length - (intOf i).toNat)
  case atStart => exact ⟨0, Nat.zero_le _, rfl, 0, rfl⟩
  case round =>
    obtain ⟨k, hk, rfl, n, rfl⟩ := hrel
    by_cases hlt : k < ns.length
    · obtain ⟨x, gx⟩ := get_lt hlt
      obtain ⟨ba, oa, rfl, fa⟩ := hx.some (by omega)
      obtain ⟨bb, ob, rfl, fb⟩ := hy.some (by omega)
      have ha := fa.lt
      have hb := fb.lt
      have x0 := fa.c0 k x gx
      have x1 := fa.c1 k x gx
      have x2 := fa.c2 k x gx
      have x3 := fa.c3 k x gx
      have x4 := fa.c4 k x gx
      have x5 := fa.c5 k x gx
      have y0 := fb.c0 k x gx
      have y1 := fb.c1 k x gx
      have y2 := fb.c2 k x gx
      have y3 := fb.c3 k x gx
      have y4 := fb.c4 k x gx
      have y5 := fb.c5 k x gx
      clear gx fa fb hx hy
      go_wp2
      go_quiet (fail)
      go_wp2
      go_roundw
      case rel => exact ⟨k + 1, by omega, by go_num, n + nq, by first | rfl | (simp only [World.drewN_drewN])⟩
      case measure => simp [intOf]; omega
    · go_wp2
      go_ret
      exact ⟨rfl, below_drewN hB0 n⟩
end Go.Proofs.YtoikglgnmjjpcaaDoor
