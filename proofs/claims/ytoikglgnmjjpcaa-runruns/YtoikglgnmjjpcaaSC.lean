/-
  hoistwayref.RunOf: its state in memory.
-/
import Derived.Test.YtoikglgnmjjpcaaSB
import Derived.Test.YtoikglgnmjjpcaaRY
namespace Go.Proofs.Ytoikglgnmjjpcaa
open Go.RowKit
set_option linter.unusedVariables false

/-- RunOf's result and registers in memory. -/
structure MB (q s rb xb : Nat) (W0 w : World) (σ : St) (vo vc : Value) : Prop where
  hx : w.heap[xb]? = some (.cells #[vo, .int .i64 σ.ret, .bool σ.ended, .int .i64 σ.steps, vc] 42 (0, 0))
  hr : w.heap[rb]? = some (.cells (σ.regs.map (Value.int .i64)).toArray 3 (0, 0))
  ho : w.ownsRow s 3 1 vo σ.out.length (σ.out.map (Value.int .i64))
  hc : w.ownsRow s 111 4 vc σ.cts.length (σ.cts.flatMap encCt)
  hne : ∀ g, vo.ownBlock = some g → vc.ownBlock = some g → False
  hb : Below q W0 w
  geo : q ≤ rb ∧ q ≤ xb ∧ rb < s ∧ xb < s ∧ rb ≠ xb ∧ s ≤ w.heap.size ∧ q ≤ W0.heap.size

theorem owns_far {w w' : World} {base : Nat} {e : TypeId} {size : Nat} {v : Value} {n : Nat} {xs : List Value} {A : List Nat} (h : w.ownsRow base e size v n xs) (K : Keeps A w w') (hA : ∀ x ∈ A, x < base ∨ v.ownBlock ≠ some x) : w'.ownsRow base e size v n xs := by
  obtain ⟨hl, h⟩ := h
  refine ⟨hl, ?_⟩
  rcases h with h | ⟨g, cap, cur, rfl, h1, h2, h3⟩
  · exact Or.inl h
  · refine Or.inr ⟨g, cap, cur, rfl, h1, ?_, h3⟩
    rw [K.block g (blk_lt h2) (fun hx => by
      rcases hA g hx with h | h
      · omega
      · exact h rfl)]
    exact h2

/-- A step that writes the result's block and the registers alone, or makes new blocks. -/
theorem MB.next {q s rb xb : Nat} {W0 w w' : World} {σ σ' : St} {vo vc : Value} (M : MB q s rb xb W0 w σ vo vc) (K : Keeps [rb, xb] w w')
    (hx : w'.heap[xb]? = some (.cells #[vo, .int .i64 σ'.ret, .bool σ'.ended, .int .i64 σ'.steps, vc] 42 (0, 0)))
    (hr : w'.heap[rb]? = some (.cells (σ'.regs.map (Value.int .i64)).toArray 3 (0, 0))) (eo : σ'.out = σ.out) (ec : σ'.cts = σ.cts) : MB q s rb xb W0 w' σ' vo vc := by
  have hg := M.geo
  refine ⟨hx, hr, ?_, ?_, M.hne, M.hb.trans (K.below (by simp; omega) (Nat.le_trans hg.2.2.2.2.2.2 M.hb.size)), by have := K.size; omega⟩
  · rw [eo]; exact K.owns M.ho (by simp; omega)
  · rw [ec]; exact K.owns M.hc (by simp; omega)

theorem MB.reg {q s rb xb : Nat} {W0 w : World} {σ : St} {vo vc : Value} (M : MB q s rb xb W0 w σ vo vc) {n : Nat} (h : n < σ.regs.length) : w.cell? ⟨rb, n, none⟩ = some (.int .i64 (getR σ.regs (n : Int))) := by
  rw [blk_cell M.hr]
  simp [getR]
  rw [List.getElem?_eq_getElem h]; simp

theorem MB.setReg {q s rb xb : Nat} {W0 w : World} {σ : St} {vo vc : Value} (M : MB q s rb xb W0 w σ vo vc) (n : Nat) (v : Int) : MB q s rb xb W0 (w.setCell ⟨rb, n, none⟩ (.int .i64 v)) { σ with regs := setR σ.regs (n : Int) v } vo vc := by
  refine M.next ((Keeps.refl [rb, xb] w).setCell (p := ⟨rb, n, none⟩) (by simp) _) (blk_set_ne _ M.hx (fun e => M.geo.2.2.2.2.1 e.symm)) ?_ rfl rfl
  rw [blk_set _ M.hr]
  simp [setR, List.map_set]

theorem MB.drew {q s rb xb : Nat} {W0 w : World} {σ : St} {vo vc : Value} (M : MB q s rb xb W0 w σ vo vc) : MB q s rb xb W0 w.drew σ vo vc :=
  M.next ((Keeps.refl [rb, xb] w).drew) M.hx M.hr rfl rfl

theorem MB.drewN {q s rb xb : Nat} {W0 w : World} {σ : St} {vo vc : Value} (M : MB q s rb xb W0 w σ vo vc) (n : Nat) : MB q s rb xb W0 (w.drewN n) σ vo vc :=
  M.next ((Keeps.refl [rb, xb] w).drewN n) M.hx M.hr rfl rfl

theorem MB.setEnd {q s rb xb : Nat} {W0 w : World} {σ : St} {vo vc : Value} (M : MB q s rb xb W0 w σ vo vc) (v : Int) : MB q s rb xb W0 ((w.setCell ⟨xb, 1, none⟩ (.int .i64 v)).setCell ⟨xb, 2, none⟩ (.bool true)) { σ with ret := v, ended := true } vo vc := by
  refine M.next (((Keeps.refl [rb, xb] w).setCell (p := ⟨xb, 1, none⟩) (by simp) _).setCell (p := ⟨xb, 2, none⟩) (by simp) _) ?_ (blk_set_ne _ (blk_set_ne _ M.hr M.geo.2.2.2.2.1) M.geo.2.2.2.2.1) rfl rfl
  rw [blk_set _ (blk_set _ M.hx)]
  simp

/-- A row of the result's own has grown: the one of the counts. -/
theorem MB.setCts {q s rb xb : Nat} {W0 w w' : World} {σ : St} {vo vc vc' : Value} {l : List Ct} (M : MB q s rb xb W0 w σ vo vc) (hg : w.grownBy w' vc.ownBlock) (ho : w'.ownsRow s 111 4 vc' l.length (l.flatMap encCt)) (hv : vc'.ownBlock = vc.ownBlock ∨ ∀ g, vc'.ownBlock = some g → w.heap.size ≤ g) :
    MB q s rb xb W0 (w'.setCell ⟨xb, 4, none⟩ vc') { σ with cts := l } vo vc' := by
  have hgeo := M.geo
  have hbs : ∀ g, vc.ownBlock = some g → s ≤ g := fun g h => (M.hc.lt g h).1
  have hos : ∀ g, vo.ownBlock = some g → s ≤ g ∧ g < w.heap.size := fun g h => M.ho.lt g h
  have hx' : w'.heap[xb]? = _ := (hg.block xb (blk_lt M.hx) (fun e => by have := hbs xb e.symm; omega)).trans M.hx
  have hr' : w'.heap[rb]? = _ := (hg.block rb (blk_lt M.hr) (fun e => by have := hbs rb e.symm; omega)).trans M.hr
  have hb' : Below q W0 w' := M.hb.trans ⟨hg.os, hg.tape, hg.output, hg.size, fun k hk => hg.block k (by have := M.hb.size; omega) (fun e => by have := hbs k e.symm; omega)⟩
  have K : Keeps [xb] w' (w'.setCell ⟨xb, 4, none⟩ vc') := (Keeps.refl [xb] w').setCell (p := ⟨xb, 4, none⟩) (by simp) _
  have hsz := hg.size
  refine ⟨?_, blk_set_ne _ hr' hgeo.2.2.2.2.1, ?_, K.owns ho (by simp; omega), ?_, hb'.trans (K.below (by simp; omega) (Nat.le_trans hgeo.2.2.2.2.2.2 hb'.size)), by have := K.size; omega⟩
  · rw [blk_set _ hx']; simp
  · refine K.owns ?_ (by simp; omega)
    obtain ⟨hl, h⟩ := M.ho
    refine ⟨hl, ?_⟩
    rcases h with h | ⟨g, cap, cur, rfl, h1, h2, h3⟩
    · exact Or.inl h
    · refine Or.inr ⟨g, cap, cur, rfl, h1, ?_, h3⟩
      rw [hg.block g (blk_lt h2) (fun e => M.hne g rfl e.symm)]; exact h2
  · intro g h1 h2
    rcases hv with hv | hv
    · exact M.hne g h1 (by rw [← hv]; exact h2)
    · have := hv g h2; have := (hos g h1).2; omega

/-- .. the one of what was told. -/
theorem MB.setOut {q s rb xb : Nat} {W0 w w' : World} {σ : St} {vo vo' vc : Value} {l : List Int} (M : MB q s rb xb W0 w σ vo vc) (hg : w.grownBy w' vo.ownBlock) (ho : w'.ownsRow s 3 1 vo' l.length (l.map (Value.int .i64))) (hv : vo'.ownBlock = vo.ownBlock ∨ ∀ g, vo'.ownBlock = some g → w.heap.size ≤ g) :
    MB q s rb xb W0 (w'.setCell ⟨xb, 0, none⟩ vo') { σ with out := l } vo' vc := by
  have hgeo := M.geo
  have hbs : ∀ g, vo.ownBlock = some g → s ≤ g := fun g h => (M.ho.lt g h).1
  have hos : ∀ g, vc.ownBlock = some g → s ≤ g ∧ g < w.heap.size := fun g h => M.hc.lt g h
  have hx' : w'.heap[xb]? = _ := (hg.block xb (blk_lt M.hx) (fun e => by have := hbs xb e.symm; omega)).trans M.hx
  have hr' : w'.heap[rb]? = _ := (hg.block rb (blk_lt M.hr) (fun e => by have := hbs rb e.symm; omega)).trans M.hr
  have hb' : Below q W0 w' := M.hb.trans ⟨hg.os, hg.tape, hg.output, hg.size, fun k hk => hg.block k (by have := M.hb.size; omega) (fun e => by have := hbs k e.symm; omega)⟩
  have K : Keeps [xb] w' (w'.setCell ⟨xb, 0, none⟩ vo') := (Keeps.refl [xb] w').setCell (p := ⟨xb, 0, none⟩) (by simp) _
  have hsz := hg.size
  refine ⟨?_, blk_set_ne _ hr' hgeo.2.2.2.2.1, K.owns ho (by simp; omega), ?_, ?_, hb'.trans (K.below (by simp; omega) (Nat.le_trans hgeo.2.2.2.2.2.2 hb'.size)), by have := K.size; omega⟩
  · rw [blk_set _ hx']; simp
  · refine K.owns ?_ (by simp; omega)
    obtain ⟨hl, h⟩ := M.hc
    refine ⟨hl, ?_⟩
    rcases h with h | ⟨g, cap, cur, rfl, h1, h2, h3⟩
    · exact Or.inl h
    · refine Or.inr ⟨g, cap, cur, rfl, h1, ?_, h3⟩
      rw [hg.block g (blk_lt h2) (fun e => M.hne g e.symm rfl)]; exact h2
  · intro g h1 h2
    rcases hv with hv | hv
    · exact M.hne g (by rw [← hv]; exact h1) h2
    · have := hv g h1; have := (hos g h2).2; omega

theorem runN_cb {ns : List Nd} : ∀ (n : Nat) (s : St) (b : Int), 0 ≤ b → (∀ c ∈ s.cts, 0 ≤ c.n ∧ c.n ≤ b) → ∀ c ∈ (runN ns n s).cts, 0 ≤ c.n ∧ c.n ≤ b + n
  | 0, s, b, hb, h => by simpa [runN] using h
  | n + 1, s, b, hb, h => by
    simp only [runN]
    split
    · intro c hc; have := h c hc; omega
    · split
      · rename_i x _
        have h1 : ∀ c ∈ (stp x s).cts, 0 ≤ c.n ∧ c.n ≤ b + 1 := by
          intro c hc
          unfold stp at hc
          repeat' split at hc
          all_goals first | (have := h c hc; omega) | exact omore_le hb h c hc
        intro c hc
        have := runN_cb n (stp x s) (b + 1) (by omega) h1 c hc
        omega
      · intro c hc; have := h c hc; omega

theorem drop_in {inp : List Int} {k : Nat} {z : Int} {l : List Int} (h : inp.drop k = l) : l.headD 0 = (inp[k]?).getD 0 ∧ l.tail = inp.drop (k + 1) := by
  subst h
  constructor
  · cases e : inp[k]? with
    | none => rw [List.drop_of_length_le (by rw [List.getElem?_eq_none_iff] at e; exact e)]; rfl
    | some z =>
      have hlt := (List.getElem?_eq_some_iff.1 e).1
      rw [List.drop_eq_getElem_cons hlt]
      have := (List.getElem?_eq_some_iff.1 e).2
      simp [this]
  · rw [List.tail_drop]
end Go.Proofs.Ytoikglgnmjjpcaa
