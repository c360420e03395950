/-
  run.machine.step, walked: one node is done (the machine in memory).
-/
import Derived.Test.YtoikglgnmjjpcabRD
import Derived.Test.YtoikglgnmjjpcabRP
import Derived.BigRegion
import Derived.BigQuiet
import Derived.Deep.RegionLaw
import Derived.Deep.RegionLawGrows
namespace Go.Proofs.Ytoikglgnmjjpcab
open Go.RowKit Go.Maps Go.ChangeMaps
set_option linter.unusedVariables false

def twf (t : Tm) : Prop := (Lit.int .i64 t.op).wf = true ∧ (Lit.int .i64 t.a).wf = true ∧ (Lit.int .i64 t.b).wf = true

/-- The counts as a map holds them. -/
def MapRel (D : DataW Unit) (l : List Ct) : Prop :=
  IsMap D ∧ ∀ t : Tm, twf t → ∀ z, D.atKey (tkl t) z = match ctOf l t with | some n => .lit (.int .i64 n) | none => z

theorem tkl_inj {t u : Tm} (ht : twf t) (hu : twf u) (h : tkl t = tkl u) : t = u := by
  have h1 := tkey t ht.1 ht.2.1 ht.2.2
  have h2 := tkey u hu.1 hu.2.1 hu.2.2
  rw [h] at h1
  have := tlaw.inj h1 h2
  simp at this
  obtain ⟨t1, t2, t3⟩ := t
  obtain ⟨u1, u2, u3⟩ := u
  simp at this
  simp [this]

theorem MapRel.more {D : DataW Unit} {l : List Ct} (h : MapRel D l) (hs : Srt l) {t : Tm} (ht : twf t) {c : Int} (hc : D.atKey (tkl t) (.lit (.int .i64 0)) = .lit (.int .i64 c)) : c = (ctOf l t).getD 0 ∧ MapRel (D.put (tkl t) (.lit (.int .i64 (c + 1)))) (omore l t) := by
  have h1 := h.2 t ht (.lit (.int .i64 0))
  rw [hc] at h1
  have hcc : c = (ctOf l t).getD 0 := by
    cases hq : ctOf l t with
    | none => rw [hq] at h1; simpa using (Lit.int.inj (DataW.lit.inj h1)).2
    | some n => rw [hq] at h1; simpa using (Lit.int.inj (DataW.lit.inj h1)).2
  refine ⟨hcc, h.1.put _ _, ?_⟩
  intro u hu z
  rw [omore_ct hs]
  by_cases e : u = t
  · subst e
    rw [if_pos rfl, atKey_put_same h.1 (by trivial), hcc]
  · rw [if_neg e, atKey_put_other (fun e' => e (tkl_inj hu ht e'))]
    exact h.2 u hu z

/-- Where the machine of a run lies, and what it holds. B: what lay there before; s: the rows that come behind. -/
structure MA (B s mb rb mp nb noff ncap rc : Nat) (ns : List Nd) (w : World) (σ : St) (v : Value) (ia : Option Addr) (ic n : Nat) (D : DataW Unit) : Prop where
  hm : w.heap[mb]? = some (.cells #[v, .int .i64 σ.ret, .bool σ.ended, .int .i64 σ.steps, .slice none 0 0, .slice (some ⟨nb, noff, none⟩) ns.length ncap, .int .i64 σ.pc, .slice ia σ.inp.length ic, .slice (some ⟨rb, 0, none⟩) σ.regs.length rc, .map (some mp)] 75 (0, 0))
  hr : w.heap[rb]? = some (.cells (σ.regs.map (Value.int .i64)).toArray 3 (0, 0))
  ho : w.ownsMap Try.prog 48 (plainElem Try.prog 3) mp n D
  hout : w.ownsRow s 3 1 v σ.out.length (σ.out.map (Value.int .i64))
  hin : InAt w B ia σ.inp
  hic : σ.inp.length ≤ ic
  hN : NodesAt w nb noff ns
  hnb : nb < B
  geo : B ≤ mb ∧ B ≤ rb ∧ B ≤ mp ∧ mb < s ∧ rb < s ∧ mp < s ∧ mb ≠ rb ∧ mb ≠ mp ∧ rb ≠ mp
  hs : s ≤ w.heap.size
  hn : n ≤ σ.steps
  hst : σ.steps ≤ 131072
  hol : σ.out.length ≤ σ.steps
  hrl : σ.regs.length ≤ 64
  rel : MapRel D σ.cts
  srt : Srt σ.cts
  cb : ∀ c ∈ σ.cts, 0 ≤ c.n ∧ c.n ≤ σ.steps

theorem MA.B_le {B s mb rb mp nb noff ncap rc : Nat} {ns : List Nd} {w : World} {σ : St} {v : Value} {ia : Option Addr} {ic n : Nat} {D : DataW Unit} (M : MA B s mb rb mp nb noff ncap rc ns w σ v ia ic n D) : B ≤ w.heap.size := by
  have := M.geo; have := M.hs; omega

theorem MA.below {B s mb rb mp nb noff ncap rc : Nat} {ns : List Nd} {w w' : World} {σ : St} {v : Value} {ia : Option Addr} {ic n : Nat} {D : DataW Unit} (M : MA B s mb rb mp nb noff ncap rc ns w σ v ia ic n D) (K : Keeps [mb, rb, mp] w w') : Below B w w' :=
  K.below (by have := M.geo; simp; omega) M.B_le

/-- The machine behind a step, out of its blocks. -/
theorem MA.nextB {B s mb rb mp nb noff ncap rc : Nat} {ns : List Nd} {w w' : World} {σ σ' : St} {v v' : Value} {ia ia' : Option Addr} {ic ic' n n' : Nat} {D D' : DataW Unit} (M : MA B s mb rb mp nb noff ncap rc ns w σ v ia ic n D) (K : Below B w w')
    (hm : w'.heap[mb]? = some (.cells #[v', .int .i64 σ'.ret, .bool σ'.ended, .int .i64 σ'.steps, .slice none 0 0, .slice (some ⟨nb, noff, none⟩) ns.length ncap, .int .i64 σ'.pc, .slice ia' σ'.inp.length ic', .slice (some ⟨rb, 0, none⟩) σ'.regs.length rc, .map (some mp)] 75 (0, 0)))
    (hr : w'.heap[rb]? = some (.cells (σ'.regs.map (Value.int .i64)).toArray 3 (0, 0)))
    (ho : w'.ownsMap Try.prog 48 (plainElem Try.prog 3) mp n' D')
    (hout : w'.ownsRow s 3 1 v' σ'.out.length (σ'.out.map (Value.int .i64)))
    (hin : InAt w B ia' σ'.inp) (hic : σ'.inp.length ≤ ic') (hst : σ'.steps = σ.steps + 1) (hlt : σ.steps < 131072) (hn : n' ≤ σ.steps + 1) (hol : σ'.out.length ≤ σ.out.length + 1) (hrl : σ'.regs.length = σ.regs.length)
    (rel : MapRel D' σ'.cts) (srt : Srt σ'.cts) (cb : ∀ c ∈ σ'.cts, 0 ≤ c.n ∧ c.n ≤ σ.steps + 1) : MA B s mb rb mp nb noff ncap rc ns w' σ' v' ia' ic' n' D' := by
  have hb := K
  exact ⟨hm, hr, ho, hout, hin.below hb, hic, M.hN.below hb M.hnb, M.hnb, M.geo, Nat.le_trans M.hs K.size, by rw [hst]; exact hn, by omega, by have := M.hol; omega, by rw [hrl]; exact M.hrl, rel, srt, by rw [hst]; exact_mod_cast cb⟩

theorem MA.next {B s mb rb mp nb noff ncap rc : Nat} {ns : List Nd} {w w' : World} {σ σ' : St} {v v' : Value} {ia ia' : Option Addr} {ic ic' n n' : Nat} {D D' : DataW Unit} (M : MA B s mb rb mp nb noff ncap rc ns w σ v ia ic n D) (K : Keeps [mb, rb, mp] w w')
    (hm : w'.heap[mb]? = some (.cells #[v', .int .i64 σ'.ret, .bool σ'.ended, .int .i64 σ'.steps, .slice none 0 0, .slice (some ⟨nb, noff, none⟩) ns.length ncap, .int .i64 σ'.pc, .slice ia' σ'.inp.length ic', .slice (some ⟨rb, 0, none⟩) σ'.regs.length rc, .map (some mp)] 75 (0, 0)))
    (hr : w'.heap[rb]? = some (.cells (σ'.regs.map (Value.int .i64)).toArray 3 (0, 0)))
    (ho : w'.ownsMap Try.prog 48 (plainElem Try.prog 3) mp n' D')
    (hout : w'.ownsRow s 3 1 v' σ'.out.length (σ'.out.map (Value.int .i64)))
    (hin : InAt w B ia' σ'.inp) (hic : σ'.inp.length ≤ ic') (hst : σ'.steps = σ.steps + 1) (hlt : σ.steps < 131072) (hn : n' ≤ σ.steps + 1) (hol : σ'.out.length ≤ σ.out.length + 1) (hrl : σ'.regs.length = σ.regs.length)
    (rel : MapRel D' σ'.cts) (srt : Srt σ'.cts) (cb : ∀ c ∈ σ'.cts, 0 ≤ c.n ∧ c.n ≤ σ.steps + 1) : MA B s mb rb mp nb noff ncap rc ns w' σ' v' ia' ic' n' D' := by
  exact M.nextB (M.below K) hm hr ho hout hin hic hst hlt hn hol hrl rel srt cb

def InR (l : List Int) (a : Int) : Prop := 0 ≤ a ∧ a < l.length

theorem regs_at {l : List Int} {k : Nat} (h : k < l.length) : ((l.map (Value.int .i64)).toArray)[k]? = some (.int .i64 (getR l k)) := by
  simp [getR]; rw [List.getElem?_eq_getElem h]; simp

theorem regs_set (l : List Int) (k : Nat) (z : Int) : ((l.map (Value.int .i64)).toArray).setIfInBounds k (.int .i64 z) = ((setR l k z).map (Value.int .i64)).toArray := by
  rw [show setR l (k : Int) z = l.set k z from rfl, List.map_set]; simp

theorem setR_len (l : List Int) (d z : Int) : (setR l d z).length = l.length := by simp [setR]

/-- The world in which the switch stands: the step is counted, the place is set, the node lies in a block of its own. -/
def W3 (w : World) (mb : Nat) (steps : Int) (op d a b t e : Int) : World :=
  (((w.setCell ⟨mb, 3, none⟩ (.int .i64 steps)).setCell ⟨mb, 6, none⟩ (.int .i64 t)).alloc (.cells #[.int .i64 op, .int .i64 d, .int .i64 a, .int .i64 b, .int .i64 t, .int .i64 e] 53)).drew

theorem blk_new {w : World} {o : Obj} {n : Nat} (h : w.heap.size = n) : (w.alloc o).heap[n]? = some o := by subst h; exact (MapKept.heap_alloc w o).1

structure Pre (B s mb rb mp nb noff ncap rc : Nat) (ns : List Nd) (w W : World) (σ : St) (v : Value) (ia : Option Addr) (ic n : Nat) (D : DataW Unit) (x : Nd) : Prop where
  hm : W.heap[mb]? = some (.cells #[v, .int .i64 σ.ret, .bool σ.ended, .int .i64 ((σ.steps : Int) + 1), .slice none 0 0, .slice (some ⟨nb, noff, none⟩) ns.length ncap, .int .i64 x.t, .slice ia σ.inp.length ic, .slice (some ⟨rb, 0, none⟩) σ.regs.length rc, .map (some mp)] 75 (0, 0))
  hr : W.heap[rb]? = some (.cells (σ.regs.map (Value.int .i64)).toArray 3 (0, 0))
  ho : W.ownsMap Try.prog 48 (plainElem Try.prog 3) mp n D
  hout : W.ownsRow s 3 1 v σ.out.length (σ.out.map (Value.int .i64))
  hnd : W.heap[w.heap.size]? = some (.cells #[.int .i64 x.op, .int .i64 x.d, .int .i64 x.a, .int .i64 x.b, .int .i64 x.t, .int .i64 x.e] 53 (0, 0))
  K : Keeps [mb, rb, mp] w W

theorem pre_of {B s mb rb mp nb noff ncap rc : Nat} {ns : List Nd} {w : World} {σ : St} {v : Value} {ia : Option Addr} {ic n : Nat} {D : DataW Unit} (M : MA B s mb rb mp nb noff ncap rc ns w σ v ia ic n D) (x : Nd) :
    Pre B s mb rb mp nb noff ncap rc ns w (W3 w mb ((σ.steps : Int) + 1) x.op x.d x.a x.b x.t x.e) σ v ia ic n D x := by
  obtain ⟨g1, g2, g3, g4, g5, g6, g7, g8, g9⟩ := M.geo
  have hs := M.hs
  have K : Keeps [mb, rb, mp] w (W3 w mb ((σ.steps : Int) + 1) x.op x.d x.a x.b x.t x.e) := ((((Keeps.refl _ w).setCell (p := ⟨mb, 3, none⟩) (by simp) _).setCell (p := ⟨mb, 6, none⟩) (by simp) _).alloc _).drew
  refine ⟨?_, ?_, ?_, K.owns M.hout (by simp; omega), ?_, K⟩
  · have h := blk_alloc (.cells #[.int .i64 x.op, .int .i64 x.d, .int .i64 x.a, .int .i64 x.b, .int .i64 x.t, .int .i64 x.e] 53) (blk_set (i := 6) (.int .i64 x.t) (blk_set (i := 3) (.int .i64 ((σ.steps : Int) + 1)) M.hm))
    exact h
  · exact blk_alloc _ (blk_set_ne _ (blk_set_ne _ M.hr (fun e => g7 e.symm)) (fun e => g7 e.symm))
  · refine own_at M.ho ?_
    have hlt := M.ho.lt
    show ((((w.setCell ⟨mb, 3, none⟩ _).setCell ⟨mb, 6, none⟩ _).alloc _)).heap[mp]? = _
    rw [Below.heap_alloc _ _ _ (by simpa [World.setCell] using hlt), Below.heap_setCell _ _ _ _ (by exact fun e => g8 e.symm), Below.heap_setCell _ _ _ _ (by exact fun e => g8 e.symm)]
  · have hz : ((w.setCell ⟨mb, 3, none⟩ (.int .i64 ((σ.steps : Int) + 1))).setCell ⟨mb, 6, none⟩ (.int .i64 x.t)).heap.size = w.heap.size := by simp [World.setCell]
    show (((w.setCell ⟨mb, 3, none⟩ (.int .i64 ((σ.steps : Int) + 1))).setCell ⟨mb, 6, none⟩ (.int .i64 x.t)).alloc (.cells #[.int .i64 x.op, .int .i64 x.d, .int .i64 x.a, .int .i64 x.b, .int .i64 x.t, .int .i64 x.e] 53)).heap[w.heap.size]? = _
    exact blk_new hz
end Go.Proofs.Ytoikglgnmjjpcab
