/-
  run.Run on a right program, walked: it answers what the plain machine comes to.
  run.Run, walked.
  Plain facts on runs of right programs.
  run.machine.step, whole: one node of a right program is done.
-/
import Derived.Test.YtoikglgnmjjpcabRI
import Derived.Test.YtoikglgnmjjpcabRG
import Derived.Test.YtoikglgnmjjpcabRJ
import Derived.Test.YtoikglgnmjjpcabZ
import Derived.Test.YtoikglgnmjjpcabRO
import Derived.Deep.CutRange
import Derived.Deep.OwnRows
namespace Go.Proofs.Ytoikglgnmjjpcab
open Go.RowKit Go.Maps Go.ChangeMaps
set_option linter.unusedVariables false

theorem stp_regs (x : Nd) (s : St) : (stp x s).regs.length = s.regs.length := by
  unfold stp; repeat' split
  all_goals simp [setR]

theorem stp_pc {r : Int} {ns : List Nd} {x : Nd} (h : NodeOk r ns.length x) (s : St) : (stp x s).pc < ns.length := by
  have ht := h.t
  unfold stp; repeat' split
  all_goals (try (simp only; omega))
  rename_i h11 _
  have he := h.e h11
  simp only; omega

/-- One node is done. -/
theorem step_any {r : Int} {B s mb rb mp nb noff ncap rc : Nat} {ns : List Nd} {w : World} {σ : St} {v : Value} {ia : Option Addr} {ic n : Nat} {D : DataW Unit} (M : MA B s mb rb mp nb noff ncap rc ns w σ v ia ic n D) {x : Nd} (hx : ns[σ.pc]? = some x) (hlen : ns.length ≤ 256) (hlt : σ.steps < 131072) (hk : NodeOk r ns.length x) (hr : r = σ.regs.length) :
    Calls Try.prog 31 #[.pointer (some ⟨mb, 0, none⟩)] w fun e w' => e = .returned (.tuple #[]) ∧ ∃ v' ia' ic' n' D', MA B s mb rb mp nb noff ncap rc ns w' (stp x σ) v' ia' ic' n' D' ∧ Below B w w' := by
  have ht := hk.t.1
  have hop := hk.op
  by_cases h0 : x.op = 0
  · exact step_skip M hx hlen hlt ht h0
  by_cases h1 : x.op = 1
  · exact step_set M hx hlen hlt ht h1 (by have := hk.d; unfold InR; omega)
  by_cases h2 : x.op = 2
  · exact step_copy M hx hlen hlt ht h2 (by have := hk.d; unfold InR; omega) (by have := hk.a; unfold InR; omega)
  by_cases h9 : x.op = 9
  · exact step_inn M hx hlen hlt ht h9 (by have := hk.d; unfold InR; omega)
  by_cases h10 : x.op = 10
  · exact step_out M hx hlen hlt ht h10 (by have := hk.a; unfold InR; omega)
  by_cases h11 : x.op = 11
  · exact step_iff M hx hlen hlt ht h11 (by have := hk.a; unfold InR; omega) (hk.e h11).1
  by_cases h12 : x.op = 12
  · exact step_end M hx hlen hlt ht h12 (by have := hk.a; unfold InR; omega)
  · exact step_arith M hx hlen hlt ht (by omega) (by have := hk.d; unfold InR; omega) (by have := hk.a; unfold InR; omega) (by have := hk.b; unfold InR; omega)
end Go.Proofs.Ytoikglgnmjjpcab

namespace Go.Proofs.Ytoikglgnmjjpcab
open Go.RowKit Go.Maps Go.ChangeMaps
set_option linter.unusedVariables false

theorem runN_pc {r : Int} {ns : List Nd} (ok : ∀ x ∈ ns, NodeOk r ns.length x) : ∀ (n : Nat) (s : St), s.pc < ns.length → (runN ns n s).pc < ns.length
  | 0, s, h => h
  | n + 1, s, h => by
    simp only [runN]
    split
    · exact h
    · rw [List.getElem?_eq_getElem h]
      exact runN_pc ok n _ (stp_pc (ok _ (List.getElem_mem h)) s)

theorem runN_regs {ns : List Nd} : ∀ (n : Nat) (s : St), (runN ns n s).regs.length = s.regs.length
  | 0, s => rfl
  | n + 1, s => by
    simp only [runN]
    split
    · rfl
    · split
      · rw [runN_regs n, stp_regs]
      · rfl

theorem stp_twf {r : Int} {len : Nat} (hlen : r ≤ 64) {x : Nd} (h : NodeOk r len x) {s : St} (hs : ∀ c ∈ s.cts, twf c.t) : ∀ c ∈ (stp x s).cts, twf c.t := by
  unfold stp; repeat' split
  all_goals (try exact hs)
  intro c hc
  rcases omore_mem hc with hc | hc
  · exact hs c hc
  · rw [hc]
    have ho := h.op
    have ha := h.a
    have hb := h.b
    refine ⟨small_wf (by simp [tmOf]; omega) (by simp [tmOf]; omega), small_wf (by simp [tmOf]; omega) (by simp [tmOf]; omega), small_wf (by simp [tmOf]; omega) (by simp [tmOf]; omega)⟩

theorem runN_twf {r : Int} {ns : List Nd} (hr : r ≤ 64) (ok : ∀ x ∈ ns, NodeOk r ns.length x) : ∀ (n : Nat) (s : St), (∀ c ∈ s.cts, twf c.t) → ∀ c ∈ (runN ns n s).cts, twf c.t
  | 0, s, h => h
  | n + 1, s, h => by
    simp only [runN]
    split
    · exact h
    · split
      · rename_i x hx
        exact runN_twf hr ok n _ (stp_twf hr (ok _ (List.mem_of_getElem? hx)) h)
      · exact h

theorem runN_succ {r : Int} {ns : List Nd} (ok : ∀ x ∈ ns, NodeOk r ns.length x) (n : Nat) (s : St) (hs : s.pc < ns.length) (he : (runN ns n s).ended = false) {x : Nd} (hx : ns[(runN ns n s).pc]? = some x) : runN ns (n + 1) s = stp x (runN ns n s) := by
  rw [runN_add n 1 s (fun k _ => runN_pc ok k s hs)]
  simp [runN, he, hx]

theorem runN_stop {r : Int} {ns : List Nd} (ok : ∀ x ∈ ns, NodeOk r ns.length x) (n m : Nat) (hnm : n ≤ m) (s : St) (hs : s.pc < ns.length) (he : (runN ns n s).ended = true) : runN ns m s = runN ns n s := by
  rw [show m = n + (m - n) by omega, runN_add n (m - n) s (fun k _ => runN_pc ok k s hs), runN_ended he]

end Go.Proofs.Ytoikglgnmjjpcab

namespace Go.Proofs.Ytoikglgnmjjpcab
open Go.RowKit Go.Maps Go.ChangeMaps
set_option linter.unusedVariables false

/-- What is wrong with what Run is handed. -/
def rerr (r : Int) (ns : List Nd) (il : Nat) (fuel : Int) : Int := if chk r ns = 0 then if 256 < il then 2 else if fuel < 0 ∨ 131072 < fuel then 3 else 0 else chk r ns

/-- A block of five cells that is written over. -/
def fill5 (w : World) (b : Nat) (v0 v1 v2 v3 v4 : Value) : World := ((((w.setCell ⟨b, 0, none⟩ v0).setCell ⟨b, 1, none⟩ v1).setCell ⟨b, 2, none⟩ v2).setCell ⟨b, 3, none⟩ v3).setCell ⟨b, 4, none⟩ v4

theorem fill5_blk {w : World} {b : Nat} {a0 a1 a2 a3 a4 : Value} {t : TypeId} (h : w.heap[b]? = some (.cells #[a0, a1, a2, a3, a4] t (0, 0))) (v0 v1 v2 v3 v4 : Value) : (fill5 w b v0 v1 v2 v3 v4).heap[b]? = some (.cells #[v0, v1, v2, v3, v4] t (0, 0)) := by
  unfold fill5
  rw [blk_set v4 (blk_set v3 (blk_set v2 (blk_set v1 (blk_set v0 h))))]
  simp

theorem fill5_keeps (w : World) (b : Nat) (v0 v1 v2 v3 v4 : Value) : Keeps [b] w (fill5 w b v0 v1 v2 v3 v4) := (((((Keeps.refl [b] w).setCell (p := ⟨b, 0, none⟩) (by simp) v0).setCell (p := ⟨b, 1, none⟩) (by simp) v1).setCell (p := ⟨b, 2, none⟩) (by simp) v2).setCell (p := ⟨b, 3, none⟩) (by simp) v3).setCell (p := ⟨b, 4, none⟩) (by simp) v4

theorem fill5_below {w : World} {b B : Nat} (hb : B ≤ b) (hB : B ≤ w.heap.size) (v0 v1 v2 v3 v4 : Value) : Below B w (fill5 w b v0 v1 v2 v3 v4) := by
  exact (fill5_keeps w b v0 v1 v2 v3 v4).below (by simp; omega) hB

set_option maxHeartbeats 1000000 in
/-- What a result holds is read out of its cells. -/
theorem ret_cell {b : Nat} {v0 v1 v2 v3 v4 : Value} {er : Int} {w : World} {tm : Array Value} {Q : Ending → World → Prop} (h : w.heap[b]? = some (.cells #[v0, v1, v2, v3, v4] 42 (0, 0))) (h6 : tm[6]? = some (.pointer (some ⟨b, 0, none⟩))) (h7 : tm[7]? = some (.int .i64 er))
    (hq : Q (.returned (.tuple #[.agg #[v0, v1, v2, v3, v4], .int .i64 er])) w) : bodyPost Try.prog Try.f15 Q .ret ⟨tm, []⟩ w := by
  have c0 := blk_cell h 0
  have c1 := blk_cell h 1
  have c2 := blk_cell h 2
  have c3 := blk_cell h 3
  have c4 := blk_cell h 4
  simp at c0 c1 c2 c3 c4
  refine bodyPost_ret (v := .tuple #[.agg #[v0, v1, v2, v3, v4], .int .i64 er]) ?_ rfl hq
  simp [results, Try.results15, go_sem, c0, c1, c2, c3, c4, h6, h7]

set_option maxHeartbeats 1000000 in
theorem run_wrong (r : Int) (a : Option Addr) (cap : Nat) (ns : List Nd) (ia : Option Addr) (il ic : Nat) (fuel : Int) (w : World) (hN : SlN w a ns) (hil : il ≤ 9223372036854775807) (hw : rerr r ns il fuel ≠ 0) :
    Calls Try.prog 15 #[.agg #[.int .i64 r, .slice a ns.length cap], .slice ia il ic, .int .i64 fuel] w fun e w' => e = .returned (.tuple #[.agg #[.slice none 0 0, .int .i64 0, .bool false, .int .i64 0, .slice none 0 0], .int .i64 (rerr r ns il fuel)]) ∧ Below w.heap.size w w' := by
  go_enter Try.func15, Try.ntmps15
  go_wp2_with fail
  have hN1 : SlN ((w.alloc (.cells #[.int .i64 r, .slice a ns.length cap] 24)).alloc (.cells #[.slice none 0 0, .int .i64 0, .bool false, .int .i64 0, .slice none 0 0] 42)) a ns := hN.below (((Below.refl _ w).alloc (Nat.le_refl _) _).alloc (by simp) _)
  refine (check_any r a cap ns _ hN1).mono ?_
  rintro e w1 ⟨rfl, hb1⟩
  have hs1 := hb1.size
  simp only [World.size_alloc] at hs1 hb1
  have hB1 : Below w.heap.size w w1 := (((Below.refl _ w).alloc (Nat.le_refl _) _).alloc (by simp) _).trans (hb1.mono (by omega))
  have hk : w1.heap[w.heap.size + 1]? = some (.cells #[.slice none 0 0, .int .i64 0, .bool false, .int .i64 0, .slice none 0 0] 42 (0, 0)) := by
    rw [hb1.block _ (by omega)]
    exact blk_new (by simp)
  have c0 := blk_cell hk 0
  have c1 := blk_cell hk 1
  have c2 := blk_cell hk 2
  have c3 := blk_cell hk 3
  have c4 := blk_cell hk 4
  have f0 := blk_frozen hk 0
  have f1 := blk_frozen hk 1
  have f2 := blk_frozen hk 2
  have f3 := blk_frozen hk 3
  have f4 := blk_frozen hk 4
  simp at c0 c1 c2 c3 c4
  have hsz : w.heap.size + 1 < w1.heap.size := by omega
  have HK := hide hk
  clear hk hb1 hN1
  have HB := hide hB1
  clear hB1
  by_cases hc : chk r ns = 0
  · rw [hc]
    by_cases hi : 256 < il
    · have hi' : (256 : Int) < (il : Int) := by omega
      have HE := hide (show rerr r ns il fuel = 2 by simp [rerr, hc, hi])
      clear hc
      go_wp2
      have hk' := fill5_blk HK.out (.slice none 0 0) (.int .i64 0) (.bool false) (.int .i64 0) (.slice none 0 0)
      refine ret_cell hk' rfl rfl ⟨by rw [HE.out], HB.out.trans (fill5_below (by omega) (by omega) _ _ _ _ _)⟩
    · have hi' : ¬ (256 : Int) < (il : Int) := by omega
      have hf : fuel < 0 ∨ 131072 < fuel := by
        unfold rerr at hw
        rw [if_pos hc, if_neg hi] at hw
        by_cases q : fuel < 0 ∨ 131072 < fuel
        · exact q
        · rw [if_neg q] at hw; exact absurd rfl hw
      have HE := hide (show rerr r ns il fuel = 3 by rw [rerr, if_pos hc, if_neg hi, if_pos hf])
      clear hc
      by_cases h0 : fuel < 0
      · go_wp2
        have hk' := fill5_blk HK.out (.slice none 0 0) (.int .i64 0) (.bool false) (.int .i64 0) (.slice none 0 0)
        refine ret_cell hk' rfl rfl ⟨by rw [HE.out], HB.out.trans (fill5_below (by omega) (by omega) _ _ _ _ _)⟩
      · have h1 : 131072 < fuel := by omega
        go_wp2
        have hk' := fill5_blk HK.out (.slice none 0 0) (.int .i64 0) (.bool false) (.int .i64 0) (.slice none 0 0)
        refine ret_cell hk' rfl rfl ⟨by rw [HE.out], HB.out.trans (fill5_below (by omega) (by omega) _ _ _ _ _)⟩
  · have hcb : (chk r ns != 0) = true := by simpa using hc
    have HE := hide (show rerr r ns il fuel = chk r ns by simp [rerr, hc])
    generalize chk r ns = ch at *
    go_wp2
    have hk' := fill5_blk HK.out (.slice none 0 0) (.int .i64 0) (.bool false) (.int .i64 0) (.slice none 0 0)
    refine ret_cell hk' rfl rfl ⟨by rw [HE.out], HB.out.trans (fill5_below (by omega) (by omega) _ _ _ _ _)⟩
end Go.Proofs.Ytoikglgnmjjpcab

namespace Go.Proofs.Ytoikglgnmjjpcab
open Go.RowKit Go.Maps Go.ChangeMaps
set_option linter.unusedVariables false

def fin (r : Int) (ns : List Nd) (inp : List Int) (fuel : Int) : St := runN ns fuel.toNat (st0 r.toNat inp)

/-- A machine that has not begun. -/
structure Start (B : Nat) (r : Int) (ns : List Nd) (inp : List Int) (nb noff cap : Nat) (ia : Option Addr) (ic : Nat) (w wx : World) (v9 : Value) : Prop where
  ma : ∃ mb rb mp, v9 = .pointer (some ⟨mb, 0, none⟩) ∧ MA B (B + 3) mb rb mp nb noff cap r.toNat ns wx (st0 r.toNat inp) (.slice none 0 0) ia ic 0 (.map [])
  below : Below B w wx

/-- Two cells of a block, whatever comes behind it. -/
def PK (b : Nat) (v0 v1 : Value) (u : World) : Prop := u.cell? ⟨b, 0, none⟩ = some v0 ∧ u.cell? ⟨b, 1, none⟩ = some v1 ∧ b < u.heap.size
theorem PK.drew {b : Nat} {v0 v1 : Value} {u : World} (h : PK b v0 v1 u) : PK b v0 v1 u.drew := h
theorem PK.alloc {b : Nat} {v0 v1 : Value} {u : World} (h : PK b v0 v1 u) (o : Obj) : PK b v0 v1 (u.alloc o) := by
  obtain ⟨h0, h1, h2⟩ := h
  refine ⟨?_, ?_, by simp; omega⟩
  · rw [World.cell?_alloc_past _ _ _ (by omega)]; exact h0
  · rw [World.cell?_alloc_past _ _ _ (by omega)]; exact h1

theorem three0 (w : World) (A B C : Obj) : (((w.alloc A).alloc B).alloc C).drew.heap[w.heap.size]? = some A := blk_drew (blk_alloc _ (blk_alloc _ (blk_new rfl)))
theorem three1 (w : World) (A B C : Obj) : (((w.alloc A).alloc B).alloc C).drew.heap[w.heap.size + 1]? = some B := blk_drew (blk_alloc _ (blk_new (by simp)))
theorem three2 (w : World) (A B C : Obj) : (((w.alloc A).alloc B).alloc C).drew.heap[w.heap.size + 1 + 1]? = some C := blk_drew (blk_new (by simp))
theorem three_below (w : World) (A B C : Obj) : Below w.heap.size w (((w.alloc A).alloc B).alloc C).drew := ((((Below.refl _ w).alloc (Nat.le_refl _) _).alloc (by simp) _).alloc (by simp; omega) _).drew

theorem made_row (n : Nat) : madeCells #[Value.int .i64 0] n = ((List.replicate n (0 : Int)).map (Value.int .i64)).toArray := by
  apply Array.ext'
  rw [toList_madeCells_one]
  simp

theorem start_of {w1 wx : World} {B mb rb mp rn nb noff cap ic : Nat} {ns : List Nd} {inp : List Int} {ia : Option Addr} (hB : B ≤ w1.heap.size)
    (hm : wx.heap[mb]? = some (.cells #[.slice none 0 0, .int .i64 0, .bool false, .int .i64 0, .slice none 0 0, .slice (some ⟨nb, noff, none⟩) ns.length cap, .int .i64 0, .slice ia inp.length ic, .slice (some ⟨rb, 0, none⟩) rn rn, .map (some mp)] 75 (0, 0)))
    (hr : wx.heap[rb]? = some (.cells (madeCells #[.int .i64 0] rn) 3 (0, 0))) (hp : wx.heap[mp]? = some (.map #[] 0))
    (hg : w1.heap.size ≤ mb ∧ w1.heap.size ≤ rb ∧ w1.heap.size ≤ mp ∧ mb < w1.heap.size + 3 ∧ rb < w1.heap.size + 3 ∧ mp < w1.heap.size + 3 ∧ mb ≠ rb ∧ mb ≠ mp ∧ rb ≠ mp)
    (hb : Below w1.heap.size w1 wx) (hs : w1.heap.size + 3 ≤ wx.heap.size) (hN : NodesAt w1 nb noff ns) (hI : InAt w1 B ia inp) (hic : inp.length ≤ ic) (hrn : rn ≤ 64) :
    Start w1.heap.size rn ns inp nb noff cap ia ic w1 wx (.pointer (some ⟨mb, 0, none⟩)) := by
  have hI' : InAt wx w1.heap.size ia inp := by
    rcases hI with h | ⟨b, off, rfl, hlt, h⟩
    · exact Or.inl h
    · exact Or.inr ⟨b, off, rfl, by omega, fun j z hz => by rw [hb.cell (p := ⟨b, _, none⟩) (by simp; omega)]; exact h j z hz⟩
  have ho : wx.ownsMap Try.prog 48 (plainElem (H := Unit) Try.prog 3) mp 0 (.map []) := by
    obtain ⟨es, clock, hb', F, hs', hD⟩ := World.ownsMap_made w1 Try.prog 48 (plainElem (H := Unit) Try.prog 3)
    rw [blk_new rfl] at hb'
    cases hb'
    exact ⟨#[], 0, hp, F, hs', hD⟩
  refine ⟨⟨mb, rb, mp, rfl, ?_⟩, hb⟩
  exact {
    hm := by simpa [st0] using hm
    hr := by rw [hr, made_row]; simp [st0]
    ho := ho
    hout := World.ownsRow_nil _ _ _ _
    hin := hI'
    hic := hic
    hN := hN.below hb hN.lt
    hnb := hN.lt
    geo := hg
    hs := hs
    hn := Nat.zero_le _
    hst := by simp [st0]
    hol := by simp [st0]
    hrl := by simp [st0]; exact hrn
    rel := ⟨⟨_, rfl⟩, fun t ht z => by simp [st0, ctOf]; rfl⟩
    srt := List.Pairwise.nil
    cb := by simp [st0] }

theorem owns_val {w : World} {base : Nat} {e : TypeId} {size : Nat} {v : Value} {n : Nat} {xs : List Value} (h : w.ownsRow base e size v n xs) : ∃ a c, v = .slice a n c := by
  rcases h.2 with ⟨q, rfl⟩ | ⟨g, cap, cur, q, _⟩
  · exact ⟨_, _, q⟩
  · exact ⟨_, _, q⟩

set_option maxHeartbeats 1000000 in
theorem run_ok (r : Int) (nb noff cap : Nat) (ns : List Nd) (ia : Option Addr) (ic : Nat) (inp : List Int) (fuel : Int) (w : World) (hN : NodesAt w nb noff ns) (hI : InAt w w.heap.size ia inp) (hic : inp.length ≤ ic) (hw : rerr r ns inp.length fuel = 0) :
    Calls Try.prog 15 #[.agg #[.int .i64 r, .slice (some ⟨nb, noff, none⟩) ns.length cap], .slice ia inp.length ic, .int .i64 fuel] w fun e w' => ∃ vo vc, e = .returned (.tuple #[.agg #[vo, .int .i64 (fin r ns inp fuel).ret, .bool (fin r ns inp fuel).ended, .int .i64 (fin r ns inp fuel).steps, vc], .int .i64 0]) ∧
      w'.ownsRow w.heap.size 3 1 vo (fin r ns inp fuel).out.length ((fin r ns inp fuel).out.map (Value.int .i64)) ∧ w'.ownsRow w.heap.size 50 4 vc (fin r ns inp fuel).cts.length ((fin r ns inp fuel).cts.flatMap encCt) ∧ Below w.heap.size w w' := by
  have hc : chk r ns = 0 := by
    by_cases hc : chk r ns = 0
    · exact hc
    · rw [rerr, if_neg hc] at hw; exact hw
  have hi : ¬ 256 < inp.length := by
    intro q; rw [rerr, if_pos hc, if_pos q] at hw; omega
  have hf : ¬ (fuel < 0 ∨ 131072 < fuel) := by
    intro q; rw [rerr, if_pos hc, if_neg hi, if_pos q] at hw; omega
  have hf0 : ¬ fuel < 0 := fun q => hf (Or.inl q)
  have hf1 : ¬ 131072 < fuel := fun q => hf (Or.inr q)
  have hi' : ¬ (256 : Int) < (inp.length : Int) := by omega
  have CZ := hide (chk_zero hc)
  have hr1 : 1 ≤ r ∧ r ≤ 64 := CZ.out.2.1
  have hl1 : 1 ≤ ns.length ∧ ns.length ≤ 256 := CZ.out.1
  have OK := hide (fun x hx => node_ok hc (x := x) hx)
  clear hf
  go_enter Try.func15, Try.ntmps15
  go_wp2_with fail
  have hb0 : Below w.heap.size w ((w.alloc (.cells #[.int .i64 r, .slice (some ⟨nb, noff, none⟩) ns.length cap] 24)).alloc (.cells #[.slice none 0 0, .int .i64 0, .bool false, .int .i64 0, .slice none 0 0] 42)) := ((Below.refl _ w).alloc (Nat.le_refl _) _).alloc (by simp) _
  refine (check_any r _ cap ns _ (Or.inr ⟨nb, noff, rfl, hN.below hb0 hN.lt⟩)).mono ?_
  rintro e w1 ⟨rfl, hb1⟩
  have hs1 := hb1.size
  simp only [World.size_alloc] at hs1 hb1
  have hB1 : Below w.heap.size w w1 := hb0.trans (hb1.mono (by omega))
  have hp : w1.heap[w.heap.size]? = some (.cells #[.int .i64 r, .slice (some ⟨nb, noff, none⟩) ns.length cap] 24 (0, 0)) := by
    rw [hb1.block _ (by omega)]
    exact blk_alloc _ (blk_new rfl)
  have hk : w1.heap[w.heap.size + 1]? = some (.cells #[.slice none 0 0, .int .i64 0, .bool false, .int .i64 0, .slice none 0 0] 42 (0, 0)) := by
    rw [hb1.block _ (by omega)]
    exact blk_new (by simp)
  have c0 := blk_cell hp 0
  have c1 := blk_cell hp 1
  simp at c0 c1
  have hsz : w.heap.size + 1 < w1.heap.size := by omega
  have HK := hide hk
  have HB := hide hB1
  have HN := hide (hN.below hB1 hN.lt)
  have HI := hide (hI.below hB1)
  clear hk hb1 hb0 hB1 hN hI hp
  rw [hc]
  clear hc
  obtain ⟨rn, hrn⟩ := Int.eq_ofNat_of_zero_le (show 0 ≤ r by omega)
  have hr64 : rn ≤ 64 := by omega
  have hrp : 1 ≤ rn := by omega
  subst hrn
  go_wp2
  go_cut [9] from 27 to 34 (fun v9 wx => Start w1.heap.size rn ns inp nb noff cap ia ic w1 wx v9)
  case first =>
    have hmk : ∀ W : World, Sem.run Try.prog (Instr.makeMap 73 none) W = .ok (.map (some W.heap.size)) (W.alloc (.map #[] 0)) := fun W => rfl
    have hms : ∀ W : World, Sem.run Try.prog (Instr.makeSlice 36 (.int .i64 (rn : Int)) (.int .i64 (rn : Int))) W = .ok (.slice (some ⟨W.heap.size, 0, none⟩) rn rn) (W.alloc (.cells (madeCells #[.int .i64 0] rn) 3)) := fun W => run_make_row' 36 3 _ 8 Try.underlying36 info_int rfl .i64 .i64 rn (by omega) (by omega) W
    have PK1 := hide (show PK w.heap.size (.int .i64 (rn : Int)) (.slice (some ⟨nb, noff, none⟩) ns.length cap) w1 from ⟨c0, c1, by omega⟩)
    go_region_held3 (fun u => u.cell? ⟨w.heap.size, 0, none⟩ = some (.int .i64 (rn : Int)) ∧ u.cell? ⟨w.heap.size, 1, none⟩ = some (.slice (some ⟨nb, noff, none⟩) ns.length cap) ∧ w.heap.size < u.heap.size) (first | exact PK1.out | exact PK1.out.drew | exact (PK1.out.drew.alloc _) | exact ((PK1.out.drew.alloc _).alloc _) | exact (((PK1.out.drew.alloc _).alloc _).alloc _) | exact (PK1.out.alloc _).drew | exact ((PK1.out.alloc _).alloc _).drew | exact (((PK1.out.alloc _).alloc _).alloc _).drew) (fail)
    all_goals (go_wp2; go_meet)
    all_goals first
      | exact start_of (by omega) (three2 _ _ _ _) (three0 _ _ _ _) (three1 _ _ _ _) (by omega) (three_below _ _ _ _) (by simp) HN.out HI.out hic hr64
      | exact start_of (by omega) (three1 _ _ _ _) (three0 _ _ _ _) (three2 _ _ _ _) (by omega) (three_below _ _ _ _) (by simp) HN.out HI.out hic hr64
      | exact start_of (by omega) (three2 _ _ _ _) (three1 _ _ _ _) (three0 _ _ _ _) (by omega) (three_below _ _ _ _) (by simp) HN.out HI.out hic hr64
      | exact start_of (by omega) (three1 _ _ _ _) (three2 _ _ _ _) (three0 _ _ _ _) (by omega) (three_below _ _ _ _) (by simp) HN.out HI.out hic hr64
      | exact start_of (by omega) (three0 _ _ _ _) (three1 _ _ _ _) (three2 _ _ _ _) (by omega) (three_below _ _ _ _) (by simp) HN.out HI.out hic hr64
      | exact start_of (by omega) (three0 _ _ _ _) (three2 _ _ _ _) (three1 _ _ _ _) (by omega) (three_below _ _ _ _) (by simp) HN.out HI.out hic hr64
  case rest =>
    obtain ⟨⟨mb, rb, mp, rfl, M⟩, hBx⟩ := hcut
    have hkc : wc.heap[w.heap.size + 1]? = some (.cells #[.slice none 0 0, .int .i64 0, .bool false, .int .i64 0, .slice none 0 0] 42 (0, 0)) := by rw [hBx.block _ (by omega)]; exact HK.out
    have HKc := hide hkc
    have HBx := hide hBx
    have HM := hide M
    clear hkc M hBx c0 c1
    go_wp2
    go_loopw [] (fun wr => ∃ k v ia' ic' n D, MA w1.heap.size (w1.heap.size + 3) mb rb mp nb noff cap rn ns wr (runN ns k (st0 rn inp)) v ia' ic' n D ∧ (runN ns k (st0 rn inp)).steps = k ∧ k ≤ fuel.toNat ∧ Below w1.heap.size w1 wr) (fun wr => fuel.toNat - (intOf ((wr.cell? ⟨mb, 3, none⟩).getD undef)).toNat)
    case atStart => exact ⟨0, _, _, _, _, _, HM.out, rfl, Nat.zero_le _, HBx.out⟩
    case round =>
      obtain ⟨k, v, ia', ic', n, D, M, hst, hk, hB⟩ := hrel
      have hpc := runN_pc OK.out k (st0 rn inp) (by simp [st0]; omega)
      have hrg : (rn : Int) = (runN ns k (st0 rn inp)).regs.length := by rw [runN_regs]; simp [st0]
      have HW := hide (runN_twf (r := rn) (by omega) OK.out k (st0 rn inp) (by simp [st0]))
      have HS := hide (fun x hx he => runN_succ OK.out k (st0 rn inp) (by simp [st0]; omega) he (x := x) hx)
      have HF := hide (fun he => runN_stop OK.out k fuel.toNat hk (st0 rn inp) (by simp [st0]; omega) he)
      have HFin := hide (show fin rn ns inp fuel = runN ns fuel.toNat (st0 rn inp) by simp [fin])
      generalize hσ : runN ns k (st0 rn inp) = σ at M hst hpc hrg HW HS HF
      have HRG := hide hrg
      clear hrg
      have Hσ := hide hσ
      clear hσ
      have m2 := blk_cell M.hm 2
      have m3 := blk_cell M.hm 3
      have m9 := blk_cell M.hm 9
      simp at m2 m3 m9
      have HM1 := hide M
      have HB1 := hide hB
      have hBs := hB.size
      have hme := m3
      clear M hB
      cases he : σ.ended
      · rw [he] at m2
        by_cases hlt : (σ.steps : Int) < fuel
        · go_wp2_with fail
          obtain ⟨x, hx⟩ := get_lt hpc
          refine (step_any HM1.out hx hl1.2 (by omega) (OK.out x (List.mem_of_getElem? hx)) HRG.out).mono ?_
          rintro e w2 ⟨rfl, v', ia2, ic2, n2, D2, M2, hb2⟩
          have HS2 := hide (HS.out x hx he)
          have HM2 := hide M2
          have HB2 := hide (HB1.out.trans hb2)
          clear M2 hb2 m2 m3 m9 hx
          go_wp2
          go_roundw
          case rel => exact ⟨k + 1, v', ia2, ic2, n2, D2, by rw [HS2.out]; exact HM2.out, by rw [HS2.out, stp_steps, hst], by omega, HB2.out⟩
          case measure =>
            have q := blk_cell HM2.out.hm 3
            simp at q
            rw [q, hme]
            simp [intOf, stp_steps]
            omega
        · have hlt' : fuel ≤ (σ.steps : Int) := by omega
          go_wp2_with fail
          have hfin : fin rn ns inp fuel = σ := by
            rw [HFin.out]
            rw [show fuel.toNat = k by omega]; exact Hσ.out
          have HZ := hide hfin
          clear hfin
          refine (counts_any sorts_ct mp n D σ.cts wr HM1.out.ho HM1.out.rel HM1.out.srt HW.out (by have := HM1.out.hn; have := HM1.out.hst; omega)).mono ?_
          rintro e w3 ⟨vc, rfl, hoc, hb3⟩
          obtain ⟨av, cv, rfl⟩ := owns_val hoc
          have hs3 := hb3.size
          have hmlt := blk_lt HM1.out.hm
          have hm3 : w3.heap[mb]? = _ := (hb3.block mb hmlt).trans HM1.out.hm
          have hk3 : w3.heap[w.heap.size + 1]? = some (.cells #[.slice none 0 0, .int .i64 0, .bool false, .int .i64 0, .slice none 0 0] 42 (0, 0)) := by
            rw [hb3.block _ (by omega), HB1.out.block _ (by omega)]; exact HK.out
          have ho3 := ownsRow_below HM1.out.hout hb3 (by omega)
          have HFX := hide (And.intro hm3 (And.intro hk3 (And.intro ho3 (And.intro hoc hb3))))
          have d4 := blk_cell hm3 4
          have g4 := blk_frozen hm3 4
          simp at d4
          clear hm3 hk3 ho3 hoc hb3 m2 m3 m9 hme
          go_upto_region 12 with fail
          have hm4 := blk_set (i := 4) (.slice av σ.cts.length cv) HFX.out.1
          have hne : w.heap.size + 1 ≠ mb := by have := HM1.out.geo; omega
          have hk4 := blk_set_ne (i := 4) (.slice av σ.cts.length cv) HFX.out.2.1 hne
          have ho4 := (ownsRow_below (B := w3.heap.size) HFX.out.2.2.1 (Below.refl _ _) (Nat.le_refl _))
          have K4 : Keeps [mb] w3 (w3.setCell ⟨mb, 4, none⟩ (.slice av σ.cts.length cv)) := (Keeps.refl [mb] w3).setCell (p := ⟨mb, 4, none⟩) (by simp) _
          have ho5 := K4.owns HFX.out.2.2.1 (by have := HM1.out.geo; simp; omega)
          have ho6 := K4.owns HFX.out.2.2.2.1 (by simp; omega)
          have hB4 : Below w.heap.size w (w3.setCell ⟨mb, 4, none⟩ (.slice av σ.cts.length cv)) := HB.out.trans ((HB1.out.mono (by omega)).trans ((HFX.out.2.2.2.2.mono (by omega)).trans (K4.below (by have := HM1.out.geo; simp; omega) (by omega))))
          simp at hm4
          have d0 := blk_cell hm4 0
          have d1 := blk_cell hm4 1
          have d2 := blk_cell hm4 2
          have d3 := blk_cell hm4 3
          have d4' := blk_cell hm4 4
          have e0 := blk_cell hk4 0
          have e1 := blk_cell hk4 1
          have e2 := blk_cell hk4 2
          have e3 := blk_cell hk4 3
          have e4 := blk_cell hk4 4
          have f0 := blk_frozen hk4 0
          have f1 := blk_frozen hk4 1
          have f2 := blk_frozen hk4 2
          have f3 := blk_frozen hk4 3
          have f4 := blk_frozen hk4 4
          simp only [List.getElem?_toArray, List.getElem?_cons_zero, List.getElem?_cons_succ] at d0 d1 d2 d3 d4' e0 e1 e2 e3 e4
          have HY := hide (And.intro hk4 (And.intro ho5 (And.intro ho6 hB4)))
          clear hm4 hk4 ho4 K4 ho5 ho6 hB4 d4 g4
          generalize w3.setCell ⟨mb, 4, none⟩ (.slice av σ.cts.length cv) = W4 at *
          obtain ⟨ao, co, hvo⟩ := owns_val HY.out.2.1
          subst hvo
          go_wp2
          refine ret_cell (fill5_blk HY.out.1 _ _ _ _ _) rfl rfl ?_
          rw [HZ.out]
          have KF := fill5_keeps W4 (w.heap.size + 1) (.slice ao σ.out.length co) (.int .i64 σ.ret) (.bool false) (.int .i64 (k : Int)) (.slice av σ.cts.length cv)
          exact ⟨_, _, by rw [he, hst], ownsRow_base (KF.owns HY.out.2.1 (by simp; omega)) (by omega), ownsRow_base (KF.owns HY.out.2.2.1 (by simp; omega)) (by omega), HY.out.2.2.2.trans (KF.below (by simp) HY.out.2.2.2.size)⟩
      · rw [he] at m2
        go_wp2_with fail
        have hfin : fin rn ns inp fuel = σ := by
          rw [HFin.out]
          rw [HF.out he]
        have HZ := hide hfin
        clear hfin
        refine (counts_any sorts_ct mp n D σ.cts wr HM1.out.ho HM1.out.rel HM1.out.srt HW.out (by have := HM1.out.hn; have := HM1.out.hst; omega)).mono ?_
        rintro e w3 ⟨vc, rfl, hoc, hb3⟩
        obtain ⟨av, cv, rfl⟩ := owns_val hoc
        have hs3 := hb3.size
        have hmlt := blk_lt HM1.out.hm
        have hm3 : w3.heap[mb]? = _ := (hb3.block mb hmlt).trans HM1.out.hm
        have hk3 : w3.heap[w.heap.size + 1]? = some (.cells #[.slice none 0 0, .int .i64 0, .bool false, .int .i64 0, .slice none 0 0] 42 (0, 0)) := by
          rw [hb3.block _ (by omega), HB1.out.block _ (by omega)]; exact HK.out
        have ho3 := ownsRow_below HM1.out.hout hb3 (by omega)
        have HFX := hide (And.intro hm3 (And.intro hk3 (And.intro ho3 (And.intro hoc hb3))))
        have d4 := blk_cell hm3 4
        have g4 := blk_frozen hm3 4
        simp at d4
        clear hm3 hk3 ho3 hoc hb3 m2 m3 m9 hme
        go_upto_region 12 with fail
        have hm4 := blk_set (i := 4) (.slice av σ.cts.length cv) HFX.out.1
        have hne : w.heap.size + 1 ≠ mb := by have := HM1.out.geo; omega
        have hk4 := blk_set_ne (i := 4) (.slice av σ.cts.length cv) HFX.out.2.1 hne
        have ho4 := (ownsRow_below (B := w3.heap.size) HFX.out.2.2.1 (Below.refl _ _) (Nat.le_refl _))
        have K4 : Keeps [mb] w3 (w3.setCell ⟨mb, 4, none⟩ (.slice av σ.cts.length cv)) := (Keeps.refl [mb] w3).setCell (p := ⟨mb, 4, none⟩) (by simp) _
        have ho5 := K4.owns HFX.out.2.2.1 (by have := HM1.out.geo; simp; omega)
        have ho6 := K4.owns HFX.out.2.2.2.1 (by simp; omega)
        have hB4 : Below w.heap.size w (w3.setCell ⟨mb, 4, none⟩ (.slice av σ.cts.length cv)) := HB.out.trans ((HB1.out.mono (by omega)).trans ((HFX.out.2.2.2.2.mono (by omega)).trans (K4.below (by have := HM1.out.geo; simp; omega) (by omega))))
        simp at hm4
        have d0 := blk_cell hm4 0
        have d1 := blk_cell hm4 1
        have d2 := blk_cell hm4 2
        have d3 := blk_cell hm4 3
        have d4' := blk_cell hm4 4
        have e0 := blk_cell hk4 0
        have e1 := blk_cell hk4 1
        have e2 := blk_cell hk4 2
        have e3 := blk_cell hk4 3
        have e4 := blk_cell hk4 4
        have f0 := blk_frozen hk4 0
        have f1 := blk_frozen hk4 1
        have f2 := blk_frozen hk4 2
        have f3 := blk_frozen hk4 3
        have f4 := blk_frozen hk4 4
        simp only [List.getElem?_toArray, List.getElem?_cons_zero, List.getElem?_cons_succ] at d0 d1 d2 d3 d4' e0 e1 e2 e3 e4
        have HY := hide (And.intro hk4 (And.intro ho5 (And.intro ho6 hB4)))
        clear hm4 hk4 ho4 K4 ho5 ho6 hB4 d4 g4
        generalize w3.setCell ⟨mb, 4, none⟩ (.slice av σ.cts.length cv) = W4 at *
        obtain ⟨ao, co, hvo⟩ := owns_val HY.out.2.1
        subst hvo
        go_wp2
        refine ret_cell (fill5_blk HY.out.1 _ _ _ _ _) rfl rfl ?_
        rw [HZ.out]
        have KF := fill5_keeps W4 (w.heap.size + 1) (.slice ao σ.out.length co) (.int .i64 σ.ret) (.bool true) (.int .i64 (k : Int)) (.slice av σ.cts.length cv)
        exact ⟨_, _, by rw [he, hst], ownsRow_base (KF.owns HY.out.2.1 (by simp; omega)) (by omega), ownsRow_base (KF.owns HY.out.2.2.1 (by simp; omega)) (by omega), HY.out.2.2.2.trans (KF.below (by simp) HY.out.2.2.2.size)⟩
end Go.Proofs.Ytoikglgnmjjpcab

