/-
  hoistwayref.guess$1, walked; what lies in memory while guess runs.
-/
import Derived.Test.YtoikglgnmjjpcaaDoorUC
import Derived.Test.YtoikglgnmjjpcaaDoorTQ
import Derived.Deep.AppendLies
namespace Go.Proofs.YtoikglgnmjjpcaaDoor
open Go.RowKit Go.Maps Go.ChangeMaps
set_option linter.unusedVariables false

def ndA (x : Nd) : Array Value := #[.int .i64 x.op, .int .i64 x.d, .int .i64 x.a, .int .i64 x.b, .int .i64 x.t, .int .i64 x.e]

/-- What lies in memory while guess runs: the answer's box, the words, the node, the count. -/
structure GS (B wb nb kb sb : Nat) (K : Int) (cap len : Nat) (cs : Array Value) (x : Nd) (w wr : World) : Prop where
  ord : B < sb ∧ sb < wb ∧ wb < nb ∧ nb < kb
  rb : wr.heap[B]? = some (.cells z6 49 (0, 0))
  sc : wr.heap[sb]? = some (.cells cs 9 (0, 0))
  wc : wr.heap[wb]? = some (.cells #[.slice (some ⟨sb, 0, none⟩) len cap] 56 (0, 0))
  nc : wr.heap[nb]? = some (.cells (ndA x) 49 (0, 0))
  kc : wr.heap[kb]? = some (.cells #[.int .i64 K] 3 (0, 0))
  bl : Below B w wr

section
variable {B wb nb kb sb : Nat} {K : Int} {cap len : Nat} {cs : Array Value} {x : Nd} {w wr wr' : World}

theorem GS.grow (h : GS B wb nb kb sb K cap len cs x w wr) (hb : Below wr.heap.size wr wr') : GS B wb nb kb sb K cap len cs x w wr' :=
  ⟨h.ord, (hb.block _ (blk_lt h.rb)).trans h.rb, (hb.block _ (blk_lt h.sc)).trans h.sc, (hb.block _ (blk_lt h.wc)).trans h.wc, (hb.block _ (blk_lt h.nc)).trans h.nc, (hb.block _ (blk_lt h.kc)).trans h.kc, h.bl.trans (hb.mono (Nat.le_of_lt (blk_lt h.rb)))⟩

theorem GS.setk (h : GS B wb nb kb sb K cap len cs x w wr) (v : Int) : GS B wb nb kb sb v cap len cs x w (wr.setCell ⟨kb, 0, none⟩ (.int .i64 v)) := by
  have ho := h.ord
  exact ⟨ho, blk_set_ne _ h.rb (by omega), blk_set_ne _ h.sc (by omega), blk_set_ne _ h.wc (by omega), blk_set_ne _ h.nc (by omega), blk_set _ h.kc, h.bl.setCell (show B ≤ kb by omega) _⟩

theorem GS.setn (h : GS B wb nb kb sb K cap len cs x w wr) (i : Nat) (v : Int) (y : Nd) (hy : ndA y = (ndA x).setIfInBounds i (.int .i64 v)) : GS B wb nb kb sb K cap len cs y w (wr.setCell ⟨nb, i, none⟩ (.int .i64 v)) := by
  have ho := h.ord
  exact ⟨ho, blk_set_ne _ h.rb (by omega), blk_set_ne _ h.sc (by omega), blk_set_ne _ h.wc (by omega), by rw [hy]; exact blk_set _ h.nc, blk_set_ne _ h.kc (by omega), h.bl.setCell (show B ≤ nb by omega) _⟩

theorem GS.n0 (h : GS B wb nb kb sb K cap len cs x w wr) (v : Int) : GS B wb nb kb sb K cap len cs { x with op := v } w (wr.setCell ⟨nb, 0, none⟩ (.int .i64 v)) := h.setn 0 v _ rfl
theorem GS.n1 (h : GS B wb nb kb sb K cap len cs x w wr) (v : Int) : GS B wb nb kb sb K cap len cs { x with d := v } w (wr.setCell ⟨nb, 1, none⟩ (.int .i64 v)) := h.setn 1 v _ rfl
theorem GS.n2 (h : GS B wb nb kb sb K cap len cs x w wr) (v : Int) : GS B wb nb kb sb K cap len cs { x with a := v } w (wr.setCell ⟨nb, 2, none⟩ (.int .i64 v)) := h.setn 2 v _ rfl
theorem GS.n3 (h : GS B wb nb kb sb K cap len cs x w wr) (v : Int) : GS B wb nb kb sb K cap len cs { x with b := v } w (wr.setCell ⟨nb, 3, none⟩ (.int .i64 v)) := h.setn 3 v _ rfl
theorem GS.n4 (h : GS B wb nb kb sb K cap len cs x w wr) (v : Int) : GS B wb nb kb sb K cap len cs { x with t := v } w (wr.setCell ⟨nb, 4, none⟩ (.int .i64 v)) := h.setn 4 v _ rfl
theorem GS.n5 (h : GS B wb nb kb sb K cap len cs x w wr) (v : Int) : GS B wb nb kb sb K cap len cs { x with e := v } w (wr.setCell ⟨nb, 5, none⟩ (.int .i64 v)) := h.setn 5 v _ rfl
end

theorem GS.facts {B wb nb kb sb : Nat} {K : Int} {cap len : Nat} {cs : Array Value} {x : Nd} {w wr : World} (h : GS B wb nb kb sb K cap len cs x w wr) :
    wr.cell? ⟨nb, 0, none⟩ = some (.int .i64 x.op) ∧ wr.cell? ⟨nb, 1, none⟩ = some (.int .i64 x.d) ∧ wr.cell? ⟨nb, 2, none⟩ = some (.int .i64 x.a) ∧ wr.cell? ⟨nb, 3, none⟩ = some (.int .i64 x.b) ∧ wr.cell? ⟨nb, 4, none⟩ = some (.int .i64 x.t) ∧ wr.cell? ⟨nb, 5, none⟩ = some (.int .i64 x.e) ∧
    wr.cell? ⟨kb, 0, none⟩ = some (.int .i64 K) ∧ (∀ i, wr.frozen? ⟨nb, i, none⟩ = false) ∧ (∀ i, wr.frozen? ⟨kb, i, none⟩ = false) ∧ nb < wr.heap.size ∧ kb < wr.heap.size :=
  ⟨blk_cell h.nc 0, blk_cell h.nc 1, blk_cell h.nc 2, blk_cell h.nc 3, blk_cell h.nc 4, blk_cell h.nc 5, blk_cell h.kc 0, fun i => blk_frozen h.nc i, fun i => blk_frozen h.kc i, blk_lt h.nc, blk_lt h.kc⟩

/-- The same, ahead of the count. -/
structure G0 (B wb nb sb : Nat) (cap len : Nat) (cs : Array Value) (x : Nd) (w wr : World) : Prop where
  ord : B < sb ∧ sb < wb ∧ wb < nb
  rb : wr.heap[B]? = some (.cells z6 49 (0, 0))
  sc : wr.heap[sb]? = some (.cells cs 9 (0, 0))
  wc : wr.heap[wb]? = some (.cells #[.slice (some ⟨sb, 0, none⟩) len cap] 56 (0, 0))
  nc : wr.heap[nb]? = some (.cells (ndA x) 49 (0, 0))
  bl : Below B w wr

theorem G0.grow {B wb nb sb cap len : Nat} {cs : Array Value} {x : Nd} {w wr wr' : World} (h : G0 B wb nb sb cap len cs x w wr) (hb : Below wr.heap.size wr wr') : G0 B wb nb sb cap len cs x w wr' :=
  ⟨h.ord, (hb.block _ (blk_lt h.rb)).trans h.rb, (hb.block _ (blk_lt h.sc)).trans h.sc, (hb.block _ (blk_lt h.wc)).trans h.wc, (hb.block _ (blk_lt h.nc)).trans h.nc, h.bl.trans (hb.mono (Nat.le_of_lt (blk_lt h.rb)))⟩

theorem G0.drew {B wb nb sb cap len : Nat} {cs : Array Value} {x : Nd} {w wr : World} (h : G0 B wb nb sb cap len cs x w wr) : G0 B wb nb sb cap len cs x w wr.drew :=
  ⟨h.ord, h.rb, h.sc, h.wc, h.nc, h.bl.drew⟩

theorem G0.n0 {B wb nb sb cap len : Nat} {cs : Array Value} {x : Nd} {w wr : World} (h : G0 B wb nb sb cap len cs x w wr) (v : Int) : G0 B wb nb sb cap len cs { x with op := v } w (wr.setCell ⟨nb, 0, none⟩ (.int .i64 v)) := by
  have ho := h.ord
  exact ⟨ho, blk_set_ne _ h.rb (by omega), blk_set_ne _ h.sc (by omega), blk_set_ne _ h.wc (by omega), blk_set _ h.nc, h.bl.setCell (show B ≤ nb by omega) _⟩

theorem G0.k {B wb nb sb cap len : Nat} {cs : Array Value} {x : Nd} {w wr : World} (h : G0 B wb nb sb cap len cs x w wr) (v : Int) : GS B wb nb wr.heap.size sb v cap len cs x w (wr.alloc (.cells #[.int .i64 v] 3)) := by
  have ho := h.ord
  have hn := blk_lt h.nc
  exact ⟨by omega, blk_alloc _ h.rb, blk_alloc _ h.sc, blk_alloc _ h.wc, blk_alloc _ h.nc, blkn rfl, h.bl.alloc (Nat.le_of_lt (blk_lt h.rb)) _⟩

/-- The words of ws lie in cs. -/
def WsAt (cs : Array Value) (ws : List (List UInt8)) : Prop := ∀ (j : Nat) (y : List UInt8), ws[j]? = some y → cs[j]? = some (.string (ba y)) ∧ y.length ≤ 140737488355328

set_option maxHeartbeats 8000000 in
set_option maxRecDepth 100000 in
theorem take_gs {B wb nb kb sb : Nat} {K : Int} {cap : Nat} {ws : List (List UInt8)} {cs : Array Value} {x : Nd} {w wr : World} (h : GS B wb nb kb sb K cap ws.length cs x w wr) (hcs : WsAt cs ws) (hK : 0 ≤ K) (hK2 : K ≤ 100) :
    Calls Tryd.prog 45 #[.pointer (some ⟨kb, 0, none⟩), .pointer (some ⟨wb, 0, none⟩)] wr fun e w' => e = .returned (.int .i64 (tk ws K.toNat)) ∧ GS B wb nb kb sb (K + 1) cap ws.length cs x w w' := by
  have HG := hide h
  have k0 := blk_cell h.kc 0
  have kf := blk_frozen h.kc 0
  have w0 := blk_cell h.wc 0
  simp at k0 w0
  by_cases hlt : K.toNat < ws.length
  · obtain ⟨y, hy⟩ : ∃ y, ws[K.toNat]? = some y := ⟨_, List.getElem?_eq_getElem hlt⟩
    obtain ⟨hc, hyl⟩ := hcs _ y hy
    have s0 := (blk_cell h.sc K.toNat).trans hc
    have hti : tk ws K.toNat = svB y := by unfold tk; rw [hy]
    have hsd := said_any y wr hyl
    rw [hti]
    have hlt' : K < ws.length := by omega
    clear h hcs hc hy hti
    generalize svB y = V at hsd
    generalize ba y = Y at hsd s0
    go_enter Tryd.func45, Tryd.ntmps45
    go_wp2_with fail
    refine hsd.mono ?_
    rintro e X ⟨⟨ok, rfl⟩, hb⟩
    have HX := hide (HG.out.grow hb)
    have k1 := blk_cell HX.out.kc 0
    have kf1 := blk_frozen HX.out.kc 0
    simp at k1
    clear hb k0 w0 s0 kf
    go_wp2_with fail
    go_ret
    exact ⟨rfl, HX.out.setk _⟩
  · have hti : tk ws K.toNat = 0 := by unfold tk; rw [List.getElem?_eq_none (by omega)]
    rw [hti]
    have hlt' : ws.length ≤ K := by omega
    clear h hcs hti
    go_enter Tryd.func45, Tryd.ntmps45
    go_wp2_with fail
    go_ret
    exact ⟨rfl, HG.out.setk _⟩

theorem take_at {B wb nb kb sb : Nat} {K : Int} {cap : Nat} {ws : List (List UInt8)} {cs : Array Value} {x : Nd} {w wr : World} (hcs : WsAt cs ws) (h : GS B wb nb kb sb K cap ws.length cs x w wr ∧ 0 ≤ K ∧ K ≤ 100) :
    Calls Tryd.prog 45 #[.pointer (some ⟨kb, 0, none⟩), .pointer (some ⟨wb, 0, none⟩)] wr fun e w' => e = .returned (.int .i64 (tk ws K.toNat)) ∧ GS B wb nb kb sb (K + 1) cap ws.length cs x w w' := take_gs h.1 hcs h.2.1 h.2.2


structure PS (B pb sb : Nat) (cs : Array Value) (r : Int) (sv : Value) (ns : List Nd) (w wr : World) : Prop where
  ord : B < sb ∧ sb < pb
  rb : wr.heap[B]? = some (.cells z2 24 (0, 0))
  sc : wr.heap[sb]? = some (.cells cs 9 (0, 0))
  pc : wr.heap[pb]? = some (.cells #[.int .i64 r, sv] 24 (0, 0))
  ow : wr.ownsRow (pb + 1) 49 6 sv ns.length (ns.flatMap encT)
  bl : Below B w wr

section
variable {B pb sb : Nat} {cs : Array Value} {r : Int} {sv : Value} {ns : List Nd} {w wr wr' : World}

theorem PS.grow (h : PS B pb sb cs r sv ns w wr) (hb : Below wr.heap.size wr wr') : PS B pb sb cs r sv ns w wr' :=
  ⟨h.ord, (hb.block _ (blk_lt h.rb)).trans h.rb, (hb.block _ (blk_lt h.sc)).trans h.sc, (hb.block _ (blk_lt h.pc)).trans h.pc, ownsRow_below h.ow hb (Nat.le_refl _), h.bl.trans (hb.mono (Nat.le_of_lt (blk_lt h.rb)))⟩

theorem PS.drew (h : PS B pb sb cs r sv ns w wr) : PS B pb sb cs r sv ns w wr.drew := ⟨h.ord, h.rb, h.sc, h.pc, h.ow, h.bl.drew⟩

theorem owns_put {base : Nat} {e : TypeId} {size : Nat} {v : Value} {n : Nat} {xs : List Value} {w : World} (h : w.ownsRow base e size v n xs) {b i : Nat} (hb : b < base) (u : Value) : (w.setCell ⟨b, i, none⟩ u).ownsRow base e size v n xs := by
  obtain ⟨h1, h2 | ⟨g', cap, cur, hv, hbb, hh, hr⟩⟩ := h
  · exact ⟨h1, Or.inl h2⟩
  · exact ⟨h1, Or.inr ⟨g', cap, cur, hv, hbb, blk_set_ne _ hh (by omega), hr⟩⟩

theorem PS.regs (h : PS B pb sb cs r sv ns w wr) (v : Int) : PS B pb sb cs v sv ns w (wr.setCell ⟨pb, 0, none⟩ (.int .i64 v)) := by
  have ho := h.ord
  exact ⟨ho, blk_set_ne _ h.rb (by omega), blk_set_ne _ h.sc (by omega), blk_set _ h.pc, owns_put h.ow (by omega) _, h.bl.setCell (show B ≤ pb by omega) _⟩

theorem PS.facts (h : PS B pb sb cs r sv ns w wr) : wr.cell? ⟨pb, 0, none⟩ = some (.int .i64 r) ∧ wr.cell? ⟨pb, 1, none⟩ = some sv ∧ wr.frozen? ⟨pb, 0, none⟩ = false ∧ wr.frozen? ⟨pb, 1, none⟩ = false ∧ pb < wr.heap.size ∧ sb < wr.heap.size :=
  ⟨blk_cell h.pc 0, blk_cell h.pc 1, blk_frozen h.pc 0, blk_frozen h.pc 1, blk_lt h.pc, blk_lt h.sc⟩

theorem PS.more (h : PS B pb sb cs r sv ns w wr) (row : Array Value) {w1 : World} (hg : (wr.alloc (.cells row 49)).grownBy w1 sv.ownBlock) : w1.heap[pb]? = some (.cells #[.int .i64 r, sv] 24 (0, 0)) := by
  have hlt := h.ow.lt
  exact (hg.block _ (by have := blk_lt h.pc; simp; omega) (fun e => by have := (hlt pb e.symm).1; omega)).trans (blk_alloc _ h.pc)

theorem PS.step (h : PS B pb sb cs r sv ns w wr) {x : Nd} (row : Array Value) {g cap1 : Nat} {w1 : World} (ho : w1.ownsRow (pb + 1) 49 6 (.slice (some ⟨g, 0, none⟩) (ns.length + 1) cap1) (ns.length + 1) (ns.flatMap encT ++ encT x)) (hg : (wr.alloc (.cells row 49)).grownBy w1 sv.ownBlock) :
    PS B pb sb cs r (.slice (some ⟨g, 0, none⟩) (ns.length + 1) cap1) (ns ++ [x]) w (w1.setCell ⟨pb, 1, none⟩ (.slice (some ⟨g, 0, none⟩) (ns.length + 1) cap1)) := by
  have hlt := h.ow.lt
  have hor := h.ord
  have keep : ∀ {b : Nat} {o : Obj}, b ≤ pb → wr.heap[b]? = some o → w1.heap[b]? = some o := fun {b o} hb hh =>
    (hg.block _ (by have := blk_lt hh; simp; omega) (fun e => by have := (hlt b e.symm).1; omega)).trans (blk_alloc _ hh)
  refine ⟨hor, blk_set_ne _ (keep (by omega) h.rb) (by omega), blk_set_ne _ (keep (by omega) h.sc) (by omega), blk_set _ (keep (Nat.le_refl _) h.pc), ?_, ?_⟩
  · rw [List.length_append, List.length_singleton, List.flatMap_append, List.flatMap_singleton]
    exact owns_put ho (by omega) _
  · exact ((h.bl.alloc (Nat.le_of_lt (blk_lt h.rb)) _).grown hg (by have := blk_lt h.rb; simp; omega) (fun k hk => by have := (hlt k hk).1; omega)).setCell (show B ≤ pb by omega) _
end

end Go.Proofs.YtoikglgnmjjpcaaDoor
