/-
  prog.Check, walked: it answers 'chk', whatever it is handed.
-/
import Derived.Test.YtoikglgnmjjpcaaDoorC
import Derived.Shelf.Abstract
namespace Go.Proofs.YtoikglgnmjjpcaaDoor
open Go.RowKit
set_option linter.unusedVariables false

/-- The slice's place: nothing to know where it is empty. -/
def SlN (w : World) (a : Option Addr) (ns : List Nd) : Prop := ns = [] ∨ ∃ b off, a = some ⟨b, off, none⟩ ∧ NodesAt w b off ns

theorem SlN.below {w w' : World} {a : Option Addr} {ns : List Nd} (h : SlN w a ns) (hb : Below w.heap.size w w') : SlN w' a ns := by
  rcases h with h | ⟨b, off, rfl, h⟩
  · exact Or.inl h
  · exact Or.inr ⟨b, off, rfl, h.below hb h.lt⟩

theorem SlN.some {w : World} {a : Option Addr} {ns : List Nd} (h : SlN w a ns) (h1 : 1 ≤ ns.length) : ∃ b off, a = .some ⟨b, off, none⟩ ∧ NodesAt w b off ns := by
  rcases h with rfl | h
  · simp at h1
  · exact h

set_option maxHeartbeats 1000000 in
theorem check_many (r : Int) (a : Option Addr) (cap : Nat) (ns : List Nd) (w : World) (h : (wi ns.length 1 256 && wi r 1 64) = false) :
    Calls Tryd.prog 12 #[.agg #[.int .i64 r, .slice a ns.length cap]] w fun e w' => e = .returned (.int .i64 2) ∧ Below w.heap.size w w' := by
  cases h1 : wi ns.length 1 256
  · go_enter Tryd.func12, Tryd.ntmps12
    go_wp2_with (go_at_call 27; refine (pwithin_any _ _ _ _).mono ?_; rintro e w' ⟨rfl, rfl⟩)
    go_ret
    exact ⟨rfl, (Below.refl _ _).alloc (Nat.le_refl _) _⟩
  · have h2 : wi r 1 64 = false := by simpa [h1] using h
    clear h
    go_enter Tryd.func12, Tryd.ntmps12
    go_wp2_with (go_at_call 27; refine (pwithin_any _ _ _ _).mono ?_; rintro e w' ⟨rfl, rfl⟩)
    go_ret
    exact ⟨rfl, (Below.refl _ _).alloc (Nat.le_refl _) _⟩

set_option maxHeartbeats 1000000 in
set_option maxRecDepth 100000 in
theorem check_rest (r : Int) (b off cap : Nat) (ns : List Nd) (w : World) (hN : NodesAt w b off ns) (h1 : wi ns.length 1 256 = true) (h2 : wi r 1 64 = true) :
    Calls Tryd.prog 12 #[.agg #[.int .i64 r, .slice (some ⟨b, off, none⟩) ns.length cap]] w fun e w' => e = .returned (.int .i64 (chk r ns)) ∧ Below w.heap.size w w' := by
  have b1 := wi_iff.1 h1
  have b2 := wi_iff.1 h2
  have hblt := hN.lt
  have hl : ns.length ≤ 256 := by omega
  have eg1 : ∀ args w, (callFunc 29 args).run Tryd.prog w = .ok (.enter 29 args) w := enters_of Tryd.func29 (by kernel_rfl) rfl
  have eg2 : ∀ args w, (callFunc 31 args).run Tryd.prog w = .ok (.enter 31 args) w := enters_of Tryd.func31 (by kernel_rfl) rfl
  have HC : Hid (chk r ns = if ns.all (fun x => kn x.op) then if ns.all (fieldsOk (inB r ns.length)) then if ns.all (fieldsOk noF) then 0 else 1 else 3 else 4) := by
    show _ = _; simp [chk, h1, h2]
  generalize chk r ns = C at HC ⊢
  go_enter Tryd.func12, Tryd.ntmps12
  go_wp2_with (go_at_call 27; refine (pwithin_any _ _ _ _).mono ?_; rintro e w' ⟨rfl, rfl⟩)
  have hNa : NodesAt (w.alloc (.cells #[.int .i64 r, .slice (some ⟨b, off, none⟩) ns.length cap] 24)) b off ns := hN.below ((Below.refl w.heap.size w).alloc (Nat.le_refl _) _) hN.lt
  refine (kindsKnown_any r b off cap ns _ hNa hl).mono ?_
  rintro e w1 ⟨rfl, hb1⟩
  have hs1 := hb1.size
  simp only [World.size_alloc] at hs1 hb1
  have hB1 : Below w.heap.size w w1 := ((Below.refl _ _).alloc (Nat.le_refl _) _).trans (hb1.mono (by omega))
  cases hk : ns.all (fun x => kn x.op)
  · go_wp2
    go_ret
    refine ⟨ret_int ?_, hB1⟩
    rw [HC.out, hk]; rfl
  have q0 : w1.cell? ⟨w.heap.size, 0, none⟩ = some (.int .i64 r) := by rw [hb1.cell (p := ⟨w.heap.size, 0, none⟩) (by simp)]; simp
  have q1 : w1.cell? ⟨w.heap.size, 1, none⟩ = some (.slice (some ⟨b, off, none⟩) ns.length cap) := by rw [hb1.cell (p := ⟨w.heap.size, 1, none⟩) (by simp)]; simp
  have hs1' : w.heap.size < w1.heap.size := by omega
  have hN1 : NodesAt w1 b off ns := hN.below hB1 hN.lt
  go_wp2_with fail
  refine (eachField_any (inB r ns.length) 29 #[.pointer (some ⟨w.heap.size, 0, none⟩)] r b off cap ns w1 hN1 hl eg1 ?_).mono ?_
  · intro k v W hW
    refine (inb_any k v r w.heap.size (some ⟨b, off, none⟩) ns.length cap W b2 hl (by rw [hW.cell (p := ⟨w.heap.size, 0, none⟩) hs1']; exact q0) (by rw [hW.cell (p := ⟨w.heap.size, 1, none⟩) hs1']; exact q1)).mono ?_
    rintro e w' ⟨rfl, rfl⟩
    exact ⟨rfl, Below.refl _ _⟩
  rintro e w2 ⟨rfl, hb2⟩
  have hs2 := hb2.size
  have hB2 : Below w.heap.size w w2 := hB1.trans (hb2.mono (by omega))
  cases hi : ns.all (fieldsOk (inB r ns.length))
  · go_wp2
    go_ret
    refine ⟨ret_int ?_, hB2⟩
    rw [HC.out, hk, hi]; rfl
  have p0 : w2.cell? ⟨w.heap.size, 0, none⟩ = some (.int .i64 r) := by rw [hb2.cell (p := ⟨w.heap.size, 0, none⟩) hs1']; exact q0
  have p1 : w2.cell? ⟨w.heap.size, 1, none⟩ = some (.slice (some ⟨b, off, none⟩) ns.length cap) := by rw [hb2.cell (p := ⟨w.heap.size, 1, none⟩) hs1']; exact q1
  have hN2 : NodesAt w2 b off ns := hN.below hB2 hN.lt
  have hs2' : w.heap.size < w2.heap.size := by omega
  clear q0 q1
  go_wp2_with fail
  refine (eachField_any noF 31 #[] r b off cap ns w2 hN2 hl eg2 ?_).mono ?_
  · intro k v W hW
    refine (nof_any k v W).mono ?_
    rintro e w' ⟨rfl, rfl⟩
    exact ⟨rfl, Below.refl _ _⟩
  rintro e w3 ⟨rfl, hb3⟩
  have hB3 : Below w.heap.size w w3 := hB2.trans (hb3.mono (by omega))
  cases hf : ns.all (fieldsOk noF)
  · go_wp2
    go_ret
    refine ⟨ret_int ?_, hB3⟩
    rw [HC.out, hk, hi, hf]; rfl
  · go_wp2
    go_ret
    refine ⟨ret_int ?_, hB3⟩
    rw [HC.out, hk, hi, hf]; rfl

theorem check_any (r : Int) (a : Option Addr) (cap : Nat) (ns : List Nd) (w : World) (hN : SlN w a ns) :
    Calls Tryd.prog 12 #[.agg #[.int .i64 r, .slice a ns.length cap]] w fun e w' => e = .returned (.int .i64 (chk r ns)) ∧ Below w.heap.size w w' := by
  cases h : (wi ns.length 1 256 && wi r 1 64)
  · have e : chk r ns = 2 := by simp [chk, h]
    rw [e]; exact check_many r a cap ns w h
  · rw [Bool.and_eq_true] at h
    obtain ⟨b, off, rfl, hN'⟩ := hN.some (by have := (wi_iff.1 h.1).1; omega)
    exact check_rest r b off cap ns w hN' h.1 h.2
end Go.Proofs.YtoikglgnmjjpcaaDoor
