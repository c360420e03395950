/-
  The plain machine of chapter 3.
-/
import Derived.WalkKit
import Derived.Test.YtoikglgnmjjpcaaDoorS
namespace Go.Proofs.YtoikglgnmjjpcaaDoor
open Go.RowKit

/-- What an operation reckons out of two numbers. -/
def rk (op a b : Int) : Int :=
  if op = 3 then wrap64 (a + b) else if op = 4 then wrap64 (a - b) else if op = 5 then wrap64 (a * b)
  else if op = 6 then bits BinOp.and IntKind.i64 a b else if op = 7 then bits BinOp.xor IntKind.i64 a b else if a < b then 1 else 0

/-- How often a term was reckoned. -/
structure Ct where
  t : Tm
  n : Int
  deriving DecidableEq, Inhabited

/-- Does a term come behind another one? -/
def abv (a b : Tm) : Bool := if a.op = b.op then if a.a = b.a then decide (b.b < a.b) else decide (b.a < a.a) else decide (b.op < a.op)

def omore : List Ct → Tm → List Ct
  | [], t => [⟨t, 1⟩]
  | c :: l, t => if abv t c.t then c :: omore l t else if c.t = t then ⟨t, c.n + 1⟩ :: l else ⟨t, 1⟩ :: c :: l

/-- A run under way. -/
structure St where
  regs : List Int
  pc : Nat
  inp : List Int
  out : List Int
  ret : Int
  ended : Bool
  steps : Nat
  cts : List Ct
  deriving Inhabited

def getR (l : List Int) (a : Int) : Int := l.getD a.toNat 0
def setR (l : List Int) (d v : Int) : List Int := l.set d.toNat v

/-- One node is done. -/
def stp (x : Nd) (s : St) : St :=
  if x.op = 0 then { s with pc := x.t.toNat, steps := s.steps + 1 }
  else if x.op = 1 then { s with pc := x.t.toNat, steps := s.steps + 1, regs := setR s.regs x.d x.a }
  else if x.op = 2 then { s with pc := x.t.toNat, steps := s.steps + 1, regs := setR s.regs x.d (getR s.regs x.a) }
  else if x.op = 9 then { s with pc := x.t.toNat, steps := s.steps + 1, regs := setR s.regs x.d (s.inp.headD 0), inp := s.inp.tail }
  else if x.op = 10 then { s with pc := x.t.toNat, steps := s.steps + 1, out := s.out ++ [getR s.regs x.a] }
  else if x.op = 11 then { s with pc := (if getR s.regs x.a = 0 then x.e else x.t).toNat, steps := s.steps + 1 }
  else if x.op = 12 then { s with pc := x.t.toNat, steps := s.steps + 1, ret := getR s.regs x.a, ended := true }
  else { s with pc := x.t.toNat, steps := s.steps + 1, regs := setR s.regs x.d (rk x.op (getR s.regs x.a) (getR s.regs x.b)), cts := omore s.cts (tmOf x) }

/-- So many nodes are done, or fewer, if it ends. -/
def runN (ns : List Nd) : Nat → St → St
  | 0, s => s
  | n + 1, s => if s.ended then s else match ns[s.pc]? with | some x => runN ns n (stp x s) | none => s

def st0 (r : Nat) (inp : List Int) : St := ⟨List.replicate r 0, 0, inp, [], 0, false, 0, []⟩

theorem stp_steps (x : Nd) (s : St) : (stp x s).steps = s.steps + 1 := by
  unfold stp; repeat' split
  all_goals rfl

theorem runN_ended {ns : List Nd} {s : St} (h : s.ended = true) : ∀ n, runN ns n s = s
  | 0 => rfl
  | n + 1 => by simp [runN, h]

theorem runN_add {ns : List Nd} : ∀ (n m : Nat) (s : St), (∀ k, k < n → (runN ns k s).pc < ns.length) → runN ns (n + m) s = runN ns m (runN ns n s)
  | 0, m, s, _ => by simp [runN]
  | n + 1, m, s, h => by
    rw [show n + 1 + m = (n + m) + 1 by omega]
    simp only [runN]
    cases he : s.ended
    · have h0 := h 0 (by omega)
      simp only [runN] at h0
      obtain ⟨x, hx⟩ := get_lt h0
      simp only [hx, Bool.false_eq_true, if_false]
      exact runN_add n m (stp x s) fun k hk => by
        have := h (k + 1) (by omega)
        simpa [runN, he, hx] using this
    · simp [runN_ended he]

end Go.Proofs.YtoikglgnmjjpcaaDoor
