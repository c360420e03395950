/-
  Trimming and splitting: plain functions.
-/
import Derived.Test.YtoikglgnmjjpcaaDoorGB
namespace Go.Proofs.YtoikglgnmjjpcaaDoor

/-- Node n of a program. -/
def nd (ns : List Nd) (n : Nat) : Nd := ns.getD n ⟨0, 0, 0, 0, 0, 0⟩
theorem nd_get {ns : List Nd} {n : Nat} {x : Nd} (h : ns[n]? = some x) : nd ns n = x := by simp [nd, h]
theorem get_nd {ns : List Nd} {n : Nat} (h : n < ns.length) : ns[n]? = some (nd ns n) := by simp [nd, h]

/-- The numbers below k of which x says yes. -/
def keptI (x : List Bool) (k : Nat) : List Nat := (List.range k).filter (bat x)
theorem keptI_yes {x : List Bool} {k : Nat} (h : bat x k = true) : keptI x (k + 1) = keptI x k ++ [k] := by
  simp [keptI, List.range_succ, List.filter_append, h]
theorem keptI_no {x : List Bool} {k : Nat} (h : bat x k = false) : keptI x (k + 1) = keptI x k := by
  simp [keptI, List.range_succ, List.filter_append, h]
theorem keptI_len (x : List Bool) (k : Nat) : (keptI x k).length ≤ k :=
  Nat.le_trans (List.length_filter_le _ _) (by simp)

/-- The new number of a node; 0 of one that is left out. -/
def anewAt (x : List Bool) (j : Nat) : Nat := if bat x j then (keptI x j).length else 0
/-- .. as far as k nodes have been looked at. -/
def anewTo (x : List Bool) (k j : Nat) : Nat := if j < k then anewAt x j else 0

def ren (x : List Bool) (m : Nd) : Nd := { m with t := (anewAt x m.t.toNat : Nat), e := (anewAt x m.e.toNat : Nat) }
def trimN (ns : List Nd) : List Nd := (keptI (rchL ns) ns.length).map fun n => ren (rchL ns) (nd ns n)

/-- Where a node goes on, Then ahead of Else, each once. -/
def exo (x : Nd) : List Int :=
  if x.op = 11 then if x.e = x.t then [x.t] else [x.t, x.e]
  else if wi x.op 0 11 then [x.t] else []

/-- A node led elsewhere. -/
def trn (x : Nd) (fr to : Int) : Nd := { x with t := if x.t = fr then to else x.t, e := if x.e = fr then to else x.e }

/-- One exit split, if many lead there. -/
def spl1 (ns : List Nd) (n : Nat) (out : List Nd) (m : Int) : List Nd :=
  if 1 < (ahl ns m.toNat).length then out.set n (trn (nd out n) m out.length) ++ [⟨0, 0, 0, 0, m, 0⟩] else out
/-- The node n has been looked at. -/
def spl2 (ns : List Nd) (out : List Nd) (n : Nat) : List Nd :=
  if (nd ns n).op = 0 then out else (exo (nd ns n)).foldl (spl1 ns n) out
/-- .. those below k. -/
def splTo (ns : List Nd) (k : Nat) : List Nd := (List.range k).foldl (spl2 ns) ns
theorem splTo_succ (ns : List Nd) (k : Nat) : splTo ns (k + 1) = spl2 ns (splTo ns k) k := by
  simp [splTo, List.range_succ, List.foldl_append]
def splitN (ns : List Nd) : List Nd := splTo ns ns.length

end Go.Proofs.YtoikglgnmjjpcaaDoor
