/-
  The facts of a term, and its places: plain functions.
-/
import Derived.Test.YtoikglgnmjjpcabGB
namespace Go.Proofs.Ytoikglgnmjjpcab

/-- Does a node reckon a term; does it keep it? -/
def rcB (t : Tm) (x : Nd) : Bool := x.op == t.op && x.a == t.a && x.b == t.b
def kpB (t : Tm) (x : Nd) : Bool := !wi x.op 1 9 || (x.d != t.a && x.d != t.b)
def rcl (ns : List Nd) (t : Tm) : List Bool := ns.map (rcB t)
def kpl (ns : List Nd) (t : Tm) : List Bool := ns.map (kpB t)
def yesl (k : Nat) : List Bool := List.replicate k true
def nol (k : Nat) : List Bool := List.replicate k false
def bothl (ns : List Nd) (t : Tm) : List Bool := ns.map fun x => kpB t x && rcB t x
def nrcl (ns : List Nd) (t : Tm) : List Bool := ns.map fun x => !rcB t x

theorem bat_mapn {ns : List Nd} {f : Nd → Bool} {n : Nat} {x : Nd} (h : ns[n]? = some x) : bat (ns.map f) n = f x := by simp [bat, h]
theorem bat_mapn' {ns : List Nd} {f : Nd → Bool} {n : Nat} : bat (ns.map f) n = match ns[n]? with | some x => f x | none => false := by
  cases h : ns[n]? with
  | none => simp [bat, h]
  | some x => simp [bat, h]

def downW (ns : List Nd) (t : Tm) : Flw := ⟨true, false, rcl ns t, kpl ns t, nol ns.length, yesl ns.length⟩
def upW (ns : List Nd) (t : Tm) : Flw := ⟨false, false, nol ns.length, yesl ns.length, bothl ns t, kpl ns t⟩
def downL (ns : List Nd) (t : Tm) : List Bool := solve ns (downW ns t)
def upL (ns : List Nd) (t : Tm) : List Bool := solve ns (upW ns t)
def earlyL (ns : List Nd) (t : Tm) : List Bool := (List.range ns.length).map fun n => bat (downL ns t) n && ((ahl ns n).isEmpty || !(ahl ns n).all fun m => bat (kpl ns t) m && (bat (downL ns t) m || bat (upL ns t) m))
def delayW (ns : List Nd) (t : Tm) : Flw := ⟨false, false, earlyL ns t, yesl ns.length, nol ns.length, nrcl ns t⟩
def delayL (ns : List Nd) (t : Tm) : List Bool := solve ns (delayW ns t)
def lateL (ns : List Nd) (t : Tm) : List Bool := (List.range ns.length).map fun n => bat (delayL ns t) n && (bat (rcl ns t) n || !(nxl ns n).all fun m => bat (delayL ns t) m)
def aloneW (ns : List Nd) (t : Tm) : Flw := ⟨true, true, nol ns.length, yesl ns.length, lateL ns t, nrcl ns t⟩
def aloneL (ns : List Nd) (t : Tm) : List Bool := solve ns (aloneW ns t)

theorem solve_len (ns : List Nd) (f : Flw) : (solve ns f).length = ns.length := (gr_isG (sayF_mono ns f) ns.length).len

/-- Places. -/
def lazyPut (ns : List Nd) (t : Tm) : List Bool := (List.range ns.length).map fun n => bat (lateL ns t) n && !bat (aloneL ns t) n
def lazyTake (ns : List Nd) (t : Tm) : List Bool := (List.range ns.length).map fun n => bat (rcl ns t) n && !(bat (lateL ns t) n && bat (aloneL ns t) n)
def rivPut (ns : List Nd) (t : Tm) (put : List Bool) : List Bool := (List.range ns.length).map fun n => bat put n && bat (downL ns t) n
def thereW (ns : List Nd) (t : Tm) (put : List Bool) : Flw := ⟨false, false, put, yesl ns.length, nol ns.length, kpl ns t⟩
def thereL (ns : List Nd) (t : Tm) (put : List Bool) : List Bool := solve ns (thereW ns t put)
def rivTake (ns : List Nd) (t : Tm) (put : List Bool) : List Bool := (List.range ns.length).map fun n => bat (rcl ns t) n && bat (thereL ns t (rivPut ns t put)) n

end Go.Proofs.Ytoikglgnmjjpcab
