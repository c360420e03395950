/-
  Programs as text: lines, words, and reading: plain functions.
-/
import Derived.Test.YtoikglgnmjjpcaaDoorTA
namespace Go.Proofs.YtoikglgnmjjpcaaDoor

/-- The names. -/
def nmL : List (List UInt8) := [[115, 107, 105, 112], [115, 101, 116], [99, 111, 112, 121], [97, 100, 100], [115, 117, 98], [109, 117, 108], [97, 110, 100], [120, 111, 114], [108, 101, 115, 115], [105, 110], [111, 117, 116], [105, 102], [101, 110, 100]]
def nmB (op : Int) : List UInt8 := nmL.getD op.toNat []
/-- Which operation bears a name. -/
def opOf (x : List UInt8) : Option Nat := nmL.findIdx? (· == x)
def regsW : List UInt8 := [114, 101, 103, 115, 32]
def toW : List UInt8 := [116, 111]
def elW : List UInt8 := [101, 108, 115, 101]

def hasD (op : Int) : Bool := wi op 1 9
def hasA (op : Int) : Bool := wi op 1 8 || wi op 10 12
def hasB (op : Int) : Bool := wi op 3 8
def hasT (op : Int) : Bool := wi op 0 11
def hasE (op : Int) : Bool := op == 11

def wordsB (x : Nd) : List (List UInt8) :=
  nmB x.op :: ((if hasD x.op then [Lib.itoa x.d] else []) ++ ((if hasA x.op then [Lib.itoa x.a] else []) ++ ((if hasB x.op then [Lib.itoa x.b] else []) ++ ((if hasT x.op then [toW, Lib.itoa x.t] else []) ++ (if hasE x.op then [elW, Lib.itoa x.e] else [])))))
/-- A line, without its line feed. -/
def lineW (x : Nd) : List UInt8 := Lib.join (wordsB x) [32]
def regsL (r : Int) : List UInt8 := regsW ++ Lib.itoa r
def showB (r : Int) (ns : List Nd) : List UInt8 := regsL r ++ 10 :: ns.flatMap fun x => lineW x ++ [10]

/-- One field read: where to go on, and its number. -/
def rdOne (ws : List (List UInt8)) (k : Nat) (has lead : Bool) : Option (Nat × Int) :=
  if has then
    match ws[if lead then k + 1 else k]? with
    | none => none
    | some x => match Lib.atoiAll x with
      | .ok v => some ((if lead then k + 1 else k) + 1, v)
      | _ => none
  else some (k, 0)

/-- A node read, out of its words. -/
def rdN (ws : List (List UInt8)) : Option Nd :=
  match ws with
  | [] => none
  | x :: _ => match opOf x with
    | none => none
    | some o => match rdOne ws 1 (hasD o) false with
      | none => none
      | some (k1, d) => match rdOne ws k1 (hasA o) false with
        | none => none
        | some (k2, a) => match rdOne ws k2 (hasB o) false with
          | none => none
          | some (k3, b) => match rdOne ws k3 (hasT o) true with
            | none => none
            | some (k4, t) => match rdOne ws k4 (hasE o) true with
              | none => none
              | some (_, e) => some ⟨o, d, a, b, t, e⟩

theorem opOf_nm {op : Int} (h : 0 ≤ op ∧ op ≤ 12) : opOf (nmB op) = some op.toNat := by
  obtain ⟨k, rfl⟩ := Int.eq_ofNat_of_zero_le h.1
  have hk : k ≤ 12 := by omega
  rw [Int.toNat_natCast]
  have : ∀ j : Fin 13, opOf (nmB (j.1 : Int)) = some j.1 := by decide
  exact this ⟨k, by omega⟩

/-- Numbers that fit. -/
structure Fits (x : Nd) : Prop where
  d : -9223372036854775808 ≤ x.d ∧ x.d ≤ 9223372036854775807
  a : -9223372036854775808 ≤ x.a ∧ x.a ≤ 9223372036854775807
  b : -9223372036854775808 ≤ x.b ∧ x.b ≤ 9223372036854775807
  t : -9223372036854775808 ≤ x.t ∧ x.t ≤ 9223372036854775807
  e : -9223372036854775808 ≤ x.e ∧ x.e ≤ 9223372036854775807

theorem rd_no (ws : List (List UInt8)) (k : Nat) (lead : Bool) : rdOne ws k false lead = some (k, 0) := rfl
theorem rd_plain {ws : List (List UInt8)} {k : Nat} {n : Int} (h : ws[k]? = some (Lib.itoa n)) (h0 : -9223372036854775808 ≤ n ∧ n ≤ 9223372036854775807) : rdOne ws k true false = some (k + 1, n) := by
  simp [rdOne, h, atoi_itoa n h0.1 h0.2]
theorem rd_lead {ws : List (List UInt8)} {k : Nat} {n : Int} (h : ws[k + 1]? = some (Lib.itoa n)) (h0 : -9223372036854775808 ≤ n ∧ n ≤ 9223372036854775807) : rdOne ws k true true = some (k + 2, n) := by
  simp [rdOne, h, atoi_itoa n h0.1 h0.2]

/-- A field that is there, or is not, and the words behind it. -/
theorem rd_step {pre rest : List (List UInt8)} {has lead : Bool} {lw : List UInt8} {n : Int} (k : Nat) (hk : pre.length = k) (h0 : -9223372036854775808 ≤ n ∧ n ≤ 9223372036854775807) (hz : has = false → n = 0) :
    rdOne (pre ++ ((if has then (if lead then [lw, Lib.itoa n] else [Lib.itoa n]) else []) ++ rest)) k has lead = some (k + (if has then (if lead then 2 else 1) else 0), n) := by
  subst hk
  cases has
  · rw [rd_no, hz rfl]; rfl
  · cases lead
    · rw [rd_plain (n := n) (by simp) h0]; rfl
    · rw [rd_lead (n := n) (by simp) h0]; rfl

theorem rdN_words {x : Nd} (hop : 0 ≤ x.op ∧ x.op ≤ 12) (hf : Fits x) (hd : hasD x.op = false → x.d = 0) (ha : hasA x.op = false → x.a = 0) (hb : hasB x.op = false → x.b = 0) (ht : hasT x.op = false → x.t = 0) (he : hasE x.op = false → x.e = 0) : rdN (wordsB x) = some x := by
  have ho := opOf_nm hop
  have eo : ((x.op.toNat : Nat) : Int) = x.op := by omega
  have s1 := rd_step (pre := [nmB x.op]) (rest := (if hasA x.op then [Lib.itoa x.a] else []) ++ ((if hasB x.op then [Lib.itoa x.b] else []) ++ ((if hasT x.op then [toW, Lib.itoa x.t] else []) ++ (if hasE x.op then [elW, Lib.itoa x.e] else [])))) (has := hasD x.op) (lead := false) (lw := []) 1 rfl hf.d hd
  have s2 := rd_step (pre := [nmB x.op] ++ (if hasD x.op then [Lib.itoa x.d] else [])) (rest := (if hasB x.op then [Lib.itoa x.b] else []) ++ ((if hasT x.op then [toW, Lib.itoa x.t] else []) ++ (if hasE x.op then [elW, Lib.itoa x.e] else []))) (has := hasA x.op) (lead := false) (lw := []) (1 + if hasD x.op = true then 1 else 0) (by cases hasD x.op <;> rfl) hf.a ha
  have s3 := rd_step (pre := [nmB x.op] ++ (if hasD x.op then [Lib.itoa x.d] else []) ++ (if hasA x.op then [Lib.itoa x.a] else [])) (rest := (if hasT x.op then [toW, Lib.itoa x.t] else []) ++ (if hasE x.op then [elW, Lib.itoa x.e] else [])) (has := hasB x.op) (lead := false) (lw := []) (1 + (if hasD x.op = true then 1 else 0) + if hasA x.op = true then 1 else 0) (by cases hasD x.op <;> cases hasA x.op <;> rfl) hf.b hb
  have s4 := rd_step (pre := [nmB x.op] ++ (if hasD x.op then [Lib.itoa x.d] else []) ++ (if hasA x.op then [Lib.itoa x.a] else []) ++ (if hasB x.op then [Lib.itoa x.b] else [])) (rest := (if hasE x.op then [elW, Lib.itoa x.e] else [])) (has := hasT x.op) (lead := true) (lw := toW) (1 + (if hasD x.op = true then 1 else 0) + (if hasA x.op = true then 1 else 0) + if hasB x.op = true then 1 else 0) (by cases hasD x.op <;> cases hasA x.op <;> cases hasB x.op <;> rfl) hf.t ht
  have s5 := rd_step (pre := [nmB x.op] ++ (if hasD x.op then [Lib.itoa x.d] else []) ++ (if hasA x.op then [Lib.itoa x.a] else []) ++ (if hasB x.op then [Lib.itoa x.b] else []) ++ (if hasT x.op then [toW, Lib.itoa x.t] else [])) (rest := []) (has := hasE x.op) (lead := true) (lw := elW) (1 + (if hasD x.op = true then 1 else 0) + (if hasA x.op = true then 1 else 0) + (if hasB x.op = true then 1 else 0) + if hasT x.op = true then 2 else 0) (by cases hasD x.op <;> cases hasA x.op <;> cases hasB x.op <;> cases hasT x.op <;> rfl) hf.e he
  simp only [Bool.false_eq_true, if_false, if_true, List.append_assoc, List.append_nil, List.cons_append, List.nil_append] at s1 s2 s3 s4 s5
  unfold rdN wordsB
  simp only [ho, eo]
  rw [s1]
  simp only
  rw [s2]
  simp only
  rw [s3]
  simp only
  rw [s4]
  simp only
  rw [s5]

/-- All nodes read, out of their lines. -/
def rdAll : List (List UInt8) → Option (List Nd)
  | [] => some []
  | l :: r => match rdN (cutC 32 l) with
    | none => none
    | some x => (rdAll r).map (x :: ·)

/-- Without a line feed behind it. -/
def trimB (s : List UInt8) : List UInt8 := Lib.trimSuffix s [10]

/-- A program read loosely. -/
def rdP (s : List UInt8) : Option (Int × List Nd) :=
  if 16448 < s.length then none else
  match cutC 10 (trimB s) with
  | [] => none
  | l :: r => if Lib.hasPrefix l regsW then match Lib.atoiAll (l.drop 5) with
      | .ok v => (rdAll r).map fun ns => (v, ns)
      | _ => none
    else none

end Go.Proofs.YtoikglgnmjjpcaaDoor
