/-
  strings.Split and strconv.Atoi as the text's reading asks for them; text.readNode, walked.
-/
import Derived.Test.YtoikglgnmjjpcaaDoorTH
import Derived.Lib.AtoiAllCases
namespace Go.Proofs.YtoikglgnmjjpcaaDoor
open Go.RowKit Go.Maps Go.ChangeMaps
set_option linter.unusedVariables false

theorem ba_data (s : ByteArray) : ba s.data.toList = s := by cases s; simp [ba]
theorem ba_list (l : List UInt8) : (ba l).data.toList = l := by simp [ba]

theorem split_any (c : UInt8) (l : List UInt8) (w : World) (hE : Env w) (hs : l.length ≤ 16448) :
    Calls Tryd.prog 40 #[.string (ba l), .string ⟨#[c]⟩] w fun e w' => e = .returned (.slice (some ⟨w.heap.size, 0, none⟩) (cutC c l).length (cutC c l).length) ∧ w' = w.alloc (.cells (strs (cutC c l)).toArray 9) := by
  have h := Tryd.strings_Split_shaped (ba l) ⟨#[c]⟩ w hE.sh (by show (ba l).data.size < _; simp [ba]; omega) (by show 1 ≤ (#[c] : Array UInt8).size; simp)
  have e1 : (Lib.splitB ⟨#[c]⟩ 0 (Lib.countB (ba l) ⟨#[c]⟩) (ba l)).map (·.data.toList) = cutC c l := by
    rw [Lib.splitB_data, ba_list]
    exact (splitK_cut c l)
  have e2 : (Lib.splitB ⟨#[c]⟩ 0 (Lib.countB (ba l) ⟨#[c]⟩) (ba l)).map Value.string = strs (cutC c l) := by
    rw [← e1]
    unfold strs
    rw [List.map_map]
    exact List.map_congr_left fun s _ => by show Value.string s = Value.string (ba s.data.toList); rw [ba_data]
  have e3 : Lib.countB (ba l) ⟨#[c]⟩ + 1 = (cutC c l).length := by
    have := Lib.splitB_all ⟨#[c]⟩ (by show 1 ≤ (#[c] : Array UInt8).size; simp) 0 _ (ba l) rfl
    rw [← e1, List.length_map, this]
  rw [e2, e3] at h
  exact h

theorem atoi_any (s : ByteArray) (w : World) (hE : Env w) (hs : s.size ≤ 16448) :
    Calls Tryd.prog 43 #[.string s] w fun e w' => ∃ v er, e = .returned (.tuple #[.int .i64 v, er]) ∧ (match Lib.atoiAll s.data.toList with | .ok u => v = u ∧ er = .nilIface | _ => ∃ N, er = .iface 102 (.pointer (some ⟨N, 0, none⟩))) ∧ Below w.heap.size w w' := by
  obtain ⟨t2, p2, h2⟩ := hE.syn
  obtain ⟨t3, p3, h3⟩ := hE.rng
  cases ha : Lib.atoiAll s.data.toList with
  | ok u =>
    refine (Tryd.strconv_Atoi_ok s (by omega) u ha w).mono ?_
    rintro e w' ⟨rfl, hw⟩
    refine ⟨u, _, rfl, ⟨rfl, rfl⟩, ?_⟩
    rcases hw with rfl | ⟨t, rfl⟩
    · exact Below.refl _ _
    · exact Lib.bytesWorld_below _ _ _
  | «syntax» =>
    refine (Tryd.strconv_Atoi_syntax_var s (by omega) ha t2 p2 w h2).mono ?_
    rintro e w' ⟨N, rfl, _, _, hb⟩
    exact ⟨_, _, rfl, ⟨N, rfl⟩, hb⟩
  | range =>
    refine (Tryd.strconv_Atoi_range_var s (by omega) ha t3 p3 w h3).mono ?_
    rintro e w' ⟨N, rfl, _, _, hb⟩
    exact ⟨_, _, rfl, ⟨N, rfl⟩, hb⟩

set_option maxHeartbeats 400000 in
theorem node_any (op d a b t e : Int) (w : World) : Calls Tryd.prog 54 #[.int .i64 op, .agg #[.int .i64 d, .int .i64 a, .int .i64 b, .int .i64 t, .int .i64 e]] w fun r w' => r = .returned (.agg #[.int .i64 op, .int .i64 d, .int .i64 a, .int .i64 b, .int .i64 t, .int .i64 e]) ∧ Below w.heap.size w w' := by
  go_enter Tryd.func54, Tryd.ntmps54
  go_wp2
  exact bodyPost_ret (v := .agg #[.int .i64 op, .int .i64 d, .int .i64 a, .int .i64 b, .int .i64 t, .int .i64 e]) (by simp [results, Tryd.results54, go_sem]) rfl ⟨rfl, ((Below.refl _ _).alloc (Nat.le_refl _) _).alloc (by simp) _⟩

/-- The fields read, one behind the other. -/
def rdK (ws : List (List UInt8)) (op : Int) : Nat → Option (Nat × List Int)
  | 0 => some (1, [])
  | i + 1 => match rdK ws op i with
    | none => none
    | some (k, vs) => match rdOne ws k (kOf op i != 0) (i == 3 || i == 4) with
      | none => none
      | some (k', v) => some (k', vs ++ [v])

theorem has_k (op : Int) : (kOf op 0 != 0) = hasD op ∧ (kOf op 1 != 0) = hasA op ∧ (kOf op 2 != 0) = hasB op ∧ (kOf op 3 != 0) = hasT op ∧ (kOf op 4 != 0) = hasE op := by
  refine ⟨?_, ?_, ?_, ?_, ?_⟩
  · show (k0 op != 0) = _; unfold k0 hasD; cases wi op 1 9 <;> rfl
  · show (k1 op != 0) = _
    unfold k1 hasA
    by_cases h : op = 1
    · rw [h]; decide
    · have q1 : wi op 1 8 = wi op 2 8 := by
        cases q : wi op 2 8
        · have := wi_no q
          cases q' : wi op 1 8
          · rfl
          · have := wi_iff.1 q'; omega
        · have := wi_iff.1 q
          exact wi_iff.2 (by omega)
      rw [if_neg h, q1]
      cases (wi op 2 8 || wi op 10 12) <;> rfl
  · show (k2 op != 0) = _; unfold k2 hasB; cases wi op 3 8 <;> rfl
  · show (k3 op != 0) = _; unfold k3 hasT; cases wi op 0 11 <;> rfl
  · show (k4 op != 0) = _
    unfold k4 hasE
    by_cases h : op = 11
    · rw [h]; decide
    · have h2 : (op == 11) = false := by simpa using h
      rw [if_neg h, h2]; rfl

theorem rdK_len (ws : List (List UInt8)) (op : Int) : ∀ i {k vs}, rdK ws op i = some (k, vs) → vs.length = i
  | 0, k, vs, h => by simp [rdK] at h; obtain ⟨rfl, rfl⟩ := h; rfl
  | i + 1, k, vs, h => by
    unfold rdK at h
    split at h
    · cases h
    · rename_i k1 vs1 h1
      have := rdK_len ws op i h1
      split at h
      · cases h
      · simp at h; obtain ⟨_, rfl⟩ := h; simp [this]

def mkN (o : Nat) (vs : List Int) : Nd := ⟨o, vs.getD 0 0, vs.getD 1 0, vs.getD 2 0, vs.getD 3 0, vs.getD 4 0⟩

theorem rdN_K {x : List UInt8} {r : List (List UInt8)} {o : Nat} (h : opOf x = some o) : rdN (x :: r) = (rdK (x :: r) o 5).map fun p => mkN o p.2 := by
  obtain ⟨h0, h1, h2, h3, h4⟩ := has_k (o : Int)
  unfold rdN
  simp only [h]
  simp only [rdK, h0, h1, h2, h3, h4]
  simp only [show ((0 : Nat) == 3 || (0 : Nat) == 4) = false from rfl, show ((1 : Nat) == 3 || (1 : Nat) == 4) = false from rfl, show ((2 : Nat) == 3 || (2 : Nat) == 4) = false from rfl, show ((3 : Nat) == 3 || (3 : Nat) == 4) = true from rfl, show ((4 : Nat) == 3 || (4 : Nat) == 4) = true from rfl]
  cases rdOne (x :: r) 1 (hasD o) false with
  | none => rfl
  | some p =>
    obtain ⟨k1, d⟩ := p
    simp only
    cases rdOne (x :: r) k1 (hasA o) false with
    | none => rfl
    | some p =>
      obtain ⟨k2, a⟩ := p
      simp only
      cases rdOne (x :: r) k2 (hasB o) false with
      | none => rfl
      | some p =>
        obtain ⟨k3, b⟩ := p
        simp only
        cases rdOne (x :: r) k3 (hasT o) true with
        | none => rfl
        | some p =>
          obtain ⟨k4, t⟩ := p
          simp only
          cases rdOne (x :: r) k4 (hasE o) true with
          | none => rfl
          | some p => rfl

def nodeV : Option Nd → Value
  | none => .agg #[.int .i64 0, .int .i64 0, .int .i64 0, .int .i64 0, .int .i64 0, .int .i64 0]
  | some x => .agg #[.int .i64 x.op, .int .i64 x.d, .int .i64 x.a, .int .i64 x.b, .int .i64 x.t, .int .i64 x.e]

theorem zero_int (u : World) : (zeroValue 3).run Tryd.prog u = .ok (.int .i64 0) u := by kernel_rfl

theorem key_ba {x : List UInt8} (h : x.length ≤ 16448) : keyOf Tryd.prog 9 (.string (ba x)) = some (.string x) := by
  have := Go.WideMaps.keyOf_string_mk Tryd.underlying9 (s := ba x) (by show (ba x).data.size ≤ _; simp [ba, maxLen]; omega)
  rw [ba_list] at this
  exact this

end Go.Proofs.YtoikglgnmjjpcaaDoor
