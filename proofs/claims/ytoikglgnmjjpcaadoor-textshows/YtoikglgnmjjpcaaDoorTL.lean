/-
  text.readNode and text.readLoosely, walked: what they answer, whatever they are handed.
-/
import Derived.Test.YtoikglgnmjjpcaaDoorTJ
namespace Go.Proofs.YtoikglgnmjjpcaaDoor
open Go.RowKit Go.Maps Go.ChangeMaps
set_option linter.unusedVariables false

theorem cut_mem (c : UInt8) : ∀ (l : List UInt8) {y : List UInt8}, y ∈ cutC c l → y.length ≤ l.length
  | [], y, h => by simp [cutC] at h; subst h; exact Nat.le_refl _
  | b :: l, y, h => by
    unfold cutC at h
    split at h
    · rcases List.mem_cons.1 h with rfl | h
      · simp
      · have := cut_mem c l h; simp; omega
    · split at h
      · rename_i e; exact absurd e (cutC_ne c l)
      · rename_i z r e
        have hz : z ∈ cutC c l := by rw [e]; exact List.mem_cons_self ..
        rcases List.mem_cons.1 h with rfl | h
        · have := cut_mem c l hz; simp; omega
        · have := cut_mem c l (y := y) (by rw [e]; exact List.mem_cons_of_mem _ h); simp; omega
theorem cut_len (c : UInt8) : ∀ (l : List UInt8), (cutC c l).length ≤ l.length + 1
  | [] => by simp [cutC]
  | b :: l => by
    have ih := cut_len c l
    unfold cutC
    split
    · simp; omega
    · split
      · simp
      · rename_i z r e
        rw [e] at ih
        simp at ih ⊢; omega

theorem readNode_any (l : List UInt8) (mb : Nat) (w : World) (hE : Env w) (hl : l.length ≤ 16448) (hM : w.ownsMap Tryd.prog 9 (plainElem Tryd.prog 3) mb 13 opD) :
    Calls Tryd.prog 44 #[.string (ba l), .map (some mb)] w fun e w' => e = .returned (.tuple #[nodeV (rdN (cutC 32 l)), .bool (rdN (cutC 32 l)).isSome]) ∧ Below w.heap.size w w' := by
  have h1 : ∀ y ∈ cutC 32 l, y.length ≤ 16448 := fun y hy => Nat.le_trans (cut_mem 32 l hy) hl
  have h2 := cut_len 32 l
  cases hw : cutC 32 l with
  | nil => exact absurd hw (cutC_ne 32 l)
  | cons x r =>
    rw [hw] at h1 h2
    cases ho : opOf x with
    | none =>
      have e : rdN (x :: r) = none := by unfold rdN; simp only [ho]
      rw [e]
      exact readNode_bad l x r mb w hE hl (h1 x (List.mem_cons_self ..)) hM hw ho
    | some o => exact readNode_ok l x r o mb w hE hl h1 hM hw ho (by omega)

def encT (x : Nd) : List Value := [.int .i64 x.op, .int .i64 x.d, .int .i64 x.a, .int .i64 x.b, .int .i64 x.t, .int .i64 x.e]
theorem info_nodeT : (Tryd.prog.info? 49).map (fun i => (i.zero, i.size, i.bytes)) = some (some (.agg #[.int .i64 0, .int .i64 0, .int .i64 0, .int .i64 0, .int .i64 0, .int .i64 0]), 6, 48) := by kernel_rfl

theorem rdAll_take {ls : List (List UInt8)} {i : Nat} {y : List UInt8} {ns : List Nd} {x : Nd} (h : rdAll (ls.take i) = some ns) (hy : ls[i]? = some y) (hx : rdN (cutC 32 y) = some x) : rdAll (ls.take (i + 1)) = some (ns ++ [x]) := by
  induction ls generalizing i ns with
  | nil => simp at hy
  | cons a ls ih =>
    cases i with
    | zero =>
      simp at hy; subst hy
      simp [rdAll] at h; subst h
      simp [rdAll, hx]
    | succ i =>
      simp only [List.take_succ_cons, rdAll] at h ⊢
      cases e : rdN (cutC 32 a) with
      | none => rw [e] at h; simp at h
      | some z =>
        rw [e] at h
        simp only at h ⊢
        cases e2 : rdAll (ls.take i) with
        | none => rw [e2] at h; simp at h
        | some m =>
          rw [e2] at h
          simp at h; subst h
          rw [ih e2 (by simpa using hy)]
          rfl

theorem rdAll_stop {ls : List (List UInt8)} {y : List UInt8} (hy : y ∈ ls) (hx : rdN (cutC 32 y) = none) : rdAll ls = none := by
  induction ls with
  | nil => cases hy
  | cons a ls ih =>
    unfold rdAll
    rcases List.mem_cons.1 hy with rfl | hy
    · rw [hx]
    · cases e : rdN (cutC 32 a) with
      | none => rfl
      | some z => simp only; rw [ih hy]; rfl

def z2 : Array Value := #[.int .i64 0, .slice none 0 0]
theorem z2_size : (Tryd.prog.info? 24).map (·.size) = some z2.size := by kernel_rfl
theorem z2_one : z2.all (·.oneCell') = true := by kernel_rfl

/-- What reading loosely answers. -/
def LooseEnd (q : Option (Int × List Nd)) (base : Nat) (e : Ending) (w' : World) : Prop :=
  match q with
  | none => e = .returned (.tuple #[.agg #[.int .i64 0, .slice none 0 0], .bool false])
  | some (r, ns) => ∃ a cap, e = .returned (.tuple #[.agg #[.int .i64 r, .slice a ns.length cap], .bool true]) ∧ w'.ownsRow base 49 6 (.slice a ns.length cap) ns.length (ns.flatMap encT)

set_option maxHeartbeats 4000000 in
set_option maxRecDepth 100000 in
theorem loose_long (l : List UInt8) (w : World) (hl : 16448 < l.length) (hl2 : l.length ≤ 140737488355328) :
    Calls Tryd.prog 22 #[.string (ba l)] w fun e w' => e = .returned (.tuple #[.agg #[.int .i64 0, .slice none 0 0], .bool false]) ∧ Below w.heap.size w w' := by
  have hsz : (ba l).size = l.length := by simp [ba, ByteArray.size]
  have hli : (16448 : Int) < (l.length : Int) := by omega
  have hp0 : (w.alloc (.cells z2 24)).heap[w.heap.size]? = some (.cells z2 24 (0, 0)) := blkn rfl
  have hB1 : Below w.heap.size w (w.alloc (.cells z2 24)) := (Below.refl _ _).alloc (Nat.le_refl _) _
  go_enter Tryd.func22, Tryd.ntmps22
  go_wp2_with (refine wpList_plain rfl fun _ hK => wp_store_row _ _ _ rfl _ z2 rfl rfl _ _ hp0 z2_size rfl z2_one (hK _ _ ?_))
  exact bodyPost_ret (results_two Tryd.results22 _ _ _ _ _ _ _ (.bool false) rfl (setRow_heap _ _ _ z2 _ _ hp0) Tryd.underlying24 rfl z2_size rfl) rfl ⟨rfl, hB1.trans ⟨rfl, rfl, rfl, by simp, fun k hk => setRow_other _ _ _ _ (by omega)⟩⟩

end Go.Proofs.YtoikglgnmjjpcaaDoor
