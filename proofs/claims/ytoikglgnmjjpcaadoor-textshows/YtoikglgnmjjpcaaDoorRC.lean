/-
  'm[k]++' on a map with integer elements that the call has made: the two operations of the store, in whichever order the look-up comes.
-/
import Derived.Test.YtoikglgnmjjpcaaDoorRB
import Derived.Maps.Own
import Derived.Maps.Views
import Derived.WideKeyEntry
import Derived.DeepKeys4
namespace Go.Proofs.YtoikglgnmjjpcaaDoor
open Go.RowKit Go.Maps Go.WideElems Go.ChangeMaps
open Go.WideMaps (KeyLaw)
set_option linter.unusedVariables false

set_option maxRecDepth 100000 in
theorem own_entry {H : Type} {P : Program} {k e t : TypeId} {w : World} {b n : Nat} {D : DataW H} (h : w.ownsMap P k (plainElem P e) b n D) (K : KeyLaw P k) (ht : P.underlying t = some (.map k e)) (he : P.underlying e = some (.int .i64))
    (hz : ∀ u : World, (zeroValue e).run P u = .ok (.int .i64 0) u) (hn : n + 1 < maxLen) {key : Value} {kl : Lit} (hkey : keyOf P k key = some kl) :
    ∃ (c : Int) (v0 : Value) (st : Nat) (es1 : Array MapEntry) (clock1 : Nat), D.atKey kl (.lit (.int .i64 0)) = .lit (.int .i64 c) ∧
      (Instr.lookup t (.map (some b)) key false).run P w = .ok (.int .i64 c) w ∧
      (Instr.mapEntry t (.map (some b)) key).run P w = .ok (.tuple #[v0, goInt st]) (setBlock w b (.map es1 clock1)) ∧
      (Instr.lookup t (.map (some b)) key false).run P (setBlock w b (.map es1 clock1)) = .ok (.int .i64 c) (setBlock w b (.map es1 clock1)) ∧
      ∀ val : Int, (Lit.int .i64 val).wf = true → ∃ es2 clock2, (Instr.entryStore t (.map (some b)) (goInt st) (.int .i64 val)).run P (setBlock w b (.map es1 clock1)) = .ok () (setBlock (setBlock w b (.map es1 clock1)) b (.map es2 clock2)) ∧
        (setBlock (setBlock w b (.map es1 clock1)) b (.map es2 clock2)).ownsMap P k (plainElem P e) b (n + 1) (D.put kl (.lit (.int .i64 val))) := by
  have hw0 : (Lit.int .i64 0).wf = true := by decide
  have KK := Keyed.of_law K
  obtain ⟨c, hrun, hat, hwc⟩ := h.lookup_int KK ht he (hz w) hkey
  have h' := h
  obtain ⟨es, clock, hb, F, hs, hD⟩ := h
  obtain ⟨v0, st, es1, clock1, hent, hv0, hst⟩ := entry_then_store K ht hz hb F hkey
  have hb1 : (setBlock w b (.map es1 clock1)).heap[b]? = some (.map es1 clock1) := heap_setBlock_same hb _
  refine ⟨c, v0, st, es1, clock1, hat, hrun, hent, ?_, ?_⟩
  · -- the look-up behind the entry
    rcases K.find w hkey es.toList F.keys with ⟨h1, h2⟩ | ⟨j, e0, h1, h2, h3⟩
    · -- no such key: the entry is new and holds nought
      have hent2 : (Instr.mapEntry t (.map (some b)) key).run P w = .ok (.tuple #[.int .i64 0, goInt clock]) (setBlock w b (.map (es.push ⟨key, .int .i64 0, clock⟩) (clock + 1))) := by
        simp [Instr.mapEntry, run_underlying ht, MapKept.run_getObj_map hb, K.check w false hkey, h1, hz, MapKept.run_setObj_map _ hb, Result.andThen, setBlock]
      have hupd : (Instr.mapUpdate t (.map (some b)) key (.int .i64 0)).run P w = .ok () (setBlock w b (.map (es.push ⟨key, .int .i64 0, clock⟩) (clock + 1))) := by
        simp [Instr.mapUpdate, run_underlying ht, MapKept.run_getObj_map hb, K.check w false hkey, h1, MapKept.run_setObj_map _ hb, Result.andThen, setBlock]
      obtain ⟨w', hrun', hown', _⟩ := h'.update KK ht (by omega) hkey (plainElem_int he hw0)
      rw [hent2] at hent
      rw [hupd] at hrun'
      obtain ⟨e1, e2⟩ := Result.ok.inj hent
      obtain ⟨e3, e4⟩ := Result.ok.inj hrun'
      rw [← e2, e4]
      obtain ⟨c', hrun2, hat2, _⟩ := hown'.lookup_int KK ht he (hz _) hkey
      have hm : IsMap D := ⟨_, hD⟩
      rw [atKey_put_same hm (KK.key hkey)] at hat2
      have hc0 : c = 0 := by
        rcases fit_look false KK ht (hz w) hb F hkey with ⟨_, _, ha⟩ | ⟨e0, y, hm0, hk0, _⟩
        · rw [hD, ha] at hat; exact ((Lit.int.inj (DataW.lit.inj hat)).2).symm
        · exact absurd hk0 (h2 e0 hm0)
      have hc' : c' = 0 := ((Lit.int.inj (DataW.lit.inj hat2)).2).symm
      rw [hc0]; rw [hc'] at hrun2; exact hrun2
    · -- the key is there: the entries are as they were
      have hj : es[j]? = some e0 := by simpa using h2
      have hsame : es.modify j (fun e => { e with key := key }) = es := by
        apply Array.ext'
        rw [Array.toList_modify, modify_eq_set _ _ _ _ h2]
        have : ({ e0 with key := key } : MapEntry) = e0 := by rw [← h3]
        rw [this]
        exact set_self _ _ _ h2
      have hent2 : (Instr.mapEntry t (.map (some b)) key).run P w = .ok (.tuple #[e0.val, goInt e0.born]) (setBlock w b (.map es clock)) := by
        simp [Instr.mapEntry, run_underlying ht, MapKept.run_getObj_map hb, K.check w false hkey, h1, hj, h3, K.stays w hkey, hsame, MapKept.run_setObj_map _ hb, Result.andThen, setBlock]
      rw [hent2] at hent
      obtain ⟨e1, e2⟩ := Result.ok.inj hent
      rw [← e2]
      have hown1 : (setBlock w b (.map es clock)).ownsMap P k (plainElem P e) b n D := ⟨es, clock, heap_setBlock_same hb _, F, hs, hD⟩
      obtain ⟨c', hrun2, hat2, _⟩ := hown1.lookup_int KK ht he (hz _) hkey
      rw [hat] at hat2
      have q := (Lit.int.inj (DataW.lit.inj hat2)).2
      rw [q]; exact hrun2
  · intro val hwv
    obtain ⟨es2, clock2, hs2, hu2⟩ := hst (setBlock w b (.map es1 clock1)) (.int .i64 val) hb1
    refine ⟨es2, clock2, hs2, ?_⟩
    obtain ⟨w', hrun', hown', _⟩ := h'.update KK ht (by omega) hkey (plainElem_int he hwv)
    rw [hu2] at hrun'
    obtain ⟨_, e4⟩ := Result.ok.inj hrun'
    rw [← e4] at hown'
    obtain ⟨es3, clock3, hb3, F3, hs3, hD3⟩ := hown'
    refine ⟨es3, clock3, ?_, F3, hs3, hD3⟩
    rw [heap_setBlock_same hb] at hb3
    rw [heap_setBlock_same hb1]; exact hb3

def tkl (t : Tm) : Lit := .string (keyBytes [.int .i64 t.op, .int .i64 t.a, .int .i64 t.b])

theorem types_pos : ∃ m, Tryd.prog.types.size + 1 = m + 2 := ⟨Tryd.prog.types.size - 1, by have : 1 ≤ Tryd.prog.types.size := of_decide_eq_true (by kernel_rfl); omega⟩

theorem lits_int (d : Nat) (n : Int) (h : (Lit.int .i64 n).wf = true) : Tryd.prog.keyLits (d + 1) 3 [.int .i64 n] = some [.int .i64 n] := by
  simp [Program.keyLits, Tryd.underlying3, h]

theorem zero_int (u : World) : (zeroValue 3).run Tryd.prog u = .ok (.int .i64 0) u := by kernel_rfl
end Go.Proofs.YtoikglgnmjjpcaaDoor
