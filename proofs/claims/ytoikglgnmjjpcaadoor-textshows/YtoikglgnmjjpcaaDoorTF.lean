/-
  text.nameTable and text.leadWord, walked.
-/
import Derived.Test.YtoikglgnmjjpcaaDoorTE
import Derived.Test.YtoikglgnmjjpcaaDoorRB
namespace Go.Proofs.YtoikglgnmjjpcaaDoor
open Go.RowKit Go.Maps Go.ChangeMaps
open Go.WideMaps (KeyLaw string_law keyOf_string_mk string_of_keyOf)
set_option linter.unusedVariables false

theorem blkn {w : World} {o : Obj} {n : Nat} (h : w.heap.size = n) : (w.alloc o).heap[n]? = some o := by subst h; exact (MapKept.heap_alloc w o).1

def ba (x : List UInt8) : ByteArray := ⟨x.toArray⟩

/-- The table, of which what is left is not there yet. -/
def tabL (left : Lit → Bool) : List Value := nmL.map fun x => .string (if left (.string x) then ⟨#[]⟩ else ba x)

theorem nm_one : ∀ i j : Fin 13, nmL.getD i.1 [] = nmL.getD j.1 [] → i = j := by decide

theorem nm_uniq {i j : Nat} {x : List UInt8} (hi : nmL[i]? = some x) (hj : nmL[j]? = some x) : i = j := by
  have li : i < 13 := (List.getElem?_eq_some_iff.1 hi).1
  have lj : j < 13 := (List.getElem?_eq_some_iff.1 hj).1
  have := nm_one ⟨i, li⟩ ⟨j, lj⟩ (by simp only [List.getD_eq_getElem?_getD, hi, hj])
  exact congrArg Fin.val this

theorem opOf_get {x : List UInt8} {o : Nat} (h : opOf x = some o) : nmL[o]? = some x := by
  unfold opOf at h
  obtain ⟨h1, h2, _⟩ := List.findIdx?_eq_some_iff_getElem.1 h
  rw [List.getElem?_eq_getElem h1]
  simpa using h2

theorem sameKey_str (x y : List UInt8) : (Lit.string x).sameKey (.string y) = decide (x = y) := by
  by_cases e : x = y
  · subst e; simp [Lit.sameKey]
  · rw [sameKey_ne (fun h => e (Lit.string.inj h))]; simp [e]

theorem tab_more {left : Lit → Bool} {x : List UInt8} {o : Nat} (h : nmL[o]? = some x) : tabL (fun z => left z && !z.sameKey (.string x)) = (tabL left).set o (.string (ba x)) := by
  apply List.ext_getElem?
  intro i
  rw [List.getElem?_set]
  unfold tabL
  by_cases e : o = i
  · subst e
    have : o < (nmL.map fun x => Value.string (if left (.string x) then ⟨#[]⟩ else ba x)).length := by
      rw [List.length_map]; exact (List.getElem?_eq_some_iff.1 h).1
    rw [if_pos rfl, if_pos this, List.getElem?_map, h]
    simp [sameKey_str]
  · rw [if_neg e, List.getElem?_map, List.getElem?_map]
    cases hi : nmL[i]? with
    | none => rfl
    | some y =>
      have hne : y ≠ x := fun q => e (nm_uniq h (q ▸ hi))
      simp [sameKey_str, hne]

theorem tab_start : tabL (Maps.has opD) = List.replicate 13 (.string ⟨#[]⟩) := by
  have : ∀ x ∈ nmL, Maps.has opD (.string x) = true := by
    intro x hx
    rw [opD_has]
    have : ∀ y ∈ nmL, (opOf y).isSome = true := by decide
    exact this x hx
  unfold tabL
  rw [List.map_congr_left (g := fun _ => Value.string ⟨#[]⟩) (fun x hx => by rw [this x hx]; rfl)]
  rfl

theorem tab_done {left : Lit → Bool} (h : ∀ z, left z = false) : tabL left = nmL.map fun x => .string (ba x) := by
  unfold tabL
  exact List.map_congr_left (fun x hx => by rw [h]; rfl)

def names13 : Array Value := (nmL.map fun x => Value.string (ba x)).toArray

set_option maxHeartbeats 400000 in
theorem lead_any (i : Int) (w : World) : Calls Tryd.prog 37 #[.int .i64 i] w fun e w' => e = .returned (.string (if i = 3 then ba toW else if i = 4 then ba elW else ⟨#[]⟩)) ∧ w' = w := by
  by_cases h3 : i = 3
  · subst h3
    go_enter Tryd.func37, Tryd.ntmps37
    go_wp2
    go_ret
    exact ⟨rfl, rfl⟩
  · by_cases h4 : i = 4
    · subst h4
      go_enter Tryd.func37, Tryd.ntmps37
      go_wp2
      go_ret
      exact ⟨rfl, rfl⟩
    · rw [if_neg h3, if_neg h4]
      go_enter Tryd.func37, Tryd.ntmps37
      go_wp2
      go_ret
      exact ⟨rfl, rfl⟩

set_option maxHeartbeats 2000000 in
set_option maxRecDepth 100000 in
theorem nameTable_any (w : World) : Calls Tryd.prog 13 #[] w fun e w' => e = .returned (.agg names13) ∧ Below w.heap.size w w' := by
  have KK := Keyed.of_law slaw
  go_enter Tryd.func13, Tryd.ntmps13
  go_wp2_with fail
  refine (operations_any _).mono ?_
  rintro e w1 ⟨rfl, hown, hb1⟩
  have hs1 := hb1.size
  simp only [World.size_alloc] at hs1 hb1 hown
  have hp0 := (hb1.block w.heap.size (by omega)).trans (blk_alloc _ (blkn rfl))
  have hp1 := (hb1.block (w.heap.size + 1) (by omega)).trans (blkn (by simp))
  have hB1 : Below w.heap.size w w1 := ((((Below.refl w.heap.size w).alloc (Nat.le_refl _) _).alloc (by simp) _)).trans (hb1.mono (by omega))
  have e13 : (tabL (Maps.has opD)).toArray = #[.string ⟨#[]⟩, .string ⟨#[]⟩, .string ⟨#[]⟩, .string ⟨#[]⟩, .string ⟨#[]⟩, .string ⟨#[]⟩, .string ⟨#[]⟩, .string ⟨#[]⟩, .string ⟨#[]⟩, .string ⟨#[]⟩, .string ⟨#[]⟩, .string ⟨#[]⟩, .string ⟨#[]⟩] := by rw [tab_start]; rfl
  have hp1' : w1.heap[w.heap.size + 1]? = some (.cells (tabL (Maps.has opD)).toArray 37 (0, 0)) := by rw [e13]; exact hp1
  clear hp1 e13
  go_wp2_with (first | (at_range; refine wpList_range_own _ rfl _ 66 rfl 9 3 KK Tryd.underlying66 _ (w.heap.size + 1 + 1) 13 opD rfl hown ?_; intro w0 hrg0 hg0 hs0) | go_in)
  go_frame
  go_loopw [] (fun wr => ∃ left cnt, wr.ranges Tryd.prog 9 (plainElem Tryd.prog 3) (w.heap.size + 1 + 1) w1.heap.size 13 opD left cnt ∧ wr.heap[w.heap.size + 1]? = some (.cells (tabL left).toArray 37 (0, 0)) ∧ wr.heap[w.heap.size]? = w1.heap[w.heap.size]? ∧ Below w.heap.size w wr) (fun wr => wr.rangeLeft (w.heap.size + 1 + 1) w1.heap.size)
  case atStart => exact ⟨Maps.has opD, Maps.size opD, hrg0, by rw [hg0.block _ (by omega) (by simp)]; exact hp1', hg0.block _ (by omega) (by simp), hB1.grown hg0 (by omega) (by simp)⟩
  case round =>
    obtain ⟨left, cnt, hrg, hT, hZ, hB⟩ := hrel
    have hsz := hB.size
    have hrlt := hrg.lt
    clear hrg0 hg0 hs0 hp1'
    rw [hp0] at hZ
    have HW1 := hide hp0
    have HT := hide hT
    have HZ := hide hZ
    clear hT hZ hp0 hB1 hown hb1
    go_wp2_with (first | (at_next; refine wpList_next_ranges _ rfl _ rfl 9 KK (plainElem Tryd.prog 3) Value.string (Value.int .i64) (fun key kl hkey => by obtain ⟨t, rfl, _⟩ := string_of_keyOf Tryd.underlying9 hkey; exact ⟨t, rfl⟩) (fun v y hv => by obtain ⟨c, rfl, _⟩ := plainElem_int_inv Tryd.underlying3 hv; exact ⟨c, rfl⟩) (w.heap.size + 1 + 1) w1.heap.size 13 opD left cnt rfl hrg ?_ ?_) | go_in)
    · intro hc0 hl0
      have hT := HT.out
      rw [tab_done hl0] at hT
      have HR := hide (setRow_heap wr _ _ names13 _ _ HZ.out)
      have h1 : names13.all (·.oneCell') = true := by kernel_rfl
      have h2 : names13.size = 13 := rfl
      rw [show (nmL.map fun x => Value.string (ba x)).toArray = names13 from rfl] at hT
      have hn : (Tryd.prog.info? 37).map (·.size) = some names13.size := by kernel_rfl
      generalize hN : names13 = N13 at hT HR hn h1 h2 ⊢
      go_wp2_with (first
        | (refine wpList_load_row rfl _ _ rfl _ rfl _ _ _ _ hT Tryd.underlying37 rfl hn ?_)
        | (refine wpList_plain rfl fun _ hK => wp_store_row _ _ _ rfl _ _ rfl rfl _ _ HZ.out hn h2.symm h1 (hK _ _ ?_)))
      exact bodyPost_ret (results_cell_row Tryd.results13 _ _ _ _ _ _ _ rfl HR.out Tryd.underlying37 rfl hn) rfl ⟨by rw [hN], hB.trans ⟨rfl, rfl, rfl, by simp, fun k hk => setRow_other _ _ _ _ (by omega)⟩⟩
    · intro x c kl y1 y2 w2 cnt1 hkey hlk hv hat hrg1 hlt1 hg1 hs1 hen
      obtain ⟨x', ex, rfl, _⟩ := string_of_keyOf Tryd.underlying9 hkey
      cases ex
      obtain ⟨c', ec, ey, hcw⟩ := plainElem_int_inv Tryd.underlying3 hv
      cases ec
      have hat1 := hat (.lit (.int .i64 (c + 1)))
      rw [opD_at, (Prod.mk.inj ey).1] at hat1
      obtain ⟨o, ho⟩ : ∃ o, opOf x.data.toList = some o := by
        cases e : opOf x.data.toList with
        | none => rw [e] at hat1; have := (Lit.int.inj (DataW.lit.inj hat1)).2; omega
        | some o => exact ⟨o, rfl⟩
      rw [ho] at hat1
      have hc := (Lit.int.inj (DataW.lit.inj hat1)).2
      subst hc
      have hno := opOf_get ho
      have ho13 : o < 13 := (List.getElem?_eq_some_iff.1 hno).1
      have hoi : (o : Int) < 13 := by omega
      have eb : ba x.data.toList = x := by cases x; simp [ba]
      have htm := tab_more (left := left) hno
      rw [eb] at htm
      have hT1 := (hg1.block _ (by omega) (by simp; omega)).trans HT.out
      have hZ1 := (hg1.block _ (by omega) (by simp; omega)).trans HZ.out
      have l13 : (tabL left).length = 13 := by simp [tabL, nmL]
      have q := blk_cell hT1 o
      have gq := blk_frozen hT1 o
      rw [List.getElem?_toArray, List.getElem?_eq_getElem (by omega)] at q
      generalize (tabL left)[o]'(by omega) = vq at q
      have hb2 : Below w.heap.size w w2 := hB.trans ⟨hg1.os, hg1.tape, hg1.output, hg1.size, fun k hk => hg1.block k (by omega) (by simp; omega)⟩
      have HX := hide (And.intro hT1 (And.intro hZ1 (And.intro hb2 htm)))
      clear hT1 hZ1 hb2 htm hat1 hat hg1 HT HZ
      go_wp2_with fail
      have hk : (w2.setCell ⟨w.heap.size + 1, o, none⟩ (.string x)).ranges Tryd.prog 9 (plainElem Tryd.prog 3) (w.heap.size + 1 + 1) w1.heap.size 13 opD _ cnt1 := hrg1.kept (row := some (w.heap.size + 1)) ⟨rfl, rfl, rfl, by simp [World.setCell], fun k hk hn => Below.heap_setCell _ _ _ _ (by simpa using fun e => hn (by rw [e]))⟩ (by simp) (by simp; omega)
      go_roundw
      case rel =>
        obtain ⟨hT1, hZ1, hb2, htm⟩ := HX.out
        exact ⟨_, cnt1, hk, by rw [blk_set _ hT1, htm, List.setIfInBounds_toArray], by rw [blk_set_ne _ hZ1 (by omega), HW1.out], hb2.setCell (by simp) _⟩
      case measure => rw [hk.left_eq, hrg.left_eq]; exact hlt1

end Go.Proofs.YtoikglgnmjjpcaaDoor
