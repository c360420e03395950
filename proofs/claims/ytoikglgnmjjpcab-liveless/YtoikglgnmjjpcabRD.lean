/-
  What a call keeps but for some blocks; run.machine.reckon, walked.
-/
import Derived.Test.YtoikglgnmjjpcabRC
import Derived.Deep.RegionHeld3
import Derived.StillTailTactics
namespace Go.Proofs.Ytoikglgnmjjpcab
open Go.RowKit Go.Maps Go.ChangeMaps
set_option linter.unusedVariables false

/-- Nothing that was there has turned but for the blocks of A. -/
structure Keeps (A : List Nat) (w w' : World) : Prop where
  os : w'.os = w.os
  tape : w'.tape = w.tape
  output : w'.output = w.output
  size : w.heap.size ≤ w'.heap.size
  block : ∀ k, k < w.heap.size → k ∉ A → w'.heap[k]? = w.heap[k]?

theorem Keeps.refl (A : List Nat) (w : World) : Keeps A w w := ⟨rfl, rfl, rfl, Nat.le_refl _, fun _ _ _ => rfl⟩
theorem Keeps.trans {A : List Nat} {a b c : World} (h : Keeps A a b) (k : Keeps A b c) : Keeps A a c :=
  ⟨k.os.trans h.os, k.tape.trans h.tape, k.output.trans h.output, Nat.le_trans h.size k.size, fun i hi hA => (k.block i (Nat.lt_of_lt_of_le hi h.size) hA).trans (h.block i hi hA)⟩
theorem Keeps.mono {A A' : List Nat} {a b : World} (h : Keeps A a b) (hA : ∀ x ∈ A, x ∈ A') : Keeps A' a b :=
  ⟨h.os, h.tape, h.output, h.size, fun i hi hn => h.block i hi (fun hx => hn (hA i hx))⟩
theorem Keeps.drew {A : List Nat} {a w : World} (h : Keeps A a w) : Keeps A a w.drew := ⟨h.os, h.tape, h.output, h.size, h.block⟩
theorem Keeps.drewN {A : List Nat} {a w : World} (h : Keeps A a w) (n : Nat) : Keeps A a (w.drewN n) := ⟨h.os, h.tape, h.output, h.size, h.block⟩
theorem Keeps.alloc {A : List Nat} {a w : World} (h : Keeps A a w) (o : Obj) : Keeps A a (w.alloc o) :=
  ⟨h.os, h.tape, h.output, by simp; have := h.size; omega, fun k hk hA => by rw [Below.heap_alloc _ _ _ (Nat.lt_of_lt_of_le hk h.size)]; exact h.block k hk hA⟩
theorem Keeps.setCell {A : List Nat} {a w : World} (h : Keeps A a w) {p : Addr} (hp : p.block ∈ A) (u : Value) : Keeps A a (w.setCell p u) :=
  ⟨h.os, h.tape, h.output, by simp [World.setCell]; exact h.size, fun k hk hA => by rw [Below.heap_setCell w p u k (fun e => hA (by rw [e]; exact hp))]; exact h.block k hk hA⟩
theorem Keeps.setBlock {A : List Nat} {a w : World} (h : Keeps A a w) {b : Nat} {es : Array MapEntry} {clock : Nat} (hb : w.heap[b]? = some (.map es clock)) (hp : b ∈ A) (o : Obj) : Keeps A a (ChangeMaps.setBlock w b o) :=
  ⟨h.os, h.tape, h.output, by simp [ChangeMaps.setBlock]; exact h.size, fun k hk hA => by rw [heap_setBlock_other (i := k) hb o (fun e => hA (by rw [e]; exact hp))]; exact h.block k hk hA⟩
theorem Keeps.of_below {A : List Nat} {w w' : World} (h : Below w.heap.size w w') : Keeps A w w' := ⟨h.os, h.tape, h.output, h.size, fun k hk _ => h.block k hk⟩
theorem Keeps.below {A : List Nat} {w w' : World} (h : Keeps A w w') {B : Nat} (hA : ∀ x ∈ A, B ≤ x) (hB : B ≤ w.heap.size) : Below B w w' :=
  ⟨h.os, h.tape, h.output, h.size, fun k hk => h.block k (Nat.lt_of_lt_of_le hk hB) (fun hx => by have := hA k hx; omega)⟩
theorem Keeps.cell {A : List Nat} {w w' : World} (h : Keeps A w w') {b i : Nat} (hb : b < w.heap.size) (hA : b ∉ A) : w'.cell? ⟨b, i, none⟩ = w.cell? ⟨b, i, none⟩ := World.cell?_of_block (w := w) (h.block b hb hA)
theorem Keeps.owns {A : List Nat} {w w' : World} (h : Keeps A w w') {base : Nat} {e : TypeId} {size : Nat} {v : Value} {n : Nat} {xs : List Value} (ho : w.ownsRow base e size v n xs) (hA : ∀ x ∈ A, x < base) : w'.ownsRow base e size v n xs := by
  obtain ⟨hl, ho⟩ := ho
  refine ⟨hl, ?_⟩
  rcases ho with ho | ⟨g, cap, cur, rfl, h1, h2, h3⟩
  · exact Or.inl ho
  · refine Or.inr ⟨g, cap, cur, rfl, h1, ?_, h3⟩
    rw [h.block g (blk_lt h2) (fun hx => by have := hA g hx; omega)]; exact h2

theorem own_at {w w' : World} {b n : Nat} {D : DataW Unit} (h : w.ownsMap Try.prog 48 (plainElem Try.prog 3) b n D) (he : w'.heap[b]? = w.heap[b]?) : w'.ownsMap Try.prog 48 (plainElem Try.prog 3) b n D := by
  obtain ⟨es, clock, hb, F, hs, hD⟩ := h
  exact ⟨es, clock, by rw [he]; exact hb, F, hs, hD⟩

theorem small_wf {n : Int} (h0 : 0 ≤ n) (h1 : n ≤ 1000000) : (Lit.int .i64 n).wf = true := by
  simp [Lit.wf, IntKind.min, IntKind.max, IntKind.signed, IntKind.bits]; omega

set_option maxHeartbeats 1000000 in
set_option maxRecDepth 100000 in
theorem reckonM_any (mb rb mp : Nat) (v0 v1 v2 v3 v4 v5 v6 v7 : Value) (rc : Nat) (ra : Array Value) (regs : List Int) (n : Nat) (D : DataW Unit) (x : Nd) (w : World)
    (hm : w.heap[mb]? = some (.cells #[v0, v1, v2, v3, v4, v5, v6, v7, .slice (some ⟨rb, 0, none⟩) regs.length rc, .map (some mp)] 75 (0, 0)))
    (hr : w.heap[rb]? = some (.cells (regs.map (Value.int .i64)).toArray 3 (0, 0)))
    (ho : w.ownsMap Try.prog 48 (plainElem Try.prog 3) mp n D) (hn : n ≤ 1000000) (hne : mb ≠ rb ∧ mb ≠ mp ∧ rb ≠ mp)
    (hop : 3 ≤ x.op ∧ x.op ≤ 8) (hd : 0 ≤ x.d ∧ x.d < regs.length) (ha : 0 ≤ x.a ∧ x.a < regs.length) (hb : 0 ≤ x.b ∧ x.b < regs.length) (hl : regs.length ≤ 64) :
    Calls Try.prog 46 #[.pointer (some ⟨mb, 0, none⟩), .agg #[.int .i64 x.op, .int .i64 x.d, .int .i64 x.a, .int .i64 x.b, .int .i64 x.t, .int .i64 x.e]] w fun e w' => e = .returned (.tuple #[]) ∧
      w'.heap[rb]? = some (.cells ((setR regs x.d (rk x.op (getR regs x.a) (getR regs x.b))).map (Value.int .i64)).toArray 3 (0, 0)) ∧
      (∃ c : Int, D.atKey (tkl (tmOf x)) (.lit (.int .i64 0)) = .lit (.int .i64 c) ∧ w'.ownsMap Try.prog 48 (plainElem Try.prog 3) mp (n + 1) (D.put (tkl (tmOf x)) (.lit (.int .i64 (wrap64 (c + 1)))))) ∧
      Keeps [rb, mp] w w' := by
  obtain ⟨hd0, hd1⟩ := hd
  obtain ⟨ha0, ha1⟩ := ha
  obtain ⟨hb0, hb1⟩ := hb
  obtain ⟨dn, hdn⟩ := Int.eq_ofNat_of_zero_le hd0
  obtain ⟨an, han⟩ := Int.eq_ofNat_of_zero_le ha0
  obtain ⟨bn, hbn⟩ := Int.eq_ofNat_of_zero_le hb0
  obtain ⟨op, d, a, b, t, e⟩ := x
  simp only at *
  subst hdn han hbn
  have ho1 := hop.1
  have ho2 := hop.2
  have hml := blk_lt hm
  have hrl := blk_lt hr
  have m8 := blk_cell hm 8
  have m9 := blk_cell hm 9
  simp at m8 m9
  have ra' := blk_cell hr an
  have rb' := blk_cell hr bn
  have rd' := blk_cell hr dn
  have rf' := blk_frozen hr dn
  have hza : ((regs.map (Value.int .i64)).toArray)[an]? = some (.int .i64 (getR regs (an : Int))) := by simp [getR]; rw [List.getElem?_eq_getElem (by omega)]; simp
  have hzb : ((regs.map (Value.int .i64)).toArray)[bn]? = some (.int .i64 (getR regs (bn : Int))) := by simp [getR]; rw [List.getElem?_eq_getElem (by omega)]; simp
  have hzd : ((regs.map (Value.int .i64)).toArray)[dn]? = some (.int .i64 (getR regs (dn : Int))) := by simp [getR]; rw [List.getElem?_eq_getElem (by omega)]; simp
  rw [hza] at ra'
  rw [hzb] at rb'
  rw [hzd] at rd'
  clear hza hzb hzd
  go_enter Try.func46, Try.ntmps46
  go_wp2_with fail
  refine (term_yes _ _ _ _ _ _ _ ho1 ho2).mono ?_
  rintro e1 w1 ⟨rfl, hb1⟩
  have hs1 := hb1.size
  simp only [World.size_alloc] at hs1 hb1
  go_wp2
  have hne1 := hne.1
  have hne2 := hne.2.1
  have hne3 := hne.2.2
  have K1 : Keeps [] w (w1.alloc (.cells #[.int .i64 op, .int .i64 an, .int .i64 bn] 48)) := (((Keeps.refl [] w).alloc _).trans (Keeps.of_below (by simpa using hb1))).alloc _
  have n1 : (w1.alloc (.cells #[.int .i64 op, .int .i64 an, .int .i64 bn] 48)).cell? ⟨w.heap.size, 1, none⟩ = some (.int .i64 dn) := by
    rw [World.cell?_alloc_past _ _ _ (by omega), hb1.cell (p := ⟨w.heap.size, 1, none⟩) (by simp)]; simp
  have t0 : (w1.alloc (.cells #[.int .i64 op, .int .i64 an, .int .i64 bn] 48)).cell? ⟨w1.heap.size, 0, none⟩ = some (.int .i64 op) := by simp
  have t1 : (w1.alloc (.cells #[.int .i64 op, .int .i64 an, .int .i64 bn] 48)).cell? ⟨w1.heap.size, 1, none⟩ = some (.int .i64 an) := by simp
  have t2 : (w1.alloc (.cells #[.int .i64 op, .int .i64 an, .int .i64 bn] 48)).cell? ⟨w1.heap.size, 2, none⟩ = some (.int .i64 bn) := by simp
  have hw1w : w.heap.size < w1.heap.size := by omega
  have hs1' : w1.heap.size < (w1.alloc (.cells #[.int .i64 op, .int .i64 an, .int .i64 bn] 48)).heap.size := by simp
  clear hb1
  generalize w1.alloc (.cells #[.int .i64 op, .int .i64 an, .int .i64 bn] 48) = W1 at K1 n1 t0 t1 t2 hs1' ⊢
  have hmp : mp < w.heap.size := ho.lt
  have m8' := (K1.cell (i := 8) hml (by simp)).trans m8
  have m9' := (K1.cell (i := 9) hml (by simp)).trans m9
  have ra1 := (K1.cell (i := an) hrl (by simp)).trans ra'
  have rb1 := (K1.cell (i := bn) hrl (by simp)).trans rb'
  have rd1 := (K1.cell (i := dn) hrl (by simp)).trans rd'
  have hr1 : W1.heap[rb]? = _ := (K1.block rb hrl (by simp)).trans hr
  have rf1 := blk_frozen hr1 dn
  have ho' := own_at ho (K1.block mp hmp (by simp))
  clear m8 m9 ra' rb' rd' rf'
  refine wp_region_still_tail 26 (by kernel_rfl) (by kernel_rfl) ?_
  simp only [List.take_succ_cons, List.take_zero, List.drop_succ_cons, List.drop_zero]
  repeat still_step
  still_call (value_any _ _ _ _)
  repeat still_step
  refine wpStill_nil ?_
  go_wp2
  have K2 : Keeps [rb, mp] w (W1.setCell ⟨rb, dn, none⟩ (.int .i64 (rk op (getR regs an) (getR regs bn)))).drew := ((K1.mono (by simp)).setCell (p := ⟨rb, dn, none⟩) (by simp) _).drew
  have hr2 : (W1.setCell ⟨rb, dn, none⟩ (.int .i64 (rk op (getR regs an) (getR regs bn)))).drew.heap[rb]? = some (.cells ((setR regs dn (rk op (getR regs an) (getR regs bn))).map (Value.int .i64)).toArray 3 (0, 0)) := by
    have h2 := blk_set (i := dn) (.int .i64 (rk op (getR regs an) (getR regs bn))) hr1
    rw [show (setR regs (dn : Int) (rk op (getR regs an) (getR regs bn))) = regs.set dn (rk op (getR regs an) (getR regs bn)) from rfl]
    rw [List.map_set]
    have h3 : (W1.setCell ⟨rb, dn, none⟩ (.int .i64 (rk op (getR regs an) (getR regs bn)))).heap[rb]? = _ := h2
    show (W1.setCell ⟨rb, dn, none⟩ (.int .i64 (rk op (getR regs an) (getR regs bn)))).heap[rb]? = _
    rw [h3]; simp
  have ho2' := own_at (w' := (W1.setCell ⟨rb, dn, none⟩ (.int .i64 (rk op (getR regs an) (getR regs bn)))).drew) ho' (Below.heap_setCell _ _ _ _ (by exact fun e => hne3 e.symm))
  have m92 : (W1.setCell ⟨rb, dn, none⟩ (.int .i64 (rk op (getR regs an) (getR regs bn)))).drew.cell? ⟨mb, 9, none⟩ = some (.map (some mp)) := (World.cell?_of_block (w := W1) (Below.heap_setCell _ _ _ _ (by exact hne1))).trans m9'
  have htb : w1.heap.size ≠ rb := by omega
  have t02 : (W1.setCell ⟨rb, dn, none⟩ (.int .i64 (rk op (getR regs an) (getR regs bn)))).drew.cell? ⟨w1.heap.size, 0, none⟩ = some (.int .i64 op) := (World.cell?_of_block (w := W1) (Below.heap_setCell _ _ _ _ (by exact htb))).trans t0
  have t12 : (W1.setCell ⟨rb, dn, none⟩ (.int .i64 (rk op (getR regs an) (getR regs bn)))).drew.cell? ⟨w1.heap.size, 1, none⟩ = some (.int .i64 an) := (World.cell?_of_block (w := W1) (Below.heap_setCell _ _ _ _ (by exact htb))).trans t1
  have t22 : (W1.setCell ⟨rb, dn, none⟩ (.int .i64 (rk op (getR regs an) (getR regs bn)))).drew.cell? ⟨w1.heap.size, 2, none⟩ = some (.int .i64 bn) := (World.cell?_of_block (w := W1) (Below.heap_setCell _ _ _ _ (by exact htb))).trans t2
  have htm : w1.heap.size ≠ mp := by omega
  clear m8' m9' ra1 rb1 rd1 hr1 rf1 ho' n1 t0 t1 t2 hs1' K1
  generalize (W1.setCell ⟨rb, dn, none⟩ (.int .i64 (rk op (getR regs an) (getR regs bn)))).drew = W2 at K2 hr2 ho2' m92 t02 t12 t22 ⊢
  have hkey := tkey (tmOf ⟨op, dn, an, bn, t, e⟩) (small_wf (by simp [tmOf]; omega) (by simp [tmOf]; omega)) (small_wf (by simp [tmOf]) (by simp [tmOf]; omega)) (small_wf (by simp [tmOf]) (by simp [tmOf]; omega))
  have hod : W2.drew.ownsMap Try.prog 48 (plainElem (H := Unit) Try.prog 3) mp n D := ho2'
  obtain ⟨c, v0', st, es1, clock1, hat, hlook, hent, hlook2, hstore⟩ := own_entry hod tlaw Try.underlying73 Try.underlying3 zero_int (by unfold maxLen; omega) hkey
  obtain ⟨es2, clock2, hst, hown⟩ := hstore (wrap64 (c + 1)) (wrap64_wf _)
  have hst' : Sem.run Try.prog (Instr.entryStore 73 (.map (some mp)) (.int .i64 (st : Int)) (.int .i64 (IntKind.i64.wrap (c + 1)))) (setBlock W2.drew mp (.map es1 clock1)) = .ok () (setBlock (setBlock W2.drew mp (.map es1 clock1)) mp (.map es2 clock2)) := by rw [IntWalk.i64_left]; exact hst
  clear hst
  obtain ⟨es0, clock0, hbm, _⟩ := hod
  have hbm' : (setBlock W2.drew mp (.map es1 clock1)).heap[mp]? = some (.map es1 clock1) := heap_setBlock_same hbm _
  have K3 : Keeps [rb, mp] w (setBlock (setBlock W2.drew mp (.map es1 clock1)) mp (.map es2 clock2)) := (K2.drew.setBlock hbm (by simp) _).setBlock hbm' (by simp) _
  have hr3 : (setBlock (setBlock W2.drew mp (.map es1 clock1)) mp (.map es2 clock2)).heap[rb]? = _ := ((heap_setBlock_other hbm' _ hne3).trans (heap_setBlock_other hbm _ hne3)).trans hr2
  have HD := hide (And.intro hr3 (And.intro hat (And.intro hown K3)))
  have S1 := hide (And.intro m92 (And.intro t02 (And.intro t12 t22)))
  have S2 : Hid ((setBlock W2.drew mp (.map es1 clock1)).cell? ⟨mb, 9, none⟩ = some (.map (some mp)) ∧ (setBlock W2.drew mp (.map es1 clock1)).cell? ⟨w1.heap.size, 0, none⟩ = some (.int .i64 op) ∧ (setBlock W2.drew mp (.map es1 clock1)).cell? ⟨w1.heap.size, 1, none⟩ = some (.int .i64 an) ∧ (setBlock W2.drew mp (.map es1 clock1)).cell? ⟨w1.heap.size, 2, none⟩ = some (.int .i64 bn)) :=
    ⟨(World.cell?_of_block (w := W2.drew) (heap_setBlock_other hbm _ hne2)).trans m92, (World.cell?_of_block (w := W2.drew) (heap_setBlock_other hbm _ htm)).trans t02, (World.cell?_of_block (w := W2.drew) (heap_setBlock_other hbm _ htm)).trans t12, (World.cell?_of_block (w := W2.drew) (heap_setBlock_other hbm _ htm)).trans t22⟩
  have S3 : Hid ((setBlock (setBlock W2.drew mp (.map es1 clock1)) mp (.map es2 clock2)).cell? ⟨mb, 9, none⟩ = some (.map (some mp)) ∧ (setBlock (setBlock W2.drew mp (.map es1 clock1)) mp (.map es2 clock2)).cell? ⟨w1.heap.size, 0, none⟩ = some (.int .i64 op) ∧ (setBlock (setBlock W2.drew mp (.map es1 clock1)) mp (.map es2 clock2)).cell? ⟨w1.heap.size, 1, none⟩ = some (.int .i64 an) ∧ (setBlock (setBlock W2.drew mp (.map es1 clock1)) mp (.map es2 clock2)).cell? ⟨w1.heap.size, 2, none⟩ = some (.int .i64 bn)) :=
    ⟨(World.cell?_of_block (w := setBlock W2.drew mp (.map es1 clock1)) (heap_setBlock_other hbm' _ hne2)).trans S2.out.1, (World.cell?_of_block (w := setBlock W2.drew mp (.map es1 clock1)) (heap_setBlock_other hbm' _ htm)).trans S2.out.2.1, (World.cell?_of_block (w := setBlock W2.drew mp (.map es1 clock1)) (heap_setBlock_other hbm' _ htm)).trans S2.out.2.2.1, (World.cell?_of_block (w := setBlock W2.drew mp (.map es1 clock1)) (heap_setBlock_other hbm' _ htm)).trans S2.out.2.2.2⟩
  simp only [tmOf] at hlook hent hlook2
  clear hstore hbm hbm' hr3 hat hown K3 K2 hr2 ho2' hkey
  go_region_held3 (fun u => u.cell? ⟨mb, 9, none⟩ = some (.map (some mp)) ∧ u.cell? ⟨w1.heap.size, 0, none⟩ = some (.int .i64 op) ∧ u.cell? ⟨w1.heap.size, 1, none⟩ = some (.int .i64 an) ∧ u.cell? ⟨w1.heap.size, 2, none⟩ = some (.int .i64 bn)) (first | exact S1.out | exact S2.out | exact S3.out) (fail)
  all_goals go_wp2
  all_goals go_end0
  all_goals exact ⟨rfl, HD.out.1, ⟨c, HD.out.2.1, HD.out.2.2.1⟩, HD.out.2.2.2⟩
end Go.Proofs.Ytoikglgnmjjpcab
