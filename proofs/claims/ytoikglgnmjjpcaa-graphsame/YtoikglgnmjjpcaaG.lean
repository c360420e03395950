/-
  hoistwayref.leads, NextOf and AheadOf, walked.
-/
import Derived.Test.YtoikglgnmjjpcaaF
import Derived.Test.YtoikglgnmjjpcaaP
namespace Go.Proofs.Ytoikglgnmjjpcaa
open Go.RowKit
set_option linter.unusedVariables false

theorem ownsRow_below {w w' : World} {base : Nat} {e : TypeId} {size : Nat} {v : Value} {n : Nat} {xs : List Value} (h : w.ownsRow base e size v n xs) {B : Nat} (hb : Below B w w') (hB : w.heap.size ≤ B) : w'.ownsRow base e size v n xs := by
  obtain ⟨hl, h⟩ := h
  refine ⟨hl, ?_⟩
  rcases h with h | ⟨g, cap, cur, rfl, h1, h2, h3, h4, h5, h6⟩
  · exact Or.inl h
  · refine Or.inr ⟨g, cap, cur, rfl, h1, ?_, h3, h4, h5, h6⟩
    have hg : g < w.heap.size := (Array.getElem?_eq_some_iff.1 h2).1
    rw [hb.block g (by omega)]; exact h2

theorem ownsRow_base {w : World} {base base' : Nat} {e : TypeId} {size : Nat} {v : Value} {n : Nat} {xs : List Value} (h : w.ownsRow base e size v n xs) (hB : base' ≤ base) : w.ownsRow base' e size v n xs := by
  obtain ⟨hl, h⟩ := h
  refine ⟨hl, ?_⟩
  rcases h with h | ⟨g, cap, cur, rfl, h1, h2⟩
  · exact Or.inl h
  · exact Or.inr ⟨g, cap, cur, rfl, by omega, h2⟩

theorem ints_of_owns {w : World} {base : Nat} {e : TypeId} {v : Value} {zs : List Int} (h : w.ownsRow base e 1 v zs.length (zs.map (Value.int .i64))) : ∃ a cap, v = .slice a zs.length cap ∧ IntsAt w a zs := by
  have hc : ∀ g, v.ownBlock = some g → ∀ j u, (zs.map (Value.int .i64))[j]? = some u → w.cell? ((⟨g, 0, none⟩ : Addr).add j) = some u := fun g hg => h.cells hg
  obtain ⟨_, h⟩ := h
  rcases h with ⟨rfl, h0⟩ | ⟨g, cap, cur, rfl, h1, h2, h3, h4, h5, h6⟩
  · have : zs = [] := by cases zs; rfl; simp at h0
    subst this
    exact ⟨none, 0, rfl, Or.inl rfl⟩
  · refine ⟨_, cap, rfl, Or.inr ⟨g, 0, rfl, (Array.getElem?_eq_some_iff.1 h2).1, ?_⟩⟩
    intro j z hz
    have := hc g rfl j (.int .i64 z) (by simp [hz])
    have e : (⟨g, 0, none⟩ : Addr).add j = ⟨g, 0 + j, none⟩ := by cases j <;> simp [Addr.add]
    rw [e] at this; exact this

theorem info_int : (Try.prog.info? 3).map (fun i => (i.zero, i.size, i.bytes)) = some (some (.int .i64 0), 1, 8) := by kernel_rfl

set_option maxHeartbeats 1000000 in
theorem leads_any (r : Int) (b off cap : Nat) (ns : List Nd) (n m : Nat) (x : Nd) (w : World) (hN : NodesAt w b off ns) (hx : ns[n]? = some x) :
    Calls Try.prog 62 #[.agg #[.int .i64 r, .slice (some ⟨b, off, none⟩) ns.length cap], .int .i64 n, .int .i64 m] w fun e w' => e = .returned (.bool (ldB x m)) ∧ Below w.heap.size w w' := by
  have h : n < ns.length := (List.getElem?_eq_some_iff.1 hx).1
  have hb := hN.lt
  have c0 := hN.c0 n x hx
  have c1 := hN.c1 n x hx
  have c2 := hN.c2 n x hx
  have c3 := hN.c3 n x hx
  have c4 := hN.c4 n x hx
  have c5 := hN.c5 n x hx
  obtain ⟨op, d, a, bb, t, e⟩ := x
  simp only at c0 c1 c2 c3 c4 c5
  clear hx hN
  go_enter Try.func62, Try.ntmps62
  go_wp2
  all_goals go_ret
  all_goals refine ⟨ret_bool ?_, ((Below.refl _ _).alloc (Nat.le_refl _) _).alloc (by simp) _⟩
  all_goals simp [ldB, *]

set_option maxHeartbeats 1000000 in
theorem nextOf_any (r : Int) (b off cap : Nat) (ns : List Nd) (n : Nat) (x : Nd) (w : World) (hN : NodesAt w b off ns) (hl : ns.length ≤ 256) (hx : ns[n]? = some x) :
    Calls Try.prog 16 #[.agg #[.int .i64 r, .slice (some ⟨b, off, none⟩) ns.length cap], .int .i64 n] w fun e w' => ∃ v, e = .returned v ∧ w'.ownsRow w.heap.size 3 1 v (pick (ldB x) ns.length).length ((pick (ldB x) ns.length).map (Value.int .i64)) ∧ Below w.heap.size w w' := by
  have HX := hide hx
  clear hx
  obtain ⟨i0, hi, hz0, hz1, hz2⟩ := info_parts info_int
  go_enter Try.func16, Try.ntmps16
  go_wp2
  have q0 : (w.alloc (.cells #[.int .i64 r, .slice (some ⟨b, off, none⟩) ns.length cap] 24)).cell? ⟨w.heap.size, 0, none⟩ = some (.int .i64 r) := by simp
  have q1 : (w.alloc (.cells #[.int .i64 r, .slice (some ⟨b, off, none⟩) ns.length cap] 24)).cell? ⟨w.heap.size, 1, none⟩ = some (.slice (some ⟨b, off, none⟩) ns.length cap) := by simp
  have hN1 : NodesAt (w.alloc (.cells #[.int .i64 r, .slice (some ⟨b, off, none⟩) ns.length cap] 24)) b off ns := hN.below ((Below.refl w.heap.size w).alloc (Nat.le_refl _) _) hN.lt
  have hB1 : Below w.heap.size w (w.alloc (.cells #[.int .i64 r, .slice (some ⟨b, off, none⟩) ns.length cap] 24)) := (Below.refl w.heap.size w).alloc (Nat.le_refl _) _
  have hS1 : (w.alloc (.cells #[.int .i64 r, .slice (some ⟨b, off, none⟩) ns.length cap] 24)).heap.size = w.heap.size + 1 := by simp
  have hblt := hN.lt
  clear hN
  generalize w.alloc (.cells #[.int .i64 r, .slice (some ⟨b, off, none⟩) ns.length cap] 24) = W at q0 q1 hN1 hB1 hS1 ⊢
  go_loopw [5, 6] (fun v i wr => ∃ k : Nat, k ≤ ns.length ∧ i = .int .i64 k ∧ wr.ownsRow (w.heap.size + 1) 3 1 v (pick (ldB x) k).length ((pick (ldB x) k).map (Value.int .i64)) ∧ Below (w.heap.size + 1) W wr) (fun _ i _ => ns.length - (intOf i).toNat)
  case atStart => exact ⟨0, Nat.zero_le _, rfl, World.ownsRow_nil _ _ _ _, Below.refl _ _⟩
  case round =>
    obtain ⟨k, hk, rfl, hown, hb⟩ := hrel
    have hsz := hb.size
    have hN2 := hN1.below hb (by omega)
    have p0 : wr.cell? ⟨w.heap.size, 0, none⟩ = some (.int .i64 r) := by rw [hb.cell (p := ⟨w.heap.size, 0, none⟩) (by simp)]; exact q0
    have p1 : wr.cell? ⟨w.heap.size, 1, none⟩ = some (.slice (some ⟨b, off, none⟩) ns.length cap) := by rw [hb.cell (p := ⟨w.heap.size, 1, none⟩) (by simp)]; exact q1
    have hsw : w.heap.size < wr.heap.size := by omega
    by_cases hlt : k < ns.length
    · go_wp2_with fail
      refine (leads_any r b off cap ns n k x wr hN2 HX.out).mono ?_
      rintro e w1 ⟨rfl, hb1⟩
      have hs1 := hb1.size
      have hown1 := ownsRow_below hown hb1 (Nat.le_refl _)
      have hB2 : Below (w.heap.size + 1) W w1 := hb.trans (hb1.mono (by omega))
      clear hown hb hb1 p0 p1 hN2
      cases hld : ldB x k
      · go_wp2
        go_roundw
        case rel => exact ⟨k + 1, by omega, by go_num, by rw [pick_no hld]; exact hown1, hB2⟩
        case measure => simp [intOf]; omega
      · have hpl := pick_len (ldB x) k
        go_wp2_with (at_builtin; refine wpList_append_own _ rfl (.tmp 18) (.tmp 20) 25 rfl (w.heap.size + 1) 3 i0 (.int .i64 0) 1 8 Try.underlying25 hi hz0 hz1 hz2 rfl (by decide) _ _ _ rfl (hown1.alloc _) ⟨w1.heap.size, 0, none⟩ 1 1 [.int .i64 k] rfl rfl ?c1 ?c2 ?c3 ?c4 ?c5 ?_)
        case c1 =>
          intro j u hj
          match j, hj with
          | 0, hj => simp at hj; subst hj; simp [Addr.add]
        case c2 => intro u hu; simp at hu; subst hu; rfl
        case c3 => unfold maxLen; omega
        case c4 => omega
        case c5 => simp; omega
        intro v' w2 hown2 hg2 _
        have hlt1 := hown1.lt
        have hB3 : Below (w.heap.size + 1) W w2 := (hB2.alloc (by omega) _).grown hg2 (by simp; omega) (fun k hk => (hlt1 k hk).1)
        have hown3 : w2.ownsRow (w.heap.size + 1) 3 1 v' (pick (ldB x) (k + 1)).length ((pick (ldB x) (k + 1)).map (Value.int .i64)) := by
          rw [pick_yes hld]; simpa using hown2
        clear hown2 hg2 hlt1 hown1
        go_wp2
        go_roundw
        case rel => exact ⟨k + 1, by omega, by go_num, hown3, hB3⟩
        case measure => simp [intOf]; omega
    · have ek : k = ns.length := by omega
      have HK := hide ek
      clear ek
      go_wp2
      go_ret
      refine ⟨_, rfl, ?_, hB1.trans (hb.mono (by omega))⟩
      rw [← HK.out]
      exact ownsRow_base hown (by omega)
end Go.Proofs.Ytoikglgnmjjpcaa
