/-
  hoistwaylaw.textBegun and hoistwaylaw.TextBack, walked.
-/
import Derived.Test.YtoikglgnmjjpcaaDoorTP
import Derived.Test.YtoikglgnmjjpcaaDoorLK
import Derived.Deep.RegionHeld3
namespace Go.Proofs.YtoikglgnmjjpcaaDoor
open Go.RowKit Go.Maps Go.ChangeMaps
set_option linter.unusedVariables false

theorem small_chk : chk 3 smallN = 0 := by decide
theorem small_fit : ∀ x ∈ smallN, -9223372036854775808 ≤ x.a ∧ x.a ≤ 9223372036854775807 := by decide
theorem readB_show {r : Int} {ns : List Nd} (hc : chk r ns = 0) (ha : ∀ x ∈ ns, -9223372036854775808 ≤ x.a ∧ x.a ≤ 9223372036854775807) : readB (showB r ns) = some (r, ns) := by
  unfold readB
  rw [rdP_show hc ha]
  simp [hc]

theorem readB_inv {l : List UInt8} {r : Int} {ns : List Nd} (h : readB l = some (r, ns)) : chk r ns = 0 ∧ showB r ns = l ∧ ∀ x ∈ ns, -9223372036854775808 ≤ x.a ∧ x.a ≤ 9223372036854775807 := by
  unfold readB at h
  split at h
  · cases h
  · rename_i r' ns' e
    split at h
    · rename_i hq
      simp at h
      obtain ⟨rfl, rfl⟩ := h
      exact ⟨hq.1, hq.2, rdP_fit e⟩
    · cases h

theorem show_size {r : Int} {ns : List Nd} (hc : chk r ns = 0) (ha : ∀ x ∈ ns, -9223372036854775808 ≤ x.a ∧ x.a ≤ 9223372036854775807) : (showB r ns).length ≤ 140737488355328 := by
  obtain ⟨hl, hr, _⟩ := chk_full hc
  have := show_len (r := r) (by omega) ns (fun x hx => tx_of hc hx (ha x hx))
  omega

set_option maxHeartbeats 8000000 in
set_option maxRecDepth 100000 in
theorem textBegun_any (w : World) (hE : Env w) :
    Calls Tryd.prog 10 #[] w fun e w' => e = .returned (.bool true) ∧ Below w.heap.size w w' := by
  have hsl : (showB 3 smallN).length ≤ 140737488355328 := show_size small_chk small_fit
  have hrd := readB_show small_chk small_fit
  have hsh : ∀ (u : World) (b : Nat), Env u → NodesAt u b 0 smallN → Calls Tryd.prog 5 #[.agg #[.int .i64 3, .slice (some ⟨b, 0, none⟩) 7 7]] u fun e w' => e = .returned (.tuple #[.string (ba (showB 3 smallN)), .int .i64 0]) ∧ Below u.heap.size u w' := fun u b hu hN => show_ok 3 (some ⟨b, 0, none⟩) 7 smallN u (Or.inr ⟨b, 0, rfl, hN⟩) hu small_fit small_chk
  have hre : ∀ (u : World), Env u → Calls Tryd.prog 8 #[.string (ba (showB 3 smallN))] u fun e w' => (∃ a cap, e = .returned (.tuple #[.agg #[.int .i64 3, .slice a 7 cap], .int .i64 0]) ∧ SlN w' a smallN) ∧ Below u.heap.size u w' := fun u hu => by
    have := read_any (showB 3 smallN) u hu hsl
    rw [hrd] at this
    exact this
  have hst : (ba (showB 3 smallN)).data.toList = [114, 101, 103, 115, 32, 51, 10, 105, 110, 32, 48, 32, 116, 111, 32, 49, 10, 105, 110, 32, 49, 32, 116, 111, 32, 50, 10, 105, 102, 32, 48, 32, 116, 111, 32, 51, 32, 101, 108, 115, 101, 32, 53, 10, 97, 100, 100, 32, 50, 32, 48, 32, 49, 32, 116, 111, 32, 52, 10, 111, 117, 116, 32, 50, 32, 116, 111, 32, 53, 10, 97, 100, 100, 32, 50, 32, 48, 32, 49, 32, 116, 111, 32, 54, 10, 101, 110, 100, 32, 50, 10] := by
    rw [ba_list]; decide +kernel
  have hcmp : ((ba (showB 3 smallN)).toList == [114, 101, 103, 115, 32, 51, 10, 105, 110, 32, 48, 32, 116, 111, 32, 49, 10, 105, 110, 32, 49, 32, 116, 111, 32, 50, 10, 105, 102, 32, 48, 32, 116, 111, 32, 51, 32, 101, 108, 115, 101, 32, 53, 10, 97, 100, 100, 32, 50, 32, 48, 32, 49, 32, 116, 111, 32, 52, 10, 111, 117, 116, 32, 50, 32, 116, 111, 32, 53, 10, 97, 100, 100, 32, 50, 32, 48, 32, 49, 32, 116, 111, 32, 54, 10, 101, 110, 100, 32, 50, 10]) = true := by rw [ByteArray.toList_eq, hst]; exact beq_self_eq_true _
  clear hst
  generalize ba (showB 3 smallN) = A at hsh hre hcmp
  go_enter Tryd.func10, Tryd.ntmps10
  go_upto_region 3 with (first
    | (go_at_call 26; refine (small_any _).mono ?_; rintro e w1 ⟨rfl, hN1, hb1⟩)
    | (go_at_call 5; refine (hsh _ _ (hE.below hb1) hN1).mono ?_; rintro e w2 ⟨rfl, hb2⟩)
    | (go_at_call 8; refine (hre _ (hE.below (hb1.trans (hb2.mono hb1.size)))).mono ?_; rintro e w3 ⟨⟨a, cap, rfl, hN3⟩, hb3⟩))
  have hs1 := hb1.size
  have hs2 := hb2.size
  have hs3 := hb3.size
  have HB3 := hide (((hb1.trans (hb2.mono hs1)).trans (hb3.mono (by omega))).alloc (by omega) (.cells #[.int .i64 3, .slice a 7 cap] 24))
  have HN3 := hide (hN3.below ((Below.refl w3.heap.size w3).alloc (Nat.le_refl _) (.cells #[.int .i64 3, .slice a 7 cap] 24)))
  have HC : Hid (∀ u, Below (w3.heap.size + 1) (w3.alloc (.cells #[.int .i64 3, .slice a 7 cap] 24)) u → u.cell? ⟨w3.heap.size, 0, none⟩ = some (.int .i64 3) ∧ u.cell? ⟨w3.heap.size, 1, none⟩ = some (.slice a 7 cap)) := fun u h => by
    have k1 := (h.block w3.heap.size (by omega)).trans (blkn rfl)
    exact ⟨by rw [blk_cell k1]; rfl, by rw [blk_cell k1]; rfl⟩
  have hw4 : (w3.alloc (.cells #[.int .i64 3, .slice a 7 cap] 24)).heap.size = w3.heap.size + 1 := by simp
  generalize (w3.alloc (.cells #[.int .i64 3, .slice a 7 cap] 24)) = V at HB3 HN3 HC hw4 ⊢
  obtain ⟨c0, c1⟩ := HC.out V (Below.refl _ _)
  have hVs : w3.heap.size < V.heap.size := by omega
  have hLE : Below V.heap.size V V.drew := (Below.refl _ _).drew
  clear hsh hre hb1 hb2 hb3 hN1 hN3 hE
  have HCV : Hid (∀ u, Below V.heap.size V u → u.cell? ⟨w3.heap.size, 0, none⟩ = some (.int .i64 3) ∧ u.cell? ⟨w3.heap.size, 1, none⟩ = some (.slice a 7 cap)) := fun u h => HC.out u (by rw [← hw4]; exact h)
  clear HC hw4
  go_region_held3 (fun u => u.cell? ⟨w3.heap.size, 0, none⟩ = some (.int .i64 3) ∧ u.cell? ⟨w3.heap.size, 1, none⟩ = some (.slice a 7 cap)) (first
    | (with_reducible refine HCV.out _ ?_; first | with_reducible exact hbW | with_reducible exact hbV | with_reducible exact (Below.refl _ _).drew | with_reducible exact (Below.refl _ _))) (first
    | (go_at_call 26; refine (small_any _).mono ?_; rintro e V1 ⟨rfl, hNs, hbs⟩; have hbV : Below V.heap.size V V1 := hLE.trans hbs)
    | (go_at_call 11; refine (sameProgs_same 3 _ _ _ _ smallN _ (HN3.out.below hbV) (Or.inr ⟨_, _, rfl, hNs⟩) (by decide)).mono ?_; rintro e V2 ⟨rfl, hb5⟩; have hbW : Below V.heap.size V V2 := hbV.trans (hb5.mono hbV.size)))
  all_goals
    go_wp2_with fail
    go_ret
    exact ⟨rfl, HB3.out.trans (hbW.mono (by omega))⟩

end Go.Proofs.YtoikglgnmjjpcaaDoor
