/-
  run.Run whatever it is handed; plain facts on runs with more fuel.
-/
import Derived.Test.YtoikglgnmjjpcaaRX
namespace Go.Proofs.Ytoikglgnmjjpcaa
open Go.RowKit
set_option linter.unusedVariables false

/-- What Run answers: nothing where something is wrong. -/
def res (r : Int) (ns : List Nd) (inp : List Int) (fuel : Int) : St := if rerr r ns inp.length fuel = 0 then fin r ns inp fuel else st0 0 []

theorem stp_out (x : Nd) (s : St) : s.out <+: (stp x s).out ∧ (stp x s).out.length ≤ s.out.length + 1 := by
  unfold stp; repeat' split
  all_goals simp

theorem stp_cts (x : Nd) (s : St) : (stp x s).cts.length ≤ s.cts.length + 1 := by
  unfold stp; repeat' split
  all_goals (try simp)
  exact omore_len _ _

theorem runN_out {ns : List Nd} : ∀ (n : Nat) (s : St), s.out <+: (runN ns n s).out ∧ (runN ns n s).out.length ≤ s.out.length + n
  | 0, s => by simp [runN]
  | n + 1, s => by
    simp only [runN]
    split
    · simp
    · split
      · rename_i x _
        have h1 := runN_out (ns := ns) n (stp x s)
        have h2 := stp_out x s
        exact ⟨h2.1.trans h1.1, by omega⟩
      · simp

theorem runN_cts {ns : List Nd} : ∀ (n : Nat) (s : St), (runN ns n s).cts.length ≤ s.cts.length + n
  | 0, s => by simp [runN]
  | n + 1, s => by
    simp only [runN]
    split
    · omega
    · split
      · rename_i x _
        have h1 := runN_cts (ns := ns) n (stp x s)
        have h2 := stp_cts x s
        omega
      · omega

theorem runN_steps {r : Int} {ns : List Nd} (ok : ∀ x ∈ ns, NodeOk r ns.length x) : ∀ (n : Nat) (s : St), s.pc < ns.length → s.steps ≤ (runN ns n s).steps ∧ ((runN ns n s).ended = false → (runN ns n s).steps = s.steps + n)
  | 0, s, h => by simp [runN]
  | n + 1, s, h => by
    simp only [runN]
    split
    · rename_i he; simp [he]
    · rw [List.getElem?_eq_getElem h]
      have h1 := runN_steps ok n _ (stp_pc (ok _ (List.getElem_mem h)) s)
      rw [stp_steps] at h1
      exact ⟨by have := h1.1; simp only; omega, fun he => by have := h1.2 he; simp only at this ⊢; omega⟩

theorem rerr_zero {r : Int} {ns : List Nd} {il : Nat} {fuel : Int} (h : rerr r ns il fuel = 0) : chk r ns = 0 ∧ il ≤ 256 ∧ 0 ≤ fuel ∧ fuel ≤ 131072 := by
  unfold rerr at h
  split at h
  · split at h
    · omega
    · split at h
      · omega
      · omega
  · rename_i hc; exact absurd h hc

theorem res_len (r : Int) (ns : List Nd) (inp : List Int) (fuel : Int) : (res r ns inp fuel).out.length ≤ 131072 ∧ (res r ns inp fuel).cts.length ≤ 131072 := by
  unfold res
  split
  · rename_i h
    have hz := rerr_zero h
    have h1 := (runN_out (ns := ns) fuel.toNat (st0 r.toNat inp)).2
    have h2 := runN_cts (ns := ns) fuel.toNat (st0 r.toNat inp)
    simp only [st0, List.length_nil] at h1 h2
    constructor
    · show (runN ns fuel.toNat (st0 r.toNat inp)).out.length ≤ _
      simp only [st0]; omega
    · show (runN ns fuel.toNat (st0 r.toNat inp)).cts.length ≤ _
      simp only [st0]; omega
  · simp [st0]

theorem run_any (r : Int) (a : Option Addr) (cap : Nat) (ns : List Nd) (ia : Option Addr) (ic : Nat) (inp : List Int) (fuel : Int) (w : World) (hN : SlN w a ns) (hI : IntsAt w ia inp) (hic : inp.length ≤ ic) (hil : inp.length ≤ 9223372036854775807) :
    Calls Try.prog 22 #[.agg #[.int .i64 r, .slice a ns.length cap], .slice ia inp.length ic, .int .i64 fuel] w fun e w' => ∃ ao co ac cc, e = .returned (.tuple #[.agg #[.slice ao (res r ns inp fuel).out.length co, .int .i64 (res r ns inp fuel).ret, .bool (res r ns inp fuel).ended, .int .i64 (res r ns inp fuel).steps, .slice ac (res r ns inp fuel).cts.length cc], .int .i64 (rerr r ns inp.length fuel)]) ∧
      IntsAt w' ao (res r ns inp fuel).out ∧ CtsAt w' ac (res r ns inp fuel).cts ∧ Below w.heap.size w w' ∧ (res r ns inp fuel).out.length ≤ co ∧ ∀ (A : List Nat) (u : World), Keeps A w' u → (∀ x ∈ A, x < w.heap.size) → IntsAt u ao (res r ns inp fuel).out ∧ CtsAt u ac (res r ns inp fuel).cts := by
  by_cases h : rerr r ns inp.length fuel = 0
  · obtain ⟨b, off, rfl, hNb⟩ := hN.some (chk_zero (rerr_zero h).1).1.1
    have e : res r ns inp fuel = fin r ns inp fuel := by rw [res, if_pos h]
    rw [e, h]
    exact run_fit r b off cap ns ia ic inp fuel w hNb hI hic h
  · have e : res r ns inp fuel = st0 0 [] := by rw [res, if_neg h]
    rw [e]
    refine (run_wrong r a cap ns ia inp.length ic fuel w hN hil h).mono ?_
    rintro e w' ⟨rfl, hb⟩
    exact ⟨none, 0, none, 0, rfl, Or.inl rfl, Or.inl rfl, hb, by simp [st0], fun _ _ _ _ => ⟨Or.inl rfl, Or.inl rfl⟩⟩

theorem run_at {w0 : World} (r : Int) (a : Option Addr) (cap : Nat) (ns : List Nd) (ia : Option Addr) (ic : Nat) (inp : List Int) (fuel : Int) (w : World) (hN : SlN w0 a ns) (hI : IntsAt w0 ia inp) (hic : inp.length ≤ ic) (hil : inp.length ≤ 9223372036854775807) (hB : Below w0.heap.size w0 w) :
    Calls Try.prog 22 #[.agg #[.int .i64 r, .slice a ns.length cap], .slice ia inp.length ic, .int .i64 fuel] w fun e w' => ∃ ao co ac cc, e = .returned (.tuple #[.agg #[.slice ao (res r ns inp fuel).out.length co, .int .i64 (res r ns inp fuel).ret, .bool (res r ns inp fuel).ended, .int .i64 (res r ns inp fuel).steps, .slice ac (res r ns inp fuel).cts.length cc], .int .i64 (rerr r ns inp.length fuel)]) ∧
      IntsAt w' ao (res r ns inp fuel).out ∧ CtsAt w' ac (res r ns inp fuel).cts ∧ Below w.heap.size w w' ∧ (res r ns inp fuel).out.length ≤ co ∧ (∀ (A : List Nat) (u : World), Keeps A w' u → (∀ x ∈ A, x < w.heap.size) → IntsAt u ao (res r ns inp fuel).out ∧ CtsAt u ac (res r ns inp fuel).cts) ∧ Below w0.heap.size w0 w' := by
  refine (run_any r a cap ns ia ic inp fuel w (hN.below hB) (hI.below hB) hic hil).mono ?_
  rintro e w' ⟨ao, co, ac, cc, rfl, hI', hC', hb', hco, hQ⟩
  exact ⟨ao, co, ac, cc, rfl, hI', hC', hb', hco, hQ, hB.trans (hb'.mono hB.size)⟩

theorem run_at1 (r : Int) (a : Option Addr) (cap : Nat) (ns : List Nd) (ia : Option Addr) (ic : Nat) (inp : List Int) (fuel : Int) (W : World) (hN : SlN W a ns) (hI : IntsAt W ia inp) (hic : inp.length ≤ ic) (hil : inp.length ≤ 9223372036854775807) :
    Calls Try.prog 22 #[.agg #[.int .i64 r, .slice a ns.length cap], .slice ia inp.length ic, .int .i64 fuel] W.drew fun e w' => ∃ ao co ac cc, e = .returned (.tuple #[.agg #[.slice ao (res r ns inp fuel).out.length co, .int .i64 (res r ns inp fuel).ret, .bool (res r ns inp fuel).ended, .int .i64 (res r ns inp fuel).steps, .slice ac (res r ns inp fuel).cts.length cc], .int .i64 (rerr r ns inp.length fuel)]) ∧
      IntsAt w' ao (res r ns inp fuel).out ∧ CtsAt w' ac (res r ns inp fuel).cts ∧ (res r ns inp fuel).out.length ≤ co ∧ Below W.heap.size W w' := by
  refine (run_at r a cap ns ia ic inp fuel W.drew hN hI hic hil (Below.refl _ W).drew).mono ?_
  rintro e w' ⟨ao, co, ac, cc, rfl, hI', hC', hb', hco, hQ, hB⟩
  exact ⟨ao, co, ac, cc, rfl, hI', hC', hco, hB⟩

/-- The same, a result's own block being made ahead of the call. -/
theorem run_at2 (r : Int) (a : Option Addr) (cap : Nat) (ns : List Nd) (ia : Option Addr) (ic : Nat) (inp : List Int) (fuel : Int) (W : World) (hN : SlN W a ns) (hI : IntsAt W ia inp) (hic : inp.length ≤ ic) (hil : inp.length ≤ 9223372036854775807) :
    Calls Try.prog 22 #[.agg #[.int .i64 r, .slice a ns.length cap], .slice ia inp.length ic, .int .i64 fuel] (W.alloc (.cells #[.slice none 0 0, .int .i64 0, .bool false, .int .i64 0, .slice none 0 0] 42)).drew fun e w' => ∃ ao co ac cc, e = .returned (.tuple #[.agg #[.slice ao (res r ns inp fuel).out.length co, .int .i64 (res r ns inp fuel).ret, .bool (res r ns inp fuel).ended, .int .i64 (res r ns inp fuel).steps, .slice ac (res r ns inp fuel).cts.length cc], .int .i64 (rerr r ns inp.length fuel)]) ∧
      IntsAt w' ao (res r ns inp fuel).out ∧ CtsAt w' ac (res r ns inp fuel).cts ∧ (res r ns inp fuel).out.length ≤ co ∧ Below W.heap.size W w' ∧ w'.heap[W.heap.size]? = some (.cells #[.slice none 0 0, .int .i64 0, .bool false, .int .i64 0, .slice none 0 0] 42 (0, 0)) ∧
      ∀ v0 v1 v2 v3 v4, IntsAt (fill5 w' W.heap.size v0 v1 v2 v3 v4) ao (res r ns inp fuel).out ∧ CtsAt (fill5 w' W.heap.size v0 v1 v2 v3 v4) ac (res r ns inp fuel).cts := by
  refine (run_at r a cap ns ia ic inp fuel _ hN hI hic hil (((Below.refl _ W).alloc (Nat.le_refl _) _).drew)).mono ?_
  rintro e w' ⟨ao, co, ac, cc, rfl, hI', hC', hb', hco, hQ, hB⟩
  refine ⟨ao, co, ac, cc, rfl, hI', hC', hco, hB, ?_, fun v0 v1 v2 v3 v4 => hQ _ _ (fill5_keeps w' W.heap.size v0 v1 v2 v3 v4) ?_⟩
  · rw [hb'.block _ (by show W.heap.size < (W.alloc _).heap.size; simp)]
    exact blk_drew (blk_new rfl)
  · intro x hx
    simp at hx
    subst hx
    show W.heap.size < (W.alloc _).heap.size
    simp

/-- With fuel that is in its bounds an error does not hang on the fuel. -/
theorem rerr_fuel {r : Int} {ns : List Nd} {il : Nat} {f g : Int} (hf : 0 ≤ f ∧ f ≤ 131072) (hg : 0 ≤ g ∧ g ≤ 131072) : rerr r ns il f = rerr r ns il g := by
  unfold rerr
  rw [if_neg (c := f < 0 ∨ 131072 < f) (by omega), if_neg (c := g < 0 ∨ 131072 < g) (by omega)]

theorem more_ended {r : Int} {ns : List Nd} {inp : List Int} {f g : Int} (hf : 0 ≤ f) (hg : f ≤ g) (h : rerr r ns inp.length f = 0) (h' : rerr r ns inp.length g = 0) (he : (res r ns inp f).ended = true) : res r ns inp g = res r ns inp f := by
  have hc := (rerr_zero h).1
  have hcz := chk_zero hc
  have e1 : res r ns inp f = fin r ns inp f := by rw [res, if_pos h]
  have e2 : res r ns inp g = fin r ns inp g := by rw [res, if_pos h']
  rw [e1] at he ⊢
  rw [e2]
  exact runN_stop (r := r) (fun x hx => node_ok hc hx) f.toNat g.toNat (by omega) (st0 r.toNat inp) (by simp [st0]; omega) he

theorem more_going {r : Int} {ns : List Nd} {inp : List Int} {f g : Int} (hf : 0 ≤ f) (hg : f ≤ g) (h : rerr r ns inp.length f = 0) (h' : rerr r ns inp.length g = 0) (he : (res r ns inp f).ended = false) : ((res r ns inp f).steps : Int) = f ∧ (res r ns inp f).out <+: (res r ns inp g).out ∧ f ≤ ((res r ns inp g).steps : Int) := by
  have hc := (rerr_zero h).1
  have hcz := chk_zero hc
  have e1 : res r ns inp f = fin r ns inp f := by rw [res, if_pos h]
  have e2 : res r ns inp g = fin r ns inp g := by rw [res, if_pos h']
  rw [e1] at he ⊢
  rw [e2]
  have ok : ∀ x ∈ ns, NodeOk r ns.length x := fun x hx => node_ok hc hx
  have hp : (st0 r.toNat inp).pc < ns.length := by simp [st0]; omega
  have q1 := (runN_steps ok f.toNat _ hp).2 he
  have e : runN ns g.toNat (st0 r.toNat inp) = runN ns (g.toNat - f.toNat) (runN ns f.toNat (st0 r.toNat inp)) := by
    rw [← runN_add f.toNat _ _ (fun k _ => runN_pc ok k _ hp)]; congr 1; omega
  have q2 := (runN_out (ns := ns) (g.toNat - f.toNat) (runN ns f.toNat (st0 r.toNat inp))).1
  have q3 := (runN_steps ok (g.toNat - f.toNat) _ (runN_pc ok f.toNat _ hp)).1
  rw [← e] at q2 q3
  have q0 : (st0 r.toNat inp).steps = 0 := rfl
  refine ⟨?_, q2, ?_⟩
  · show ((runN ns f.toNat (st0 r.toNat inp)).steps : Int) = f
    omega
  · show f ≤ ((runN ns g.toNat (st0 r.toNat inp)).steps : Int)
    omega
end Go.Proofs.Ytoikglgnmjjpcaa
