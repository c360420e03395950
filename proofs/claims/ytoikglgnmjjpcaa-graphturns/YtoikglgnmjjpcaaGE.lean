/-
  Coming from node to node: plain facts on a list of those that have been come to.
-/
import Derived.Test.YtoikglgnmjjpcaaGT
namespace Go.Proofs.Ytoikglgnmjjpcaa

theorem mem_exo {x : Nd} (hk : kn x.op = true) (m : Nat) : (m : Int) ∈ exo x ↔ ldB x m = true := by
  have hop := wi_iff.1 hk
  unfold exo ldB
  by_cases h11 : x.op = 11
  · rw [if_pos h11]
    by_cases he : x.e = x.t
    · rw [if_pos he]; simp [h11, he]; omega
    · rw [if_neg he]; simp [h11]; omega
  · rw [if_neg h11]
    by_cases h12 : x.op = 12
    · have e : wi x.op 0 11 = false := wi_false (by omega)
      rw [e]; simp [h12]
    · rw [wi_true (by omega) (by omega), if_pos rfl]; simp [h11, h12]; omega

theorem exo_ahB {r : Int} {ns : List Nd} (hc : chk r ns = 0) {n : Nat} (hn : n < ns.length) (m : Nat) : (m : Int) ∈ exo (nd ns n) ↔ ahB ns m n = true := by
  rw [mem_exo ((chk_at hc hn).ok.1), ahB_at (get_nd hn)]

/-- On the way from node 0 on: cs have been come to, x says so; the nodes ahead of the i-th have been looked at, and the exits pre of that one. -/
structure Bfs (ns : List Nd) (x : List Bool) (cs : List Int) (i : Nat) (pre : List Int) : Prop where
  len : x.length = ns.length
  mem : ∀ m : Nat, m < ns.length → (bat x m = true ↔ (m : Int) ∈ cs)
  rng : ∀ c ∈ cs, 0 ≤ c ∧ c < ns.length
  nodup : cs.Nodup
  rch : ∀ m : Nat, (m : Int) ∈ cs → Rch ns m
  done : ∀ (j : Nat) (c : Int), j < i → cs[j]? = some c → ∀ e ∈ exo (nd ns c.toNat), e ∈ cs
  part : ∀ e ∈ pre, e ∈ cs
  zero : 0 ∈ cs

theorem Bfs.start {ns : List Nd} (h : 0 < ns.length) : Bfs ns ((List.replicate ns.length false).set 0 true) [0] 0 [] := by
  refine ⟨by simp, fun m hm => ?_, by simp; omega, by simp, fun m hm => ?_, fun j c hj => by omega, by simp, by simp⟩
  · rw [bat_set (by simpa using h)]
    by_cases e : m = 0
    · subst e; simp
    · simp only [e, if_false]
      simp [bat, hm]
      omega
  · simp at hm; subst hm; exact Rch.zero

theorem Bfs.len_le {ns : List Nd} {x : List Bool} {cs : List Int} {i : Nat} {pre : List Int} (h : Bfs ns x cs i pre) : cs.length ≤ ns.length := by
  have := nodup_below ns.length (cs.map Int.toNat) (by
    refine List.Pairwise.map _ (S := fun a b => a ≠ b) ?_ (List.Pairwise.and_mem.1 h.nodup)
    rintro a b ⟨ha, hb, hab⟩ e
    have h1 := h.rng a ha
    have h2 := h.rng b hb
    exact hab (by omega)) (fun y hy => by
    obtain ⟨c, hc, rfl⟩ := List.mem_map.1 hy
    have := h.rng c hc; omega)
  simpa using this

theorem Bfs.hit {ns : List Nd} {x : List Bool} {cs : List Int} {i : Nat} {pre : List Int} (h : Bfs ns x cs i pre) {m : Nat} (hm : m < ns.length) (hx : bat x m = true) : Bfs ns x cs i (pre ++ [(m : Int)]) :=
  ⟨h.len, h.mem, h.rng, h.nodup, h.rch, h.done, fun e he => (by
      rcases List.mem_append.1 he with he | he
      · exact h.part e he
      · simp at he; subst he; exact (h.mem m hm).1 hx), h.zero⟩

theorem Bfs.new {r : Int} {ns : List Nd} (hc : chk r ns = 0) {x : List Bool} {cs : List Int} {i : Nat} {pre : List Int} (h : Bfs ns x cs i pre) {m : Nat} (hm : m < ns.length) (hx : bat x m = false) {c : Int} (hci : cs[i]? = some c) (he : (m : Int) ∈ exo (nd ns c.toNat)) : Bfs ns (x.set m true) (cs ++ [(m : Int)]) i (pre ++ [(m : Int)]) := by
  have hnm : (m : Int) ∉ cs := fun q => by
    have := (h.mem m hm).2 q; rw [hx] at this; cases this
  have hcm := List.mem_of_getElem? hci
  have hcr := h.rng c hcm
  refine ⟨by simp [h.len], fun j hj => ?_, fun c' hc' => ?_, ?_, fun j hj => ?_, fun j c' hj hjc e hee => ?_, fun e hee => ?_, by simp [h.zero]⟩
  · rw [bat_set (by rw [h.len]; exact hm)]
    by_cases q : j = m
    · subst q; simp
    · simp only [q, if_false, List.mem_append, List.mem_singleton]
      rw [h.mem j hj]
      constructor
      · exact Or.inl
      · rintro (h1 | h1)
        · exact h1
        · omega
  · rcases List.mem_append.1 hc' with hc' | hc'
    · exact h.rng c' hc'
    · simp at hc'; omega
  · rw [List.nodup_append]
    refine ⟨h.nodup, by simp, fun a ha b hb => ?_⟩
    simp at hb; subst hb; exact fun q => hnm (q ▸ ha)
  · rcases List.mem_append.1 hj with hj | hj
    · exact h.rch j hj
    · simp at hj
      have e1 : j = m := by omega
      subst e1
      have hlt : c.toNat < ns.length := by omega
      exact Rch.step (h.rch c.toNat (by rw [Int.toNat_of_nonneg hcr.1]; exact hcm)) ((exo_ahB hc hlt j).1 he)
  · have hi : i < cs.length := (List.getElem?_eq_some_iff.1 hci).1
    rw [List.getElem?_append_left (by omega)] at hjc
    exact List.mem_append_left _ (h.done j c' hj hjc e hee)
  · rcases List.mem_append.1 hee with hee | hee
    · exact List.mem_append_left _ (h.part e hee)
    · exact List.mem_append_right _ hee

theorem Bfs.next {ns : List Nd} {x : List Bool} {cs : List Int} {i : Nat} {c : Int} (h : Bfs ns x cs i (exo (nd ns c.toNat))) (hci : cs[i]? = some c) : Bfs ns x cs (i + 1) [] :=
  ⟨h.len, h.mem, h.rng, h.nodup, h.rch, fun j c' hj hjc e hee => (by
      by_cases q : j = i
      · subst q
        rw [hci] at hjc; cases hjc
        exact h.part e hee
      · exact h.done j c' (by omega) hjc e hee), by simp, h.zero⟩

theorem Bfs.fin {r : Int} {ns : List Nd} (hc : chk r ns = 0) {x : List Bool} {cs : List Int} (h : Bfs ns x cs cs.length []) : x = rchL ns := by
  refine IsR.uniq ⟨h.len, fun n hn => ?_⟩ (rchL_isR ns)
  rw [h.mem n hn]
  refine ⟨h.rch n, fun hr => ?_⟩
  have key : ∀ m, Rch ns m → (m : Int) ∈ cs := by
    intro m hm
    induction hm with
    | zero => exact h.zero
    | step hr ha ih =>
      rename_i a b
      obtain ⟨j, hj⟩ := List.getElem?_of_mem ih
      have hlt := (List.getElem?_eq_some_iff.1 hj).1
      refine h.done j a hlt hj b ?_
      have hal : a < ns.length := ahB_lt ha
      rw [Int.toNat_natCast, exo_ahB hc hal]
      exact ha
  exact key n hr

end Go.Proofs.Ytoikglgnmjjpcaa
