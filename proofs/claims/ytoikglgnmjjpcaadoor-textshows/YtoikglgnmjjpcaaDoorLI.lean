/-
  Rows of nodes in memory of a call's own.
-/
import Derived.Test.YtoikglgnmjjpcaaDoorLF
import Derived.Test.YtoikglgnmjjpcaaDoorGD
namespace Go.Proofs.YtoikglgnmjjpcaaDoor
open Go.RowKit Go.Shelf
set_option linter.unusedVariables false

def encNd (x : Nd) : List Value := [.int .i64 x.op, .int .i64 x.d, .int .i64 x.a, .int .i64 x.b, .int .i64 x.t, .int .i64 x.e]
theorem encNd_len (x : Nd) : (encNd x).length = 6 := rfl
theorem encNd_one (ns : List Nd) : ∀ u ∈ ns.flatMap encNd, u.oneCell' = true := by
  intro u hu
  obtain ⟨x, _, hx⟩ := List.mem_flatMap.1 hu
  simp only [encNd, List.mem_cons, List.not_mem_nil, or_false] at hx
  rcases hx with rfl | rfl | rfl | rfl | rfl | rfl <;> rfl

theorem flatK {α β : Type} (k : Nat) (f : α → List β) (hf : ∀ x, (f x).length = k) : ∀ (l : List α) (j i : Nat) (x : α), l[j]? = some x → i < k → (l.flatMap f)[j * k + i]? = (f x)[i]?
  | [], j, i, x, h, _ => by simp at h
  | u :: l, 0, i, x, h, hi => by
    simp at h; subst h
    rw [List.flatMap_cons, List.getElem?_append_left (by rw [hf]; omega)]; simp
  | u :: l, j + 1, i, x, h, hi => by
    simp at h
    rw [List.flatMap_cons, List.getElem?_append_right (by rw [hf, Nat.succ_mul]; omega), hf, show (j + 1) * k + i - k = j * k + i by rw [Nat.succ_mul]; omega]
    exact flatK k f hf l j i x h hi

theorem flat_len {α β : Type} (k : Nat) (f : α → List β) (hf : ∀ x, (f x).length = k) : ∀ l : List α, (l.flatMap f).length = l.length * k
  | [] => by simp
  | u :: l => by rw [List.flatMap_cons, List.length_append, hf, flat_len k f hf l, List.length_cons, Nat.succ_mul]; omega

theorem nodes_flat {w : World} {b off : Nat} {ns : List Nd} (hN : NodesAt w b off ns) : ∀ (j : Nat) (u : Value), (ns.flatMap encNd)[j]? = some u → w.cell? ((⟨b, off, none⟩ : Addr).add j) = some u := by
  intro j u hu
  have hlt : j < ns.length * 6 := by
    have := (List.getElem?_eq_some_iff.1 hu).1
    rwa [flat_len 6 encNd encNd_len] at this
  have hq : j / 6 < ns.length := by omega
  obtain ⟨x, hx⟩ := get_lt hq
  have h1 := flatK 6 encNd encNd_len ns (j / 6) (j % 6) x hx (Nat.mod_lt _ (by decide))
  rw [show j / 6 * 6 + j % 6 = j by omega, hu] at h1
  have e : (⟨b, off, none⟩ : Addr).add j = ⟨b, off + j / 6 * 6 + j % 6, none⟩ := by
    have : (⟨b, off, none⟩ : Addr).add j = ⟨b, off + j, none⟩ := by cases j <;> simp [Addr.add]
    rw [this]; congr 1; omega
  rw [e]
  have hm : j % 6 < 6 := Nat.mod_lt _ (by decide)
  generalize j % 6 = m at h1 hm ⊢
  match m, hm with
  | 0, _ => simp [encNd] at h1; subst h1; exact hN.c0 _ x hx
  | 1, _ => simp [encNd] at h1; subst h1; exact hN.c1 _ x hx
  | 2, _ => simp [encNd] at h1; subst h1; exact hN.c2 _ x hx
  | 3, _ => simp [encNd] at h1; subst h1; exact hN.c3 _ x hx
  | 4, _ => simp [encNd] at h1; subst h1; exact hN.c4 _ x hx
  | 5, _ => simp [encNd] at h1; subst h1; exact hN.c5 _ x hx

theorem nodes_of_cells {w : World} {b off : Nat} {ns : List Nd} (hlt : b < w.heap.size) (h : ∀ (j : Nat) (u : Value), (ns.flatMap encNd)[j]? = some u → w.cell? ⟨b, off + j, none⟩ = some u) : NodesAt w b off ns := by
  have key : ∀ (i : Nat) (x : Nd) (m : Nat) (u : Value), ns[i]? = some x → m < 6 → (encNd x)[m]? = some u → w.cell? ⟨b, off + i * 6 + m, none⟩ = some u := by
    intro i x m u hx hm hu
    have := h (i * 6 + m) u (by rw [flatK 6 encNd encNd_len ns i m x hx hm]; exact hu)
    rwa [← Nat.add_assoc] at this
  exact ⟨hlt, fun i x hx => key i x 0 _ hx (by decide) rfl, fun i x hx => key i x 1 _ hx (by decide) rfl, fun i x hx => key i x 2 _ hx (by decide) rfl, fun i x hx => key i x 3 _ hx (by decide) rfl, fun i x hx => key i x 4 _ hx (by decide) rfl, fun i x hx => key i x 5 _ hx (by decide) rfl⟩

theorem nodes_of_owns {w : World} {base : Nat} {e : TypeId} {v : Value} {ns : List Nd} (h : w.ownsRow base e 6 v ns.length (ns.flatMap encNd)) : ∃ a cap, v = .slice a ns.length cap ∧ SlN w a ns := by
  have hc : ∀ g, v.ownBlock = some g → ∀ j u, (ns.flatMap encNd)[j]? = some u → w.cell? ((⟨g, 0, none⟩ : Addr).add j) = some u := fun g hg => h.cells hg
  obtain ⟨_, h⟩ := h
  rcases h with ⟨rfl, h0⟩ | ⟨g, cap, cur, rfl, h1, h2, _⟩
  · have : ns = [] := List.eq_nil_of_length_eq_zero h0
    subst this
    exact ⟨none, 0, rfl, Or.inl rfl⟩
  · refine ⟨_, cap, rfl, Or.inr ⟨g, 0, rfl, nodes_of_cells (Array.getElem?_eq_some_iff.1 h2).1 fun j u hj => ?_⟩⟩
    have := hc g rfl j u hj
    have e : (⟨g, 0, none⟩ : Addr).add j = ⟨g, 0 + j, none⟩ := by cases j <;> simp [Addr.add]
    rw [e] at this; exact this

theorem owns_set {w : World} {base b o : Nat} {e t : TypeId} {size : Nat} {v u : Value} {n : Nat} {xs : List Value} {vs : Array Value} (h : w.ownsRow base e size v n xs) (hb : w.heap[b]? = some (.cells vs t (0, 0))) (hte : t ≠ e) : (w.setCell ⟨b, o, none⟩ u).ownsRow base e size v n xs := by
  have hne := owns_ne_ty h hb hte
  obtain ⟨hl, h3⟩ := h
  refine ⟨hl, ?_⟩
  rcases h3 with h3 | ⟨g', cap', cur', rfl, a1, a2, a3⟩
  · exact Or.inl h3
  · refine Or.inr ⟨g', cap', cur', rfl, a1, ?_, a3⟩
    rw [Below.heap_setCell _ _ _ g' (fun e => hne (by simp only [Value.ownBlock]; exact congrArg some e.symm))]
    exact a2

theorem boxed_ne {w : World} {b c : Nat} {t t' : TypeId} {vs vs' : Array Value} {fr fr' : Nat × Nat} (h : w.heap[b]? = some (.cells vs t fr)) (h' : w.heap[c]? = some (.cells vs' t' fr')) (hne : t ≠ t') : b ≠ c := by
  intro e; subst e
  rw [h] at h'; cases h'; exact hne rfl

theorem made_ints (n : Nat) : madeCells #[Value.int .i64 0] n = ((List.replicate n (0 : Int)).map (Value.int .i64)).toArray := by
  apply Array.ext'
  rw [toList_madeCells_one]
  simp

theorem owns_slice {w : World} {base : Nat} {e : TypeId} {size : Nat} {v : Value} {n : Nat} {xs : List Value} (h : w.ownsRow base e size v n xs) : ∃ a c, v = .slice a n c := by
  rcases h.2 with ⟨rfl, rfl⟩ | ⟨g, cap, _, rfl, _⟩
  · exact ⟨none, 0, rfl⟩
  · exact ⟨_, cap, rfl⟩

theorem flat_set {α β : Type} (k : Nat) (f : α → List β) (hf : ∀ x, (f x).length = k) : ∀ (l : List α) (j i : Nat) (x y : α) (u : β), l[j]? = some x → i < k → (f x).set i u = f y → (l.flatMap f).set (j * k + i) u = (l.set j y).flatMap f
  | [], j, i, x, y, u, h, _, _ => by simp at h
  | a :: l, 0, i, x, y, u, h, hi, he => by
    simp at h; subst h
    rw [List.flatMap_cons, List.set_cons_zero, List.flatMap_cons, Nat.zero_mul, Nat.zero_add, List.set_append_left _ _ (by rw [hf]; exact hi), he]
  | a :: l, j + 1, i, x, y, u, h, hi, he => by
    simp at h
    rw [List.flatMap_cons, List.set_cons_succ, List.flatMap_cons, List.set_append_right _ _ (by rw [hf, Nat.succ_mul]; omega), hf, show (j + 1) * k + i - k = j * k + i by rw [Nat.succ_mul]; omega, flat_set k f hf l j i x y u h hi he]

/-- One cell of a row of the call's own is written. -/
theorem owns_write {w : World} {base g cap : Nat} {e : TypeId} {size n i : Nat} {u : Value} {xs : List Value} (h : w.ownsRow base e size (.slice (some ⟨g, 0, none⟩) n cap) n xs) (hi : i < n * size) : (w.setCell ⟨g, i, none⟩ u).ownsRow base e size (.slice (some ⟨g, 0, none⟩) n cap) n (xs.set i u) := by
  obtain ⟨hl, h⟩ := h
  refine ⟨by simpa using hl, ?_⟩
  rcases h with ⟨h, _⟩ | ⟨g', cap', cur, q, a1, a2, a3, a4, a5, a6⟩
  · cases h
  · cases q
    refine Or.inr ⟨g, cap, _, rfl, a1, blk_set _ a2, a3, a4, by simpa using a5, ?_⟩
    rw [Array.toList_setIfInBounds, List.take_set, a6]

theorem info_node : (Tryd.prog.info? 49).map (fun i => (i.zero, i.size, i.bytes)) = some (some (.agg #[.int .i64 0, .int .i64 0, .int .i64 0, .int .i64 0, .int .i64 0, .int .i64 0]), 6, 48) := by kernel_rfl

end Go.Proofs.YtoikglgnmjjpcaaDoor
