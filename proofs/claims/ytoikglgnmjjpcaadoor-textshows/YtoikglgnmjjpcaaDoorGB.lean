/-
  Nodes beside one another, flows, and what may be come to: plain functions and facts.
-/
import Derived.Test.YtoikglgnmjjpcaaDoorGA
import Derived.Test.YtoikglgnmjjpcaaDoorR
import Derived.Test.YtoikglgnmjjpcaaDoorS
namespace Go.Proofs.YtoikglgnmjjpcaaDoor

/-- The nodes where node n may go on; those which may go on at it. -/
def nxl (ns : List Nd) (n : Nat) : List Nat := (List.range ns.length).filter fun m => ahB ns m n
def ahl (ns : List Nd) (n : Nat) : List Nat := (List.range ns.length).filter fun m => ahB ns n m

theorem mem_nxl {ns : List Nd} {n m : Nat} : m ∈ nxl ns n ↔ m < ns.length ∧ ahB ns m n = true := by simp [nxl]
theorem mem_ahl {ns : List Nd} {n m : Nat} : m ∈ ahl ns n ↔ m < ns.length ∧ ahB ns n m = true := by simp [ahl]
theorem ahB_lt {ns : List Nd} {n m : Nat} (h : ahB ns n m = true) : m < ns.length := by
  unfold ahB at h
  cases e : ns[m]? with
  | none => rw [e] at h; cases h
  | some x => exact (List.getElem?_eq_some_iff.1 e).1

/-- A flow. -/
structure Flw where
  back : Bool
  empty : Bool
  gen : List Bool
  pass : List Bool
  plus : List Bool
  lets : List Bool

def nbs (ns : List Nd) (f : Flw) (n : Nat) : List Nat := if f.back then nxl ns n else ahl ns n

/-- All of them, or, if there is none, e. -/
def allOr (e : Bool) (l : List Nat) (p : Nat → Bool) : Bool := if l.isEmpty then e else l.all p

/-- What E1 asks of a node. -/
def sayF (ns : List Nd) (f : Flw) (x : Nat → Bool) (n : Nat) : Bool :=
  bat f.gen n || (bat f.pass n && allOr f.empty (nbs ns f n) fun m => bat f.plus m || (bat f.lets m && x m))

theorem all_mono {l : List Nat} {p q : Nat → Bool} (h : ∀ m, p m = true → q m = true) (ha : l.all p = true) : l.all q = true := by
  rw [List.all_eq_true] at ha ⊢
  exact fun m hm => h m (ha m hm)

theorem allOr_mono {e : Bool} {l : List Nat} {p q : Nat → Bool} (h : ∀ m, p m = true → q m = true) (ha : allOr e l p = true) : allOr e l q = true := by
  unfold allOr at ha ⊢
  split at ha
  · rename_i hl; rw [if_pos hl]; exact ha
  · rename_i hl; rw [if_neg hl]; exact all_mono h ha

theorem sayF_mono (ns : List Nd) (f : Flw) : Mono (sayF ns f) := by
  intro x y hxy n h
  simp only [sayF, Bool.or_eq_true, Bool.and_eq_true] at h ⊢
  rcases h with h | ⟨h1, h2⟩
  · exact Or.inl h
  · refine Or.inr ⟨h1, allOr_mono (fun m hm => ?_) h2⟩
    simp only [Bool.or_eq_true, Bool.and_eq_true] at hm ⊢
    rcases hm with hm | ⟨h3, h4⟩
    · exact Or.inl hm
    · exact Or.inr ⟨h3, hxy m h4⟩

/-- The flow's greatest answer. -/
def solve (ns : List Nd) (f : Flw) : List Bool := gr (sayF ns f) ns.length

theorem IsG.congr {F G : (Nat → Bool) → Nat → Bool} {k : Nat} {x : List Bool} (h : IsG F k x) (e : ∀ (y : Nat → Bool) n, n < k → F y n = G y n) : IsG G k x :=
  ⟨h.len, fun n hn => by rw [h.fix n hn, e _ _ hn], fun y hb hy => h.top y hb fun n hn hyn => by rw [e _ _ hn]; exact hy n hn hyn⟩

/-- Node n may be come to from node 0. -/
inductive Rch (ns : List Nd) : Nat → Prop
  | zero : Rch ns 0
  | step {n m : Nat} : Rch ns n → ahB ns m n = true → Rch ns m

/-- A list that says just that of each node. -/
structure IsR (ns : List Nd) (x : List Bool) : Prop where
  len : x.length = ns.length
  iff : ∀ n, n < ns.length → (bat x n = true ↔ Rch ns n)

theorem IsR.uniq {ns : List Nd} {x y : List Bool} (hx : IsR ns x) (hy : IsR ns y) : x = y := by
  refine bat_ext (by rw [hx.len, hy.len]) fun n hn => ?_
  rw [hx.len] at hn
  rw [Bool.eq_iff_iff, hx.iff n hn, hy.iff n hn]

/-- Not to be come to: the greatest answer of: it is not node 0, and nobody ahead of it is to be come to. -/
def nrF (ns : List Nd) (x : Nat → Bool) (n : Nat) : Bool := n != 0 && (ahl ns n).all x

theorem nrF_mono (ns : List Nd) : Mono (nrF ns) := by
  intro x y hxy n h
  simp only [nrF, Bool.and_eq_true] at h ⊢
  exact ⟨h.1, all_mono hxy h.2⟩

def rchL (ns : List Nd) : List Bool := (gr (nrF ns) ns.length).map not

theorem rchL_len (ns : List Nd) : (rchL ns).length = ns.length := by simp [rchL, (gr_isG (nrF_mono ns) ns.length).len]

theorem bat_not {x : List Bool} {n : Nat} (h : n < x.length) : bat (x.map not) n = !bat x n := by
  simp [bat, h]

theorem rchL_isR (ns : List Nd) : IsR ns (rchL ns) := by
  have hG := gr_isG (nrF_mono ns) ns.length
  refine ⟨rchL_len ns, fun n hn => ?_⟩
  rw [rchL, bat_not (by rw [hG.len]; exact hn)]
  constructor
  · intro h
    apply Classical.byContradiction
    intro hc
    have := hG.top (fun m => @decide (m < ns.length ∧ ¬ Rch ns m) (Classical.propDecidable _)) (fun m hm => by simp; omega) (fun m hm hy => by
      simp only [decide_eq_true_eq] at hy
      simp only [nrF, Bool.and_eq_true, bne_iff_ne, ne_eq, List.all_eq_true, decide_eq_true_eq]
      refine ⟨fun e => hy.2 (e ▸ Rch.zero), fun j hj => ?_⟩
      rw [mem_ahl] at hj
      exact ⟨hj.1, fun hr => hy.2 (Rch.step hr hj.2)⟩) n (by simp; exact ⟨hn, hc⟩)
    rw [this] at h; cases h
  · intro h
    have : ∀ m, Rch ns m → m < ns.length → bat (gr (nrF ns) ns.length) m = false := by
      intro m hm
      induction hm with
      | zero => intro h0; rw [hG.fix 0 h0]; simp [nrF]
      | step hr ha ih =>
        rename_i a b
        intro hb
        rw [hG.fix _ hb]
        have hlt := ahB_lt ha
        simp only [nrF, Bool.and_eq_false_iff]
        right
        rw [List.all_eq_false]
        exact ⟨_, mem_ahl.2 ⟨hlt, ha⟩, by rw [ih hlt]; simp⟩
    rw [this n h hn]; rfl

end Go.Proofs.YtoikglgnmjjpcaaDoor
