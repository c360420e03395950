/-
  Rounds that go from the last node to the first: plain facts.
  What is dead is left out, and the program does what it did; what a register is that is not live changes nothing: plain facts.
  What is dead, round by round: plain facts.
  Which registers are live, and what is dead: plain facts.
-/
import Derived.Test.YtoikglgnmjjpcabGV
import Derived.Test.YtoikglgnmjjpcabGH
import Derived.Test.YtoikglgnmjjpcabRP
namespace Go.Proofs.Ytoikglgnmjjpcab

/-- Is the field A, is B a register? -/
def usA (x : Nd) : Bool := x.op == 2 || wi x.op 3 8 || wi x.op 10 12
def usB (x : Nd) : Bool := wi x.op 3 8
/-- Is the register used there, is it set? -/
def useT (x : Nd) (j : Nat) : Bool := (usA x && x.a == (j : Int)) || (usB x && x.b == (j : Int))
def setT (x : Nd) (j : Nat) : Bool := wi x.op 1 9 && x.d == (j : Int)
/-- What is not live: the greatest answer. -/
def nlF (ns : List Nd) (j : Nat) (y : Nat → Bool) (n : Nat) : Bool := !useT (nd ns n) j && (setT (nd ns n) j || (nxl ns n).all y)

theorem nlF_mono (ns : List Nd) (j : Nat) : Mono (nlF ns j) := by
  intro x y h n hx
  simp only [nlF, Bool.and_eq_true, Bool.or_eq_true] at hx ⊢
  refine ⟨hx.1, ?_⟩
  rcases hx.2 with q | q
  · exact Or.inl q
  · exact Or.inr (all_mono h q)

def liveB (ns : List Nd) (j n : Nat) : Bool := !bat (gr (nlF ns j) ns.length) n

theorem live_eq (ns : List Nd) (j : Nat) {n : Nat} (hn : n < ns.length) : liveB ns j n = (useT (nd ns n) j || (!setT (nd ns n) j && (nxl ns n).any (liveB ns j))) := by
  have hG := gr_isG (nlF_mono ns j) ns.length
  have e := hG.fix n hn
  unfold liveB
  rw [e]
  simp only [nlF, Bool.not_and, Bool.not_not, Bool.not_or]
  congr 1
  congr 1
  generalize nxl ns n = l
  induction l with
  | nil => rfl
  | cons a l ih => simp only [List.all_cons, List.any_cons, Bool.not_and, ih]

def M0 : BitVec 64 := 0
def bitM (a : Int) : BitVec 64 := 1#64 <<< a.toNat
def useM (x : Nd) : BitVec 64 := (if usA x then bitM x.a else 0#64) ||| (if usB x then bitM x.b else 0#64)
def setM (x : Nd) : BitVec 64 := if wi x.op 1 9 then bitM x.d else 0#64
def behM (L : List (BitVec 64)) (l : List Nat) : BitVec 64 := l.foldl (fun s m => s ||| L.getD m 0#64) 0#64
def eqM (ns : List Nd) (L : List (BitVec 64)) (n : Nat) : BitVec 64 := useM (nd ns n) ||| (behM L (nxl ns n) &&& ~~~setM (nd ns n))
def nlb (j : Nat) (L : List (BitVec 64)) : List Bool := L.map fun m => !m.getLsbD j

theorem bit_bitM {a : Int} (h : 0 ≤ a ∧ a < 64) {j : Nat} (hj : j < 64) : (bitM a).getLsbD j = (a == (j : Int)) := by
  simp only [bitM, BitVec.getLsbD_shiftLeft, BitVec.getLsbD_one]
  by_cases e : a = j
  · subst e; simp [hj]
  · have h2 : ¬ j = a.toNat := by omega
    by_cases h3 : j < a.toNat
    · simp [hj, h3, e]
    · have : ¬ (j - a.toNat = 0) := by omega
      simp [hj, h3, e, this]

theorem bit_useM {r : Int} {len : Nat} {x : Nd} (hF : Full r len x) (hr : r ≤ 64) {j : Nat} (hj : j < 64) : (useM x).getLsbD j = useT x j := by
  unfold useM useT
  rw [BitVec.getLsbD_or]
  congr 1
  · cases h : usA x
    · simp
    · simp only [if_true, Bool.true_and]
      refine bit_bitM ?_ hj
      simp only [usA, Bool.or_eq_true, beq_iff_eq] at h
      have := hF.a (by rcases h with (h | h) | h
                       · omega
                       · have := wi_iff.1 h; omega
                       · have := wi_iff.1 h; omega) (by rcases h with (h | h) | h
                                                        · omega
                                                        · have := wi_iff.1 h; omega
                                                        · have := wi_iff.1 h; omega) (by rcases h with (h | h) | h
                                                                                         · omega
                                                                                         · have := wi_iff.1 h; omega
                                                                                         · have := wi_iff.1 h; omega)
      omega
  · cases h : usB x
    · simp
    · simp only [if_true, Bool.true_and]
      refine bit_bitM ?_ hj
      have h := wi_iff.1 h
      have := hF.b h.1 h.2
      omega

theorem bit_setM {r : Int} {len : Nat} {x : Nd} (hF : Full r len x) (hr : r ≤ 64) {j : Nat} (hj : j < 64) : (setM x).getLsbD j = setT x j := by
  unfold setM setT
  cases h : wi x.op 1 9
  · simp
  · simp only [if_true, Bool.true_and]
    refine bit_bitM ?_ hj
    have h := wi_iff.1 h
    have := hF.d h.1 h.2
    omega

theorem bit_behM (L : List (BitVec 64)) (l : List Nat) (j : Nat) : (behM L l).getLsbD j = l.any fun m => (L.getD m 0#64).getLsbD j := by
  have : ∀ (l : List Nat) (s : BitVec 64), (l.foldl (fun s m => s ||| L.getD m 0#64) s).getLsbD j = (s.getLsbD j || l.any fun m => (L.getD m 0#64).getLsbD j) := by
    intro l
    induction l with
    | nil => intro s; simp
    | cons a l ih => intro s; rw [List.foldl_cons, ih, BitVec.getLsbD_or, List.any_cons, Bool.or_assoc]
  unfold behM
  rw [this]; simp

theorem bat_nlb {L : List (BitVec 64)} {n j : Nat} (h : n < L.length) : bat (nlb j L) n = !(L.getD n 0#64).getLsbD j := by
  simp [bat, nlb, h]

theorem bit_eqM {r : Int} {ns : List Nd} (hc : chk r ns = 0) {L : List (BitVec 64)} (hl : L.length = ns.length) {n j : Nat} (hn : n < ns.length) (hj : j < 64) : (eqM ns L n).getLsbD j = !nlF ns j (bat (nlb j L)) n := by
  have hF := chk_at hc hn
  have hr := (chk_full hc).2.1.2
  unfold eqM nlF
  rw [BitVec.getLsbD_or, BitVec.getLsbD_and, BitVec.getLsbD_not, bit_useM hF hr hj, bit_setM hF hr hj, bit_behM]
  have : ((nxl ns n).any fun m => (L.getD m 0#64).getLsbD j) = !(nxl ns n).all (bat (nlb j L)) := by
    have hm : ∀ m ∈ nxl ns n, m < L.length := fun m hm => by rw [hl]; exact (mem_nxl.1 hm).1
    generalize nxl ns n = l at hm
    induction l with
    | nil => rfl
    | cons a l ih =>
      rw [List.any_cons, List.all_cons, ih fun m q => hm m (by simp [q]), bat_nlb (hm a (by simp))]
      simp [Bool.not_and]
  rw [this]
  cases useT (nd ns n) j <;> cases setT (nd ns n) j <;> simp [hj]

/-- While the live registers are reckoned: of nodes that are not to be looked at once more all is right. -/
structure LS (ns : List Nd) (L : List (BitVec 64)) (wk : List Nat) : Prop where
  len : L.length = ns.length
  on : ∀ j, j < 64 → Onway (nlF ns j) ns.length (nlb j L)
  st : ∀ n, n < ns.length → n ∉ wk → L.getD n 0#64 = eqM ns L n
  wl : ∀ n ∈ wk, n < ns.length

theorem LS.start (ns : List Nd) : LS ns (List.replicate ns.length 0#64) (List.range ns.length) := by
  refine ⟨by simp, fun j hj => ?_, fun n hn h => absurd (List.mem_range.2 hn) h, fun n h => List.mem_range.1 h⟩
  have : nlb j (List.replicate ns.length 0#64) = List.replicate ns.length true := by simp [nlb]
  rw [this]; exact Onway.start _ _

theorem LS.pop {ns : List Nd} {L : List (BitVec 64)} {wk : List Nat} {n : Nat} (h : LS ns L (wk ++ [n])) (he : eqM ns L n = L.getD n 0#64) : LS ns L wk := by
  refine ⟨h.len, h.on, fun m hm hw => ?_, fun m hm => h.wl m (by simp [hm])⟩
  by_cases e : m = n
  · subst e; exact he.symm
  · exact h.st m hm (by simp [hw, e])

theorem getD_set {L : List (BitVec 64)} {n m : Nat} {v : BitVec 64} (h : n < L.length) : (L.set n v).getD m 0#64 = if m = n then v else L.getD m 0#64 := by
  simp only [List.getD_eq_getElem?_getD, List.getElem?_set]
  by_cases e : n = m
  · subst e; simp [h]
  · simp [e, Ne.symm e]

theorem behM_set {L : List (BitVec 64)} {n : Nat} {v : BitVec 64} (h : n < L.length) {l : List Nat} (hl : n ∉ l) : behM (L.set n v) l = behM L l := by
  have : ∀ (l : List Nat) (s : BitVec 64), n ∉ l → l.foldl (fun s m => s ||| (L.set n v).getD m 0#64) s = l.foldl (fun s m => s ||| L.getD m 0#64) s := by
    intro l
    induction l with
    | nil => intro s _; rfl
    | cons a l ih =>
      intro s hn
      have h1 : a ≠ n := fun e => hn (by simp [e])
      rw [List.foldl_cons, List.foldl_cons, getD_set h, if_neg h1]
      exact ih _ fun q => hn (by simp [q])
  exact this l _ hl

theorem LS.turn {r : Int} {ns : List Nd} (hc : chk r ns = 0) {L : List (BitVec 64)} {wk : List Nat} {n : Nat} (h : LS ns L (wk ++ [n])) : LS ns (L.set n (eqM ns L n)) (wk ++ ahl ns n) := by
  have hn : n < ns.length := h.wl n (by simp)
  have hnL : n < L.length := by rw [h.len]; exact hn
  refine ⟨by simp [h.len], fun j hj => ?_, fun m hm hw => ?_, fun m hm => ?_⟩
  · have e : nlb j (L.set n (eqM ns L n)) = (nlb j L).set n (nlF ns j (bat (nlb j L)) n) := by
      unfold nlb
      rw [List.map_set, bit_eqM hc h.len hn hj]
      simp [nlb]
    rw [e]; exact (h.on j hj).put (nlF_mono ns j) hn
  · have hnx : n ∉ nxl ns m := fun q => by
      have := (mem_nxl.1 q).2
      exact hw (List.mem_append_right _ (mem_ahl.2 ⟨hm, this⟩))
    unfold eqM
    rw [behM_set hnL hnx, getD_set hnL]
    by_cases e : m = n
    · subst e; rw [if_pos rfl]
    · rw [if_neg e]
      refine h.st m hm ?_
      intro q
      rcases List.mem_append.1 q with q | q
      · exact hw (List.mem_append_left _ q)
      · simp at q; exact e q
  · rcases List.mem_append.1 hm with q | q
    · exact h.wl m (by simp [q])
    · exact (mem_ahl.1 q).1

/-- How much is left. -/
def left (L : List (BitVec 64)) : Nat := ((List.range 64).map fun j => yeses (nlb j L)).sum

theorem sum_le {l : List Nat} {f g : Nat → Nat} (h : ∀ j ∈ l, f j ≤ g j) : (l.map f).sum ≤ (l.map g).sum := by
  induction l with
  | nil => simp
  | cons a l ih =>
    have := h a (by simp)
    have := ih fun j hj => h j (by simp [hj])
    simp; omega
theorem sum_lt {l : List Nat} {f g : Nat → Nat} (h : ∀ j ∈ l, f j ≤ g j) {i : Nat} (hi : i ∈ l) (hlt : f i < g i) : (l.map f).sum < (l.map g).sum := by
  induction l with
  | nil => cases hi
  | cons a l ih =>
    have h1 := h a (by simp)
    have h2 : (l.map f).sum ≤ (l.map g).sum := sum_le fun j hj => h j (List.mem_cons_of_mem _ hj)
    rcases List.mem_cons.1 hi with rfl | hi
    · simp; omega
    · have := ih (fun j hj => h j (by simp [hj])) hi
      simp; omega

theorem left_less {r : Int} {ns : List Nd} (hc : chk r ns = 0) {L : List (BitVec 64)} {wk : List Nat} {n : Nat} (h : LS ns L (wk ++ [n])) (he : eqM ns L n ≠ L.getD n 0#64) : left (L.set n (eqM ns L n)) < left L := by
  have hn : n < ns.length := h.wl n (by simp)
  have e : ∀ j, j < 64 → nlb j (L.set n (eqM ns L n)) = (nlb j L).set n (nlF ns j (bat (nlb j L)) n) := fun j hj => by
    unfold nlb
    rw [List.map_set, bit_eqM hc h.len hn hj]
    simp [nlb]
  have hex : ∃ j, j < 64 ∧ (eqM ns L n).getLsbD j ≠ (L.getD n 0#64).getLsbD j := by
    refine Classical.byContradiction fun q => he ?_
    apply BitVec.eq_of_getLsbD_eq
    intro j hj
    exact Classical.byContradiction fun p => q ⟨j, hj, p⟩
  obtain ⟨i, hi, hne⟩ := hex
  refine sum_lt (i := i) (fun j hj => ?_) (List.mem_range.2 hi) ?_
  · have hj := List.mem_range.1 hj
    rw [e j hj]
    rcases put_yeses (h.on j hj) hn with q | q
    · rw [q]; exact Nat.le_refl _
    · exact Nat.le_of_lt q
  · rw [e i hi]
    rcases put_yeses (h.on i hi) hn with q | q
    · exfalso
      apply hne
      have hb : bat ((nlb i L).set n (nlF ns i (bat (nlb i L)) n)) n = nlF ns i (bat (nlb i L)) n := by
        rw [bat_set (by simp [nlb, h.len, hn]), if_pos rfl]
      rw [q, bat_nlb (by rw [h.len]; exact hn)] at hb
      rw [bit_eqM hc h.len hn hi, ← hb, Bool.not_not]
    · exact q

theorem left_le (L : List (BitVec 64)) : left L ≤ 64 * L.length := by
  have : ∀ l : List Nat, (l.map fun j => yeses (nlb j L)).sum ≤ l.length * L.length := by
    intro l
    induction l with
    | nil => simp
    | cons a l ih =>
      have h1 := yeses_le (nlb a L)
      simp only [nlb, List.length_map] at h1
      simp only [List.map_cons, List.sum_cons, List.length_cons, Nat.succ_mul]
      simp only [nlb] at ih ⊢
      omega
  have := this (List.range 64)
  simpa [left] using this

/-- The live registers, as bits. -/
structure IsL (ns : List Nd) (L : List (BitVec 64)) : Prop where
  len : L.length = ns.length
  bit : ∀ n j, n < ns.length → j < 64 → (L.getD n 0#64).getLsbD j = liveB ns j n

theorem LS.done {r : Int} {ns : List Nd} (hc : chk r ns = 0) {L : List (BitVec 64)} (h : LS ns L []) : IsL ns L := by
  refine ⟨h.len, fun n j hn hj => ?_⟩
  have hG : IsG (nlF ns j) ns.length (nlb j L) := (h.on j hj).done fun m hm hb => by
    have e := h.st m hm (by simp)
    have b := bit_eqM hc h.len hm hj
    rw [← e] at b
    rw [bat_nlb (by rw [h.len]; exact hm), b, Bool.not_not] at hb
    exact hb
  have := hG.eq_gr (nlF_mono ns j)
  unfold liveB
  rw [← this, bat_nlb (by rw [h.len]; exact hn), Bool.not_not]

end Go.Proofs.Ytoikglgnmjjpcab

namespace Go.Proofs.Ytoikglgnmjjpcab

/-- Nobody uses what the node sets. -/
def dies (ns : List Nd) (n : Nat) : Bool := wi (nd ns n).op 1 8 && !liveB ns (nd ns n).d.toNat (nd ns n).t.toNat
/-- The nodes below k have been looked at. -/
def deadTo (ns : List Nd) (k : Nat) : List Nd := (List.range ns.length).map fun n => if n < k ∧ dies ns n = true then skp (nd ns n).t else nd ns n
def deadR (ns : List Nd) : List Nd := deadTo ns ns.length

theorem deadTo_len (ns : List Nd) (k : Nat) : (deadTo ns k).length = ns.length := by simp [deadTo]
theorem nd_deadTo {ns : List Nd} {k n : Nat} (h : n < ns.length) : nd (deadTo ns k) n = if n < k ∧ dies ns n = true then skp (nd ns n).t else nd ns n := by
  simp [nd, deadTo, h]
theorem nd_deadR {ns : List Nd} {n : Nat} (h : n < ns.length) : nd (deadR ns) n = if dies ns n = true then skp (nd ns n).t else nd ns n := by
  unfold deadR
  rw [nd_deadTo h]
  simp [h]
theorem nd_ext {l m : List Nd} (hl : l.length = m.length) (h : ∀ n, n < l.length → nd l n = nd m n) : l = m := by
  apply List.ext_getElem? 
  intro n
  by_cases hn : n < l.length
  · rw [get_nd hn, get_nd (by omega), h n hn]
  · rw [List.getElem?_eq_none (by omega), List.getElem?_eq_none (by omega)]
theorem deadTo_zero (ns : List Nd) : deadTo ns 0 = ns := by
  refine nd_ext (deadTo_len ns 0) fun n hn => ?_
  rw [deadTo_len] at hn
  rw [nd_deadTo hn, if_neg (by omega)]
theorem deadTo_succ {ns : List Nd} {k : Nat} (h : k < ns.length) : deadTo ns (k + 1) = if dies ns k = true then (deadTo ns k).set k (skp (nd ns k).t) else deadTo ns k := by
  refine nd_ext (by split <;> simp [deadTo_len]) fun n hn => ?_
  rw [deadTo_len] at hn
  rw [nd_deadTo hn]
  by_cases hd : dies ns k = true
  · rw [if_pos hd (c := dies ns k = true), nd_set _ (by rw [deadTo_len]; exact h), nd_deadTo hn]
    by_cases e : n = k
    · subst e; simp [hd]
    · rw [if_neg e]
      by_cases q : n < k
      · simp [q, show n < k + 1 by omega]
      · simp [q, show ¬ n < k + 1 by omega]
  · rw [if_neg hd (c := dies ns k = true), nd_deadTo hn]
    by_cases e : n = k
    · subst e; simp [hd]
    · by_cases q : n < k
      · simp [q, show n < k + 1 by omega]
      · simp [q, show ¬ n < k + 1 by omega]
theorem nd_deadTo_at {ns : List Nd} {k : Nat} (h : k < ns.length) : nd (deadTo ns k) k = nd ns k := by
  rw [nd_deadTo h, if_neg (by omega)]

/-- Has any node below k died? -/
def anyTo (ns : List Nd) (k : Nat) : Bool := (List.range k).any (dies ns)
theorem anyTo_succ (ns : List Nd) (k : Nat) : anyTo ns (k + 1) = (anyTo ns k || dies ns k) := by
  simp [anyTo, List.range_succ, List.any_append]

theorem dies_op {ns : List Nd} {n : Nat} (h : dies ns n = true) : 1 ≤ (nd ns n).op ∧ (nd ns n).op ≤ 8 := by
  simp only [dies, Bool.and_eq_true] at h
  exact wi_iff.1 h.1

/-- Where nodes lead stays as it is. -/
theorem ahB_dead {ns ms : List Nd} (hl : ms.length = ns.length) (h : ∀ n, n < ns.length → nd ms n = nd ns n ∨ 1 ≤ (nd ns n).op ∧ (nd ns n).op ≤ 8 ∧ nd ms n = skp (nd ns n).t) (m n : Nat) : ahB ms m n = ahB ns m n := by
  have key : ahB ms m n = true ↔ ahB ns m n = true := by
    rw [ahB_iff, ahB_iff, hl]
    constructor
    · rintro ⟨hn, q⟩
      refine ⟨hn, ?_⟩
      rcases h n hn with e | ⟨h1, h2, e⟩
      · rw [e] at q; exact q
      · rw [e] at q
        simp only [skp] at q
        left; exact ⟨by omega, by omega⟩
    · rintro ⟨hn, q⟩
      refine ⟨hn, ?_⟩
      rcases h n hn with e | ⟨h1, h2, e⟩
      · rw [e]; exact q
      · rw [e]
        simp only [skp]
        left; exact ⟨by omega, by omega⟩
  cases ha : ahB ms m n <;> cases hb : ahB ns m n
  · rfl
  · rw [key.2 hb] at ha; cases ha
  · rw [key.1 ha] at hb; cases hb
  · rfl
theorem nxl_dead {ns ms : List Nd} (hl : ms.length = ns.length) (h : ∀ n, n < ns.length → nd ms n = nd ns n ∨ 1 ≤ (nd ns n).op ∧ (nd ns n).op ≤ 8 ∧ nd ms n = skp (nd ns n).t) (n : Nat) : nxl ms n = nxl ns n := by
  unfold nxl; rw [hl]; congr 1; funext m; exact ahB_dead hl h m n
theorem ahl_dead {ns ms : List Nd} (hl : ms.length = ns.length) (h : ∀ n, n < ns.length → nd ms n = nd ns n ∨ 1 ≤ (nd ns n).op ∧ (nd ns n).op ≤ 8 ∧ nd ms n = skp (nd ns n).t) (n : Nat) : ahl ms n = ahl ns n := by
  unfold ahl; rw [hl]; congr 1; funext m; exact ahB_dead hl h n m

/-- Some nodes have died. -/
structure DeadOf (ns ms : List Nd) : Prop where
  len : ms.length = ns.length
  at_ : ∀ n, n < ns.length → nd ms n = nd ns n ∨ 1 ≤ (nd ns n).op ∧ (nd ns n).op ≤ 8 ∧ nd ms n = skp (nd ns n).t
theorem DeadOf.refl (ns : List Nd) : DeadOf ns ns := ⟨rfl, fun _ _ => Or.inl rfl⟩
theorem DeadOf.to (ns : List Nd) (k : Nat) : DeadOf ns (deadTo ns k) := ⟨deadTo_len ns k, fun n hn => by
  rw [nd_deadTo hn]
  split
  · rename_i h; have := dies_op h.2; exact Or.inr ⟨this.1, this.2, rfl⟩
  · exact Or.inl rfl⟩
theorem DeadOf.round (ns : List Nd) : DeadOf ns (deadR ns) := DeadOf.to ns ns.length
theorem DeadOf.trans {ns ms ls : List Nd} (h : DeadOf ns ms) (h' : DeadOf ms ls) : DeadOf ns ls := ⟨h'.len.trans h.len, fun n hn => by
  rcases h'.at_ n (by rw [h.len]; exact hn) with e | ⟨a, b, e⟩
  · rw [e]; exact h.at_ n hn
  · rcases h.at_ n hn with e' | ⟨_, _, e'⟩
    · rw [e'] at a b e; exact Or.inr ⟨a, b, e⟩
    · rw [e'] at a; simp [skp] at a⟩
theorem DeadOf.nxl {ns ms : List Nd} (h : DeadOf ns ms) (n : Nat) : nxl ms n = nxl ns n := nxl_dead h.len h.at_ n
theorem DeadOf.ahl {ns ms : List Nd} (h : DeadOf ns ms) (n : Nat) : ahl ms n = ahl ns n := ahl_dead h.len h.at_ n
theorem DeadOf.chk {r : Int} {ns ms : List Nd} (h : DeadOf ns ms) (hc : chk r ns = 0) : chk r ms = 0 := by
  have hf := chk_full hc
  refine chk_mk (by rw [h.len]; exact hf.1) hf.2.1 fun y hy => ?_
  obtain ⟨n, hn⟩ := List.getElem?_of_mem hy
  have hlt := (List.getElem?_eq_some_iff.1 hn).1
  have hy : y = nd ms n := (nd_get hn).symm
  subst hy
  rw [h.len] at hlt ⊢
  have hF := chk_at hc hlt
  rcases h.at_ n hlt with e | ⟨a, b, e⟩
  · rw [e]; exact hF
  · rw [e]
    have := hF.t (by omega)
    refine ⟨by simp [skp], by simp [skp], by simp [skp], by simp [skp], by simp [skp], by simp [skp], by simp [skp], ?_, by simp [skp], by simp [skp], by simp [skp]⟩
    intro _
    exact this

/-- How many nodes are no Skips. -/
def doers (ns : List Nd) : Nat := ns.countP fun x => x.op != 0
theorem countP_le {p : Nd → Bool} : ∀ {l m : List Nd}, l.length = m.length → (∀ n, n < l.length → p (nd l n) = true → p (nd m n) = true) → l.countP p ≤ m.countP p
  | [], [], _, _ => Nat.le_refl _
  | a :: l, b :: m, hl, h => by
    have ih := countP_le (l := l) (m := m) (p := p) (by simpa using hl) fun n hn q => h (n + 1) (by simpa using hn) q
    have h0 := h 0 (by simp)
    simp only [nd, List.getD_cons_zero] at h0
    simp only [List.countP_cons]
    split <;> split <;> first | omega | (rename_i q1 q2; exact absurd (h0 q1) q2)
  | [], _ :: _, hl, _ => by simp at hl
  | _ :: _, [], hl, _ => by simp at hl
theorem countP_lt {p : Nd → Bool} : ∀ {l m : List Nd}, l.length = m.length → (∀ n, n < l.length → p (nd l n) = true → p (nd m n) = true) → ∀ k, k < l.length → p (nd l k) = false → p (nd m k) = true → l.countP p < m.countP p
  | [], [], _, _, k, hk, _, _ => by simp at hk
  | a :: l, b :: m, hl, h, k, hk, q1, q2 => by
    have h0 := h 0 (by simp)
    simp only [nd, List.getD_cons_zero] at h0
    have hle := countP_le (l := l) (m := m) (p := p) (by simpa using hl) fun n hn q => h (n + 1) (by simpa using hn) q
    simp only [List.countP_cons]
    cases k with
    | zero =>
      have q1 : p a = false := q1
      have q2 : p b = true := q2
      simp [q1, q2]; omega
    | succ k =>
      have ih := countP_lt (l := l) (m := m) (p := p) (by simpa using hl) (fun n hn q => h (n + 1) (by simpa using hn) q) k (by simpa using hk) q1 q2
      split <;> split <;> first | omega | (rename_i q1 q2; exact absurd (h0 q1) q2)
  | [], _ :: _, hl, _, _, _, _, _ => by simp at hl
  | _ :: _, [], hl, _, _, _, _, _ => by simp at hl

theorem doers_less {ns : List Nd} (h : anyTo ns ns.length = true) : doers (deadR ns) < doers ns := by
  obtain ⟨k, hk, hd⟩ := List.any_eq_true.1 h
  have hk := List.mem_range.1 hk
  refine countP_lt (deadTo_len ns _) (fun n hn q => ?_) k (by rw [deadR, deadTo_len]; exact hk) ?_ ?_
  · rw [deadR, deadTo_len] at hn
    rw [nd_deadR hn] at q
    split at q
    · simp [skp] at q
    · exact q
  · rw [nd_deadR hk, if_pos hd]; simp [skp]
  · have := dies_op hd
    simp; omega
theorem deadR_same {ns : List Nd} (h : anyTo ns ns.length = false) : deadR ns = ns := by
  refine nd_ext (deadTo_len ns _) fun n hn => ?_
  rw [deadR, deadTo_len] at hn
  rw [nd_deadR hn]
  have : dies ns n = false := by
    cases q : dies ns n
    · rfl
    · have := List.any_eq_true.2 ⟨n, List.mem_range.2 hn, q⟩
      unfold anyTo at h; rw [this] at h; cases h
  rw [this]; rfl

/-- So many rounds. -/
def deadI : Nat → List Nd → List Nd
  | 0, ns => ns
  | k + 1, ns => deadI k (deadR ns)
def deadN (ns : List Nd) : List Nd := deadI (doers ns) ns

theorem deadI_fix {ns : List Nd} (h : deadR ns = ns) : ∀ k, deadI k ns = ns
  | 0 => rfl
  | k + 1 => by rw [deadI, h, deadI_fix h k]
theorem deadI_enough : ∀ (k : Nat) (ns : List Nd), doers ns ≤ k → deadI k ns = deadN ns
  | 0, ns, h => by
    unfold deadN
    rw [show doers ns = 0 by omega]
  | k + 1, ns, h => by
    cases ha : anyTo ns ns.length
    · have := deadR_same ha
      unfold deadN
      rw [deadI_fix this, deadI_fix this]
    · have hl := doers_less ha
      rw [deadI, deadI_enough k _ (by omega)]
      unfold deadN
      obtain ⟨d, hd⟩ : ∃ d, doers ns = d + 1 := ⟨doers ns - 1, by omega⟩
      rw [hd, deadI]
      exact (deadI_enough d _ (by omega)).symm
theorem deadN_round (ns : List Nd) : deadN (deadR ns) = deadN ns := by
  cases ha : anyTo ns ns.length
  · rw [deadR_same ha]
  · have hl := doers_less ha
    unfold deadN
    obtain ⟨d, hd⟩ : ∃ d, doers ns = d + 1 := ⟨doers ns - 1, by omega⟩
    rw [hd, deadI]
    exact (deadI_enough d _ (by omega)).symm
theorem deadN_fix {ns : List Nd} (h : anyTo ns ns.length = false) : deadN ns = ns := deadI_fix (deadR_same h) _
theorem DeadOf.iter : ∀ (k : Nat) (ns : List Nd), DeadOf ns (deadI k ns)
  | 0, ns => DeadOf.refl ns
  | k + 1, ns => (DeadOf.round ns).trans (DeadOf.iter k _)
theorem DeadOf.all (ns : List Nd) : DeadOf ns (deadN ns) := DeadOf.iter _ ns
/-- Nothing is dead any more. -/
theorem deadN_none : ∀ (k : Nat) (ns : List Nd), doers ns ≤ k → anyTo (deadN ns) (deadN ns).length = false
  | 0, ns, h => by
    cases ha : anyTo ns ns.length
    · rw [deadN_fix ha]; exact ha
    · have := doers_less ha; omega
  | k + 1, ns, h => by
    cases ha : anyTo ns ns.length
    · rw [deadN_fix ha]; exact ha
    · have hl := doers_less ha
      rw [← deadN_round]
      exact deadN_none k _ (by omega)
theorem deadN_idem (ns : List Nd) : deadN (deadN ns) = deadN ns := deadN_fix (deadN_none _ ns (Nat.le_refl _))

/-- Registers that there are not are not live. -/
theorem live_small {r : Int} {ns : List Nd} (hc : chk r ns = 0) {j : Nat} (hj : r ≤ j) {n : Nat} (hn : n < ns.length) : liveB ns j n = false := by
  have hG := gr_isG (nlF_mono ns j) ns.length
  have : bat (gr (nlF ns j) ns.length) n = true := by
    refine hG.top (fun m => decide (m < ns.length)) (fun m hm => by simp; omega) (fun m hm _ => ?_) n (by simpa using hn)
    have hF := chk_at hc hm
    simp only [nlF, Bool.and_eq_true, Bool.or_eq_true, Bool.not_eq_true']
    constructor
    · simp only [useT, Bool.or_eq_false_iff, Bool.and_eq_false_iff]
      constructor
      · cases h : usA (nd ns m)
        · exact Or.inl rfl
        · right
          simp only [usA, Bool.or_eq_true, beq_iff_eq] at h
          have h' : (nd ns m).op = 2 ∨ (3 ≤ (nd ns m).op ∧ (nd ns m).op ≤ 8) ∨ (10 ≤ (nd ns m).op ∧ (nd ns m).op ≤ 12) := by
            rcases h with (h | h) | h
            · exact Or.inl h
            · exact Or.inr (Or.inl (wi_iff.1 h))
            · exact Or.inr (Or.inr (wi_iff.1 h))
          have := hF.a (by omega) (by omega) (by omega)
          simp; omega
      · cases h : usB (nd ns m)
        · exact Or.inl rfl
        · right
          have h := wi_iff.1 h
          have := hF.b h.1 h.2
          simp; omega
    · right
      simp only [List.all_eq_true]
      intro x hx
      simpa using (mem_nxl.1 hx).1
  unfold liveB
  rw [this]; rfl

/-- The live registers of a node, rising. -/
def lvL (ns : List Nd) (k n : Nat) : List Nat := (List.range k).filter fun j => liveB ns j n
theorem lvL_succ (ns : List Nd) (k n : Nat) : lvL ns (k + 1) n = if liveB ns k n = true then lvL ns k n ++ [k] else lvL ns k n := by
  simp only [lvL, List.range_succ, List.filter_append]
  split
  · rename_i h; simp [h]
  · rename_i h; simp [h]
theorem lvL_all {r : Int} {ns : List Nd} (hc : chk r ns = 0) {n : Nat} (hn : n < ns.length) : lvL ns 64 n = lvL ns r.toNat n := by
  have hr := (chk_full hc).2.1
  have : ∀ d, r.toNat + d ≤ 64 → lvL ns (r.toNat + d) n = lvL ns r.toNat n := by
    intro d
    induction d with
    | zero => intro _; rfl
    | succ d ih =>
      intro h
      rw [show r.toNat + (d + 1) = (r.toNat + d) + 1 by omega, lvL_succ, live_small hc (by omega) hn]
      simp only [Bool.false_eq_true, if_false]
      exact ih (by omega)
  have := this (64 - r.toNat) (by omega)
  rw [show r.toNat + (64 - r.toNat) = 64 by omega] at this
  exact this
theorem mem_lvL {ns : List Nd} {k n j : Nat} : j ∈ lvL ns k n ↔ j < k ∧ liveB ns j n = true := by simp [lvL]

/-- Nodes that may die go on at one node alone. -/
theorem nxl_one {r : Int} {ns : List Nd} (hc : chk r ns = 0) {n : Nat} (hn : n < ns.length) (h1 : (nd ns n).op ≠ 11) (h2 : (nd ns n).op ≠ 12) : nxl ns n = [(nd ns n).t.toNat] := by
  have ht := (chk_at hc hn).t h2
  have hlt : (nd ns n).t.toNat < ns.length := by omega
  have : ∀ m, ahB ns m n = decide (m = (nd ns n).t.toNat) := fun m => by
    have key : ahB ns m n = true ↔ m = (nd ns n).t.toNat := by
      rw [ahB_iff]
      constructor
      · rintro ⟨_, ⟨_, q⟩ | ⟨q, _⟩⟩
        · omega
        · exact absurd q h1
      · intro e; exact ⟨hn, Or.inl ⟨h2, by omega⟩⟩
    by_cases e : m = (nd ns n).t.toNat
    · rw [key.2 e]; simp [e]
    · cases q : ahB ns m n
      · simp [e]
      · exact absurd (key.1 q) e
  unfold nxl
  generalize (nd ns n).t.toNat = t at this hlt
  have e : (fun m => ahB ns m n) = fun m => decide (m = t) := funext this
  rw [e]
  have : ∀ k, t < k → (List.range k).filter (fun m => decide (m = t)) = [t] := by
    intro k
    induction k with
    | zero => intro h; omega
    | succ k ih =>
      intro h
      rw [List.range_succ, List.filter_append]
      by_cases q : t < k
      · rw [ih q]; simp; omega
      · have : k = t := by omega
        subst this
        have : (List.range k).filter (fun m => decide (m = k)) = [] := by
          rw [List.filter_eq_nil_iff]; intro a ha; have := List.mem_range.1 ha; simp; omega
        rw [this]; simp
  exact this _ hlt

end Go.Proofs.Ytoikglgnmjjpcab

namespace Go.Proofs.Ytoikglgnmjjpcab

/-- How often the term was reckoned. -/
def cnt (l : List Ct) (t : Tm) : Int := (ctOf l t).getD 0

theorem cnt_more {l : List Ct} (h : Srt l) (t u : Tm) : cnt (omore l t) u = cnt l u + if u = t then 1 else 0 := by
  unfold cnt
  rw [omore_ct h]
  by_cases e : u = t
  · subst e; simp
  · simp [e]

/-- The two states hold the same in all registers that are live there. -/
def Agree (ns : List Nd) (pc : Nat) (l m : List Int) : Prop := m.length = l.length ∧ ∀ j, liveB ns j pc = true → m.getD j 0 = l.getD j 0

theorem getD_setR (l : List Int) (d v : Int) (j : Nat) : (setR l d v).getD j 0 = if j = d.toNat ∧ j < l.length then v else l.getD j 0 := by
  unfold setR
  simp only [List.getD_eq_getElem?_getD, List.getElem?_set]
  by_cases e : d.toNat = j
  · subst e
    by_cases h : d.toNat < l.length
    · simp [h]
    · simp [h]
  · simp [e, Ne.symm e]

theorem live_back {ns : List Nd} {n m j : Nat} (hn : n < ns.length) (hm : m ∈ nxl ns n) (hs : setT (nd ns n) j = false) (hl : liveB ns j m = true) : liveB ns j n = true := by
  rw [live_eq ns j hn, hs]
  have : (nxl ns n).any (liveB ns j) = true := List.any_eq_true.2 ⟨m, hm, hl⟩
  simp [this]
theorem live_use {ns : List Nd} {n j : Nat} (hn : n < ns.length) (h : useT (nd ns n) j = true) : liveB ns j n = true := by
  rw [live_eq ns j hn, h]; rfl

theorem Agree.next {ns : List Nd} {n m : Nat} {l k : List Int} (h : Agree ns n l k) (hn : n < ns.length) (hm : m ∈ nxl ns n) (hs : ∀ j, setT (nd ns n) j = false) : Agree ns m l k :=
  ⟨h.1, fun j hj => h.2 j (live_back hn hm (hs j) hj)⟩

theorem Agree.set {ns : List Nd} {n m : Nat} {l k : List Int} (h : Agree ns n l k) (hn : n < ns.length) (hm : m ∈ nxl ns n) (h0 : 0 ≤ (nd ns n).d) (v : Int) : Agree ns m (setR l (nd ns n).d v) (setR k (nd ns n).d v) := by
  refine ⟨by simp [setR, h.1], fun j hj => ?_⟩
  rw [getD_setR, getD_setR, h.1]
  split
  · rfl
  · rename_i q
    by_cases e : j = (nd ns n).d.toNat
    · have : ¬ j < l.length := fun p => q ⟨e, p⟩
      simp [List.getD_eq_getElem?_getD, show l.length ≤ j by omega, show k.length ≤ j by rw [h.1]; omega]
    · refine h.2 j (live_back hn hm ?_ hj)
      have : ((nd ns n).d == (j : Int)) = false := by simp; omega
      simp [setT, this]

/-- What is set dies: the rest holds the same. -/
theorem Agree.dead {ns : List Nd} {n m : Nat} {l k : List Int} (h : Agree ns n l k) (hn : n < ns.length) (hm : m ∈ nxl ns n) (h0 : 0 ≤ (nd ns n).d) (hd : liveB ns (nd ns n).d.toNat m = false) (v : Int) : Agree ns m (setR l (nd ns n).d v) k := by
  refine ⟨by simp [setR, h.1], fun j hj => ?_⟩
  have e : j ≠ (nd ns n).d.toNat := fun e => by rw [e, hd] at hj; cases hj
  rw [getD_setR, if_neg (fun q => e q.1)]
  refine h.2 j (live_back hn hm ?_ hj)
  have : ((nd ns n).d == (j : Int)) = false := by simp; omega
  simp [setT, this]

theorem Agree.get {ns : List Nd} {n : Nat} {l k : List Int} (h : Agree ns n l k) (hn : n < ns.length) {a : Int} (hu : useT (nd ns n) a.toNat = true) : getR k a = getR l a := h.2 a.toNat (live_use hn hu)

theorem mem_then {ns : List Nd} {n : Nat} {r : Int} (hc : chk r ns = 0) (hn : n < ns.length) (h : (nd ns n).op ≠ 12) : (nd ns n).t.toNat ∈ nxl ns n := by
  have := (chk_at hc hn).t h
  exact mem_nxl.2 ⟨by omega, ahB_iff.2 ⟨hn, Or.inl ⟨h, by omega⟩⟩⟩
theorem mem_else {ns : List Nd} {n : Nat} {r : Int} (hc : chk r ns = 0) (hn : n < ns.length) (h : (nd ns n).op = 11) : (nd ns n).e.toNat ∈ nxl ns n := by
  have := (chk_at hc hn).e h
  exact mem_nxl.2 ⟨by omega, ahB_iff.2 ⟨hn, Or.inr ⟨h, by omega⟩⟩⟩

/-- One node, done at two states that hold the same where it matters. -/
theorem stp_agree {r : Int} {ns : List Nd} (hc : chk r ns = 0) {n : Nat} (hn : n < ns.length) {s u : St} (hi : u.inp = s.inp) (ho : u.out = s.out) (hr : u.ret = s.ret) (he : u.ended = s.ended) (hA : Agree ns n s.regs u.regs) :
    (stp (nd ns n) u).inp = (stp (nd ns n) s).inp ∧ (stp (nd ns n) u).out = (stp (nd ns n) s).out ∧ (stp (nd ns n) u).ret = (stp (nd ns n) s).ret ∧ (stp (nd ns n) u).ended = (stp (nd ns n) s).ended ∧ (stp (nd ns n) u).pc = (stp (nd ns n) s).pc ∧
    ((stp (nd ns n) u).cts = u.cts ∧ (stp (nd ns n) s).cts = s.cts ∨ (stp (nd ns n) u).cts = omore u.cts (tmOf (nd ns n)) ∧ (stp (nd ns n) s).cts = omore s.cts (tmOf (nd ns n))) ∧
    ((nd ns n).op = 12 ∧ (stp (nd ns n) s).ended = true ∨ (stp (nd ns n) s).pc ∈ nxl ns n ∧ Agree ns (stp (nd ns n) s).pc (stp (nd ns n) s).regs (stp (nd ns n) u).regs) := by
  have hF := chk_at hc hn
  have hop := hF.op
  unfold stp
  by_cases h0 : (nd ns n).op = 0
  · rw [if_pos h0, if_pos h0]
    refine ⟨hi, ho, hr, he, rfl, Or.inl ⟨rfl, rfl⟩, Or.inr ⟨mem_then hc hn (by omega), hA.next hn (mem_then hc hn (by omega)) fun j => ?_⟩⟩
    have : wi (nd ns n).op 1 9 = false := by rw [h0]; decide
    simp [setT, this]
  rw [if_neg h0, if_neg h0]
  by_cases h1 : (nd ns n).op = 1
  · rw [if_pos h1, if_pos h1]
    exact ⟨hi, ho, hr, he, rfl, Or.inl ⟨rfl, rfl⟩, Or.inr ⟨mem_then hc hn (by omega), hA.set hn (mem_then hc hn (by omega)) (hF.d (by omega) (by omega)).1 _⟩⟩
  rw [if_neg h1, if_neg h1]
  by_cases h2 : (nd ns n).op = 2
  · rw [if_pos h2, if_pos h2]
    have ha := hF.a (by omega) (by omega) (by omega)
    have e : getR u.regs (nd ns n).a = getR s.regs (nd ns n).a := hA.get hn (by simp [useT, usA, h2]; omega)
    rw [e]
    exact ⟨hi, ho, hr, he, rfl, Or.inl ⟨rfl, rfl⟩, Or.inr ⟨mem_then hc hn (by omega), hA.set hn (mem_then hc hn (by omega)) (hF.d (by omega) (by omega)).1 _⟩⟩
  rw [if_neg h2, if_neg h2]
  by_cases h9 : (nd ns n).op = 9
  · rw [if_pos h9, if_pos h9, hi]
    exact ⟨rfl, ho, hr, he, rfl, Or.inl ⟨rfl, rfl⟩, Or.inr ⟨mem_then hc hn (by omega), hA.set hn (mem_then hc hn (by omega)) (hF.d (by omega) (by omega)).1 _⟩⟩
  rw [if_neg h9, if_neg h9]
  by_cases h10 : (nd ns n).op = 10
  · rw [if_pos h10, if_pos h10]
    have ha := hF.a (by omega) (by omega) (by omega)
    have e : getR u.regs (nd ns n).a = getR s.regs (nd ns n).a := hA.get hn (by simp [useT, usA, h10, wi]; omega)
    rw [e, ho]
    refine ⟨hi, rfl, hr, he, rfl, Or.inl ⟨rfl, rfl⟩, Or.inr ⟨mem_then hc hn (by omega), hA.next hn (mem_then hc hn (by omega)) fun j => ?_⟩⟩
    have : wi (nd ns n).op 1 9 = false := by rw [h10]; decide
    simp [setT, this]
  rw [if_neg h10, if_neg h10]
  by_cases h11 : (nd ns n).op = 11
  · rw [if_pos h11, if_pos h11]
    have ha := hF.a (by omega) (by omega) (by omega)
    have e : getR u.regs (nd ns n).a = getR s.regs (nd ns n).a := hA.get hn (by simp [useT, usA, h11, wi]; omega)
    have hs : ∀ j, setT (nd ns n) j = false := fun j => by
      have : wi (nd ns n).op 1 9 = false := by rw [h11]; decide
      simp [setT, this]
    rw [e]
    refine ⟨hi, ho, hr, he, rfl, Or.inl ⟨rfl, rfl⟩, Or.inr ?_⟩
    simp only
    split
    · exact ⟨mem_else hc hn h11, hA.next hn (mem_else hc hn h11) hs⟩
    · exact ⟨mem_then hc hn (by omega), hA.next hn (mem_then hc hn (by omega)) hs⟩
  rw [if_neg h11, if_neg h11]
  by_cases h12 : (nd ns n).op = 12
  · rw [if_pos h12, if_pos h12]
    have ha := hF.a (by omega) (by omega) (by omega)
    have e : getR u.regs (nd ns n).a = getR s.regs (nd ns n).a := hA.get hn (by simp [useT, usA, h12, wi]; omega)
    rw [e]
    exact ⟨hi, ho, rfl, rfl, rfl, Or.inl ⟨rfl, rfl⟩, Or.inl ⟨h12, rfl⟩⟩
  rw [if_neg h12, if_neg h12]
  have ha := hF.a (by omega) (by omega) (by omega)
  have hb := hF.b (by omega) (by omega)
  have hw : wi (nd ns n).op 3 8 = true := wi_iff.2 (by omega)
  have e : getR u.regs (nd ns n).a = getR s.regs (nd ns n).a := hA.get hn (by simp [useT, usA, hw]; omega)
  have e' : getR u.regs (nd ns n).b = getR s.regs (nd ns n).b := hA.get hn (by simp [useT, usB, hw]; omega)
  rw [e, e']
  exact ⟨hi, ho, hr, he, rfl, Or.inr ⟨rfl, rfl⟩, Or.inr ⟨mem_then hc hn (by omega), hA.set hn (mem_then hc hn (by omega)) (hF.d (by omega) (by omega)).1 _⟩⟩

/-- A round of what is dead, side by side. -/
structure DR (ns : List Nd) (s u : St) : Prop where
  pc : u.pc = s.pc
  inp : u.inp = s.inp
  out : u.out = s.out
  ret : u.ret = s.ret
  ended : u.ended = s.ended
  steps : u.steps = s.steps
  ss : Srt s.cts
  su : Srt u.cts
  ct : ∀ t, cnt u.cts t ≤ cnt s.cts t
  go : s.ended = false → s.pc < ns.length ∧ Agree ns s.pc s.regs u.regs

theorem DR.step {r : Int} {ns : List Nd} (hc : chk r ns = 0) {s u : St} (h : DR ns s u) : DR ns (run1 ns s) (run1 (deadR ns) u) := by
  cases he : s.ended
  · have heu : u.ended = false := by rw [h.ended]; exact he
    obtain ⟨hn, hA⟩ := h.go he
    have hnd : u.pc < (deadR ns).length := by rw [h.pc, deadR, deadTo_len]; exact hn
    rw [run1_at he (get_nd hn), run1_at heu (get_nd hnd), h.pc, nd_deadR hn]
    by_cases hd : dies ns s.pc = true
    · rw [if_pos hd]
      have hop := dies_op hd
      have hF := chk_at hc hn
      have hlv : liveB ns (nd ns s.pc).d.toNat (nd ns s.pc).t.toNat = false := by
        simp only [dies, Bool.and_eq_true, Bool.not_eq_true'] at hd; exact hd.2
      have hd0 := (hF.d (by omega) (by omega)).1
      have hm := mem_then hc hn (show (nd ns s.pc).op ≠ 12 by omega)
      have hml := (mem_nxl.1 hm).1
      have eu : stp (skp (nd ns s.pc).t) u = { u with pc := (nd ns s.pc).t.toNat, steps := u.steps + 1 } := by simp [stp, skp]
      have es : ∃ v l, stp (nd ns s.pc) s = { s with pc := (nd ns s.pc).t.toNat, steps := s.steps + 1, regs := setR s.regs (nd ns s.pc).d v, cts := l } ∧ (l = s.cts ∨ l = omore s.cts (tmOf (nd ns s.pc))) := by
        unfold stp
        rw [if_neg (by omega)]
        by_cases h1 : (nd ns s.pc).op = 1
        · rw [if_pos h1]; exact ⟨_, _, rfl, Or.inl rfl⟩
        rw [if_neg h1]
        by_cases h2 : (nd ns s.pc).op = 2
        · rw [if_pos h2]; exact ⟨_, _, rfl, Or.inl rfl⟩
        rw [if_neg h2, if_neg (by omega), if_neg (by omega), if_neg (by omega), if_neg (by omega)]
        exact ⟨_, _, rfl, Or.inr rfl⟩
      obtain ⟨v, l, es, hl⟩ := es
      rw [eu, es]
      have hsl : Srt l := by
        rcases hl with rfl | rfl
        · exact h.ss
        · exact omore_srt h.ss _
      refine ⟨rfl, h.inp, h.out, h.ret, h.ended, by simp [h.steps], hsl, h.su, fun t => ?_, fun _ => ⟨hml, hA.dead hn hm hd0 hlv v⟩⟩
      rcases hl with rfl | rfl
      · exact h.ct t
      · have := h.ct t
        simp only
        rw [cnt_more h.ss]
        split <;> omega
    · rw [if_neg hd]
      obtain ⟨a1, a2, a3, a4, a5, a6, a7⟩ := stp_agree hc hn h.inp h.out h.ret h.ended hA
      refine ⟨a5, a1, a2, a3, a4, by rw [stp_steps, stp_steps, h.steps], ?_, ?_, fun t => ?_, fun q => ?_⟩
      · rcases a6 with ⟨_, e⟩ | ⟨_, e⟩
        · rw [e]; exact h.ss
        · rw [e]; exact omore_srt h.ss _
      · rcases a6 with ⟨e, _⟩ | ⟨e, _⟩
        · rw [e]; exact h.su
        · rw [e]; exact omore_srt h.su _
      · have := h.ct t
        rcases a6 with ⟨e, e'⟩ | ⟨e, e'⟩
        · rw [e, e']; exact this
        · rw [e, e', cnt_more h.ss, cnt_more h.su]; omega
      · rcases a7 with ⟨_, q'⟩ | ⟨b1, b2⟩
        · rw [q] at q'; cases q'
        · exact ⟨(mem_nxl.1 b1).1, b2⟩
  · have heu : u.ended = true := by rw [h.ended]; exact he
    rw [run1_ended he, run1_ended heu]; exact h

theorem DR.run {r : Int} {ns : List Nd} (hc : chk r ns = 0) : ∀ (n : Nat) {s u : St}, DR ns s u → DR ns (runN ns n s) (runN (deadR ns) n u)
  | 0, _, _, h => h
  | n + 1, s, u, h => by rw [runS_succ, runS_succ]; exact DR.run hc n (h.step hc)

theorem DR.start {r : Int} {ns : List Nd} (hc : chk r ns = 0) (k : Nat) (inp : List Int) : DR ns (st0 k inp) (st0 k inp) :=
  ⟨rfl, rfl, rfl, rfl, rfl, rfl, List.Pairwise.nil, List.Pairwise.nil, fun _ => Int.le_refl _, fun _ => ⟨(chk_full hc).1.1, rfl, fun _ _ => rfl⟩⟩

/-- What is seen of two runs. -/
structure Seen (s u : St) : Prop where
  out : u.out = s.out
  ret : u.ret = s.ret
  ended : u.ended = s.ended
  steps : u.steps = s.steps
  ct : ∀ t, cnt u.cts t ≤ cnt s.cts t

theorem dead_iter {r : Int} (n k : Nat) (inp : List Int) : ∀ (d : Nat) {ns : List Nd}, chk r ns = 0 → Seen (runN ns n (st0 k inp)) (runN (deadI d ns) n (st0 k inp))
  | 0, _, _ => ⟨rfl, rfl, rfl, rfl, fun _ => Int.le_refl _⟩
  | d + 1, ns, hc => by
    have h1 := DR.run hc n (DR.start hc k inp)
    have h2 := dead_iter n k inp d ((DeadOf.round ns).chk hc)
    exact ⟨h2.out.trans h1.out, h2.ret.trans h1.ret, h2.ended.trans h1.ended, h2.steps.trans h1.steps, fun t => Int.le_trans (h2.ct t) (h1.ct t)⟩

theorem dead_same {r : Int} {ns : List Nd} (hc : chk r ns = 0) (n k : Nat) (inp : List Int) : Seen (runN ns n (st0 k inp)) (runN (deadN ns) n (st0 k inp)) := dead_iter n k inp _ hc

/-- A node ahead of all that sets a register. -/
def lessN (ns : List Nd) (d v : Int) : List Nd := (ns ++ [nd ns 0]).set 0 ⟨1, d, v, 0, ns.length, 0⟩

theorem lessN_len (ns : List Nd) (d v : Int) : (lessN ns d v).length = ns.length + 1 := by simp [lessN]
theorem nd_less {ns : List Nd} {d v : Int} {n : Nat} (h : n < ns.length) (h0 : n ≠ 0) : nd (lessN ns d v) n = nd ns n := by
  unfold lessN
  rw [nd_set _ (by simp), if_neg h0, nd_app_left h]
theorem nd_less_last {ns : List Nd} {d v : Int} (h : 0 < ns.length) : nd (lessN ns d v) ns.length = nd ns 0 := by
  unfold lessN
  rw [nd_set _ (by simp), if_neg (by omega), nd_app_last]
theorem nd_less_zero (ns : List Nd) (d v : Int) : nd (lessN ns d v) 0 = ⟨1, d, v, 0, ns.length, 0⟩ := by
  unfold lessN
  rw [nd_set _ (by simp), if_pos rfl]

theorem less_chk {r : Int} {ns : List Nd} (hc : chk r ns = 0) (hl : ns.length < 256) {d : Int} (hd : 0 ≤ d ∧ d < r) (v : Int) : chk r (lessN ns d v) = 0 := by
  have hf := chk_full hc
  have hF : ∀ x, Full r ns.length x → Full r (lessN ns d v).length x := fun x h => by
    rw [lessN_len]
    exact ⟨h.op, h.d, h.d0, h.a, h.a0, h.b, h.b0, fun q => by have := h.t q; omega, h.t0, fun q => by have := h.e q; omega, h.e0⟩
  refine chk_mk (by rw [lessN_len]; omega) hf.2.1 fun y hy => ?_
  obtain ⟨n, hn⟩ := List.getElem?_of_mem hy
  have hlt := (List.getElem?_eq_some_iff.1 hn).1
  have hy : y = nd (lessN ns d v) n := (nd_get hn).symm
  subst hy
  rw [lessN_len] at hlt
  by_cases h0 : n = 0
  · subst h0
    rw [nd_less_zero, lessN_len]
    refine ⟨by simp, fun _ _ => hd, by simp, by simp, by simp, by simp, by simp, fun _ => ?_, by simp, by simp, by simp⟩
    simp; omega
  · by_cases h1 : n < ns.length
    · rw [nd_less h1 h0]; exact hF _ (chk_at hc h1)
    · rw [show n = ns.length by omega, nd_less_last (by omega)]; exact hF _ (chk_at hc (by omega))

/-- The two run side by side. -/
structure LR (ns : List Nd) (s u : St) : Prop where
  inp : u.inp = s.inp
  out : u.out = s.out
  ret : u.ret = s.ret
  ended : u.ended = s.ended
  cts : u.cts = s.cts
  go : s.ended = false → s.pc < ns.length ∧ u.pc = (if s.pc = 0 then ns.length else s.pc) ∧ Agree ns s.pc s.regs u.regs

theorem LR.step {r : Int} {ns : List Nd} (hc : chk r ns = 0) {d v : Int} {s u : St} (h : LR ns s u) : LR ns (run1 ns s) (run1 (lessN ns d v) u) := by
  cases he : s.ended
  · have heu : u.ended = false := by rw [h.ended]; exact he
    obtain ⟨hn, hp, hA⟩ := h.go he
    have hul : u.pc < (lessN ns d v).length := by rw [lessN_len, hp]; split <;> omega
    have hnu : nd (lessN ns d v) u.pc = nd ns s.pc := by
      rw [hp]
      split
      · rename_i e; rw [nd_less_last (by omega), e]
      · rename_i e; exact nd_less hn e
    rw [run1_at he (get_nd hn), run1_at heu (get_nd hul), hnu]
    obtain ⟨a1, a2, a3, a4, a5, a6, a7⟩ := stp_agree hc hn h.inp h.out h.ret h.ended hA
    refine ⟨a1, a2, a3, a4, ?_, fun q => ?_⟩
    · rcases a6 with ⟨e, e'⟩ | ⟨e, e'⟩
      · rw [e, e']; exact h.cts
      · rw [e, e', h.cts]
    · rcases a7 with ⟨_, q'⟩ | ⟨b1, b2⟩
      · rw [q] at q'; cases q'
      · have hb := mem_nxl.1 b1
        refine ⟨hb.1, ?_, b2⟩
        have h0 : (stp (nd ns s.pc) s).pc ≠ 0 := by
          intro e
          rw [e] at hb
          obtain ⟨_, q⟩ := ahB_iff.1 hb.2
          have hF := chk_at hc hn
          rcases q with ⟨q1, q2⟩ | ⟨q1, q2⟩
          · have := hF.t q1; omega
          · have := hF.e q1; omega
        rw [if_neg h0]; exact a5
  · have heu : u.ended = true := by rw [h.ended]; exact he
    rw [run1_ended he, run1_ended heu]; exact h

theorem LR.run {r : Int} {ns : List Nd} (hc : chk r ns = 0) {d v : Int} : ∀ (n : Nat) {s u : St}, LR ns s u → LR ns (runN ns n s) (runN (lessN ns d v) n u)
  | 0, _, _, h => h
  | n + 1, s, u, h => by rw [runS_succ, runS_succ]; exact LR.run hc n (h.step hc)

theorem less_same {r : Int} {ns : List Nd} (hc : chk r ns = 0) {d : Int} (hlv : liveB ns d.toNat 0 = false) (v : Int) (n k : Nat) (inp : List Int) : LR ns (runN ns n (st0 k inp)) (runN (lessN ns d v) (n + 1) (st0 k inp)) := by
  rw [runS_succ]
  refine LR.run hc n ?_
  have h1 : 0 < ns.length := (chk_full hc).1.1
  have e : run1 (lessN ns d v) (st0 k inp) = { st0 k inp with pc := ns.length, steps := 1, regs := setR (List.replicate k 0) d v } := by
    rw [run1_at rfl (get_nd (n := 0) (by rw [lessN_len]; omega)), nd_less_zero]
    simp [stp, st0]
  rw [e]
  refine ⟨rfl, rfl, rfl, rfl, rfl, fun _ => ⟨h1, rfl, ?_⟩⟩
  refine ⟨by simp [setR, st0], fun j hj => ?_⟩
  have hne : j ≠ d.toNat := fun e => by
    rw [e] at hj
    change liveB ns d.toNat 0 = true at hj
    rw [hlv] at hj; cases hj
  show (setR (List.replicate k 0) d v).getD j 0 = _
  rw [getD_setR, if_neg (fun q => hne q.1)]; rfl

end Go.Proofs.Ytoikglgnmjjpcab

namespace Go.Proofs.Ytoikglgnmjjpcab

/-- The last j of k nodes have been asked. -/
def tdn (F : (Nat → Bool) → Nat → Bool) (k : Nat) (x : List Bool) : Nat → List Bool
  | 0 => x
  | j + 1 => (tdn F k x j).set (k - 1 - j) (F (bat (tdn F k x j)) (k - 1 - j))

theorem tdn_onway {F : (Nat → Bool) → Nat → Bool} {k : Nat} {x : List Bool} (hF : Mono F) (h : Onway F k x) : ∀ j, j ≤ k → Onway F k (tdn F k x j)
  | 0, _ => h
  | j + 1, hj => (tdn_onway hF h j (by omega)).put hF (by omega)

theorem tdn_yeses {F : (Nat → Bool) → Nat → Bool} {k : Nat} {x : List Bool} (hF : Mono F) (h : Onway F k x) : ∀ j, j ≤ k → (tdn F k x j = x ∧ ∀ m, k - j ≤ m → m < k → bat x m = F (bat x) m) ∨ yeses (tdn F k x j) < yeses x
  | 0, _ => Or.inl ⟨rfl, fun m hm hm' => by omega⟩
  | j + 1, hj => by
    have ho := tdn_onway hF h j (by omega)
    have hp := put_yeses ho (n := k - 1 - j) (by omega)
    simp only [tdn]
    rcases tdn_yeses hF h j (by omega) with ⟨h1, h2⟩ | h1
    · rw [h1] at hp ⊢
      rcases hp with h3 | h3
      · left
        refine ⟨h3, fun m hm hm' => ?_⟩
        by_cases e : m = k - 1 - j
        · subst e
          have := congrArg (fun l => bat l (k - 1 - j)) h3
          rw [bat_set (by rw [h.len]; omega)] at this
          simpa using this.symm
        · exact h2 m (by omega) hm'
      · exact Or.inr h3
    · right
      rcases hp with h3 | h3
      · rw [h3]; exact h1
      · omega

/-- So many rounds. -/
def tdns (F : (Nat → Bool) → Nat → Bool) (k : Nat) : Nat → List Bool
  | 0 => List.replicate k true
  | n + 1 => tdn F k (tdns F k n) k

theorem tdns_onway {F : (Nat → Bool) → Nat → Bool} (hF : Mono F) (k : Nat) : ∀ n, Onway F k (tdns F k n)
  | 0 => Onway.start F k
  | n + 1 => tdn_onway hF (tdns_onway hF k n) k (Nat.le_refl _)

theorem tdns_yeses {F : (Nat → Bool) → Nat → Bool} (hF : Mono F) (k : Nat) : ∀ n, (∀ m, m < k → bat (tdns F k n) m = F (bat (tdns F k n)) m) ∨ yeses (tdns F k n) + n ≤ k
  | 0 => Or.inr (by have := yeses_le (List.replicate k true); simpa [tdns] using this)
  | n + 1 => by
    simp only [tdns]
    rcases tdn_yeses hF (tdns_onway hF k n) k (Nat.le_refl _) with ⟨h1, h2⟩ | h1
    · left; rw [h1]; exact fun m hm => h2 m (by omega) hm
    · rcases tdns_yeses hF k n with h2 | h2
      · left
        have hs : ∀ j, j ≤ k → tdn F k (tdns F k n) j = tdns F k n := by
          intro j
          induction j with
          | zero => intro _; rfl
          | succ j ih =>
            intro hj
            simp only [tdn]
            rw [ih (by omega)]
            exact set_same (by rw [(tdns_onway hF k n).len]; omega) (h2 _ (by omega))
        rw [hs k (Nat.le_refl _)]; exact h2
      · right; omega

theorem tdns_isG {F : (Nat → Bool) → Nat → Bool} (hF : Mono F) (k : Nat) : IsG F k (tdns F k (k + 1)) := by
  refine (tdns_onway hF k (k + 1)).done fun n hn h => ?_
  rcases tdns_yeses hF k (k + 1) with h1 | h1
  · rw [← h1 n hn]; exact h
  · omega

/-- Where a register is live, all nodes. -/
def lvR (ns : List Nd) (j : Nat) : List Bool := (List.range ns.length).map (liveB ns j)
theorem lvR_len (ns : List Nd) (j : Nat) : (lvR ns j).length = ns.length := by simp [lvR]
theorem bat_lvR {ns : List Nd} {j n : Nat} (h : n < ns.length) : bat (lvR ns j) n = liveB ns j n := bat_map _ h
theorem lvR_eq (ns : List Nd) (j : Nat) : (tdns (nlF ns j) ns.length (ns.length + 1)).map not = lvR ns j := by
  have hG := tdns_isG (nlF_mono ns j) ns.length
  have e := hG.eq_gr (nlF_mono ns j)
  refine bat_ext (by simp [lvR, hG.len]) fun n hn => ?_
  rw [List.length_map, hG.len] at hn
  rw [bat_not (by rw [hG.len]; exact hn), bat_lvR hn, e]; rfl

theorem any_nxl {r : Int} {ns : List Nd} (hc : chk r ns = 0) {n : Nat} (hn : n < ns.length) (p : Nat → Bool) : (nxl ns n).any p = (((nd ns n).op != 12 && p (nd ns n).t.toNat) || ((nd ns n).op == 11 && p (nd ns n).e.toNat)) := by
  have hF := chk_at hc hn
  have key : (nxl ns n).any p = true ↔ (((nd ns n).op != 12 && p (nd ns n).t.toNat) || ((nd ns n).op == 11 && p (nd ns n).e.toNat)) = true := by
    simp only [List.any_eq_true, Bool.or_eq_true, Bool.and_eq_true, bne_iff_ne, beq_iff_eq]
    constructor
    · rintro ⟨m, hm, hp⟩
      obtain ⟨_, q⟩ := ahB_iff.1 (mem_nxl.1 hm).2
      rcases q with ⟨q1, q2⟩ | ⟨q1, q2⟩
      · left; exact ⟨q1, by rw [q2]; exact hp⟩
      · right; exact ⟨q1, by rw [q2]; exact hp⟩
    · rintro (⟨q1, q2⟩ | ⟨q1, q2⟩)
      · exact ⟨_, mem_then hc hn q1, q2⟩
      · exact ⟨_, mem_else hc hn q1, q2⟩
  cases a : (nxl ns n).any p <;> cases b : (((nd ns n).op != 12 && p (nd ns n).t.toNat) || ((nd ns n).op == 11 && p (nd ns n).e.toNat))
  · rfl
  · rw [key.2 b] at a; cases a
  · rw [key.1 a] at b; cases b
  · rfl

theorem not_nlF {r : Int} {ns : List Nd} (hc : chk r ns = 0) {n : Nat} (hn : n < ns.length) (j : Nat) (y : Nat → Bool) : (!nlF ns j y n) = (useT (nd ns n) j || (!setT (nd ns n) j && (((nd ns n).op != 12 && !y (nd ns n).t.toNat) || ((nd ns n).op == 11 && !y (nd ns n).e.toNat)))) := by
  have e := any_nxl hc hn fun m => !y m
  simp only [nlF, Bool.not_and, Bool.not_not, Bool.not_or]
  rw [← e]
  congr 1
  congr 1
  generalize nxl ns n = l
  induction l with
  | nil => rfl
  | cons a l ih => simp only [List.all_cons, List.any_cons, Bool.not_and, ih]

end Go.Proofs.Ytoikglgnmjjpcab

