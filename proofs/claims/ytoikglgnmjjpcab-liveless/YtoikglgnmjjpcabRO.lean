/-
  slices.SortFunc at counts: they come sorted.
  cmp.Compare, cmp.Or and the order by which run.counts sorts, walked.
  run.counts, walked: the counts of a map come sorted, whatever order it is gone through in; what the sort does is a premise here.
  run.counts, walked up to its sort: what a map of counts holds, gone through in whatever order.
-/
import Derived.Test.YtoikglgnmjjpcabRE
import Derived.Test.YtoikglgnmjjpcabG
import Derived.Maps.RangeWalk
import Derived.Sort.Grow
import Derived.Test.YtoikglgnmjjpcabSf
namespace Go.Proofs.Ytoikglgnmjjpcab
open Go.RowKit Go.Maps Go.ChangeMaps
set_option linter.unusedVariables false

theorem lits_int_inv {d : Nat} {u : Value} {ls : List Lit} (h : Try.prog.keyLits (d + 1) 3 [u] = some ls) : ∃ n, u = .int .i64 n ∧ (Lit.int .i64 n).wf = true := by
  cases u <;> simp [Program.keyLits, Try.underlying3] at h
  obtain ⟨⟨rfl, hw⟩, rfl⟩ := h
  exact ⟨_, rfl, hw⟩

set_option maxRecDepth 100000 in
theorem tkey_inv {key : Value} {kl : Lit} (h : keyOf Try.prog 48 key = some kl) : ∃ t : Tm, key = .agg #[.int .i64 t.op, .int .i64 t.a, .int .i64 t.b] ∧ twf t ∧ kl = tkl t := by
  have hk : Try.prog.keyType 48 = true := by kernel_rfl
  have hc : Try.prog.cellsOf 48 = 3 := by kernel_rfl
  have hci : Try.prog.cellsOf 3 = 1 := by kernel_rfl
  obtain ⟨m, hm⟩ := types_pos
  have h' := h
  unfold keyOf at h
  rw [Try.underlying48] at h
  simp only [hk, Bool.true_and] at h
  split at h
  · rename_i hf
    cases key <;> simp [Value.formed, Try.underlying48] at hf
    rename_i cs
    rw [hc] at hf
    obtain ⟨l⟩ := cs
    match l, hf with
    | [a, b, c], _ =>
      rw [hm] at h
      unfold Program.keyLits at h
      simp [Try.underlying48, hc, hci, Value.cells] at h
      have q1 : ∃ l1, Try.prog.keyLits (m + 1) 3 [a] = some l1 := by
        cases e : Try.prog.keyLits (m + 1) 3 [a] with
        | none => simp [e] at h
        | some l1 => exact ⟨l1, rfl⟩
      obtain ⟨l1, q1⟩ := q1
      rw [q1] at h
      have q2 : ∃ l1, Try.prog.keyLits (m + 1) 3 [b] = some l1 := by
        cases e : Try.prog.keyLits (m + 1) 3 [b] with
        | none => simp [e] at h
        | some l1 => exact ⟨l1, rfl⟩
      obtain ⟨l2, q2⟩ := q2
      rw [q2] at h
      have q3 : ∃ l1, Try.prog.keyLits (m + 1) 3 [c] = some l1 := by
        cases e : Try.prog.keyLits (m + 1) 3 [c] with
        | none => simp [e] at h
        | some l1 => exact ⟨l1, rfl⟩
      obtain ⟨l3, q3⟩ := q3
      obtain ⟨n1, rfl, w1⟩ := lits_int_inv q1
      obtain ⟨n2, rfl, w2⟩ := lits_int_inv q2
      obtain ⟨n3, rfl, w3⟩ := lits_int_inv q3
      refine ⟨⟨n1, n2, n3⟩, rfl, ⟨w1, w2, w3⟩, ?_⟩
      have := tkey ⟨n1, n2, n3⟩ w1 w2 w3
      rw [h'] at this
      exact Option.some.inj this
  · exact absurd h (by simp)

def encCt (c : Ct) : List Value := [.int .i64 c.t.op, .int .i64 c.t.a, .int .i64 c.t.b, .int .i64 c.n]

/-- What has been gone through of the counts l, where 'left' is what is still to come. -/
structure Gone (l : List Ct) (left : Lit → Bool) (L : List Ct) : Prop where
  mem : ∀ c ∈ L, ctOf l c.t = some c.n ∧ left (tkl c.t) = false ∧ twf c.t
  nd : (L.map (·.t)).Nodup
  all : ∀ t, twf t → (ctOf l t).isSome = true → left (tkl t) = false → t ∈ L.map (·.t)

theorem Gone.start {l : List Ct} {D : DataW Unit} (rel : MapRel D l) : Gone l (Maps.has D) [] := by
  refine ⟨by simp, by simp, fun t ht h1 h2 => ?_⟩
  exfalso
  cases e : ctOf l t with
  | none => simp [e] at h1
  | some n =>
    have := has_true_of_atKey (D := D) (k := tkl t) (y := .lit (.int .i64 n)) fun z => by rw [rel.2 t ht z, e]
    rw [this] at h2; exact absurd h2 (by simp)

theorem MapRel.found {D : DataW Unit} {l : List Ct} (rel : MapRel D l) {t : Tm} (ht : twf t) {n : Int} (h : ∀ z, D.atKey (tkl t) z = .lit (.int .i64 n)) : ctOf l t = some n := by
  have h1 := rel.2 t ht (.lit (.int .i64 (n + 1)))
  rw [h] at h1
  cases e : ctOf l t with
  | none => rw [e] at h1; have := (Lit.int.inj (DataW.lit.inj h1)).2; omega
  | some m => rw [e] at h1; have := (Lit.int.inj (DataW.lit.inj h1)).2; rw [this]

theorem Gone.more {l : List Ct} {left : Lit → Bool} {L : List Ct} (h : Gone l left L) {t : Tm} {n : Int} (ht : twf t) (hl : left (tkl t) = true) (hc : ctOf l t = some n) : Gone l (fun z => left z && !z.sameKey (tkl t)) (L ++ [⟨t, n⟩]) := by
  have hkl : (tkl t).sameKey (tkl t) = true := by simp [tkl, Lit.sameKey]
  have hne : ∀ u, twf u → u ≠ t → (tkl u).sameKey (tkl t) = false := fun u hu e => by
    cases q : (tkl u).sameKey (tkl t)
    · rfl
    · exfalso
      apply e
      apply tkl_inj hu ht
      simpa [tkl, Lit.sameKey] using q
  have hnot : t ∉ L.map (·.t) := fun hm => by
    obtain ⟨c, hc1, hc2⟩ := List.mem_map.1 hm
    have := (h.mem c hc1).2.1
    rw [hc2, hl] at this; exact absurd this (by simp)
  refine ⟨fun c hcm => ?_, ?_, fun u hu hs hf => ?_⟩
  · rw [List.mem_append] at hcm
    rcases hcm with hcm | hcm
    · obtain ⟨a, b, c⟩ := h.mem c hcm
      exact ⟨a, by rw [b]; rfl, c⟩
    · simp at hcm; subst hcm
      exact ⟨hc, by simp [hkl], ht⟩
  · rw [List.map_append, List.nodup_append]
    refine ⟨h.nd, by simp, fun a ha b hb => ?_⟩
    simp at hb; subst hb
    exact fun e => hnot (e ▸ ha)
  · rw [List.map_append, List.mem_append]
    by_cases e : u = t
    · subst e; right; simp
    · left
      refine h.all u hu hs ?_
      simpa [hne u hu e] using hf

end Go.Proofs.Ytoikglgnmjjpcab

namespace Go.Proofs.Ytoikglgnmjjpcab
open Go.RowKit Go.Maps Go.ChangeMaps
set_option linter.unusedVariables false

theorem info_count : (Try.prog.info? 50).map (fun i => (i.zero, i.size, i.bytes)) = some (some (.agg #[.int .i64 0, .int .i64 0, .int .i64 0, .int .i64 0]), 4, 32) := by kernel_rfl

/-- What the sort of counts does. -/
def SortsCt : Prop := ∀ (v : Value) (L : List Ct) (W : World) (base : Nat), base ≤ W.heap.size → W.ownsRow base 50 4 v L.length (L.flatMap encCt) → (L.map (·.t)).Nodup → L.length ≤ 131072 →
  Calls Try.prog 47 #[v, .func (.func 48) #[] #[]] W fun e w' => e = .returned (.tuple #[]) ∧ ∃ L', L'.Perm L ∧ Srt L' ∧ w'.ownsRow base 50 4 v L'.length (L'.flatMap encCt) ∧ Below base W w'

theorem ranges_cnt {w : World} {k : TypeId} {R : Value → Option (DataW Unit × List MemPlace)} {b r n : Nat} {D : DataW Unit} {left : Lit → Bool} {cnt : Nat} (h : w.ranges Try.prog k R b r n D left cnt) : cnt ≤ n := by
  obtain ⟨es, clock, since, seen, c0, h1, h2, h3, h4, h5, h6, h7, h8⟩ := h
  have : (leftOf es seen).size ≤ es.size := by unfold leftOf; exact Array.size_filter_le
  omega

theorem srt_eq {a : List Ct} : ∀ {b : List Ct}, a.Perm b → Srt a → Srt b → a = b := by
  induction a with
  | nil => intro b h _ _; exact h.nil_eq
  | cons x a ih =>
    intro b h ha hb
    cases b with
    | nil => exact absurd h.symm.nil_eq (by simp)
    | cons y b =>
      unfold Srt at ha hb
      rw [List.pairwise_cons] at ha hb
      have e : x = y := by
        have h1 : x ∈ y :: b := h.mem_iff.1 (List.mem_cons_self ..)
        have h2 : y ∈ x :: a := h.mem_iff.2 (List.mem_cons_self ..)
        rcases List.mem_cons.1 h1 with e | h1
        · exact e
        · rcases List.mem_cons.1 h2 with e | h2
          · exact e.symm
          · have := abv_trans (hb.1 x h1) (ha.1 y h2)
            rw [abv_irrefl] at this; cases this
      subst e
      rw [ih (List.perm_cons x |>.1 h) ha.2 hb.2]

theorem srt_ct {l : List Ct} (h : Srt l) : ∀ c ∈ l, ctOf l c.t = some c.n := by
  induction l with
  | nil => intro c hc; cases hc
  | cons d l ih =>
    unfold Srt at h
    rw [List.pairwise_cons] at h
    intro c hc
    rw [ctOf_cons]
    rcases List.mem_cons.1 hc with e | hc
    · subst e; simp
    · rw [if_neg, ih h.2 c hc]
      intro e
      have := h.1 c hc
      rw [e, abv_irrefl] at this; cases this

theorem srt_nd {l : List Ct} (h : Srt l) : l.Nodup := by
  unfold Srt at h
  refine List.Pairwise.imp (fun {a b} hab e => ?_) h
  rw [e, abv_irrefl] at hab; cases hab

theorem Gone.perm {l : List Ct} {left : Lit → Bool} {L : List Ct} (h : Gone l left L) (srt : Srt l) (hwf : ∀ c ∈ l, twf c.t) (hl : ∀ z, left z = false) : L.Perm l := by
  have hnd : L.Nodup := by
    have := h.nd
    exact (List.pairwise_map.1 this).imp fun hab e => hab (by rw [e])
  rw [List.perm_ext_iff_of_nodup hnd (srt_nd srt)]
  intro c
  constructor
  · intro hc
    have := ctOf_mem (h.mem c hc).1
    exact this
  · intro hc
    have h1 := srt_ct srt c hc
    have h2 := h.all c.t (hwf c hc) (by rw [h1]; rfl) (hl _)
    obtain ⟨d, hd1, hd2⟩ := List.mem_map.1 h2
    have h3 := (h.mem d hd1).1
    rw [hd2, h1] at h3
    have : d = c := by
      cases d; cases c; simp at hd2 h3; subst hd2 h3; rfl
    exact this ▸ hd1

set_option maxHeartbeats 2000000 in
set_option maxRecDepth 100000 in
theorem counts_any (hS : SortsCt) (mp n : Nat) (D : DataW Unit) (l : List Ct) (w : World) (ho : w.ownsMap Try.prog 48 (plainElem Try.prog 3) mp n D) (rel : MapRel D l) (srt : Srt l) (hwf : ∀ c ∈ l, twf c.t) (hn : n ≤ 131072) :
    Calls Try.prog 32 #[.map (some mp)] w fun e w' => ∃ v', e = .returned v' ∧ w'.ownsRow w.heap.size 50 4 v' l.length (l.flatMap encCt) ∧ Below w.heap.size w w' := by
  obtain ⟨i0, hi, hz0, hz1, hz2⟩ := info_parts info_count
  have KK := Keyed.of_law tlaw
  have hmlt := ho.lt
  go_enter Try.func32, Try.ntmps32
  go_wp2_with (first | (at_range; refine wpList_range_own _ rfl _ 73 rfl 48 3 KK Try.underlying73 _ mp n D rfl ho ?_; intro w0 hrg0 hg0 hs0) | go_in)
  go_frame
  go_loopw [3] (fun v wr => ∃ left cnt L, wr.ranges Try.prog 48 (plainElem Try.prog 3) mp w.heap.size n D left cnt ∧ Gone l left L ∧ wr.ownsRow (w.heap.size + 1) 50 4 v L.length (L.flatMap encCt) ∧ L.length + cnt ≤ n ∧ Below w.heap.size w wr) (fun _ wr => wr.rangeLeft mp w.heap.size)
  case atStart => exact ⟨Maps.has D, Maps.size D, [], hrg0, Gone.start rel, World.ownsRow_nil _ _ _ _, by have := ranges_cnt hrg0; simpa using this, ⟨hg0.os, hg0.tape, hg0.output, hg0.size, fun k hk => hg0.block k hk (by simp)⟩⟩
  case round =>
    obtain ⟨left, cnt, L, hrg, hG, hown, hcnt, hB⟩ := hrel
    have HG := hide hG
    have hsz := hB.size
    have hrlt := hrg.lt
    clear hG hrg0 hg0 hs0
    go_wp2_with (first | (at_next; refine wpList_next_ranges _ rfl _ rfl 48 KK (plainElem Try.prog 3) (fun t : Tm => Value.agg #[.int .i64 t.op, .int .i64 t.a, .int .i64 t.b]) (Value.int .i64) (fun key kl hkey => by obtain ⟨t, rfl, _⟩ := tkey_inv hkey; exact ⟨t, rfl⟩) (fun v y hv => by obtain ⟨c, rfl, _⟩ := plainElem_int_inv Try.underlying3 hv; exact ⟨c, rfl⟩) mp w.heap.size n D left cnt rfl hrg ?_ ?_) | go_in)
    · intro hc0 hl0
      go_wp2_with fail
      have hp := HG.out.perm srt hwf hl0
      refine (hS _ L wr (w.heap.size + 1) (by omega) hown HG.out.nd (by omega)).mono ?_
      rintro e w' ⟨rfl, L', hp', hs', ho', hb'⟩
      have eL : L' = l := srt_eq (hp'.trans hp) hs' srt
      subst eL
      go_wp2
      go_ret
      exact ⟨_, rfl, ownsRow_base ho' (by omega), hB.trans (hb'.mono (by omega))⟩
    · intro t c kl y1 y2 w1 cnt1 hkey hlk hv hat hrg1 hlt1 hg1 hs1 hen
      obtain ⟨t', et, htw, rfl⟩ := tkey_inv hkey
      have et' : t = t' := by cases t; cases t'; simpa using et
      subst et'
      obtain ⟨c', ec, ey, hcw⟩ := plainElem_int_inv Try.underlying3 hv
      cases ec
      have hb1 : Below w.heap.size w w1 := hB.trans ⟨hg1.os, hg1.tape, hg1.output, hg1.size, fun k hk => hg1.block k (by omega) (by simp; omega)⟩
      have hown1 : w1.ownsRow (w.heap.size + 1) 50 4 u3 L.length (L.flatMap encCt) := by
        have K1 : Keeps [w.heap.size] wr w1 := ⟨hg1.os, hg1.tape, hg1.output, hg1.size, fun k hk hn => hg1.block k hk (by simp at hn; simp; omega)⟩
        exact K1.owns hown (by simp)
      clear hg1
      have hct : ctOf l t = some c := rel.found htw (fun z => by rw [hat z]; exact (Prod.mk.inj ey).1)
      have hG1 := HG.out.more htw hlk hct
      have HG1 := hide hG1
      clear hG1 HG
      go_wp2_with (at_builtin; refine wpList_append_own _ rfl (.tmp 13) (.tmp 17) 40 rfl (w.heap.size + 1) 50 i0 _ 4 32 Try.underlying40 hi hz0 hz1 hz2 rfl (by decide) _ _ _ rfl ((hown1.alloc _).alloc _) ⟨wr.heap.size + 1, 0, none⟩ 1 1 [.int .i64 t.op, .int .i64 t.a, .int .i64 t.b, .int .i64 c] rfl rfl ?c1 ?c2 ?c3 ?c4 ?c5 ?_)
      case c1 =>
        intro j u hj
        match j, hj with
        | 0, hj => simp at hj; subst hj; rw [← hs1]; simp [Addr.add]
        | 1, hj => simp at hj; subst hj; rw [← hs1]; simp [Addr.add]
        | 2, hj => simp at hj; subst hj; rw [← hs1]; simp [Addr.add]
        | 3, hj => simp at hj; subst hj; rw [← hs1]; simp [Addr.add]
        | j + 4, hj => simp at hj
      case c2 => intro u hu; simp at hu; rcases hu with rfl | rfl | rfl | rfl <;> rfl
      case c3 => unfold maxLen; omega
      case c4 => omega
      case c5 => simp; omega
      intro v' w4 hown5 hg4 _
      have hltb := hown1.lt
      have hB4 : Below w.heap.size w w4 := ((hb1.alloc (by omega) _).alloc (by simp; omega) _).grown hg4 (by simp; omega) (fun k hk => by have := (hltb k hk).1; omega)
      have hrg4 := ((hrg1.alloc _).alloc _).kept hg4 (fun e => by have := (hltb mp e.symm).1; omega) (fun e => by have := (hltb _ e.symm).1; omega)
      have hown6 : w4.ownsRow (w.heap.size + 1) 50 4 v' (L ++ [(⟨t, c⟩ : Ct)]).length ((L ++ [(⟨t, c⟩ : Ct)]).flatMap encCt) := by
        simpa [encCt] using hown5
      have hm := hrg.left_eq
      clear hown5 hg4 hltb hown1
      go_wp2
      go_roundw
      case rel => exact ⟨_, cnt1, _, hrg4, HG1.out, hown6, by simp; omega, hB4⟩
      case measure => rw [hrg4.left_eq, hm]; exact hlt1
end Go.Proofs.Ytoikglgnmjjpcab

namespace Go.Proofs.Ytoikglgnmjjpcab
open Go.RowKit Go.Maps Go.ChangeMaps
set_option linter.unusedVariables false

def cp (a b : Int) : Int := if a < b then -1 else if b < a then 1 else 0

set_option maxHeartbeats 400000 in
theorem nan_any (a : Int) (w : World) : Calls Try.prog 59 #[.int .i64 a] w fun e w' => e = .returned (.bool false) ∧ w' = w := by
  go_enter Try.func59, Try.ntmps59
  go_wp2
  go_ret
  exact ⟨by simp, rfl⟩

set_option maxHeartbeats 400000 in
theorem compare_any (a b : Int) (w : World) : Calls Try.prog 50 #[.int .i64 a, .int .i64 b] w fun e w' => e = .returned (.int .i64 (cp a b)) ∧ w' = w := by
  go_enter Try.func50, Try.ntmps50
  go_wp2_with (go_at_call 59; refine (nan_any _ _).mono ?_; rintro e w' ⟨rfl, rfl⟩)
  all_goals go_ret
  all_goals refine ⟨ret_int ?_, rfl⟩
  all_goals (unfold cp; repeat' split)
  all_goals omega

def or3 (a b c : Int) : Int := if a ≠ 0 then a else if b ≠ 0 then b else c

set_option maxHeartbeats 1000000 in
theorem or_any (b : Nat) (x y z : Int) (w : World) (h0 : w.cell? ⟨b, 0, none⟩ = some (.int .i64 x)) (h1 : w.cell? ⟨b, 1, none⟩ = some (.int .i64 y)) (h2 : w.cell? ⟨b, 2, none⟩ = some (.int .i64 z)) :
    Calls Try.prog 49 #[.slice (some ⟨b, 0, none⟩) 3 3] w fun e w' => e = .returned (.int .i64 (or3 x y z)) ∧ w' = w := by
  go_enter Try.func49, Try.ntmps49
  go_wp2
  refine wp_loop_rounds 4 ?_
  rw [rounds_succ]
  go_wp2
  all_goals (first | (rw [rounds_succ]; go_wp2) | skip)
  all_goals (first | (rw [rounds_succ]; go_wp2) | skip)
  all_goals (first | (rw [rounds_succ]; go_wp2) | skip)
  all_goals go_ret
  all_goals refine ⟨ret_int ?_, rfl⟩
  all_goals simp_all [or3]

/-- How two counts stand to each other. -/
def cpC (x y : Ct) : Int := or3 (cp x.t.op y.t.op) (cp x.t.a y.t.a) (cp x.t.b y.t.b)

theorem cpC_lt (x y : Ct) : decide (cpC x y < 0) = abv y.t x.t := by
  obtain ⟨⟨a1, a2, a3⟩, n⟩ := x
  obtain ⟨⟨b1, b2, b3⟩, m⟩ := y
  simp only [cpC, or3, cp, abv]
  repeat' split
  all_goals (first | omega | (simp; done) | (simp; omega) | simp_all)

open Go.Lib Go.Sort in
set_option maxRecDepth 100000 in
set_option maxHeartbeats 1000000 in
theorem closure_any (x y : Ct) (w : World) :
    Calls Try.prog 48 #[.agg #[.int .i64 x.t.op, .int .i64 x.t.a, .int .i64 x.t.b, .int .i64 x.n], .agg #[.int .i64 y.t.op, .int .i64 y.t.a, .int .i64 y.t.b, .int .i64 y.n]] w fun e w' => e = .returned (.int .i64 (cpC x y)) ∧ ∃ q os', w' = grow (w.drewN q) os' := by
  go_enter Try.func48, Try.ntmps48
  go_wp2
  have x0 : ((w.alloc (.cells #[.int .i64 x.t.op, .int .i64 x.t.a, .int .i64 x.t.b, .int .i64 x.n] 50)).alloc (.cells #[.int .i64 y.t.op, .int .i64 y.t.a, .int .i64 y.t.b, .int .i64 y.n] 50)).cell? ⟨w.heap.size, 0, none⟩ = some (.int .i64 x.t.op) := by simp
  have x1 : ((w.alloc (.cells #[.int .i64 x.t.op, .int .i64 x.t.a, .int .i64 x.t.b, .int .i64 x.n] 50)).alloc (.cells #[.int .i64 y.t.op, .int .i64 y.t.a, .int .i64 y.t.b, .int .i64 y.n] 50)).cell? ⟨w.heap.size, 1, none⟩ = some (.int .i64 x.t.a) := by simp
  have x2 : ((w.alloc (.cells #[.int .i64 x.t.op, .int .i64 x.t.a, .int .i64 x.t.b, .int .i64 x.n] 50)).alloc (.cells #[.int .i64 y.t.op, .int .i64 y.t.a, .int .i64 y.t.b, .int .i64 y.n] 50)).cell? ⟨w.heap.size, 2, none⟩ = some (.int .i64 x.t.b) := by simp
  have y0 : ((w.alloc (.cells #[.int .i64 x.t.op, .int .i64 x.t.a, .int .i64 x.t.b, .int .i64 x.n] 50)).alloc (.cells #[.int .i64 y.t.op, .int .i64 y.t.a, .int .i64 y.t.b, .int .i64 y.n] 50)).cell? ⟨w.heap.size + 1, 0, none⟩ = some (.int .i64 y.t.op) := by simp
  have y1 : ((w.alloc (.cells #[.int .i64 x.t.op, .int .i64 x.t.a, .int .i64 x.t.b, .int .i64 x.n] 50)).alloc (.cells #[.int .i64 y.t.op, .int .i64 y.t.a, .int .i64 y.t.b, .int .i64 y.n] 50)).cell? ⟨w.heap.size + 1, 1, none⟩ = some (.int .i64 y.t.a) := by simp
  have y2 : ((w.alloc (.cells #[.int .i64 x.t.op, .int .i64 x.t.a, .int .i64 x.t.b, .int .i64 x.n] 50)).alloc (.cells #[.int .i64 y.t.op, .int .i64 y.t.a, .int .i64 y.t.b, .int .i64 y.n] 50)).cell? ⟨w.heap.size + 1, 2, none⟩ = some (.int .i64 y.t.b) := by simp
  have HW : Hid (∃ os', (w.alloc (.cells #[.int .i64 x.t.op, .int .i64 x.t.a, .int .i64 x.t.b, .int .i64 x.n] 50)).alloc (.cells #[.int .i64 y.t.op, .int .i64 y.t.a, .int .i64 y.t.b, .int .i64 y.n] 50) = grow w os') := ⟨_, by rw [alloc_eq_grow, alloc_eq_grow, grow_grow]⟩
  generalize (w.alloc (.cells #[.int .i64 x.t.op, .int .i64 x.t.a, .int .i64 x.t.b, .int .i64 x.n] 50)).alloc (.cells #[.int .i64 y.t.op, .int .i64 y.t.a, .int .i64 y.t.b, .int .i64 y.n] 50) = W at x0 x1 x2 y0 y1 y2 HW ⊢
  refine wp_region_still_tail 21 (by kernel_rfl) (by kernel_rfl) ?_
  simp only [List.take_succ_cons, List.take_zero, List.drop_succ_cons, List.drop_zero]
  repeat still_step
  still_call (compare_any _ _ _)
  repeat still_step
  still_call (compare_any _ _ _)
  repeat still_step
  still_call (compare_any _ _ _)
  repeat still_step
  refine wpStill_nil ?_
  go_wp2_with fail
  refine (or_any _ (cp x.t.op y.t.op) (cp x.t.a y.t.a) (cp x.t.b y.t.b) _ (by simp) (by simp) (by simp)).mono ?_
  rintro e w' ⟨rfl, rfl⟩
  go_wp2
  go_ret
  obtain ⟨os', e⟩ := HW.out
  subst e
  exact ⟨rfl, 1, _, (alloc_eq_grow _ _).trans (grow_grow (w.drewN 1) os' _)⟩
end Go.Proofs.Ytoikglgnmjjpcab

namespace Go.Proofs.Ytoikglgnmjjpcab
open Go.RowKit Go.Maps Go.ChangeMaps
set_option linter.unusedVariables false

theorem flat4 : ∀ (L : List Ct) (j i : Nat) (c : Ct), L[j]? = some c → i < 4 → (L.flatMap encCt)[j * 4 + i]? = (encCt c)[i]?
  | [], j, i, c, h, _ => by simp at h
  | d :: L, 0, i, c, h, hi => by
    simp at h; subst h
    rw [List.flatMap_cons, List.getElem?_append_left (by simp [encCt]; omega)]; simp
  | d :: L, j + 1, i, c, h, hi => by
    simp at h
    rw [List.flatMap_cons, List.getElem?_append_right (by simp [encCt]; omega), show (j + 1) * 4 + i - (encCt d).length = j * 4 + i by simp [encCt]; omega]
    exact flat4 L j i c h hi

theorem flatCt_len (L : List Ct) : (L.flatMap encCt).length = L.length * 4 := by
  induction L with
  | nil => rfl
  | cons c L ih => rw [List.flatMap_cons, List.length_append, ih]; simp [encCt]; omega

open Go.Sort in
theorem flatCt (L : List Ct) : (flatK encCt 4 L.toArray).toList = L.flatMap encCt := by
  apply List.ext_getElem?
  intro t
  by_cases h : t < L.length * 4
  · have hi : t / 4 < L.length := by omega
    have h1 := flat4 L (t / 4) (t % 4) L[t / 4] (List.getElem?_eq_getElem hi) (by omega)
    rw [show t / 4 * 4 + t % 4 = t by omega] at h1
    rw [h1]
    have hz : t % 4 < (encCt L[t / 4]).length := by simp [encCt]; omega
    rw [List.getElem?_eq_getElem hz]
    simp [flatK, h, hi]
    rw [List.getElem?_eq_getElem hz]; rfl
  · rw [List.getElem?_eq_none (by simp; omega), List.getElem?_eq_none (by rw [flatCt_len]; omega)]

open Go.Sort Go.Lib in
theorem swoC : SWO (ltOf cpC) where
  irrefl x := by show decide (cpC x x < 0) = false; rw [cpC_lt, abv_irrefl]
  trans x y z h1 h2 := by
    have h1' : decide (cpC x y < 0) = true := h1
    have h2' : decide (cpC y z < 0) = true := h2
    show decide (cpC x z < 0) = true
    rw [cpC_lt] at *
    exact abv_trans h2' h1'
  ntrans x y z h1 h2 := by
    have h1' : decide (cpC x y < 0) = false := h1
    have h2' : decide (cpC y z < 0) = false := h2
    show decide (cpC x z < 0) = false
    rw [cpC_lt] at *
    cases q : abv z.t x.t
    · rfl
    · exfalso
      by_cases e : y.t = x.t
      · rw [e] at h2'; rw [q] at h2'; cases h2'
      · have := abv_total h1' e
        rw [abv_trans q this] at h2'; cases h2'

open Go.Sort Go.Lib in
theorem heap_sortedV {w : World} {g n : Nat} {os : Array Obj} {cur : Array Value} {e : TypeId} {fr : Nat × Nat} (d : Array Value) (hb : w.heap[g]? = some (.cells cur e fr)) :
    (grow (putRow id (Sort.ahead w n) g 0 d) os).heap[g]? = some (.cells (putCells id 0 d cur) e fr) := by
  have hg : g < w.heap.size := (Array.getElem?_eq_some_iff.1 hb).1
  rw [heap_grow_old _ _ (by simpa using hg)]
  simp [putRow, mapBlock, Sort.ahead, Array.getElem?_modify, hb, onCells]

open Go.Sort Go.Lib in
theorem below_sortedV {w : World} {g n base : Nat} {os : Array Obj} (d : Array Value) (hg : base ≤ g) (hs : base ≤ w.heap.size) : Below base w (grow (putRow id (Sort.ahead w n) g 0 d) os) := by
  refine ⟨rfl, rfl, rfl, by simp, fun k hk => ?_⟩
  rw [heap_grow_old _ _ (by simp; omega)]
  have : g ≠ k := by omega
  simp [putRow, mapBlock, Sort.ahead, Array.getElem?_modify, this]

open Go.Sort Go.Lib in
theorem take_putCellsV (cur : Array Value) (d : Array Value) (h : d.size ≤ cur.size) : (putCells id 0 d cur).toList.take d.size = d.toList := by
  apply List.ext_getElem?
  intro j
  by_cases hj : j < d.size
  · rw [List.getElem?_take_of_lt hj, Array.getElem?_toList]
    simp [putCells, hj, show j < cur.size by omega]
  · rw [List.getElem?_take_eq_none (by omega), List.getElem?_eq_none (by simp; omega)]

open Go.Sort Go.Lib in
set_option maxHeartbeats 1000000 in
theorem sorts_ct : SortsCt := by
  intro v L W base hb ho hnd hlen
  obtain ⟨hxl, ho⟩ := ho
  rcases ho with ⟨rfl, h0⟩ | ⟨g, cap, cur, rfl, hg, hblk, h1, h2, h3, h4⟩
  · have : L = [] := List.length_eq_zero_iff.1 h0
    subst this
    refine (AnyF.slices_SortFunc_none Try.sortCt none 0 _ W).mono ?_
    rintro e w' ⟨rfl, rfl⟩
    exact ⟨rfl, [], .refl _, List.Pairwise.nil, World.ownsRow_nil _ _ _ _, Below.refl _ _⟩
  · have eg : ∀ args w, (callFunc 48 args).run Try.prog w = .ok (.enter 48 args) w := enters_of Try.func48 (by kernel_rfl) rfl
    have hH : HoldsK encCt 4 W g 0 L.toArray := by
      intro j hj
      refine ⟨?_, by rw [Nat.zero_add]; exact blk_frozen hblk j⟩
      rw [Nat.zero_add, blk_cell hblk]
      have hj' : j < L.length * 4 := by simpa using hj
      have q : (cur.toList.take (L.length * 4))[j]? = (flatK encCt 4 L.toArray).toList[j]? := by rw [h4, flatCt]
      rw [List.getElem?_take_of_lt hj', Array.getElem?_toList, Array.getElem?_toList, Array.getElem?_eq_getElem hj] at q
      rw [q, getElem!_pos (flatK encCt 4 L.toArray) j hj]; rfl
    refine (AnyQ.slices_SortFunc Try.sortCt 4 Try.isAgg50 Try.sizeOf50 encCt (fun _ => rfl) (fun x u hu => by simp [encCt] at hu; rcases hu with rfl | rfl | rfl | rfl <;> rfl) cpC swoC 48 #[] g 0 cap L.toArray W eg (fun _ _ _ _ x y => closure_any x y _) hH (blk_lt hblk) (by simp; omega)).mono ?_
    rintro e w' ⟨rfl, d', n, os, hp, hs, rfl⟩
    obtain ⟨hp1, hp2, hp3⟩ := hp
    have hsz : d'.size = L.length := by simpa using hp1
    have hperm : d'.toList.Perm L := by
      have : (L.toArray.extract 0 L.toArray.size).toList = L := by simp
      rw [this] at hp3
      have q : (d'.extract 0 L.toArray.size) = d' := by rw [← hp1]; simp
      rw [q] at hp3
      exact hp3
    have hd : d' = d'.toList.toArray := by simp
    refine ⟨rfl, d'.toList, hperm, ?_, ⟨by rw [flatCt_len], Or.inr ⟨g, cap, putCells id 0 (flatK encCt 4 d') cur, ?_, hg, heap_sortedV _ hblk, ?_, h2, ?_, ?_⟩⟩, below_sortedV _ hg hb⟩
    · have hnd' : (d'.toList.map (·.t)).Nodup := (hperm.map _).nodup_iff.2 hnd
      unfold Srt
      rw [List.pairwise_iff_getElem]
      intro i j hi hj hij
      have q := hs i j (by omega) hij (by simp at hj; omega)
      simp at hi hj
      rw [getElem!_pos d' j hj, getElem!_pos d' i hi] at q
      have q' : decide (cpC d'[j] d'[i] < 0) = false := q
      rw [cpC_lt] at q'
      refine abv_total q' fun e => ?_
      have := (List.pairwise_iff_getElem.1 hnd') i j (by simpa using hi) (by simpa using hj) hij
      simp at this
      exact this e
    · simp [hsz]
    · simp [hsz, h1]
    · simp [putCells, h3]
    · have q := take_putCellsV cur (flatK encCt 4 d') (by simp [h3, hsz]; omega)
      rw [size_flatK] at q
      have q2 := flatCt d'.toList
      rw [← hd] at q2
      rw [← q2, ← q]
      simp
end Go.Proofs.Ytoikglgnmjjpcab

