/-
  run.counts, walked: the counts of a map come sorted, whatever order it is gone through in; what the sort does is a premise here.
-/
import Derived.Test.YtoikglgnmjjpcaaRL
namespace Go.Proofs.Ytoikglgnmjjpcaa
open Go.RowKit Go.Maps Go.ChangeMaps
set_option linter.unusedVariables false

theorem info_count : (Try.prog.info? 111).map (fun i => (i.zero, i.size, i.bytes)) = some (some (.agg #[.int .i64 0, .int .i64 0, .int .i64 0, .int .i64 0]), 4, 32) := by kernel_rfl

/-- What the sort of counts does. -/
def SortsCt : Prop := ∀ (v : Value) (L : List Ct) (W : World) (base : Nat), base ≤ W.heap.size → W.ownsRow base 111 4 v L.length (L.flatMap encCt) → (L.map (·.t)).Nodup → L.length ≤ 131072 →
  Calls Try.prog 103 #[v, .func (.func 104) #[] #[]] W fun e w' => e = .returned (.tuple #[]) ∧ ∃ L', L'.Perm L ∧ Srt L' ∧ w'.ownsRow base 111 4 v L'.length (L'.flatMap encCt) ∧ Below base W w'

theorem ranges_cnt {w : World} {k : TypeId} {R : Value → Option (DataW Unit × List MemPlace)} {b r n : Nat} {D : DataW Unit} {left : Lit → Bool} {cnt : Nat} (h : w.ranges Try.prog k R b r n D left cnt) : cnt ≤ n := by
  obtain ⟨es, clock, since, seen, c0, h1, h2, h3, h4, h5, h6, h7, h8⟩ := h
  have : (leftOf es seen).size ≤ es.size := by unfold leftOf; exact Array.size_filter_le
  omega

theorem srt_eq {a : List Ct} : ∀ {b : List Ct}, a.Perm b → Srt a → Srt b → a = b := by
  induction a with
  | nil => intro b h _ _; exact h.nil_eq
  | cons x a ih =>
    intro b h ha hb
    cases b with
    | nil => exact absurd h.symm.nil_eq (by simp)
    | cons y b =>
      unfold Srt at ha hb
      rw [List.pairwise_cons] at ha hb
      have e : x = y := by
        have h1 : x ∈ y :: b := h.mem_iff.1 (List.mem_cons_self ..)
        have h2 : y ∈ x :: a := h.mem_iff.2 (List.mem_cons_self ..)
        rcases List.mem_cons.1 h1 with e | h1
        · exact e
        · rcases List.mem_cons.1 h2 with e | h2
          · exact e.symm
          · have := abv_trans (hb.1 x h1) (ha.1 y h2)
            rw [abv_irrefl] at this; cases this
      subst e
      rw [ih (List.perm_cons x |>.1 h) ha.2 hb.2]

theorem srt_ct {l : List Ct} (h : Srt l) : ∀ c ∈ l, ctOf l c.t = some c.n := by
  induction l with
  | nil => intro c hc; cases hc
  | cons d l ih =>
    unfold Srt at h
    rw [List.pairwise_cons] at h
    intro c hc
    rw [ctOf_cons]
    rcases List.mem_cons.1 hc with e | hc
    · subst e; simp
    · rw [if_neg, ih h.2 c hc]
      intro e
      have := h.1 c hc
      rw [e, abv_irrefl] at this; cases this

theorem srt_nd {l : List Ct} (h : Srt l) : l.Nodup := by
  unfold Srt at h
  refine List.Pairwise.imp (fun {a b} hab e => ?_) h
  rw [e, abv_irrefl] at hab; cases hab

theorem Gone.perm {l : List Ct} {left : Lit → Bool} {L : List Ct} (h : Gone l left L) (srt : Srt l) (hwf : ∀ c ∈ l, twf c.t) (hl : ∀ z, left z = false) : L.Perm l := by
  have hnd : L.Nodup := by
    have := h.nd
    exact (List.pairwise_map.1 this).imp fun hab e => hab (by rw [e])
  rw [List.perm_ext_iff_of_nodup hnd (srt_nd srt)]
  intro c
  constructor
  · intro hc
    have := ctOf_mem (h.mem c hc).1
    exact this
  · intro hc
    have h1 := srt_ct srt c hc
    have h2 := h.all c.t (hwf c hc) (by rw [h1]; rfl) (hl _)
    obtain ⟨d, hd1, hd2⟩ := List.mem_map.1 h2
    have h3 := (h.mem d hd1).1
    rw [hd2, h1] at h3
    have : d = c := by
      cases d; cases c; simp at hd2 h3; subst hd2 h3; rfl
    exact this ▸ hd1

set_option maxHeartbeats 2000000 in
set_option maxRecDepth 100000 in
theorem counts_any (hS : SortsCt) (mp n : Nat) (D : DataW Unit) (l : List Ct) (w : World) (ho : w.ownsMap Try.prog 36 (plainElem Try.prog 3) mp n D) (rel : MapRel D l) (srt : Srt l) (hwf : ∀ c ∈ l, twf c.t) (hn : n ≤ 131072) :
    Calls Try.prog 72 #[.map (some mp)] w fun e w' => ∃ v', e = .returned v' ∧ w'.ownsRow w.heap.size 111 4 v' l.length (l.flatMap encCt) ∧ Below w.heap.size w w' := by
  obtain ⟨i0, hi, hz0, hz1, hz2⟩ := info_parts info_count
  have KK := Keyed.of_law tlaw
  have hmlt := ho.lt
  go_enter Try.func72, Try.ntmps72
  go_wp2_with (first | (at_range; refine wpList_range_own _ rfl _ 103 rfl 36 3 KK Try.underlying103 _ mp n D rfl ho ?_; intro w0 hrg0 hg0 hs0) | go_in)
  go_frame
  go_loopw [3] (fun v wr => ∃ left cnt L, wr.ranges Try.prog 36 (plainElem Try.prog 3) mp w.heap.size n D left cnt ∧ Gone l left L ∧ wr.ownsRow (w.heap.size + 1) 111 4 v L.length (L.flatMap encCt) ∧ L.length + cnt ≤ n ∧ Below w.heap.size w wr) (fun _ wr => wr.rangeLeft mp w.heap.size)
  case atStart => exact ⟨Maps.has D, Maps.size D, [], hrg0, Gone.start rel, World.ownsRow_nil _ _ _ _, by have := ranges_cnt hrg0; simpa using this, ⟨hg0.os, hg0.tape, hg0.output, hg0.size, fun k hk => hg0.block k hk (by simp)⟩⟩
  case round =>
    obtain ⟨left, cnt, L, hrg, hG, hown, hcnt, hB⟩ := hrel
    have HG := hide hG
    have hsz := hB.size
    have hrlt := hrg.lt
    clear hG hrg0 hg0 hs0
    go_wp2_with (first | (at_next; refine wpList_next_ranges _ rfl _ rfl 36 KK (plainElem Try.prog 3) (fun t : Tm => Value.agg #[.int .i64 t.op, .int .i64 t.a, .int .i64 t.b]) (Value.int .i64) (fun key kl hkey => by obtain ⟨t, rfl, _⟩ := tkey_inv hkey; exact ⟨t, rfl⟩) (fun v y hv => by obtain ⟨c, rfl, _⟩ := plainElem_int_inv Try.underlying3 hv; exact ⟨c, rfl⟩) mp w.heap.size n D left cnt rfl hrg ?_ ?_) | go_in)
    · intro hc0 hl0
      go_wp2_with fail
      have hp := HG.out.perm srt hwf hl0
      refine (hS _ L wr (w.heap.size + 1) (by omega) hown HG.out.nd (by omega)).mono ?_
      rintro e w' ⟨rfl, L', hp', hs', ho', hb'⟩
      have eL : L' = l := srt_eq (hp'.trans hp) hs' srt
      subst eL
      go_wp2
      go_ret
      exact ⟨_, rfl, ownsRow_base ho' (by omega), hB.trans (hb'.mono (by omega))⟩
    · intro t c kl y1 y2 w1 cnt1 hkey hlk hv hat hrg1 hlt1 hg1 hs1 hen
      obtain ⟨t', et, htw, rfl⟩ := tkey_inv hkey
      have et' : t = t' := by cases t; cases t'; simpa using et
      subst et'
      obtain ⟨c', ec, ey, hcw⟩ := plainElem_int_inv Try.underlying3 hv
      cases ec
      have hb1 : Below w.heap.size w w1 := hB.trans ⟨hg1.os, hg1.tape, hg1.output, hg1.size, fun k hk => hg1.block k (by omega) (by simp; omega)⟩
      have hown1 : w1.ownsRow (w.heap.size + 1) 111 4 u3 L.length (L.flatMap encCt) := by
        have K1 : Keeps [w.heap.size] wr w1 := ⟨hg1.os, hg1.tape, hg1.output, hg1.size, fun k hk hn => hg1.block k hk (by simp at hn; simp; omega)⟩
        exact K1.owns hown (by simp)
      clear hg1
      have hct : ctOf l t = some c := rel.found htw (fun z => by rw [hat z]; exact (Prod.mk.inj ey).1)
      have hG1 := HG.out.more htw hlk hct
      have HG1 := hide hG1
      clear hG1 HG
      go_wp2_with (at_builtin; refine wpList_append_own _ rfl (.tmp 13) (.tmp 17) 40 rfl (w.heap.size + 1) 111 i0 _ 4 32 Try.underlying40 hi hz0 hz1 hz2 rfl (by decide) _ _ _ rfl ((hown1.alloc _).alloc _) ⟨wr.heap.size + 1, 0, none⟩ 1 1 [.int .i64 t.op, .int .i64 t.a, .int .i64 t.b, .int .i64 c] rfl rfl ?c1 ?c2 ?c3 ?c4 ?c5 ?_)
      case c1 =>
        intro j u hj
        match j, hj with
        | 0, hj => simp at hj; subst hj; rw [← hs1]; simp [Addr.add]
        | 1, hj => simp at hj; subst hj; rw [← hs1]; simp [Addr.add]
        | 2, hj => simp at hj; subst hj; rw [← hs1]; simp [Addr.add]
        | 3, hj => simp at hj; subst hj; rw [← hs1]; simp [Addr.add]
        | j + 4, hj => simp at hj
      case c2 => intro u hu; simp at hu; rcases hu with rfl | rfl | rfl | rfl <;> rfl
      case c3 => unfold maxLen; omega
      case c4 => omega
      case c5 => simp; omega
      intro v' w4 hown5 hg4 _
      have hltb := hown1.lt
      have hB4 : Below w.heap.size w w4 := ((hb1.alloc (by omega) _).alloc (by simp; omega) _).grown hg4 (by simp; omega) (fun k hk => by have := (hltb k hk).1; omega)
      have hrg4 := ((hrg1.alloc _).alloc _).kept hg4 (fun e => by have := (hltb mp e.symm).1; omega) (fun e => by have := (hltb _ e.symm).1; omega)
      have hown6 : w4.ownsRow (w.heap.size + 1) 111 4 v' (L ++ [(⟨t, c⟩ : Ct)]).length ((L ++ [(⟨t, c⟩ : Ct)]).flatMap encCt) := by
        simpa [encCt] using hown5
      have hm := hrg.left_eq
      clear hown5 hg4 hltb hown1
      go_wp2
      go_roundw
      case rel => exact ⟨_, cnt1, _, hrg4, HG1.out, hown6, by simp; omega, hB4⟩
      case measure => rw [hrg4.left_eq, hm]; exact hlt1
end Go.Proofs.Ytoikglgnmjjpcaa
