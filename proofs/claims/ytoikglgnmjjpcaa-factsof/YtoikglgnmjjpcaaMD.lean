/-
  flow.question: says and around, walked.
-/
import Derived.Test.YtoikglgnmjjpcaaMC
namespace Go.Proofs.Ytoikglgnmjjpcaa
open Go.RowKit Go.Shelf
set_option linter.unusedVariables false

/-- What lies in memory of a question. -/
structure QM (w : World) (ns : List Nd) (f : Flw) (a1 a2 a3 a4 : Option Addr) (rb1 rb2 : Nat) : Prop where
  g : BoolsAt w a1 f.gen
  p : BoolsAt w a2 f.pass
  q : BoolsAt w a3 f.plus
  l : BoolsAt w a4 f.lets
  gl : f.gen.length = ns.length
  pl : f.pass.length = ns.length
  ql : f.plus.length = ns.length
  ll : f.lets.length = ns.length
  asked : RowsR w rb1 ns.length (nbs ns f)
  askers : RowsR w rb2 ns.length (ask ns f)

theorem QM.below {w w' : World} {ns : List Nd} {f : Flw} {a1 a2 a3 a4 : Option Addr} {rb1 rb2 : Nat} (h : QM w ns f a1 a2 a3 a4 rb1 rb2) (hb : Below w.heap.size w w') : QM w' ns f a1 a2 a3 a4 rb1 rb2 :=
  ⟨h.g.below hb, h.p.below hb, h.q.below hb, h.l.below hb, h.gl, h.pl, h.ql, h.ll, h.asked.below hb, h.askers.below hb⟩

theorem bools_cell {w : World} {a : Option Addr} {zs : List Bool} (h : BoolsAt w a zs) {k : Nat} (hk : k < zs.length) : ∃ b off, a = some ⟨b, off, none⟩ ∧ b < w.heap.size ∧ w.cell? ⟨b, off + k, none⟩ = some (.bool (bat zs k)) := by
  obtain ⟨b, off, rfl, h1, h2⟩ := h.at hk
  exact ⟨b, off, rfl, h1, h2 k _ (get_bat hk)⟩

set_option maxHeartbeats 2000000 in
set_option maxRecDepth 100000 in
theorem around1_any (m B X k : Nat) (pl lt x : List Bool) (a3 a4 xa : Option Addr) (c3 c4 xc : Nat) (w : World) (h4 : w.cell? ⟨B, 4, none⟩ = some (.slice a3 pl.length c3)) (h5 : w.cell? ⟨B, 5, none⟩ = some (.slice a4 lt.length c4)) (hX : w.cell? ⟨X, 0, none⟩ = some (.slice xa x.length xc))
    (hB : B < w.heap.size) (hXl : X < w.heap.size) (hp : BoolsAt w a3 pl) (hl : BoolsAt w a4 lt) (hx : BoolsAt w xa x) (e1 : pl.length = k) (e2 : lt.length = k) (e3 : x.length = k) (hm : m < k) :
    Calls Try.prog 132 #[.int .i64 m, .pointer (some ⟨B, 0, none⟩), .pointer (some ⟨X, 0, none⟩)] w fun e w' => e = .returned (.bool (bat pl m || (bat lt m && bat x m))) ∧ w' = w := by
  obtain ⟨b3, o3, rfl, l3, v3⟩ := bools_cell hp (k := m) (by omega)
  obtain ⟨b4, o4, rfl, l4, v4⟩ := bools_cell hl (k := m) (by omega)
  obtain ⟨bx, ox, rfl, lx, vx⟩ := bools_cell hx (k := m) (by omega)
  rw [e1] at h4
  rw [e2] at h5
  rw [e3] at hX
  have hmi : (m : Int) < (k : Int) := by omega
  generalize bat pl m = P at v3 ⊢
  generalize bat lt m = L at v4 ⊢
  generalize bat x m = Z at vx ⊢
  clear hp hl hx e1 e2 e3
  cases P
  · cases L
    · go_enter Try.func132, Try.ntmps132
      go_wp2
      go_ret
      exact ⟨rfl, rfl⟩
    · go_enter Try.func132, Try.ntmps132
      go_wp2
      go_ret
      exact ⟨ret_bool (by simp), rfl⟩
  · go_enter Try.func132, Try.ntmps132
    go_wp2
    go_ret
    exact ⟨rfl, rfl⟩

set_option maxHeartbeats 2000000 in
set_option maxRecDepth 100000 in
theorem around_any (ns : List Nd) (f : Flw) (a1 a2 a3 a4 xa : Option Addr) (c1 c2 c3 c4 xc rb1 rb2 n : Nat) (x : List Bool) (w : World) (hQ : QM w ns f a1 a2 a3 a4 rb1 rb2) (hx : BoolsAt w xa x) (hxl : x.length = ns.length) (hn : n < ns.length) (hl : ns.length ≤ 256) :
    Calls Try.prog 109 #[.agg #[.bool f.back, .bool f.empty, .slice a1 f.gen.length c1, .slice a2 f.pass.length c2, .slice a3 f.plus.length c3, .slice a4 f.lets.length c4, .slice (some ⟨rb1, 0, none⟩) ns.length ns.length, .slice (some ⟨rb2, 0, none⟩) ns.length ns.length], .int .i64 n, .slice xa x.length xc] w fun e w' => e = .returned (.bool (allOr f.empty (nbs ns f n) fun m => bat f.plus m || (bat f.lets m && bat x m))) ∧ Below w.heap.size w w' := by
  have eg : ∀ args w, (callFunc 132 args).run Try.prog w = .ok (.enter 132 args) w := enters_of Try.func132 (by kernel_rfl) rfl
  obtain ⟨ra, rc, hrc, hI⟩ := hQ.asked.row n hn
  have hrl := hQ.asked.lt
  have hni : (n : Int) < (ns.length : Int) := by omega
  have hbA : Below w.heap.size w ((w.alloc (.cells #[.bool f.back, .bool f.empty, .slice a1 f.gen.length c1, .slice a2 f.pass.length c2, .slice a3 f.plus.length c3, .slice a4 f.lets.length c4, .slice (some ⟨rb1, 0, none⟩) ns.length ns.length, .slice (some ⟨rb2, 0, none⟩) ns.length ns.length] 115)).alloc (.cells #[.slice xa x.length xc] 53)) := ((Below.refl _ w).alloc (Nat.le_refl _) _).alloc (by simp) _
  have hq : ((w.alloc (.cells #[.bool f.back, .bool f.empty, .slice a1 f.gen.length c1, .slice a2 f.pass.length c2, .slice a3 f.plus.length c3, .slice a4 f.lets.length c4, .slice (some ⟨rb1, 0, none⟩) ns.length ns.length, .slice (some ⟨rb2, 0, none⟩) ns.length ns.length] 115)).alloc (.cells #[.slice xa x.length xc] 53)).heap[w.heap.size]? = some (.cells #[.bool f.back, .bool f.empty, .slice a1 f.gen.length c1, .slice a2 f.pass.length c2, .slice a3 f.plus.length c3, .slice a4 f.lets.length c4, .slice (some ⟨rb1, 0, none⟩) ns.length ns.length, .slice (some ⟨rb2, 0, none⟩) ns.length ns.length] 115 (0, 0)) := (Below.heap_alloc _ _ _ (by simp)).trans (World.alloc_heap_new w _)
  have hxb : ((w.alloc (.cells #[.bool f.back, .bool f.empty, .slice a1 f.gen.length c1, .slice a2 f.pass.length c2, .slice a3 f.plus.length c3, .slice a4 f.lets.length c4, .slice (some ⟨rb1, 0, none⟩) ns.length ns.length, .slice (some ⟨rb2, 0, none⟩) ns.length ns.length] 115)).alloc (.cells #[.slice xa x.length xc] 53)).heap[w.heap.size + 1]? = some (.cells #[.slice xa x.length xc] 53 (0, 0)) := by
    have := World.alloc_heap_new (w.alloc (.cells #[.bool f.back, .bool f.empty, .slice a1 f.gen.length c1, .slice a2 f.pass.length c2, .slice a3 f.plus.length c3, .slice a4 f.lets.length c4, .slice (some ⟨rb1, 0, none⟩) ns.length ns.length, .slice (some ⟨rb2, 0, none⟩) ns.length ns.length] 115)) (.cells #[.slice xa x.length xc] 53)
    rwa [World.size_alloc] at this
  have HQ := hide hQ
  have HX := hide hx
  have HXL := hide hxl
  clear hQ hx hxl
  go_enter Try.func109, Try.ntmps109
  go_upto_region 1 with fail
  generalize ((w.alloc (.cells #[.bool f.back, .bool f.empty, .slice a1 f.gen.length c1, .slice a2 f.pass.length c2, .slice a3 f.plus.length c3, .slice a4 f.lets.length c4, .slice (some ⟨rb1, 0, none⟩) ns.length ns.length, .slice (some ⟨rb2, 0, none⟩) ns.length ns.length] 115)).alloc (.cells #[.slice xa x.length xc] 53)) = W at hbA hq hxb ⊢
  have q0 := blk_cell hq 0
  have q1 := blk_cell hq 1
  have q2 := blk_cell hq 2
  have q3 := blk_cell hq 3
  have q4 := blk_cell hq 4
  have q5 := blk_cell hq 5
  have q6 := blk_cell hq 6
  have q7 := blk_cell hq 7
  have x0 := blk_cell hxb 0
  simp at q0 q1 q2 q3 q4 q5 q6 q7 x0
  have ql := blk_lt hq
  have xl := blk_lt hxb
  have hrW := (hbA.cell (p := ⟨rb1, n, none⟩) hrl).trans hrc
  have hrlW := Nat.lt_of_lt_of_le hrl hbA.size
  have HW := hide hbA
  clear hq hxb hrc hrl hbA
  by_cases hz : (nbs ns f n).length = 0
  · have he : nbs ns f n = [] := List.eq_nil_of_length_eq_zero hz
    rw [hz] at hrW
    have HE := hide he
    clear he
    go_wp2
    go_ret
    refine ⟨ret_bool ?_, HW.out⟩
    rw [HE.out]; rfl
  · have hnz : ((nbs ns f n).length : Int) ≠ 0 := by omega
    have HI := hide hI
    clear hI
    go_wp2_with fail
    have hev := everyInt_any (fun z => bat f.plus z.toNat || (bat f.lets z.toNat && bat x z.toNat)) 132 #[.pointer (some ⟨w.heap.size, 0, none⟩), .pointer (some ⟨w.heap.size + 1, 0, none⟩)] ra rc (ints (nbs ns f n)) W (HI.out.below HW.out) (by
      rw [ints_len]
      have : (nbs ns f n).length ≤ ns.length := by
        unfold nbs; split
        · exact nxl_len ns n
        · exact ahl_len ns n
      omega) eg (fun z hzm U hU => by
      obtain ⟨m, hm, rfl⟩ := List.mem_map.1 hzm
      have hmk : m < ns.length := by
        unfold nbs at hm; split at hm
        · exact (mem_nxl.1 hm).1
        · exact (mem_ahl.1 hm).1
      have hWU : Below w.heap.size w U := HW.out.trans (hU.mono HW.out.size)
      have hQU := HQ.out.below hWU
      refine (around1_any m w.heap.size (w.heap.size + 1) ns.length f.plus f.lets x a3 a4 xa c3 c4 xc U ((hU.cell (p := ⟨w.heap.size, 4, none⟩) ql).trans q4) ((hU.cell (p := ⟨w.heap.size, 5, none⟩) ql).trans q5) ((hU.cell (p := ⟨w.heap.size + 1, 0, none⟩) xl).trans x0) (Nat.lt_of_lt_of_le ql hU.size) (Nat.lt_of_lt_of_le xl hU.size) hQU.q hQU.l (HX.out.below hWU) hQU.ql hQU.ll HXL.out hmk).mono ?_
      rintro e w' ⟨rfl, rfl⟩
      exact ⟨ret_bool (by simp), Below.refl _ _⟩)
    rw [ints_len] at hev
    refine hev.mono ?_
    rintro e w1 ⟨rfl, hb1⟩
    clear hev
    have hB1 : Below w.heap.size w w1 := HW.out.trans (hb1.mono HW.out.size)
    have hres : ((ints (nbs ns f n)).all fun z => bat f.plus z.toNat || (bat f.lets z.toNat && bat x z.toNat)) = allOr f.empty (nbs ns f n) fun m => bat f.plus m || (bat f.lets m && bat x m) := by
      have hne : (nbs ns f n).isEmpty = false := by
        cases hh : nbs ns f n with
        | nil => rw [hh] at hz; simp at hz
        | cons _ _ => rfl
      simp [allOr, hne, ints, List.all_map, Function.comp_def]
    rw [hres]
    clear hres
    generalize hR : (allOr f.empty (nbs ns f n) fun m => bat f.plus m || (bat f.lets m && bat x m)) = R
    have HR := hide hR
    clear hR
    go_wp2
    go_ret
    exact ⟨ret_bool HR.out.symm, hB1⟩

set_option maxHeartbeats 2000000 in
set_option maxRecDepth 100000 in
theorem says_any (ns : List Nd) (f : Flw) (a1 a2 a3 a4 xa : Option Addr) (c1 c2 c3 c4 xc rb1 rb2 n : Nat) (x : List Bool) (w : World) (hQ : QM w ns f a1 a2 a3 a4 rb1 rb2) (hx : BoolsAt w xa x) (hxl : x.length = ns.length) (hn : n < ns.length) (hl : ns.length ≤ 256) :
    Calls Try.prog 80 #[.agg #[.bool f.back, .bool f.empty, .slice a1 f.gen.length c1, .slice a2 f.pass.length c2, .slice a3 f.plus.length c3, .slice a4 f.lets.length c4, .slice (some ⟨rb1, 0, none⟩) ns.length ns.length, .slice (some ⟨rb2, 0, none⟩) ns.length ns.length], .int .i64 n, .slice xa x.length xc] w fun e w' => e = .returned (.bool (sayF ns f (bat x) n)) ∧ Below w.heap.size w w' := by
  have hni : (n : Int) < (ns.length : Int) := by omega
  obtain ⟨b1, o1, rfl, l1, v1⟩ := bools_cell hQ.g (k := n) (by rw [hQ.gl]; exact hn)
  obtain ⟨b2, o2, rfl, l2, v2⟩ := bools_cell hQ.p (k := n) (by rw [hQ.pl]; exact hn)
  have hbA : Below w.heap.size w (w.alloc (.cells #[.bool f.back, .bool f.empty, .slice (some ⟨b1, o1, none⟩) f.gen.length c1, .slice (some ⟨b2, o2, none⟩) f.pass.length c2, .slice a3 f.plus.length c3, .slice a4 f.lets.length c4, .slice (some ⟨rb1, 0, none⟩) ns.length ns.length, .slice (some ⟨rb2, 0, none⟩) ns.length ns.length] 115)) := (Below.refl _ w).alloc (Nat.le_refl _) _
  have hq : (w.alloc (.cells #[.bool f.back, .bool f.empty, .slice (some ⟨b1, o1, none⟩) f.gen.length c1, .slice (some ⟨b2, o2, none⟩) f.pass.length c2, .slice a3 f.plus.length c3, .slice a4 f.lets.length c4, .slice (some ⟨rb1, 0, none⟩) ns.length ns.length, .slice (some ⟨rb2, 0, none⟩) ns.length ns.length] 115)).heap[w.heap.size]? = some (.cells #[.bool f.back, .bool f.empty, .slice (some ⟨b1, o1, none⟩) f.gen.length c1, .slice (some ⟨b2, o2, none⟩) f.pass.length c2, .slice a3 f.plus.length c3, .slice a4 f.lets.length c4, .slice (some ⟨rb1, 0, none⟩) ns.length ns.length, .slice (some ⟨rb2, 0, none⟩) ns.length ns.length] 115 (0, 0)) := World.alloc_heap_new w _
  have hS : sayF ns f (bat x) n = (bat f.gen n || (bat f.pass n && allOr f.empty (nbs ns f n) fun m => bat f.plus m || (bat f.lets m && bat x m))) := rfl
  have har := fun W (h : Below w.heap.size w W) => around_any ns f (some ⟨b1, o1, none⟩) (some ⟨b2, o2, none⟩) a3 a4 xa c1 c2 c3 c4 xc rb1 rb2 n x W (hQ.below h) (hx.below h) hxl hn hl
  have hgi : (n : Int) < (f.gen.length : Int) := by rw [hQ.gl]; exact hni
  have hpi : (n : Int) < (f.pass.length : Int) := by rw [hQ.pl]; exact hni
  rw [hS]
  generalize (allOr f.empty (nbs ns f n) fun m => bat f.plus m || (bat f.lets m && bat x m)) = R at har ⊢
  have HA := hide har
  clear har hS hQ hx hxl
  go_enter Try.func80, Try.ntmps80
  go_upto_region 1 with fail
  generalize (w.alloc (.cells #[.bool f.back, .bool f.empty, .slice (some ⟨b1, o1, none⟩) f.gen.length c1, .slice (some ⟨b2, o2, none⟩) f.pass.length c2, .slice a3 f.plus.length c3, .slice a4 f.lets.length c4, .slice (some ⟨rb1, 0, none⟩) ns.length ns.length, .slice (some ⟨rb2, 0, none⟩) ns.length ns.length] 115)) = W at hbA hq ⊢
  have q0 := blk_cell hq 0
  have q1 := blk_cell hq 1
  have q2 := blk_cell hq 2
  have q3 := blk_cell hq 3
  have q4 := blk_cell hq 4
  have q5 := blk_cell hq 5
  have q6 := blk_cell hq 6
  have q7 := blk_cell hq 7
  simp at q0 q1 q2 q3 q4 q5 q6 q7
  have ql := blk_lt hq
  replace v1 := (hbA.cell (p := ⟨b1, o1 + n, none⟩) l1).trans v1
  replace v2 := (hbA.cell (p := ⟨b2, o2 + n, none⟩) l2).trans v2
  replace l1 := Nat.lt_of_lt_of_le l1 hbA.size
  replace l2 := Nat.lt_of_lt_of_le l2 hbA.size
  have HW := hide hbA
  clear hq hbA
  cases hg : bat f.gen n
  · rw [hg] at v1
    cases hp : bat f.pass n
    · rw [hp] at v2
      go_wp2
      go_ret
      exact ⟨ret_bool (by simp [hg, hp]), HW.out⟩
    · rw [hp] at v2
      go_wp2_with fail
      refine (HA.out W HW.out).mono ?_
      rintro e w1 ⟨rfl, hb1⟩
      go_wp2
      go_ret
      exact ⟨ret_bool (by simp [hg, hp]), HW.out.trans (hb1.mono HW.out.size)⟩
  · rw [hg] at v1
    go_wp2
    go_ret
    exact ⟨ret_bool (by simp [hg]), HW.out⟩
end Go.Proofs.Ytoikglgnmjjpcaa
