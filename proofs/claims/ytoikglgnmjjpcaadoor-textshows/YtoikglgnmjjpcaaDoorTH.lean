/-
  text.Show, walked: what it answers, whatever it is handed.
-/
import Derived.Test.YtoikglgnmjjpcaaDoorTG
import Derived.Test.YtoikglgnmjjpcaaDoorD
import Derived.Deep.RegionWith
namespace Go.Proofs.YtoikglgnmjjpcaaDoor
open Go.RowKit Go.Maps Go.ChangeMaps
set_option linter.unusedVariables false

theorem build_below {T e : TypeId} {B b : Nat} {p : Value} {bs : List Value} {w w' : World} (h : Lib.BuilderAt T e B b p bs w) (hb : Below w.heap.size w w') : Lib.BuilderAt T e B b p bs w' := by
  obtain ⟨hB, v, h1, h2, h3⟩ := h
  exact ⟨hB, v, (hb.block b (blk_lt h1)).trans h1, ownsRow_below h2 hb (Nat.le_refl _), h3⟩

theorem nm_get {op : Int} (h : 0 ≤ op ∧ op ≤ 12) : names13[op.toNat]? = some (.string (ba (nmB op))) := by
  obtain ⟨k, rfl⟩ := Int.eq_ofNat_of_zero_le h.1
  have hk : k < 13 := by omega
  have : ∀ j : Fin 13, nmL[j.1]? = some (nmL.getD j.1 []) := by decide
  have h2 := this ⟨k, hk⟩
  unfold names13 nmB
  rw [List.getElem?_toArray, List.getElem?_map]
  simp only [Int.toNat_natCast] at h2 ⊢
  rw [h2]; rfl

theorem ba_app (x y : List UInt8) : (ba x ++ ba y : ByteArray) = ba (x ++ y) := by
  apply ByteArray.ext
  simp [ba, ByteArray.data_append]

theorem bcells_app (x y : List UInt8) : Lib.byteCells x ++ Lib.byteCells y = Lib.byteCells (x ++ y) := by simp [Lib.byteCells]
theorem bcells_len (x : List UInt8) : (Lib.byteCells x).length = x.length := by simp [Lib.byteCells]

/-- What is written of a program when k nodes are. -/
def shK (r : Int) (ns : List Nd) (k : Nat) : List UInt8 := regsL r ++ 10 :: (ns.take k).flatMap fun x => lineW x ++ [10]
theorem shK_succ {r : Int} {ns : List Nd} {k : Nat} {x : Nd} (h : ns[k]? = some x) : shK r ns (k + 1) = shK r ns k ++ (lineW x ++ [10]) := by
  unfold shK
  rw [List.take_add_one, h]
  simp
theorem shK_all (r : Int) (ns : List Nd) : shK r ns ns.length = showB r ns := by
  unfold shK showB
  rw [List.take_length]
theorem shK_len {r : Int} {ns : List Nd} (hr : 0 ≤ r ∧ r < 1000) (ht : ∀ x ∈ ns, TxOk x) (k : Nat) : (shK r ns k).length ≤ 64 + 64 * ns.length := by
  have h := show_len hr (ns.take k) (fun x hx => ht x (List.mem_of_mem_take hx))
  have h2 : (ns.take k).length ≤ ns.length := by rw [List.length_take]; omega
  show (showB r (ns.take k)).length ≤ _
  omega

theorem show_bad (r : Int) (a : Option Addr) (cap : Nat) (ns : List Nd) (w : World) (hN : SlN w a ns) (hc : chk r ns ≠ 0) :
    Calls Tryd.prog 5 #[.agg #[.int .i64 r, .slice a ns.length cap]] w fun e w' => e = .returned (.tuple #[.string ⟨#[]⟩, .int .i64 (chk r ns)]) ∧ Below w.heap.size w w' := by
  go_enter Tryd.func5, Tryd.ntmps5
  go_wp2_with fail
  refine (check_any r a cap ns _ (hN.below ((Below.refl w.heap.size w).alloc (Nat.le_refl _) _))).mono ?_
  rintro e w1 ⟨rfl, hb1⟩
  have hB1 : Below w.heap.size w w1 := ((Below.refl _ _).alloc (Nat.le_refl _) _).trans (hb1.mono (by simp))
  clear hb1
  generalize hC : chk r ns = C at hc ⊢
  go_wp2_with fail
  exact bodyPost_ret (v := .tuple #[.string ⟨#[]⟩, .int .i64 C]) (by simp [results, Tryd.results5, go_sem]) rfl ⟨by rw [hC], hB1⟩

set_option maxHeartbeats 4000000 in
set_option maxRecDepth 100000 in
theorem show_ok (r : Int) (a : Option Addr) (cap : Nat) (ns : List Nd) (w : World) (hN : SlN w a ns) (hE : Env w) (ha : ∀ x ∈ ns, -9223372036854775808 ≤ x.a ∧ x.a ≤ 9223372036854775807) (hc : chk r ns = 0) :
    Calls Tryd.prog 5 #[.agg #[.int .i64 r, .slice a ns.length cap]] w fun e w' => e = .returned (.tuple #[.string (ba (showB r ns)), .int .i64 0]) ∧ Below w.heap.size w w' := by
  obtain ⟨hl1, hr1, _⟩ := chk_full hc
  obtain ⟨b, off, rfl, hNN⟩ := hN.some hl1.1
  have hblt := hNN.lt
  have HT := hide (fun (x : Nd) (hx : x ∈ ns) => tx_of hc hx (ha x hx))
  go_enter Tryd.func5, Tryd.ntmps5
  go_wp2_with fail
  refine (check_any r _ cap ns _ (hN.below ((Below.refl w.heap.size w).alloc (Nat.le_refl _) _))).mono ?_
  rintro e w1 ⟨he, hb1⟩
  rw [hc] at he
  subst he
  have hs1 := hb1.size
  simp only [World.size_alloc] at hs1 hb1
  have hp := (hb1.block w.heap.size (by omega)).trans (blkn rfl)
  have hB1 : Below w.heap.size w w1 := ((Below.refl _ _).alloc (Nat.le_refl _) _).trans (hb1.mono (by omega))
  clear hb1 ha hN
  go_wp2_with fail
  refine (nameTable_any _).mono ?_
  rintro e w2 ⟨rfl, hb2⟩
  have hs2 := hb2.size
  have hp2 := (hb2.block w.heap.size (by omega)).trans hp
  have hB2 : Below w.heap.size w w2 := hB1.trans (hb2.mono (by omega))
  have hE2 := hE.below hB2
  have h1 : names13.all (·.oneCell') = true := by kernel_rfl
  have h2 : names13.size = 13 := rfl
  have hn : (Tryd.prog.info? 37).map (·.size) = some names13.size := by kernel_rfl
  have hg13 := fun (op : Int) (h : 0 ≤ op ∧ op ≤ 12) => @nm_get op h
  have HG := hide hg13
  clear hg13
  have HP := hide hp2
  have HB := hide hB2
  clear hp hp2 hB1 hb2 hB2
  have hlt : w.heap.size < w2.heap.size := by omega
  have hz := @blkn w2 (.cells #[.string ⟨#[]⟩, .string ⟨#[]⟩, .string ⟨#[]⟩, .string ⟨#[]⟩, .string ⟨#[]⟩, .string ⟨#[]⟩, .string ⟨#[]⟩, .string ⟨#[]⟩, .string ⟨#[]⟩, .string ⟨#[]⟩, .string ⟨#[]⟩, .string ⟨#[]⟩, .string ⟨#[]⟩] 37 (0, 0)) w2.heap.size rfl
  go_upto_region 5 with (refine wpList_plain rfl fun _ hK => wp_store_row _ _ _ rfl _ names13 rfl rfl _ _ hz hn rfl h1 (hK _ _ ?_))
  have hz3 := setRow_heap _ _ _ names13 _ _ hz
  have hb3 : Below w2.heap.size w2 ((w2.alloc (.cells #[.string ⟨#[]⟩, .string ⟨#[]⟩, .string ⟨#[]⟩, .string ⟨#[]⟩, .string ⟨#[]⟩, .string ⟨#[]⟩, .string ⟨#[]⟩, .string ⟨#[]⟩, .string ⟨#[]⟩, .string ⟨#[]⟩, .string ⟨#[]⟩, .string ⟨#[]⟩, .string ⟨#[]⟩] 37 (0, 0))).setRow w2.heap.size names13) := ((Below.refl _ _).alloc (Nat.le_refl _) _).trans ⟨rfl, rfl, rfl, by simp, fun k hk => setRow_other _ _ _ _ (by omega)⟩
  generalize hw3 : World.setRow _ w2.heap.size names13 = w3 at hz3 hb3 ⊢
  clear hz hw3 hK h1 h2 hn
  have hs3 := blk_lt hz3
  have hp3 := (hb3.block _ hlt).trans HP.out
  have hB3 : Below w.heap.size w w3 := HB.out.trans (hb3.mono (by omega))
  have c0 := blk_cell hp3 0
  have c1 := blk_cell hp3 1
  simp at c0 c1
  have HZ := hide hz3
  have HP3 := hide hp3
  have HB3 := hide hB3
  have hlt3 : w.heap.size < w3.heap.size := by omega
  have hE4 : Env (w3.alloc (.cells #[.pointer none, .slice none 0 0] 42)) := hE.below (hB3.alloc (by omega) _)
  have HE4 := hide hE4
  clear hz3 hp3 hB3 hb3 HP HB hE2 hE4
  go_wp2_with fail
  refine (Tryd.strconv_Itoa r (by omega) (by omega) _ HE4.out.tab).mono ?_
  rintro e w5 ⟨rfl, k5, os5, hw5⟩
  have hb5 : Below (w3.heap.size + 1) (w3.alloc (.cells #[.pointer none, .slice none 0 0] 42)) w5 := by rw [hw5]; simpa using below_gr (w3.alloc (.cells #[.pointer none, .slice none 0 0] 42)) k5 os5
  clear hw5 HE4
  have hs5 := hb5.size
  simp only [World.size_alloc] at hs5
  have hbu : Lib.IsBuilder 42 5 w3.heap.size w3.heap.size [] w5 := Or.inl ⟨Nat.le_refl _, .slice none 0 0, (hb5.block _ (by omega)).trans (blkn rfl), World.ownsRow_nil _ _ _ _, by simp [Value.ownBlock]⟩
  have HB5 : Hid (Below w.heap.size w w5) := (HB3.out.alloc (by omega) _).trans (hb5.mono (by omega))
  have HZ5 : Hid (w5.heap[w2.heap.size]? = _) := (hb5.block _ (by omega)).trans (blk_alloc _ HZ.out)
  have HP5 : Hid (w5.heap[w.heap.size]? = _) := (hb5.block _ (by omega)).trans (blk_alloc _ HP3.out)
  clear hb5 HZ HP3 HB3
  have hil : (Lib.itoa r).length ≤ 3 := itoa_len3 (by omega)
  have h18 : ¬ 9223372036854775807 < 5 + (Lib.itoa r).length := by omega
  have h19 : ¬ 9223372036854775807 < 5 + (Lib.itoa r).length + 1 := by omega
  go_wp2_with fail
  have ebs : ((⟨#[114, 101, 103, 115, 32]⟩ : ByteArray) ++ ⟨(Lib.itoa r).toArray⟩ ++ ⟨#[10]⟩) = ba (shK r ns 0) := by
    rw [show (⟨#[114, 101, 103, 115, 32]⟩ : ByteArray) = ba regsW from rfl, show (⟨(Lib.itoa r).toArray⟩ : ByteArray) = ba (Lib.itoa r) from rfl, show (⟨#[10]⟩ : ByteArray) = ba [10] from rfl, ba_app, ba_app]
    rfl
  rw [ebs]
  have hsl0 := shK_len (r := r) (ns := ns) (by omega) HT.out 0
  refine (bwrite_any w3.heap.size w3.heap.size [] (ba (shK r ns 0)) w5 hbu (by show 0 + (shK r ns 0).toArray.size ≤ _; simp; omega) (by omega)).mono ?_
  rintro e w6 ⟨rfl, hbu6, hb6⟩
  have hs6 := hb6.size
  have HBU : Hid (Lib.BuilderAt 42 5 w3.heap.size w3.heap.size (.pointer (some ⟨w3.heap.size, 0, none⟩)) (Lib.byteCells (shK r ns 0)) w6) := hbu6
  have HB6 := hide (HB5.out.trans (hb6.mono (by omega)))
  have HZ6 := hide ((hb6.block _ (by omega)).trans HZ5.out)
  have hp6 := (hb6.block _ (by omega)).trans HP5.out
  have d0 := blk_cell hp6 0
  have d1 := blk_cell hp6 1
  simp at d0 d1
  have hlt6 : w.heap.size < w6.heap.size := by omega
  clear hb6 HB5 HZ5 HP5 hbu hbu6 hp6 ebs c0 c1
  go_wp2_with fail
  go_loopw [24] (fun v24 wr => ∃ k : Nat, k ≤ ns.length ∧ v24 = .int .i64 k ∧ Hid (Lib.BuilderAt 42 5 w3.heap.size w3.heap.size (.pointer (some ⟨w3.heap.size, 0, none⟩)) (Lib.byteCells (shK r ns k)) wr) ∧ Hid (wr.heap[w2.heap.size]? = some (.cells names13 37 (0, 0))) ∧ Below w.heap.size w wr ∧ w3.heap.size < wr.heap.size) (fun i _ => ns.length - (intOf i).toNat)
  case atStart => exact ⟨0, Nat.zero_le _, rfl, HBU, HZ6, HB6.out, by omega⟩
  case round =>
    obtain ⟨k, hk, rfl, HU, HZr, hb, hs8⟩ := hrel
    have hN' := hNN.below hb hNN.lt
    have hlt' := hN'.lt
    have hsz := hb.size
    clear HBU HB6 HZ6 d0 d1
    by_cases hlt : k < ns.length
    · obtain ⟨x, hx⟩ := get_lt hlt
      have c0 := hN'.c0 k x hx
      have c1 := hN'.c1 k x hx
      have c2 := hN'.c2 k x hx
      have c3 := hN'.c3 k x hx
      have c4 := hN'.c4 k x hx
      have c5 := hN'.c5 k x hx
      have htx := HT.out x (List.mem_of_getElem? hx)
      have hfit := htx.fits
      have hopx := htx.op
      have hsu := shK_succ (r := r) hx
      have hsl := shK_len (r := r) (ns := ns) (by omega) HT.out k
      have hll := line_len htx
      have HX : Hid (ns[k]? = some x) := hx
      have hnm := HG.out x.op hopx
      clear hx hN' htx
      have hop2 : x.op < 13 := by omega
      have hop1 : 0 ≤ x.op := hopx.1
      have HS : Hid (∀ u : World, Below (wr.heap.size + 1) (wr.alloc (.cells #[.int .i64 x.op, .int .i64 x.d, .int .i64 x.a, .int .i64 x.b, .int .i64 x.t, .int .i64 x.e] 49)) u → u.cell? ⟨wr.heap.size, 0, none⟩ = some (.int .i64 x.op) ∧ u.cell? ⟨wr.heap.size, 1, none⟩ = some (.int .i64 x.d) ∧ u.cell? ⟨wr.heap.size, 2, none⟩ = some (.int .i64 x.a) ∧ u.cell? ⟨wr.heap.size, 3, none⟩ = some (.int .i64 x.b) ∧ u.cell? ⟨wr.heap.size, 4, none⟩ = some (.int .i64 x.t) ∧ u.cell? ⟨wr.heap.size, 5, none⟩ = some (.int .i64 x.e) ∧ u.cell? ⟨w2.heap.size, x.op.toNat, none⟩ = some (.string (ba (nmB x.op)))) := fun u h => by
        have k1 := (h.block wr.heap.size (by omega)).trans (blkn rfl)
        have k2 := (h.block w2.heap.size (by omega)).trans (blk_alloc _ HZr.out)
        refine ⟨?_, ?_, ?_, ?_, ?_, ?_, ?_⟩
        · rw [blk_cell k1]; rfl
        · rw [blk_cell k1]; rfl
        · rw [blk_cell k1]; rfl
        · rw [blk_cell k1]; rfl
        · rw [blk_cell k1]; rfl
        · rw [blk_cell k1]; rfl
        · rw [blk_cell k2]; exact hnm
      have HE8 := hide (hE.below (hb.alloc hsz (.cells #[.int .i64 x.op, .int .i64 x.d, .int .i64 x.a, .int .i64 x.b, .int .i64 x.t, .int .i64 x.e] 49)))
      go_upto_region 10 with fail
      clear c0 c1 c2 c3 c4 c5 hnm
      have hw8 : (wr.alloc (.cells #[.int .i64 x.op, .int .i64 x.d, .int .i64 x.a, .int .i64 x.b, .int .i64 x.t, .int .i64 x.e] 49)).heap.size = wr.heap.size + 1 := by simp
      have HB8 := hide (hb.alloc hsz (.cells #[.int .i64 x.op, .int .i64 x.d, .int .i64 x.a, .int .i64 x.b, .int .i64 x.t, .int .i64 x.e] 49))
      have HU8 := hide (build_below HU.out ((Below.refl wr.heap.size wr).alloc (Nat.le_refl _) (.cells #[.int .i64 x.op, .int .i64 x.d, .int .i64 x.a, .int .i64 x.b, .int .i64 x.t, .int .i64 x.e] 49)))
      have HZ8 := hide (blk_alloc (.cells #[.int .i64 x.op, .int .i64 x.d, .int .i64 x.a, .int .i64 x.b, .int .i64 x.t, .int .i64 x.e] 49) HZr.out)
      generalize (wr.alloc (.cells #[.int .i64 x.op, .int .i64 x.d, .int .i64 x.a, .int .i64 x.b, .int .i64 x.t, .int .i64 x.e] 49)) = W8 at HS HE8 hw8 HB8 HU8 HZ8 ⊢
      have HSN : ∀ u, Env u → Calls Tryd.prog 16 #[.agg #[.int .i64 x.op, .int .i64 x.d, .int .i64 x.a, .int .i64 x.b, .int .i64 x.t, .int .i64 x.e], .string (ba (nmB x.op))] u fun e w' => e = .returned (.string (ba (lineW x))) ∧ Below u.heap.size u w' := fun u hu => by
        have := showNode_any x (nmB x.op) u hu hfit (nm_len _)
        rw [wl_words] at this
        exact this
      have hLb : (ba (lineW x)).size = (lineW x).length := by simp [ba, ByteArray.size]
      have hLd : Lib.strCells (ba (lineW x) ++ ⟨#[10]⟩) = Lib.byteCells (lineW x ++ [10]) := by
        rw [show (⟨#[10]⟩ : ByteArray) = ba [10] from rfl, ba_app]; rfl
      generalize ba (lineW x) = L at HSN hLb hLd
      have hL1 : ¬ 9223372036854775807 < L.size + 1 := by omega
      have HLL : (Lib.byteCells (shK r ns k)).length + (L ++ ⟨#[10]⟩).size ≤ 140737488355328 := by
        rw [bcells_len, ByteArray.size_append]
        show _ + (L.size + 1) ≤ _
        omega
      obtain ⟨n0, n1, n2, n3, n4, n5, n6⟩ := HS.out W8 (Below.refl _ _)
      clear HS
      go_region_with (first
        | (go_at_call 16; refine (HSN _ (hE.below HB8.out.drew)).mono ?_; rintro e wa ⟨rfl, hba0⟩; have hba : Below (wr.heap.size + 1) W8 wa := (Below.refl _ _).drew.trans (by rw [← hw8]; exact hba0))
        | (go_at_call 14; refine (bwrite_any w3.heap.size w3.heap.size _ _ _ (Or.inr (build_below HU8.out (by rw [hw8]; exact hba))) HLL (by have := hba.size; omega)).mono ?_; rintro e wb ⟨rfl, hub, hbb⟩))
      all_goals
        have hBb : Below w.heap.size w wb := HB8.out.trans ((hba.mono (by omega)).trans (hbb.mono (by omega)))
        have hZb := (hbb.block w2.heap.size (by omega)).trans ((hba.block w2.heap.size (by omega)).trans HZ8.out)
        have hUb : Lib.BuilderAt 42 5 w3.heap.size w3.heap.size (.pointer (some ⟨w3.heap.size, 0, none⟩)) (Lib.byteCells (shK r ns (k + 1))) wb := by
          rw [hsu, ← bcells_app, ← hLd]; exact hub
        have hsb : w3.heap.size < wb.heap.size := by have := hba.size; have := hbb.size; omega
        have HXX := hide (And.intro hUb (And.intro hZb hBb))
        clear hUb hZb hBb hub hba hbb n0 n1 n2 n3 n4 n5 n6
        go_wp2_with fail
        go_roundw
        case rel => exact ⟨k + 1, by omega, by go_num, HXX.out.1, HXX.out.2.1, HXX.out.2.2, hsb⟩
        case measure => simp [intOf]; omega
    · have ek : k = ns.length := by omega
      subst ek
      rw [shK_all] at HU
      go_wp2_with fail
      refine (Tryd.Builder_String_any _ _ _ _ (Or.inr HU.out) (by omega)).mono ?_
      rintro e w9 ⟨rfl, hb9⟩
      go_wp2_with fail
      exact bodyPost_ret (v := .tuple #[.string (ba (showB r ns)), .int .i64 0]) (by simp [results, Tryd.results5, go_sem, ba]) rfl ⟨rfl, hb.trans (hb9.mono (by omega))⟩

end Go.Proofs.YtoikglgnmjjpcaaDoor
