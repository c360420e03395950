/-
  Of the proof of MovePlaces: FM, XD.
-/
import Derived.Test.YtnbdnbcnlgnicaaGreatP1
import Derived.Test.YtnbdnbcnlgnicaaGreatP2
import Derived.Test.YtnbdnbcnlgnicaaGreatP4
import Derived.Test.YtnbdnbcnlgnicaaGreatP6
import Derived.Test.YtnbdnbcnlgnicaaGreatP12
import Derived.Test.YtnbdnbcnlgnicaaGreatP13
import Derived.Test.YtnbdnbcnlgnicaaGreatP14
import Derived.Deep.RegionHeld3
import Derived.Deep.DeepCutAuto
set_option linter.unusedVariables false
set_option linter.unusedSimpArgs false
set_option maxHeartbeats 40000000
namespace Go.Proofs.YtnbdnbcnlgnicaaGreat
open Go.RowKit Go.Shelf
def L0 (n:Nat):Nat→List Bool:=fun i=>if i<4 then yesl n else nol n
def LF (ns:List Nd) (t:Tm):Nat→List Bool:=putL (putL (putL (putL (putL (putL (L0 ns.length) 0 (downL ns t)) 1 (upL ns t)) 4 (earlyL ns t)) 2 (delayL ns t)) 5 (lateL ns t)) 3 (aloneL ns t)
def six (a b c d e f:Nat):Nat→Nat:=fun i=>match i with | 0=>a | 1=>b | 2=>c | 3=>d | 4=>e | _=>f
theorem fr_back1 {T:Array Value} {f g:Nat→Value} (s n o:Nat) (V:Value) (ho:o<T.size) (hf:∀ k,f k=T.getD k undef) (hg:∀ k,k<s∨s+n≤k→g k=upd f o V k):fr T.size g=wr1 (T.setIfInBounds o V) g s n:=by
 have h:=fr_back (T:=T.setIfInBounds o V) (f:=upd f o V) (g:=g) s n (fun k=>by
  by_cases e:k=o
  ·subst e
   rw [upd_same,Array.getD_eq_getD_getElem?,Array.getElem?_setIfInBounds_self_of_lt ho];rfl
  ·rw [upd_ne _ _ _ _ e,hf k,Array.getD_eq_getD_getElem?,Array.getD_eq_getD_getElem?,Array.getElem?_setIfInBounds_ne (Ne.symm e)]) hg
 rw [Array.size_setIfInBounds] at h
 exact h
set_option maxRecDepth 100000 in
theorem factsOf_any (r:Int) (b off cap:Nat) (ns:List Nd) (t:Tm) (w:World) (hN:NodesAt w b off ns) (hc:chk r ns=0) :
 Calls Tryz.prog 26 #[.agg #[.int .i64 r,.slice (some ⟨b,off,none⟩) ns.length cap],.agg #[.int .i64 t.op,.int .i64 t.a,.int .i64 t.b]] w fun e w' =>∃ X:Nat→Nat,e=.returned (.agg #[.slice (some ⟨X 0,0,none⟩) ns.length ns.length,.slice (some ⟨X 1,0,none⟩) ns.length ns.length,.slice (some ⟨X 4,0,none⟩) ns.length ns.length,.slice (some ⟨X 2,0,none⟩) ns.length ns.length,.slice (some ⟨X 5,0,none⟩) ns.length ns.length,.slice (some ⟨X 3,0,none⟩) ns.length ns.length])∧(∀ i,i<6→w'.heap[X i]?=some (.cells ((LF ns t i).map Value.bool).toArray 4 (0,0)))∧Below w.heap.size w w' :=by
 have hl:=(chk_zero hc).1
 have hms:∀ W:World,Sem.run Tryz.prog (Instr.makeSlice 27 (.int .i64 (ns.length:Int)) (.int .i64 (ns.length:Int))) W=.ok (.slice (some ⟨W.heap.size,0,none⟩) ns.length ns.length) (W.alloc (.cells (madeCells #[.bool false] ns.length) 4)):=fun W=>run_make_row' 27 4 _ 1 Tryz.underlying27 info_boolF rfl .i64 .i64 ns.length (by omega) (by omega) W
 have hbA:Below w.heap.size w ((((w.alloc (.cells #[.int .i64 r,.slice (some ⟨b,off,none⟩) ns.length cap] 24)).alloc (.cells #[.int .i64 t.op,.int .i64 t.a,.int .i64 t.b] 26)).alloc (.cells #[.slice none 0 0,.slice none 0 0,.slice none 0 0,.slice none 0 0,.slice none 0 0,.slice none 0 0] 41)).alloc (.cells #[.int .i64 ns.length] 3)):=((((Below.refl _ w).alloc (Nat.le_refl _) _).alloc (by simp) _).alloc (by simp;omega) _).alloc (by simp;omega) _
 have p0:(((w.alloc (.cells #[.int .i64 r,.slice (some ⟨b,off,none⟩) ns.length cap] 24)).alloc (.cells #[.int .i64 t.op,.int .i64 t.a,.int .i64 t.b] 26)).alloc (.cells #[.slice none 0 0,.slice none 0 0,.slice none 0 0,.slice none 0 0,.slice none 0 0,.slice none 0 0] 41)).heap[w.heap.size]?=some (.cells #[.int .i64 r,.slice (some ⟨b,off,none⟩) ns.length cap] 24 (0,0)):=(Below.heap_alloc _ _ _ (by simp;omega)).trans ((Below.heap_alloc _ _ _ (by simp)).trans (World.alloc_heap_new w _))
 have p1:(((w.alloc (.cells #[.int .i64 r,.slice (some ⟨b,off,none⟩) ns.length cap] 24)).alloc (.cells #[.int .i64 t.op,.int .i64 t.a,.int .i64 t.b] 26)).alloc (.cells #[.slice none 0 0,.slice none 0 0,.slice none 0 0,.slice none 0 0,.slice none 0 0,.slice none 0 0] 41)).heap[w.heap.size+1]?=some (.cells #[.int .i64 t.op,.int .i64 t.a,.int .i64 t.b] 26 (0,0)):=by
  have:=World.alloc_heap_new (w.alloc (.cells #[.int .i64 r,.slice (some ⟨b,off,none⟩) ns.length cap] 24)) (.cells #[.int .i64 t.op,.int .i64 t.a,.int .i64 t.b] 26)
  rw [World.size_alloc] at this
  exact (Below.heap_alloc _ _ _ (by simp)).trans this
 have p2:(((w.alloc (.cells #[.int .i64 r,.slice (some ⟨b,off,none⟩) ns.length cap] 24)).alloc (.cells #[.int .i64 t.op,.int .i64 t.a,.int .i64 t.b] 26)).alloc (.cells #[.slice none 0 0,.slice none 0 0,.slice none 0 0,.slice none 0 0,.slice none 0 0,.slice none 0 0] 41)).heap[w.heap.size+2]?=some (.cells #[.slice none 0 0,.slice none 0 0,.slice none 0 0,.slice none 0 0,.slice none 0 0,.slice none 0 0] 41 (0,0)):=by
  have:=World.alloc_heap_new ((w.alloc (.cells #[.int .i64 r,.slice (some ⟨b,off,none⟩) ns.length cap] 24)).alloc (.cells #[.int .i64 t.op,.int .i64 t.a,.int .i64 t.b] 26)) (.cells #[.slice none 0 0,.slice none 0 0,.slice none 0 0,.slice none 0 0,.slice none 0 0,.slice none 0 0] 41)
  rwa [World.size_alloc,World.size_alloc] at this
 have hsz:(((w.alloc (.cells #[.int .i64 r,.slice (some ⟨b,off,none⟩) ns.length cap] 24)).alloc (.cells #[.int .i64 t.op,.int .i64 t.a,.int .i64 t.b] 26)).alloc (.cells #[.slice none 0 0,.slice none 0 0,.slice none 0 0,.slice none 0 0,.slice none 0 0,.slice none 0 0] 41)).heap.size=w.heap.size+3:=by simp
 have p3:((((w.alloc (.cells #[.int .i64 r,.slice (some ⟨b,off,none⟩) ns.length cap] 24)).alloc (.cells #[.int .i64 t.op,.int .i64 t.a,.int .i64 t.b] 26)).alloc (.cells #[.slice none 0 0,.slice none 0 0,.slice none 0 0,.slice none 0 0,.slice none 0 0,.slice none 0 0] 41)).alloc (.cells #[.int .i64 ns.length] 3)).heap[w.heap.size+3]?=some (.cells #[.int .i64 ns.length] 3 (0,0)):=by
  have:=World.alloc_heap_new (((w.alloc (.cells #[.int .i64 r,.slice (some ⟨b,off,none⟩) ns.length cap] 24)).alloc (.cells #[.int .i64 t.op,.int .i64 t.a,.int .i64 t.b] 26)).alloc (.cells #[.slice none 0 0,.slice none 0 0,.slice none 0 0,.slice none 0 0,.slice none 0 0,.slice none 0 0] 41)) (.cells #[.int .i64 ns.length] 3)
  rwa [hsz] at this
 have q0:=(Below.heap_alloc (((w.alloc (.cells #[.int .i64 r,.slice (some ⟨b,off,none⟩) ns.length cap] 24)).alloc (.cells #[.int .i64 t.op,.int .i64 t.a,.int .i64 t.b] 26)).alloc (.cells #[.slice none 0 0,.slice none 0 0,.slice none 0 0,.slice none 0 0,.slice none 0 0,.slice none 0 0] 41)) (.cells #[.int .i64 ns.length] 3) _ (blk_lt p0)).trans p0
 have q1:=(Below.heap_alloc (((w.alloc (.cells #[.int .i64 r,.slice (some ⟨b,off,none⟩) ns.length cap] 24)).alloc (.cells #[.int .i64 t.op,.int .i64 t.a,.int .i64 t.b] 26)).alloc (.cells #[.slice none 0 0,.slice none 0 0,.slice none 0 0,.slice none 0 0,.slice none 0 0,.slice none 0 0] 41)) (.cells #[.int .i64 ns.length] 3) _ (blk_lt p1)).trans p1
 have q2:=(Below.heap_alloc (((w.alloc (.cells #[.int .i64 r,.slice (some ⟨b,off,none⟩) ns.length cap] 24)).alloc (.cells #[.int .i64 t.op,.int .i64 t.a,.int .i64 t.b] 26)).alloc (.cells #[.slice none 0 0,.slice none 0 0,.slice none 0 0,.slice none 0 0,.slice none 0 0,.slice none 0 0] 41)) (.cells #[.int .i64 ns.length] 3) _ (blk_lt p2)).trans p2
 have HN:=hide hN
 have HC:=hide hc
 have HL:=hide hl
 clear hN hc p0 p1 p2 hsz
 go_enter Tryz.func26,Tryz.ntmps26
 go_upto_region 3 with fail
 generalize ((((w.alloc (.cells #[.int .i64 r,.slice (some ⟨b,off,none⟩) ns.length cap] 24)).alloc (.cells #[.int .i64 t.op,.int .i64 t.a,.int .i64 t.b] 26)).alloc (.cells #[.slice none 0 0,.slice none 0 0,.slice none 0 0,.slice none 0 0,.slice none 0 0,.slice none 0 0] 41)).alloc (.cells #[.int .i64 ns.length] 3))=W at hbA q0 q1 q2 p3 ⊢
 rw [show w.heap.size+1+1+1=w.heap.size+3 from rfl,show w.heap.size+1+1=w.heap.size+2 from rfl]
 have H0:=hide q0
 have H1:=hide q1
 have H2:=hide q2
 have H3:=hide p3
 have HB:=hide hbA
 have kl:=blk_lt p3
 have hl2:=hl.2
 clear hbA q0 q1 q2 p3 hms hl
 go_wp2_with fail
 refine (yes1_any ns.length (w.heap.size+3) W HL.out.2 H3.out).mono ?_
 rintro e W1 ⟨rfl,x0,hb1⟩
 go_wp2_with fail
 refine (yes1_any ns.length (w.heap.size+3) W1 HL.out.2 ((hb1.block _ kl).trans H3.out)).mono ?_
 rintro e W2 ⟨rfl,x1,hb2⟩
 have hB2:=hb1.trans (hb2.mono hb1.size)
 go_wp2_with fail
 refine (yes1_any ns.length (w.heap.size+3) W2 HL.out.2 ((hB2.block _ kl).trans H3.out)).mono ?_
 rintro e W3 ⟨rfl,x2,hb3⟩
 have hB3:=hB2.trans (hb3.mono hB2.size)
 go_wp2_with fail
 refine (yes1_any ns.length (w.heap.size+3) W3 HL.out.2 ((hB3.block _ kl).trans H3.out)).mono ?_
 rintro e W4 ⟨rfl,x3,hb4⟩
 have hB4:=hB3.trans (hb4.mono hB3.size)
 have hX0:=(hb4.block _ (blk_lt ((hb3.block _ (blk_lt ((hb2.block _ (blk_lt x0)).trans x0))).trans ((hb2.block _ (blk_lt x0)).trans x0)))).trans ((hb3.block _ (blk_lt ((hb2.block _ (blk_lt x0)).trans x0))).trans ((hb2.block _ (blk_lt x0)).trans x0))
 have hX1:=(hb4.block _ (blk_lt ((hb3.block _ (blk_lt x1)).trans x1))).trans ((hb3.block _ (blk_lt x1)).trans x1)
 have hX2:=(hb4.block _ (blk_lt x2)).trans x2
 have ne1:W.heap.size<W1.heap.size:=blk_lt x0
 have ne2:W1.heap.size<W2.heap.size:=blk_lt x1
 have ne3:W2.heap.size<W3.heap.size:=blk_lt x2
 have ne4:W3.heap.size<W4.heap.size:=blk_lt x3
 have HX0:=hide hX0
 have HX1:=hide hX1
 have HX2:=hide hX2
 have HX3:=hide x3
 have HB4:=hide hB4
 have k4:=(hB4.block _ kl).trans H3.out
 have kc:=blk_cell k4 0
 simp at kc
 have kl4:=blk_lt k4
 have hms:∀ W:World,Sem.run Tryz.prog (Instr.makeSlice 27 (.int .i64 (ns.length:Int)) (.int .i64 (ns.length:Int))) W=.ok (.slice (some ⟨W.heap.size,0,none⟩) ns.length ns.length) (W.alloc (.cells (madeCells #[.bool false] ns.length) 4)):=fun W=>run_make_row' 27 4 _ 1 Tryz.underlying27 info_boolF rfl .i64 .i64 ns.length (by have:=HL.out;omega) (by have:=HL.out;omega) W
 have HK4:=hide k4
 clear hB4 hB3 hB2 hb1 hb2 hb3 hb4 x0 x1 x2 x3 hX0 hX1 hX2 k4
 go_upto_region 4 with fail
 go_cut [11,12] from 54 to 57 (fun v11 v12 wx=>∃ Y4 Y5,v11=.slice (some ⟨Y4,0,none⟩) ns.length ns.length∧v12=.slice (some ⟨Y5,0,none⟩) ns.length ns.length∧wx.heap[Y4]?=some (.cells ((nol ns.length).map Value.bool).toArray 4 (0,0))∧wx.heap[Y5]?=some (.cells ((nol ns.length).map Value.bool).toArray 4 (0,0))∧Y4≠Y5∧W4.heap.size≤Y4∧W4.heap.size≤Y5∧Below W4.heap.size W4 wx)
 case first =>
  have hm1:∀ U:World,(U.alloc (.cells (madeCells #[.bool false] ns.length) 4)).heap[U.heap.size]?=some (.cells ((nol ns.length).map Value.bool).toArray 4 (0,0)):=fun U=>by rw [World.alloc_heap_new,made_boolsF];rfl
  have HM:=hide hm1
  clear hm1
  go_region
  all_goals go_wp2_with fail
  all_goals go_meet
  ·exact ⟨_,_,rfl,rfl,blk_drew (blk_alloc _ (HM.out W4)),blk_drew (by have:=HM.out (W4.alloc (.cells (madeCells #[.bool false] ns.length) 4));rwa [World.size_alloc] at this),by omega,Nat.le_refl _,by omega,(((Below.refl _ W4).alloc (Nat.le_refl _) _).alloc (by simp) _).drew⟩
  ·exact ⟨_,_,rfl,rfl,blk_drew (by have:=HM.out (W4.alloc (.cells (madeCells #[.bool false] ns.length) 4));rwa [World.size_alloc] at this),blk_drew (blk_alloc _ (HM.out W4)),by omega,by omega,Nat.le_refl _,(((Below.refl _ W4).alloc (Nat.le_refl _) _).alloc (by simp) _).drew⟩
 case rest =>
 obtain ⟨Y4,Y5,rfl,rfl,y4,y5,hne,l4,l5,hb⟩:=hcut
 have hF:FS w r b off cap ns t (six W.heap.size W1.heap.size W2.heap.size W3.heap.size Y4 Y5) (L0 ns.length) (.slice none 0 0) (.slice none 0 0) 0 0 wc:=by
  have hBc:=HB4.out.trans (hb.mono HB4.out.size)
  have b1:=HB.out.size
  have bq:=HB4.out.size
  refine ⟨(hBc.block _ (blk_lt H0.out)).trans H0.out,(hBc.block _ (blk_lt H1.out)).trans H1.out,(hBc.block _ (blk_lt H2.out)).trans H2.out,(hBc.block _ (blk_lt H3.out)).trans H3.out,fun i hi=>?_,fun i hi=>?_,fun i j hi hj e=>?_,fun i hi=>?_,⟨[],World.ownsRow_nil _ _ _ _,fun m hm=>absurd hm (by omega)⟩,⟨[],World.ownsRow_nil _ _ _ _,fun m hm=>absurd hm (by omega)⟩,fun g h=>by simp [Value.ownBlock] at h,HB.out.trans (hBc.mono HB.out.size)⟩
  ·match i,hi with
   | 0,_=>exact (hb.block _ (blk_lt HX0.out)).trans HX0.out
   | 1,_=>exact (hb.block _ (blk_lt HX1.out)).trans HX1.out
   | 2,_=>exact (hb.block _ (blk_lt HX2.out)).trans HX2.out
   | 3,_=>exact (hb.block _ (blk_lt HX3.out)).trans HX3.out
   | 4,_=>exact y4
   | 5,_=>exact y5
   | i+6,hi=>exact absurd hi (by omega)
  ·simp only [L0];split <;> simp [yesl,nol]
  ·rcases (by omega:i=0∨i=1∨i=2∨i=3∨i=4∨i=5) with rfl | rfl | rfl | rfl | rfl | rfl <;> rcases (by omega:j=0∨j=1∨j=2∨j=3∨j=4∨j=5) with rfl | rfl | rfl | rfl | rfl | rfl <;> first | rfl | (exfalso;simp only [six] at e;omega)
  ·rcases (by omega:i=0∨i=1∨i=2∨i=3∨i=4∨i=5) with rfl | rfl | rfl | rfl | rfl | rfl <;> simp only [six] <;> omega
 have HF:=hide hF
 clear hF y4 y5 hne l4 l5 hb H0 H1 H2 H3 HB HB4 HX0 HX1 HX2 HX3 HK4 kc kl kl4 ne1 ne2 ne3 ne4 hms
 generalize W.heap.size=Z0 at HF ⊢
 generalize W1.heap.size=Z1 at HF ⊢
 generalize W2.heap.size=Z2 at HF ⊢
 generalize W3.heap.size=Z3 at HF ⊢
 clear W W1 W2 W3 W4
 obtain ⟨i0,hi0,hz0,hz1,hz2⟩:=info_parts info_ints
 go_wp2_with fail
 go_loopw [13,14,15] (fun v13 v14 i wr=>∃ k:Nat,k≤ns.length∧i=.int .i64 k∧FS w r b off cap ns t (six Z0 Z1 Z2 Z3 Y4 Y5) (L0 ns.length) v13 v14 k k wr) (fun _ _ i _=>ns.length-(intOf i).toNat)
 case atStart=>exact ⟨0,Nat.zero_le _,rfl,HF.out⟩
 case round =>
  clear HF
  obtain ⟨k,hk,rfl,hF⟩:=hrel
  have k5:=hF.c5
  have kl:=blk_lt hF.kb
  by_cases hlt:k<ns.length
  ·as_aux_lemma =>
    have q0:=blk_cell hF.pb 0
    have q1:=blk_cell hF.pb 1
    simp at q0 q1
    have pl:=blk_lt hF.pb
    obtain ⟨x,hx⟩:=get_lt hlt
    have hli:(k:Int)<(ns.length:Int):=by omega
    have hnx:=nextOf_any r b off cap ns k x wr (HN.out.below hF.bel HN.out.lt) HL.out.2 hx
    rw [pick_nxl hx,ints_len] at hnx
    have HNX:=hide hnx
    have HF:=hide hF
    clear hnx hF hx
    go_wp2_with fail
    refine HNX.out.mono ?_
    rintro e w1 ⟨v,rfl,hv,hb1⟩
    obtain ⟨va,vc,rfl⟩:=owns_slice hv
    have hbT:Below w1.heap.size w1 (w1.alloc (.cells #[.slice va (nxl ns k).length vc] 54)):=(Below.refl _ w1).alloc (Nat.le_refl _) _
    have hF2:=(HF.out.below hb1).below hbT
    have hu:=ownsRow_below (ownsRow_base (base' :=0) hv (Nat.zero_le _)) hbT (Nat.le_refl _)
    obtain ⟨vs,hvs,hrs⟩:=hF2.nx
    have hF2s:=hF2.bel.size
    clear k5 kl q0 q1 pl HNX HF hb1 hv
    have HF2:=hide hF2
    have HU:=hide hu
    have HR:=hide hrs
    clear hF2 hu hrs
    go_wp2_with (at_builtin;refine wpList_append_own_at _ rfl (.tmp 63) (.tmp 67) 53 rfl w.heap.size 54 i0 (.slice none 0 0) 1 24 Tryz.underlying53 hi0 hz0 hz1 hz2 rfl (by decide) _ _ _ rfl hvs ⟨w1.heap.size,0,none⟩ 1 1 [.slice va (nxl ns k).length vc] rfl rfl ?c1 ?c2 ?c3 ?c4 ?c5 ?_)
    case c1=>exact cell_one_new _ _ _
    case c2=>intro u hu;simp at hu;subst hu;rfl
    case c3=>unfold maxLen;omega
    case c4=>omega
    case c5=>exact hF2s
    intro v' w2 hown2 hg2 _ hat
    have hF3:=HF2.out.grow1 hvs HR.out HU.out hown2 hg2 (by rw [World.size_alloc];exact hat)
    clear hvs hF2s hown2 hg2 hat hbT HF2 HU HR
    have hah:=aheadOf_any r b off cap ns k w2 (HN.out.below hF3.bel HN.out.lt) HL.out.2
    rw [show pick (ahB ns k) ns.length=ints (ahl ns k) from rfl,ints_len] at hah
    have q0:=blk_cell hF3.pb 0
    have q1:=blk_cell hF3.pb 1
    simp at q0 q1
    have pl:=blk_lt hF3.pb
    have HAH:=hide hah
    have HF:=hide hF3
    clear hah hF3
    go_wp2_with fail
    refine HAH.out.mono ?_
    rintro e w3 ⟨v,rfl,hv,hb1⟩
    obtain ⟨ua,uc,rfl⟩:=owns_slice hv
    have hbT:Below w3.heap.size w3 (w3.alloc (.cells #[.slice ua (ahl ns k).length uc] 54)):=(Below.refl _ w3).alloc (Nat.le_refl _) _
    have hF2:=(HF.out.below hb1).below hbT
    have hu:=ownsRow_below (ownsRow_base (base' :=0) hv (Nat.zero_le _)) hbT (Nat.le_refl _)
    obtain ⟨vs,hvs,hrs⟩:=hF2.ah
    have hF2s:=hF2.bel.size
    clear q0 q1 pl HAH HF hb1 hv
    have HF2:=hide hF2
    have HU:=hide hu
    have HR:=hide hrs
    clear hF2 hu hrs
    go_wp2_with (at_builtin;refine wpList_append_own_at _ rfl (.tmp 69) (.tmp 73) 53 rfl w.heap.size 54 i0 (.slice none 0 0) 1 24 Tryz.underlying53 hi0 hz0 hz1 hz2 rfl (by decide) _ _ _ rfl hvs ⟨w3.heap.size,0,none⟩ 1 1 [.slice ua (ahl ns k).length uc] rfl rfl ?c1 ?c2 ?c3 ?c4 ?c5 ?_)
    case c1=>exact cell_one_new _ _ _
    case c2=>intro u hu;simp at hu;subst hu;rfl
    case c3=>unfold maxLen;omega
    case c4=>omega
    case c5=>exact hF2s
    intro v'' w4 hown2 hg2 _ hat
    have hF3:=HF2.out.grow2 hvs HR.out HU.out hown2 hg2 (by rw [World.size_alloc];exact hat)
    clear hvs hF2s hown2 hg2 hat hbT HF2 HU HR
    have HF:=hide hF3
    clear hF3
    go_wp2
    go_roundw
    case rel=>exact ⟨k+1,by omega,by go_num,HF.out⟩
    case measure=>simp [intOf];omega
  ·have ek:k=ns.length:=by omega
   subst ek
   obtain ⟨g13,c13,_,_,rfl,_⟩:=hF.nx.read (m:=0) (by have:=HL.out;omega)
   obtain ⟨g14,c14,_,_,rfl,_⟩:=hF.ah.read (m:=0) (by have:=HL.out;omega)
   have HF:=hide hF
   clear hF hlt hk
   go_wp2_with fail
   go_loopw [16] (fun v wr=>∃ k:Nat,k≤ns.length+1∧v=.int .i64 k∧FS w r b off cap ns t (six Z0 Z1 Z2 Z3 Y4 Y5) (putL (L0 ns.length) 0 (turns (sayF ns (downW ns t)) ns.length k)) (.slice (some ⟨g13,0,none⟩) ns.length c13) (.slice (some ⟨g14,0,none⟩) ns.length c14) ns.length ns.length wr) (fun v _=>ns.length+1-(intOf v).toNat)
   case atStart=>exact ⟨0,Nat.zero_le _,rfl,by rw [show putL (L0 ns.length) 0 (turns (sayF ns (downW ns t)) ns.length 0)=L0 ns.length from putL_self (L0 ns.length) 0];exact HF.out⟩
   case round =>
    clear HF
    obtain ⟨k,hk,rfl,hF⟩:=hrel
    have k5:=hF.c5
    have kl:=blk_lt hF.kb
    by_cases hlt:k≤ns.length
    ·have hki:(k:Int)≤(ns.length:Int):=by omega
     have HF:=hide hF
     clear hF
     go_wp2_with fail
     go_loopw [17] (fun v wr=>∃ j:Nat,j≤ns.length∧v=.int .i64 j∧FS w r b off cap ns t (six Z0 Z1 Z2 Z3 Y4 Y5) (putL (L0 ns.length) 0 (turnTo (sayF ns (downW ns t)) (turns (sayF ns (downW ns t)) ns.length k) j)) (.slice (some ⟨g13,0,none⟩) ns.length c13) (.slice (some ⟨g14,0,none⟩) ns.length c14) ns.length ns.length wr) (fun v _=>ns.length-(intOf v).toNat)
     case atStart=>exact ⟨0,Nat.zero_le _,rfl,HF.out⟩
     case round =>
      clear HF k5 kl
      obtain ⟨j,hj,rfl,hF⟩:=hrel
      have k5:=hF.c5
      have kl:=blk_lt hF.kb
      by_cases hlj:j<ns.length
      ·as_aux_lemma =>
        have HX:Hid (turnTo (sayF ns (downW ns t)) (turns (sayF ns (downW ns t)) ns.length k) (j+1)=(turnTo (sayF ns (downW ns t)) (turns (sayF ns (downW ns t)) ns.length k) j).set j (sayF ns (downW ns t) (bat (turnTo (sayF ns (downW ns t)) (turns (sayF ns (downW ns t)) ns.length k) j)) j)):=rfl
        generalize turnTo (sayF ns (downW ns t)) (turns (sayF ns (downW ns t)) ns.length k) j=x at hF HX
        obtain ⟨xn,hxn⟩:=get_lt hlj
        have hst:=down_step (ns:=ns) (t:=t) (n:=j) (bat x) hlj
        rw [show bat (rcl ns t) j=rcB t xn from bat_mapn hxn,show bat (kpl ns t) j=kpB t xn from bat_mapn hxn] at hst
        obtain ⟨a,d,hrow,hI,gl⟩:=hF.nx.row hlj
        have HM:Hid (∀ m∈nxl ns j,m<ns.length):=fun m hm=>nxl_lt hm
        have hll:=nxl_len ns j
        generalize nxl ns j=l at hst hrow hI HM hll
        have hji:(j:Int)<(ns.length:Int):=by omega
        have HF:=hide hF
        have HI:=hide hI
        have HST:=hide hst
        have HXN:=hide hxn
        clear hF hI hst hxn
        go_wp2_with fail
        clear hrow k5 kl gl
        go_loopw [19,20] (fun v i u=>∃ q:Nat,q≤l.length∧i=.int .i64 q∧v=.bool ((l.take q).all (bat x))∧u=wr) (fun _ i _=>l.length-(intOf i).toNat)
        case atStart=>exact ⟨0,Nat.zero_le _,rfl,rfl,rfl⟩
        case round =>
         obtain ⟨q,hq,rfl,rfl,rfl⟩:=hrel
         by_cases hql:q<l.length
         ·obtain ⟨m,hm⟩:∃ m,l[q]?=some m:=⟨_,List.getElem?_eq_getElem hql⟩
          obtain ⟨bb,oo,rfl,bl,hz⟩:=ints_at HI.out hm
          have hml:=HM.out m (List.mem_of_getElem? hm)
          have x0:wr.cell? ⟨Z0,m,none⟩=some (.bool (bat x m)):=HF.out.cb (i:=0) (by decide) hml
          have xl:Z0<wr.heap.size:=HF.out.lt (i:=0) (by decide)
          have hqi:(q:Int)<(l.length:Int):=by omega
          have hmi:(m:Int)<(ns.length:Int):=by omega
          have HT:=hide (take_all_succ (bat x) hm)
          clear hm hml
          generalize bat x m=B at x0 HT
          generalize (l.take q).all (bat x)=A at HT ⊢
          cases A
          ·go_wp2
           go_roundw
           case rel=>exact ⟨q+1,by omega,by go_num,by rw [HT.out];rfl,trivial⟩
           case measure=>simp [intOf];omega
          ·go_wp2
           go_roundw
           case rel=>exact ⟨q+1,by omega,by go_num,by rw [HT.out];cases B <;> rfl,trivial⟩
           case measure=>simp [intOf];omega
         ·have eq:q=l.length:=by omega
          subst eq
          have hqi:¬ (l.length:Int)<(l.length:Int):=by omega
          rw [List.take_length]
          go_upto_region 22 with fail
          have HS:Hid (∀ u:World,Below wr.heap.size wr u→u.cell? ⟨w.heap.size,0,none⟩=some (.int .i64 r)∧u.cell? ⟨w.heap.size,1,none⟩=some (.slice (some ⟨b,off,none⟩) ns.length cap)∧u.cell? ⟨w.heap.size+1,0,none⟩=some (.int .i64 t.op)∧u.cell? ⟨w.heap.size+1,1,none⟩=some (.int .i64 t.a)∧u.cell? ⟨w.heap.size+1,2,none⟩=some (.int .i64 t.b)∧u.cell? ⟨b,off+j*6,none⟩=some (.int .i64 xn.op)∧u.cell? ⟨b,off+j*6+1,none⟩=some (.int .i64 xn.d)∧u.cell? ⟨b,off+j*6+2,none⟩=some (.int .i64 xn.a)∧u.cell? ⟨b,off+j*6+3,none⟩=some (.int .i64 xn.b)∧u.cell? ⟨b,off+j*6+4,none⟩=some (.int .i64 xn.t)∧u.cell? ⟨b,off+j*6+5,none⟩=some (.int .i64 xn.e)):=fun u h=>(HF.out.below h).nc HN.out HXN.out
          have HSet:Hid (∀ (u:World) (v:Value),u.cell? ⟨w.heap.size,0,none⟩=some (.int .i64 r)∧u.cell? ⟨w.heap.size,1,none⟩=some (.slice (some ⟨b,off,none⟩) ns.length cap)∧u.cell? ⟨w.heap.size+1,0,none⟩=some (.int .i64 t.op)∧u.cell? ⟨w.heap.size+1,1,none⟩=some (.int .i64 t.a)∧u.cell? ⟨w.heap.size+1,2,none⟩=some (.int .i64 t.b)∧u.cell? ⟨b,off+j*6,none⟩=some (.int .i64 xn.op)∧u.cell? ⟨b,off+j*6+1,none⟩=some (.int .i64 xn.d)∧u.cell? ⟨b,off+j*6+2,none⟩=some (.int .i64 xn.a)∧u.cell? ⟨b,off+j*6+3,none⟩=some (.int .i64 xn.b)∧u.cell? ⟨b,off+j*6+4,none⟩=some (.int .i64 xn.t)∧u.cell? ⟨b,off+j*6+5,none⟩=some (.int .i64 xn.e)→(u.setCell ⟨Z0,j,none⟩ v).cell? ⟨w.heap.size,0,none⟩=some (.int .i64 r)∧(u.setCell ⟨Z0,j,none⟩ v).cell? ⟨w.heap.size,1,none⟩=some (.slice (some ⟨b,off,none⟩) ns.length cap)∧(u.setCell ⟨Z0,j,none⟩ v).cell? ⟨w.heap.size+1,0,none⟩=some (.int .i64 t.op)∧(u.setCell ⟨Z0,j,none⟩ v).cell? ⟨w.heap.size+1,1,none⟩=some (.int .i64 t.a)∧(u.setCell ⟨Z0,j,none⟩ v).cell? ⟨w.heap.size+1,2,none⟩=some (.int .i64 t.b)∧(u.setCell ⟨Z0,j,none⟩ v).cell? ⟨b,off+j*6,none⟩=some (.int .i64 xn.op)∧(u.setCell ⟨Z0,j,none⟩ v).cell? ⟨b,off+j*6+1,none⟩=some (.int .i64 xn.d)∧(u.setCell ⟨Z0,j,none⟩ v).cell? ⟨b,off+j*6+2,none⟩=some (.int .i64 xn.a)∧(u.setCell ⟨Z0,j,none⟩ v).cell? ⟨b,off+j*6+3,none⟩=some (.int .i64 xn.b)∧(u.setCell ⟨Z0,j,none⟩ v).cell? ⟨b,off+j*6+4,none⟩=some (.int .i64 xn.t)∧(u.setCell ⟨Z0,j,none⟩ v).cell? ⟨b,off+j*6+5,none⟩=some (.int .i64 xn.e)):=fun u v h=>NC.set h (HF.out.zne HN.out (i:=0) (by decide)).1 (HF.out.zne HN.out (i:=0) (by decide)).2.1 (HF.out.zne HN.out (i:=0) (by decide)).2.2
          have HRC:=hide (fun U=>reckonsIt_any xn t U)
          have HKP:=hide (fun U=>keepsIt_any xn t U)
          have pl:=blk_lt HF.out.pb
          have tl:=blk_lt HF.out.tb
          have nl:=(HN.out.below HF.out.bel HN.out.lt).lt
          have y0:wr.cell? ⟨Z0,j,none⟩=some (.bool (bat x j)):=HF.out.cb (i:=0) (by decide) hlj
          have yf:wr.frozen? ⟨Z0,j,none⟩=false:=HF.out.fr (i:=0) (by decide) j
          have yl:Z0<wr.heap.size:=HF.out.lt (i:=0) (by decide)
          have hfr:∀ u:World,Below wr.heap.size wr u→u.frozen? ⟨Z0,j,none⟩=false:=fun u h=>(HF.out.below h).fr (i:=0) (by decide) j
          generalize rcB t xn=RC at HST HRC
          generalize kpB t xn=KP at HST HKP
          generalize l.all (bat x)=A at HST ⊢
          cases RC
          ·cases KP
           ·refine wp_fr (fun f hf=>?_)
            refine reg22_1 hji y0 yf yl hfr pl tl nl HS HSet HRC HKP (hf 2) (hf 3) (hf 7) (hf 17) (hf 18) (hf 19) fr_is (fun _ _ _ _ _ h=>h) (fun g w' hgg hB=>?_)
            rw [fr_back 105 27 hf hgg]
            simp only [wr1,tW1,tW2,tW3]
            have e2:turnTo (sayF ns (downW ns t)) (turns (sayF ns (downW ns t)) ns.length k) (j+1)=x.set j false:=by rw [HX.out,HST.out];first | rfl | (simp [hg];done)
            have HFF:=hide ((HF.out.below hB).put (i:=0) (by decide) j false)
            clear HS HSet HRC HKP
            go_wp2
            go_roundw
            case rel=>exact ⟨j+1,by omega,by go_num,by rw [e2];exact HFF.out⟩
            case measure=>simp [intOf];omega
           ·by_cases hg:0<l.length
            ·have hgi:(0:Int)<(l.length:Int):=by omega
             have hgb:decide ((0:Int)<(l.length:Int))=true:=by simp [hg]
             refine wp_fr (fun f hf=>?_)
             refine reg22_2 hji y0 yf yl hfr pl tl nl HS HSet HRC HKP hgi hg (hf 2) (hf 3) (hf 7) (hf 17) (hf 18) (hf 19) fr_is (fun _ _ _ _ _ h=>h) (fun g w' hgg hB=>?_)
             rw [fr_back 105 27 hf hgg]
             simp only [wr1,tW1,tW2,tW3]
             have e2:turnTo (sayF ns (downW ns t)) (turns (sayF ns (downW ns t)) ns.length k) (j+1)=x.set j A:=by rw [HX.out,HST.out];first | rfl | (simp [hg];done)
             have HFF:=hide ((HF.out.below hB).put (i:=0) (by decide) j A)
             clear HS HSet HRC HKP
             go_wp2
             go_roundw
             case rel=>exact ⟨j+1,by omega,by go_num,by rw [e2];exact HFF.out⟩
             case measure=>simp [intOf];omega
            ·have hgi:¬ (0:Int)<(l.length:Int):=by omega
             have hgb:decide ((0:Int)<(l.length:Int))=false:=by simp [hg]
             refine wp_fr (fun f hf=>?_)
             refine reg22_3 hji y0 yf yl hfr pl tl nl HS HSet HRC HKP hgi hg (hf 2) (hf 3) (hf 7) (hf 17) (hf 18) (hf 19) fr_is (fun _ _ _ _ _ h=>h) (fun g w' hgg hB=>?_)
             rw [fr_back 105 27 hf hgg]
             simp only [wr1,tW1,tW2,tW3]
             have e2:turnTo (sayF ns (downW ns t)) (turns (sayF ns (downW ns t)) ns.length k) (j+1)=x.set j false:=by rw [HX.out,HST.out];first | rfl | (simp [hg];done)
             have HFF:=hide ((HF.out.below hB).put (i:=0) (by decide) j false)
             clear HS HSet HRC HKP
             go_wp2
             go_roundw
             case rel=>exact ⟨j+1,by omega,by go_num,by rw [e2];exact HFF.out⟩
             case measure=>simp [intOf];omega
          ·refine wp_fr (fun f hf=>?_)
           refine reg22_4 hji y0 yf yl hfr pl tl nl HS HSet HRC (hf 2) (hf 3) (hf 7) (hf 17) (hf 18) (hf 19) fr_is (fun _ _ _ _ _ h=>h) (fun g w' hgg hB=>?_)
           rw [fr_back 105 27 hf hgg]
           simp only [wr1,tW1,tW2,tW3]
           have e2:turnTo (sayF ns (downW ns t)) (turns (sayF ns (downW ns t)) ns.length k) (j+1)=x.set j true:=by rw [HX.out,HST.out];first | rfl | (simp [hg];done)
           have HFF:=hide ((HF.out.below hB).put (i:=0) (by decide) j true)
           clear HS HSet HRC HKP
           go_wp2
           go_roundw
           case rel=>exact ⟨j+1,by omega,by go_num,by rw [e2];exact HFF.out⟩
           case measure=>simp [intOf];omega
      ·have ej:j=ns.length:=by omega
       subst ej
       have HF:=hide hF
       clear hF hlj hj
       go_wp2_with fail
       go_roundw
       case rel=>exact ⟨k+1,by omega,by go_num,HF.out⟩
       case measure=>simp [intOf];omega
    ·have ek:k=ns.length+1:=by omega
     subst ek
     have hki:¬ ((ns.length+1:Nat):Int)≤(ns.length:Int):=by omega
     have hgr:turns (sayF ns (downW ns t)) ns.length (ns.length+1)=downL ns t:=rfl
     rw [hgr] at hF
     have HF:=hide hF
     clear hF hlt hk
     go_wp2_with fail
     go_loopw [21] (fun v wr=>∃ k:Nat,k≤ns.length+1∧v=.int .i64 k∧FS w r b off cap ns t (six Z0 Z1 Z2 Z3 Y4 Y5) (putL (putL (L0 ns.length) 0 (downL ns t)) 1 (turns (selfT (sayF ns (upW ns t))) ns.length k)) (.slice (some ⟨g13,0,none⟩) ns.length c13) (.slice (some ⟨g14,0,none⟩) ns.length c14) ns.length ns.length wr) (fun v _=>ns.length+1-(intOf v).toNat)
     case atStart=>exact ⟨0,Nat.zero_le _,rfl,by rw [show putL (putL (L0 ns.length) 0 (downL ns t)) 1 (turns (selfT (sayF ns (upW ns t))) ns.length 0)=putL (L0 ns.length) 0 (downL ns t) from putL_self (putL (L0 ns.length) 0 (downL ns t)) 1];exact HF.out⟩
     case round =>
      clear HF
      obtain ⟨k,hk,rfl,hF⟩:=hrel
      have k5:=hF.c5
      have kl:=blk_lt hF.kb
      by_cases hlt:k≤ns.length
      ·have hki:(k:Int)≤(ns.length:Int):=by omega
       have HF:=hide hF
       clear hF
       go_wp2_with fail
       go_loopw [22] (fun v wr=>∃ j:Nat,j≤ns.length∧v=.int .i64 j∧FS w r b off cap ns t (six Z0 Z1 Z2 Z3 Y4 Y5) (putL (putL (L0 ns.length) 0 (downL ns t)) 1 (turnTo (selfT (sayF ns (upW ns t))) (turns (selfT (sayF ns (upW ns t))) ns.length k) j)) (.slice (some ⟨g13,0,none⟩) ns.length c13) (.slice (some ⟨g14,0,none⟩) ns.length c14) ns.length ns.length wr) (fun v _=>ns.length-(intOf v).toNat)
       case atStart=>exact ⟨0,Nat.zero_le _,rfl,HF.out⟩
       case round =>
        clear HF k5 kl
        obtain ⟨j,hj,rfl,hF⟩:=hrel
        have k5:=hF.c5
        have kl:=blk_lt hF.kb
        by_cases hlj:j<ns.length
        ·as_aux_lemma =>
          have HX:Hid (turnTo (selfT (sayF ns (upW ns t))) (turns (selfT (sayF ns (upW ns t))) ns.length k) (j+1)=(turnTo (selfT (sayF ns (upW ns t))) (turns (selfT (sayF ns (upW ns t))) ns.length k) j).set j ((selfT (sayF ns (upW ns t))) (bat (turnTo (selfT (sayF ns (upW ns t))) (turns (selfT (sayF ns (upW ns t))) ns.length k) j)) j)):=rfl
          generalize turnTo (selfT (sayF ns (upW ns t))) (turns (selfT (sayF ns (upW ns t))) ns.length k) j=x at hF HX
          have hst:=up_step (ns:=ns) (t:=t) (n:=j) (bat x) hlj
          obtain ⟨a,d,hrow,hI,gl⟩:=hF.ah.rowT hlj
          have HM:Hid (∀ m∈ahl ns j,m<ns.length):=fun m hm=>ahl_lt hm
          have hll:=ahl_len ns j
          generalize ahl ns j=l at hst hrow hI HM hll
          have hji:(j:Int)<(ns.length:Int):=by omega
          have hxl:x.length=ns.length:=hF.len 1 (by decide)
          have HF:=hide hF
          have HST:=hide hst
          have HXL:=hide hxl
          have y0:wr.cell? ⟨Z1,j,none⟩=some (.bool (bat x j)):=HF.out.cb (i:=1) (by decide) hlj
          have yf:wr.frozen? ⟨Z1,j,none⟩=false:=HF.out.fr (i:=1) (by decide) j
          have yl:Z1<wr.heap.size:=HF.out.lt (i:=1) (by decide)
          have HI:=hide hI
          clear hF hst hxl hI
          go_wp2_with fail
          have hIs:=owns_set (o:=j) (u:=.bool (decide (0<l.length))) HI.out (HF.out.blk 1 (by decide)) (by decide)
          have hFs:=HF.out.put (i:=1) (by decide) j (decide (0<l.length))
          have HIS:=hide hIs
          have HFS:=hide hFs
          clear hrow k5 kl gl y0 yf yl hIs hFs HI HF
          go_loopw [24] (fun i u=>∃ q:Nat,q≤l.length∧i=.int .i64 q∧u.ownsRow 0 3 1 (.slice a l.length d) l.length ((ints l).map (Value.int .i64))∧FS w r b off cap ns t (six Z0 Z1 Z2 Z3 Y4 Y5) (putL (putL (L0 ns.length) 0 (downL ns t)) 1 (x.set j (decide (0<l.length)&&(l.take q).all (upQ ns t j (bat x))))) (.slice (some ⟨g13,0,none⟩) ns.length c13) (.slice (some ⟨g14,0,none⟩) ns.length c14) ns.length ns.length u) (fun i _=>l.length-(intOf i).toNat)
          case atStart =>
           refine ⟨0,Nat.zero_le _,rfl,HIS.out,?_⟩
           rw [show (decide (0<l.length)&&(l.take 0).all (upQ ns t j (bat x)))=(decide (0<l.length)) by simp]
           exact HFS.out
          case round =>
           clear HFS HIS
           obtain ⟨q,hq,rfl,hI,hF⟩:=hrel
           by_cases hql:q<l.length
           ·obtain ⟨m,hm⟩:∃ m,l[q]?=some m:=⟨_,List.getElem?_eq_getElem hql⟩
            obtain ⟨bb,oo,rfl,bl,hz,cs,hbc⟩:=row_at hI hm
            have hml:=HM.out m (List.mem_of_getElem? hm)
            obtain ⟨xm,hxm⟩:=get_lt hml
            have hqi:(q:Int)<(l.length:Int):=by omega
            have hmi:(m:Int)<(ns.length:Int):=by omega
            have hrc:bat (rcl ns t) m=rcB t xm:=bat_mapn hxm
            have hkp:bat (kpl ns t) m=kpB t xm:=bat_mapn hxm
            have hT:(decide (0<l.length)&&(l.take (q+1)).all (upQ ns t j (bat x)))=((decide (0<l.length)&&(l.take q).all (upQ ns t j (bat x)))&&upQ ns t j (bat x) m):=by first | (rw [take_all_succ _ hm];simp only [Bool.and_assoc];done) | rw [take_all_succ _ hm]
            simp only [upQ,hrc,hkp] at hT
            have HF:=hide hF
            have HXN:=hide hxm
            have HI:=hide hI
            have xj:wr.cell? ⟨Z1,j,none⟩=some (.bool (decide (0<l.length)&&(l.take q).all (upQ ns t j (bat x)))):=by
             have:=HF.out.cb (i:=1) (by decide) hlj
             rw [show bat (putL (putL (L0 ns.length) 0 (downL ns t)) 1 (x.set j (decide (0<l.length)&&(l.take q).all (upQ ns t j (bat x)))) 1) j=(decide (0<l.length)&&(l.take q).all (upQ ns t j (bat x))) from bat_set_same (by rw [HXL.out];exact hlj)] at this
             exact this
            have xm0:wr.cell? ⟨Z1,m,none⟩=some (.bool (bat (x.set j (decide (0<l.length)&&(l.take q).all (upQ ns t j (bat x)))) m)):=HF.out.cb (i:=1) (by decide) hml
            have yf:wr.frozen? ⟨Z1,j,none⟩=false:=HF.out.fr (i:=1) (by decide) j
            have xl1:Z1<wr.heap.size:=HF.out.lt (i:=1) (by decide)
            have hbz:bb≠Z1:=blk_ne hbc (HF.out.blk 1 (by decide)) (by decide)
            have HUM:Hid ((decide (0<l.length)&&(l.take q).all (upQ ns t j (bat x)))=true→bat (x.set j (decide (0<l.length)&&(l.take q).all (upQ ns t j (bat x)))) m=(m==j||bat x m)):=fun e=>by rw [e];exact bat_set_self (by rw [HXL.out];exact hlj)
            generalize hPN:(decide (0<l.length)&&(l.take (q+1)).all (upQ ns t j (bat x)))=PN at hT
            have HPN:=hide hPN
            clear hPN
            generalize bat (x.set j (decide (0<l.length)&&(l.take q).all (upQ ns t j (bat x)))) m=UM at xm0 HUM
            generalize hPG:(decide (0<l.length)&&(l.take q).all (upQ ns t j (bat x)))=P at hT xj HUM HF
            skip
            have pl:=blk_lt HF.out.pb
            have tl:=blk_lt HF.out.tb
            have nl:=(HN.out.below HF.out.bel HN.out.lt).lt
            have HRC:=hide (fun U=>reckonsIt_any xm t U)
            have HKP:=hide (fun U=>keepsIt_any xm t U)
            have HS:Hid (∀ u:World,Below wr.heap.size wr u→u.cell? ⟨bb,oo+q,none⟩=some (.int .i64 (m:Int))∧u.cell? ⟨w.heap.size,0,none⟩=some (.int .i64 r)∧u.cell? ⟨w.heap.size,1,none⟩=some (.slice (some ⟨b,off,none⟩) ns.length cap)∧u.cell? ⟨w.heap.size+1,0,none⟩=some (.int .i64 t.op)∧u.cell? ⟨w.heap.size+1,1,none⟩=some (.int .i64 t.a)∧u.cell? ⟨w.heap.size+1,2,none⟩=some (.int .i64 t.b)∧u.cell? ⟨b,off+m*6,none⟩=some (.int .i64 xm.op)∧u.cell? ⟨b,off+m*6+1,none⟩=some (.int .i64 xm.d)∧u.cell? ⟨b,off+m*6+2,none⟩=some (.int .i64 xm.a)∧u.cell? ⟨b,off+m*6+3,none⟩=some (.int .i64 xm.b)∧u.cell? ⟨b,off+m*6+4,none⟩=some (.int .i64 xm.t)∧u.cell? ⟨b,off+m*6+5,none⟩=some (.int .i64 xm.e)):=fun u h=>⟨(h.cell (p:=⟨bb,oo+q,none⟩) bl).trans hz,(HF.out.below h).nc HN.out HXN.out⟩
            have HSet:Hid (∀ (u:World) (v:Value),u.cell? ⟨bb,oo+q,none⟩=some (.int .i64 (m:Int))∧u.cell? ⟨w.heap.size,0,none⟩=some (.int .i64 r)∧u.cell? ⟨w.heap.size,1,none⟩=some (.slice (some ⟨b,off,none⟩) ns.length cap)∧u.cell? ⟨w.heap.size+1,0,none⟩=some (.int .i64 t.op)∧u.cell? ⟨w.heap.size+1,1,none⟩=some (.int .i64 t.a)∧u.cell? ⟨w.heap.size+1,2,none⟩=some (.int .i64 t.b)∧u.cell? ⟨b,off+m*6,none⟩=some (.int .i64 xm.op)∧u.cell? ⟨b,off+m*6+1,none⟩=some (.int .i64 xm.d)∧u.cell? ⟨b,off+m*6+2,none⟩=some (.int .i64 xm.a)∧u.cell? ⟨b,off+m*6+3,none⟩=some (.int .i64 xm.b)∧u.cell? ⟨b,off+m*6+4,none⟩=some (.int .i64 xm.t)∧u.cell? ⟨b,off+m*6+5,none⟩=some (.int .i64 xm.e)→(u.setCell ⟨Z1,j,none⟩ v).cell? ⟨bb,oo+q,none⟩=some (.int .i64 (m:Int))∧(u.setCell ⟨Z1,j,none⟩ v).cell? ⟨w.heap.size,0,none⟩=some (.int .i64 r)∧(u.setCell ⟨Z1,j,none⟩ v).cell? ⟨w.heap.size,1,none⟩=some (.slice (some ⟨b,off,none⟩) ns.length cap)∧(u.setCell ⟨Z1,j,none⟩ v).cell? ⟨w.heap.size+1,0,none⟩=some (.int .i64 t.op)∧(u.setCell ⟨Z1,j,none⟩ v).cell? ⟨w.heap.size+1,1,none⟩=some (.int .i64 t.a)∧(u.setCell ⟨Z1,j,none⟩ v).cell? ⟨w.heap.size+1,2,none⟩=some (.int .i64 t.b)∧(u.setCell ⟨Z1,j,none⟩ v).cell? ⟨b,off+m*6,none⟩=some (.int .i64 xm.op)∧(u.setCell ⟨Z1,j,none⟩ v).cell? ⟨b,off+m*6+1,none⟩=some (.int .i64 xm.d)∧(u.setCell ⟨Z1,j,none⟩ v).cell? ⟨b,off+m*6+2,none⟩=some (.int .i64 xm.a)∧(u.setCell ⟨Z1,j,none⟩ v).cell? ⟨b,off+m*6+3,none⟩=some (.int .i64 xm.b)∧(u.setCell ⟨Z1,j,none⟩ v).cell? ⟨b,off+m*6+4,none⟩=some (.int .i64 xm.t)∧(u.setCell ⟨Z1,j,none⟩ v).cell? ⟨b,off+m*6+5,none⟩=some (.int .i64 xm.e)):=fun u v h=>⟨(cell_set_ne (q:=⟨bb,oo+q,none⟩) hbz).trans h.1,NC.set h.2 (HF.out.zne HN.out (i:=1) (by decide)).1 (HF.out.zne HN.out (i:=1) (by decide)).2.1 (HF.out.zne HN.out (i:=1) (by decide)).2.2⟩
            generalize rcB t xm=RC at hT HRC
            generalize kpB t xm=KP at hT HKP
            have HT:=hide hT
            clear hF hI hT hrc hkp hxm hm hbc hPG
            have hfr:∀ u:World,Below wr.heap.size wr u→u.frozen? ⟨Z1,j,none⟩=false:=fun u h=>(HF.out.below h).fr (i:=1) (by decide) j
            go_upto_region 34 with fail
            cases P
            ·refine wp_fr (fun f hf=>?_)
             refine reg34_1 hqi hmi hji bl hz xj xm0 xl1 yf hfr pl tl nl HS HSet (hf 2) (hf 3) (hf 8) (hf 22) (hf 23) (hf 24) fr_is (fun _ _ _ _ _ h=>h) (fun g w' hgg hB=>?_)
             rw [fr_back 158 40 hf hgg]
             simp only [wr1,tW1,tW2,tW3]
             have e2:PN=false:=by rw [HT.out];first | rfl | (rw [← HU2.out];rfl)
             have HFF:=hide ((HF.out.below hB).put (i:=1) (by decide) j false)
             rw [List.set_set] at HFF
             have HIF:=hide (owns_set (o:=j) (u:=.bool false) (ownsRow_below HI.out hB (Nat.le_refl _)) ((HF.out.below hB).blk 1 (by decide)) (by decide))
             clear HS HSet HRC HKP
             go_wp2
             go_roundw
             case rel=>exact ⟨q+1,by omega,by go_num,HIF.out,by rw [HPN.out,e2];exact HFF.out⟩
             case measure=>simp [intOf];omega
            ·have HU2:=hide (HUM.out rfl)
             cases KP
             ·refine wp_fr (fun f hf=>?_)
              refine reg34_2 hqi hmi hji bl hz xj xm0 xl1 yf hfr pl tl nl HS HSet HKP (hf 2) (hf 3) (hf 8) (hf 22) (hf 23) (hf 24) fr_is (fun _ _ _ _ _ h=>h) (fun g w' hgg hB=>?_)
              rw [fr_back 158 40 hf hgg]
              simp only [wr1,tW1,tW2,tW3]
              have e2:PN=false:=by rw [HT.out];first | rfl | (rw [← HU2.out];rfl)
              have HFF:=hide ((HF.out.below hB).put (i:=1) (by decide) j false)
              rw [List.set_set] at HFF
              have HIF:=hide (owns_set (o:=j) (u:=.bool false) (ownsRow_below HI.out hB (Nat.le_refl _)) ((HF.out.below hB).blk 1 (by decide)) (by decide))
              clear HS HSet HRC HKP
              go_wp2
              go_roundw
              case rel=>exact ⟨q+1,by omega,by go_num,HIF.out,by rw [HPN.out,e2];exact HFF.out⟩
              case measure=>simp [intOf];omega
             ·cases UM
              ·refine wp_fr (fun f hf=>?_)
               refine reg34_3 hqi hmi hji bl hz xj xm0 xl1 yf hfr pl tl nl HS HSet HKP HRC (hf 2) (hf 3) (hf 8) (hf 22) (hf 23) (hf 24) fr_is (fun _ _ _ _ _ h=>h) (fun g w' hgg hB=>?_)
               rw [fr_back 158 40 hf hgg]
               simp only [wr1,tW1,tW2,tW3]
               have e2:PN=RC:=by rw [HT.out];first | rfl | (rw [← HU2.out];rfl)
               have HFF:=hide ((HF.out.below hB).put (i:=1) (by decide) j RC)
               rw [List.set_set] at HFF
               have HIF:=hide (owns_set (o:=j) (u:=.bool RC) (ownsRow_below HI.out hB (Nat.le_refl _)) ((HF.out.below hB).blk 1 (by decide)) (by decide))
               clear HS HSet HRC HKP
               go_wp2
               go_roundw
               case rel=>exact ⟨q+1,by omega,by go_num,HIF.out,by rw [HPN.out,e2];exact HFF.out⟩
               case measure=>simp [intOf];omega
              ·refine wp_fr (fun f hf=>?_)
               refine reg34_4 hqi hmi hji bl hz xj xm0 xl1 yf hfr pl tl nl HS HSet HKP (hf 2) (hf 3) (hf 8) (hf 22) (hf 23) (hf 24) fr_is (fun _ _ _ _ _ h=>h) (fun g w' hgg hB=>?_)
               rw [fr_back 158 40 hf hgg]
               simp only [wr1,tW1,tW2,tW3]
               have e2:PN=true:=by rw [HT.out];first | rfl | (rw [← HU2.out];rfl)
               have HFF:=hide ((HF.out.below hB).put (i:=1) (by decide) j true)
               rw [List.set_set] at HFF
               have HIF:=hide (owns_set (o:=j) (u:=.bool true) (ownsRow_below HI.out hB (Nat.le_refl _)) ((HF.out.below hB).blk 1 (by decide)) (by decide))
               clear HS HSet HRC HKP
               go_wp2
               go_roundw
               case rel=>exact ⟨q+1,by omega,by go_num,HIF.out,by rw [HPN.out,e2];exact HFF.out⟩
               case measure=>simp [intOf];omega
           ·have eq:q=l.length:=by omega
            subst eq
            have hqi:¬ (l.length:Int)<(l.length:Int):=by omega
            rw [List.take_length] at hF
            rw [← HST.out,← HX.out] at hF
            have HF:=hide hF
            clear hF hI
            go_wp2_with fail
            go_roundw
            case rel=>exact ⟨j+1,by omega,by go_num,HF.out⟩
            case measure=>simp [intOf];omega
        ·have ej:j=ns.length:=by omega
         subst ej
         have HF:=hide hF
         clear hF hlj hj
         go_wp2_with fail
         go_roundw
         case rel=>exact ⟨k+1,by omega,by go_num,HF.out⟩
         case measure=>simp [intOf];omega
      ·have ek:k=ns.length+1:=by omega
       subst ek
       have hki:¬ ((ns.length+1:Nat):Int)≤(ns.length:Int):=by omega
       have hgr:turns (selfT (sayF ns (upW ns t))) ns.length (ns.length+1)=upL ns t:=gr_selfT (sayF_mono ns (upW ns t)) ns.length
       rw [hgr] at hF
       have HF:=hide hF
       clear hF hlt hk
       go_wp2_with fail
       go_loopw [25] (fun v wr=>∃ j:Nat,j≤ns.length∧v=.int .i64 j∧FS w r b off cap ns t (six Z0 Z1 Z2 Z3 Y4 Y5) (putL (putL (putL (L0 ns.length) 0 (downL ns t)) 1 (upL ns t)) 4 (partL (earlyL ns t) ns.length j)) (.slice (some ⟨g13,0,none⟩) ns.length c13) (.slice (some ⟨g14,0,none⟩) ns.length c14) ns.length ns.length wr) (fun v _=>ns.length-(intOf v).toNat)
       case atStart=>exact ⟨0,Nat.zero_le _,rfl,by rw [partL_zero,show putL (putL (putL (L0 ns.length) 0 (downL ns t)) 1 (upL ns t)) 4 (nol ns.length)=putL (putL (L0 ns.length) 0 (downL ns t)) 1 (upL ns t) from putL_self (putL (putL (L0 ns.length) 0 (downL ns t)) 1 (upL ns t)) 4];exact HF.out⟩
       case round =>
        clear HF
        obtain ⟨j,hj,rfl,hF⟩:=hrel
        have k5:=hF.c5
        have kl:=blk_lt hF.kb
        by_cases hlj:j<ns.length
        ·as_aux_lemma =>
          have hst:=early_step (ns:=ns) (t:=t) (n:=j) hlj
          obtain ⟨a,d,hrow,hI,gl⟩:=hF.ah.rowT hlj
          have HM:Hid (∀ m∈ahl ns j,m<ns.length):=fun m hm=>ahl_lt hm
          have hll:=ahl_len ns j
          generalize ahl ns j=l at hst hrow hI HM hll
          have hji:(j:Int)<(ns.length:Int):=by omega
          have HX:=hide (partL_succ (E:=earlyL ns t) (n:=ns.length) hlj)
          generalize partL (earlyL ns t) ns.length j=x at hF HX
          have HF:=hide hF
          have HST:=hide hst
          clear hF hst
          have HI:=hide hI
          clear hI
          go_wp2_with fail
          clear hrow k5 kl gl
          go_loopw [27,28] (fun v i u=>∃ q:Nat,q≤l.length∧i=.int .i64 q∧v=.bool (decide (l.length=0)||(l.take q).any (earlyQ ns t))∧Below wr.heap.size wr u) (fun _ i _=>l.length-(intOf i).toNat)
          case atStart=>exact ⟨0,Nat.zero_le _,rfl,by first | (simp;done) | (simp only [List.take_zero,List.any_nil,Bool.or_false,Value.bool.injEq];rw [Bool.eq_iff_iff];simp),Below.refl _ _⟩
          case round =>
           obtain ⟨q,hq,rfl,rfl,hbw⟩:=hrel
           replace HF:=hide (HF.out.below hbw)
           replace HI:=hide (ownsRow_below HI.out hbw (Nat.le_refl _))
           by_cases hql:q<l.length
           ·obtain ⟨m,hm⟩:∃ m,l[q]?=some m:=⟨_,List.getElem?_eq_getElem hql⟩
            obtain ⟨bb,oo,rfl,bl,hz,cs,hbc⟩:=row_at HI.out hm
            have hml:=HM.out m (List.mem_of_getElem? hm)
            obtain ⟨xm,hxm⟩:=get_lt hml
            have hqi:(q:Int)<(l.length:Int):=by omega
            have hmi:(m:Int)<(ns.length:Int):=by omega
            have hrc:bat (rcl ns t) m=rcB t xm:=bat_mapn hxm
            have hkp:bat (kpl ns t) m=kpB t xm:=bat_mapn hxm
            have hT:(decide (l.length=0)||(l.take (q+1)).any (earlyQ ns t))=((decide (l.length=0)||(l.take q).any (earlyQ ns t))||earlyQ ns t m):=by rw [take_any_succ _ hm];simp only [Bool.or_assoc]
            have HXN:=hide hxm
            have xd:wr.cell? ⟨Z0,m,none⟩=some (.bool (bat (downL ns t) m)):=HF.out.cb (i:=0) (by decide) hml
            have xl0:Z0<wr.heap.size:=HF.out.lt (i:=0) (by decide)
            have xu:wr.cell? ⟨Z1,m,none⟩=some (.bool (bat (upL ns t) m)):=HF.out.cb (i:=1) (by decide) hml
            have xl1:Z1<wr.heap.size:=HF.out.lt (i:=1) (by decide)
            simp only [earlyQ] at hT
            generalize bat (downL ns t) m=DM at xd hT
            generalize bat (upL ns t) m=UM at xu hT
            generalize hPN:(decide (l.length=0)||(l.take (q+1)).any (earlyQ ns t))=PN at hT
            have HPN:=hide hPN
            clear hPN
            generalize (decide (l.length=0)||(l.take q).any (earlyQ ns t))=A at hT ⊢
            have pl:=blk_lt HF.out.pb
            have tl:=blk_lt HF.out.tb
            have nl:=(HN.out.below HF.out.bel HN.out.lt).lt
            have HRC:=hide (fun U=>reckonsIt_any xm t U)
            have HKP:=hide (fun U=>keepsIt_any xm t U)
            have HS:Hid (∀ u:World,Below wr.heap.size wr u→u.cell? ⟨bb,oo+q,none⟩=some (.int .i64 (m:Int))∧u.cell? ⟨Z0,m,none⟩=some (.bool DM)∧u.cell? ⟨Z1,m,none⟩=some (.bool UM)∧u.cell? ⟨w.heap.size,0,none⟩=some (.int .i64 r)∧u.cell? ⟨w.heap.size,1,none⟩=some (.slice (some ⟨b,off,none⟩) ns.length cap)∧u.cell? ⟨w.heap.size+1,0,none⟩=some (.int .i64 t.op)∧u.cell? ⟨w.heap.size+1,1,none⟩=some (.int .i64 t.a)∧u.cell? ⟨w.heap.size+1,2,none⟩=some (.int .i64 t.b)∧u.cell? ⟨b,off+m*6,none⟩=some (.int .i64 xm.op)∧u.cell? ⟨b,off+m*6+1,none⟩=some (.int .i64 xm.d)∧u.cell? ⟨b,off+m*6+2,none⟩=some (.int .i64 xm.a)∧u.cell? ⟨b,off+m*6+3,none⟩=some (.int .i64 xm.b)∧u.cell? ⟨b,off+m*6+4,none⟩=some (.int .i64 xm.t)∧u.cell? ⟨b,off+m*6+5,none⟩=some (.int .i64 xm.e)):=fun u h=>⟨(h.cell (p:=⟨bb,oo+q,none⟩) bl).trans hz,(h.cell (p:=⟨Z0,m,none⟩) xl0).trans xd,(h.cell (p:=⟨Z1,m,none⟩) xl1).trans xu,(HF.out.below h).nc HN.out HXN.out⟩
            simp only [hrc,hkp] at hT
            generalize rcB t xm=RC at hT HRC
            generalize kpB t xm=KP at hT HKP
            have HT:=hide hT
            have HBW:=hide hbw
            clear hT hrc hkp hxm hm hbc hbw
            go_upto_region 43 with fail
            cases A
            ·cases KP
             ·refine wp_fr (fun f hf=>?_)
              refine reg43_1 hqi hmi bl pl tl nl xl0 xl1 HS HKP (hf 2) (hf 3) (hf 7) (hf 8) (hf 26) (hf 27) (hf 28) fr_is (fun _ _ _ _ _ h=>h) (fun g w' hgg hB=>?_)
              rw [fr_back1 216 34 27 _ (by show 27<429;decide) hf hgg]
              simp only [wr1,tW1,tW2,tW3]
              have e2:PN=(true):=by rw [HT.out];first | rfl | simp
              clear HS HRC HKP
              go_wp2
              go_roundw
              case rel=>exact ⟨q+1,by omega,by go_num,by rw [HPN.out,e2],HBW.out.trans ((hB).mono HBW.out.size)⟩
              case measure=>simp [intOf];omega
             ·cases DM
              ·refine wp_fr (fun f hf=>?_)
               refine reg43_2 hqi hmi bl pl tl nl xl0 xl1 HS HKP (hf 2) (hf 3) (hf 7) (hf 8) (hf 26) (hf 27) (hf 28) fr_is (fun _ _ _ _ _ h=>h) (fun g w' hgg hB=>?_)
               rw [fr_back1 216 34 27 _ (by show 27<429;decide) hf hgg]
               simp only [wr1,tW1,tW2,tW3]
               have e2:PN=(!UM):=by rw [HT.out];first | rfl | simp
               clear HS HRC HKP
               go_wp2
               go_roundw
               case rel=>exact ⟨q+1,by omega,by go_num,by rw [HPN.out,e2],HBW.out.trans ((hB).mono HBW.out.size)⟩
               case measure=>simp [intOf];omega
              ·refine wp_fr (fun f hf=>?_)
               refine reg43_3 hqi hmi bl pl tl nl xl0 xl1 HS HKP (hf 2) (hf 3) (hf 7) (hf 8) (hf 26) (hf 27) (hf 28) fr_is (fun _ _ _ _ _ h=>h) (fun g w' hgg hB=>?_)
               rw [fr_back1 216 34 27 _ (by show 27<429;decide) hf hgg]
               simp only [wr1,tW1,tW2,tW3]
               have e2:PN=(false):=by rw [HT.out];first | rfl | simp
               clear HS HRC HKP
               go_wp2
               go_roundw
               case rel=>exact ⟨q+1,by omega,by go_num,by rw [HPN.out,e2],HBW.out.trans ((hB).mono HBW.out.size)⟩
               case measure=>simp [intOf];omega
            ·refine wp_fr (fun f hf=>?_)
             refine reg43_4 hqi hmi bl pl tl nl xl0 xl1 HS (hf 2) (hf 3) (hf 7) (hf 8) (hf 26) (hf 27) (hf 28) fr_is (fun _ _ _ _ _ h=>h) (fun g w' hgg hB=>?_)
             rw [fr_back1 216 34 27 _ (by show 27<429;decide) hf hgg]
             simp only [wr1,tW1,tW2,tW3]
             have e2:PN=(true):=by rw [HT.out];first | rfl | simp
             clear HS HRC HKP
             go_wp2
             go_roundw
             case rel=>exact ⟨q+1,by omega,by go_num,by rw [HPN.out,e2],HBW.out.trans ((hB).mono HBW.out.size)⟩
             case measure=>simp [intOf];omega
           ·have eq:q=l.length:=by omega
            subst eq
            have hqi:¬ (l.length:Int)<(l.length:Int):=by omega
            rw [List.take_length]
            have k5:=HF.out.c5
            have kl:=blk_lt HF.out.kb
            have ye:wr.cell? ⟨Z0,j,none⟩=some (.bool (bat (downL ns t) j)):=HF.out.cb (i:=0) (by decide) hlj
            have yel:Z0<wr.heap.size:=HF.out.lt (i:=0) (by decide)
            have y0:wr.cell? ⟨Y4,j,none⟩=some (.bool (bat (x) j)):=HF.out.cb (i:=4) (by decide) hlj
            have yf:wr.frozen? ⟨Y4,j,none⟩=false:=HF.out.fr (i:=4) (by decide) j
            have yl:Y4<wr.heap.size:=HF.out.lt (i:=4) (by decide)
            generalize bat (downL ns t) j=DJ at ye HST
            generalize (decide (l.length=0)||l.any (earlyQ ns t))=A at HST ⊢
            cases DJ
            ·have e2:partL (earlyL ns t) ns.length (j+1)=x.set j false:=by rw [HX.out,HST.out];rfl
             have HFF:=hide (HF.out.put (i:=4) (by decide) j false)
             go_wp2
             go_roundw
             case rel=>exact ⟨j+1,by omega,by go_num,by rw [e2];exact HFF.out⟩
             case measure=>simp [intOf];omega
            ·have e2:partL (earlyL ns t) ns.length (j+1)=x.set j A:=by rw [HX.out,HST.out];rfl
             have HFF:=hide (HF.out.put (i:=4) (by decide) j A)
             go_wp2
             go_roundw
             case rel=>exact ⟨j+1,by omega,by go_num,by rw [e2];exact HFF.out⟩
             case measure=>simp [intOf];omega
        ·have ej:j=ns.length:=by omega
         subst ej
         have hji:¬ (ns.length:Int)<(ns.length:Int):=by omega
         rw [partL_all (by simp [earlyL])] at hF
         have HF:=hide hF
         clear hF hlj hj
         go_wp2_with fail
         go_loopw [29] (fun v wr=>∃ k:Nat,k≤ns.length+1∧v=.int .i64 k∧FS w r b off cap ns t (six Z0 Z1 Z2 Z3 Y4 Y5) (putL (putL (putL (putL (L0 ns.length) 0 (downL ns t)) 1 (upL ns t)) 4 (earlyL ns t)) 2 (turns (sayF ns (delayW ns t)) ns.length k)) (.slice (some ⟨g13,0,none⟩) ns.length c13) (.slice (some ⟨g14,0,none⟩) ns.length c14) ns.length ns.length wr) (fun v _=>ns.length+1-(intOf v).toNat)
         case atStart=>exact ⟨0,Nat.zero_le _,rfl,by rw [show putL (putL (putL (putL (L0 ns.length) 0 (downL ns t)) 1 (upL ns t)) 4 (earlyL ns t)) 2 (turns (sayF ns (delayW ns t)) ns.length 0)=putL (putL (putL (L0 ns.length) 0 (downL ns t)) 1 (upL ns t)) 4 (earlyL ns t) from putL_self (putL (putL (putL (L0 ns.length) 0 (downL ns t)) 1 (upL ns t)) 4 (earlyL ns t)) 2];exact HF.out⟩
         case round =>
          clear HF
          obtain ⟨k,hk,rfl,hF⟩:=hrel
          have k5:=hF.c5
          have kl:=blk_lt hF.kb
          by_cases hlt:k≤ns.length
          ·have hki:(k:Int)≤(ns.length:Int):=by omega
           have HF:=hide hF
           clear hF
           go_wp2_with fail
           go_loopw [30] (fun v wr=>∃ j:Nat,j≤ns.length∧v=.int .i64 j∧FS w r b off cap ns t (six Z0 Z1 Z2 Z3 Y4 Y5) (putL (putL (putL (putL (L0 ns.length) 0 (downL ns t)) 1 (upL ns t)) 4 (earlyL ns t)) 2 (turnTo (sayF ns (delayW ns t)) (turns (sayF ns (delayW ns t)) ns.length k) j)) (.slice (some ⟨g13,0,none⟩) ns.length c13) (.slice (some ⟨g14,0,none⟩) ns.length c14) ns.length ns.length wr) (fun v _=>ns.length-(intOf v).toNat)
           case atStart=>exact ⟨0,Nat.zero_le _,rfl,HF.out⟩
           case round =>
            clear HF k5 kl
            obtain ⟨j,hj,rfl,hF⟩:=hrel
            have k5:=hF.c5
            have kl:=blk_lt hF.kb
            by_cases hlj:j<ns.length
            ·as_aux_lemma =>
              have HX:Hid (turnTo (sayF ns (delayW ns t)) (turns (sayF ns (delayW ns t)) ns.length k) (j+1)=(turnTo (sayF ns (delayW ns t)) (turns (sayF ns (delayW ns t)) ns.length k) j).set j ((sayF ns (delayW ns t)) (bat (turnTo (sayF ns (delayW ns t)) (turns (sayF ns (delayW ns t)) ns.length k) j)) j)):=rfl
              generalize turnTo (sayF ns (delayW ns t)) (turns (sayF ns (delayW ns t)) ns.length k) j=x at hF HX
              have hst:=delay_step (ns:=ns) (t:=t) (n:=j) (bat x) hlj
              obtain ⟨a,d,hrow,hI,gl⟩:=hF.ah.rowT hlj
              have HM:Hid (∀ m∈ahl ns j,m<ns.length):=fun m hm=>ahl_lt hm
              have hll:=ahl_len ns j
              generalize ahl ns j=l at hst hrow hI HM hll
              have hji:(j:Int)<(ns.length:Int):=by omega
              have HF:=hide hF
              have HST:=hide hst
              clear hF hst
              have HI:=hide hI
              clear hI
              go_wp2_with fail
              clear hrow k5 kl gl
              go_loopw [32,33] (fun v i u=>∃ q:Nat,q≤l.length∧i=.int .i64 q∧v=.bool (decide (0<l.length)&&(l.take q).all (delayQ ns t (bat x)))∧Below wr.heap.size wr u) (fun _ i _=>l.length-(intOf i).toNat)
              case atStart=>exact ⟨0,Nat.zero_le _,rfl,by first | (simp;done) | (simp only [List.take_zero,List.any_nil,Bool.or_false,Value.bool.injEq];rw [Bool.eq_iff_iff];simp),Below.refl _ _⟩
              case round =>
               obtain ⟨q,hq,rfl,rfl,hbw⟩:=hrel
               replace HF:=hide (HF.out.below hbw)
               replace HI:=hide (ownsRow_below HI.out hbw (Nat.le_refl _))
               by_cases hql:q<l.length
               ·obtain ⟨m,hm⟩:∃ m,l[q]?=some m:=⟨_,List.getElem?_eq_getElem hql⟩
                obtain ⟨bb,oo,rfl,bl,hz,cs,hbc⟩:=row_at HI.out hm
                have hml:=HM.out m (List.mem_of_getElem? hm)
                obtain ⟨xm,hxm⟩:=get_lt hml
                have hqi:(q:Int)<(l.length:Int):=by omega
                have hmi:(m:Int)<(ns.length:Int):=by omega
                have hrc:bat (rcl ns t) m=rcB t xm:=bat_mapn hxm
                have hkp:bat (kpl ns t) m=kpB t xm:=bat_mapn hxm
                have hT:(decide (0<l.length)&&(l.take (q+1)).all (delayQ ns t (bat x)))=((decide (0<l.length)&&(l.take q).all (delayQ ns t (bat x)))&&delayQ ns t (bat x) m):=by rw [take_all_succ _ hm];simp only [Bool.and_assoc]
                have HXN:=hide hxm
                have xd:wr.cell? ⟨Z2,m,none⟩=some (.bool (bat x m)):=HF.out.cb (i:=2) (by decide) hml
                have xl2:Z2<wr.heap.size:=HF.out.lt (i:=2) (by decide)
                simp only [delayQ] at hT
                generalize bat x m=DM at xd hT
                generalize hPN:(decide (0<l.length)&&(l.take (q+1)).all (delayQ ns t (bat x)))=PN at hT
                have HPN:=hide hPN
                clear hPN
                generalize (decide (0<l.length)&&(l.take q).all (delayQ ns t (bat x)))=A at hT ⊢
                have pl:=blk_lt HF.out.pb
                have tl:=blk_lt HF.out.tb
                have nl:=(HN.out.below HF.out.bel HN.out.lt).lt
                have HRC:=hide (fun U=>reckonsIt_any xm t U)
                have HKP:=hide (fun U=>keepsIt_any xm t U)
                have HS:Hid (∀ u:World,Below wr.heap.size wr u→u.cell? ⟨bb,oo+q,none⟩=some (.int .i64 (m:Int))∧u.cell? ⟨Z2,m,none⟩=some (.bool DM)∧u.cell? ⟨w.heap.size,0,none⟩=some (.int .i64 r)∧u.cell? ⟨w.heap.size,1,none⟩=some (.slice (some ⟨b,off,none⟩) ns.length cap)∧u.cell? ⟨w.heap.size+1,0,none⟩=some (.int .i64 t.op)∧u.cell? ⟨w.heap.size+1,1,none⟩=some (.int .i64 t.a)∧u.cell? ⟨w.heap.size+1,2,none⟩=some (.int .i64 t.b)∧u.cell? ⟨b,off+m*6,none⟩=some (.int .i64 xm.op)∧u.cell? ⟨b,off+m*6+1,none⟩=some (.int .i64 xm.d)∧u.cell? ⟨b,off+m*6+2,none⟩=some (.int .i64 xm.a)∧u.cell? ⟨b,off+m*6+3,none⟩=some (.int .i64 xm.b)∧u.cell? ⟨b,off+m*6+4,none⟩=some (.int .i64 xm.t)∧u.cell? ⟨b,off+m*6+5,none⟩=some (.int .i64 xm.e)):=fun u h=>⟨(h.cell (p:=⟨bb,oo+q,none⟩) bl).trans hz,(h.cell (p:=⟨Z2,m,none⟩) xl2).trans xd,(HF.out.below h).nc HN.out HXN.out⟩
                simp only [hrc,hkp] at hT
                generalize rcB t xm=RC at hT HRC
                generalize kpB t xm=KP at hT HKP
                have HT:=hide hT
                have HBW:=hide hbw
                clear hT hrc hkp hxm hm hbc hbw
                go_upto_region 56 with fail
                cases A
                ·refine wp_fr (fun f hf=>?_)
                 refine reg56_1 hqi hmi bl pl tl nl xl2 HS (hf 2) (hf 3) (hf 9) (hf 31) (hf 32) (hf 33) fr_is (fun _ _ _ _ _ h=>h) (fun g w' hgg hB=>?_)
                 rw [fr_back1 283 23 32 _ (by show 32<429;decide) hf hgg]
                 simp only [wr1,tW1,tW2,tW3]
                 have e2:PN=(false):=by rw [HT.out];first | rfl | simp
                 clear HS HRC HKP
                 go_wp2
                 go_roundw
                 case rel=>exact ⟨q+1,by omega,by go_num,by rw [HPN.out,e2],HBW.out.trans ((hB).mono HBW.out.size)⟩
                 case measure=>simp [intOf];omega
                ·cases DM
                 ·refine wp_fr (fun f hf=>?_)
                  refine reg56_2 hqi hmi bl pl tl nl xl2 HS (hf 2) (hf 3) (hf 9) (hf 31) (hf 32) (hf 33) fr_is (fun _ _ _ _ _ h=>h) (fun g w' hgg hB=>?_)
                  rw [fr_back1 283 23 32 _ (by show 32<429;decide) hf hgg]
                  simp only [wr1,tW1,tW2,tW3]
                  have e2:PN=(false):=by rw [HT.out];first | rfl | simp
                  clear HS HRC HKP
                  go_wp2
                  go_roundw
                  case rel=>exact ⟨q+1,by omega,by go_num,by rw [HPN.out,e2],HBW.out.trans ((hB).mono HBW.out.size)⟩
                  case measure=>simp [intOf];omega
                 ·refine wp_fr (fun f hf=>?_)
                  refine reg56_3 hqi hmi bl pl tl nl xl2 HS HRC (hf 2) (hf 3) (hf 9) (hf 31) (hf 32) (hf 33) fr_is (fun _ _ _ _ _ h=>h) (fun g w' hgg hB=>?_)
                  rw [fr_back1 283 23 32 _ (by show 32<429;decide) hf hgg]
                  simp only [wr1,tW1,tW2,tW3]
                  have e2:PN=(!RC):=by rw [HT.out];first | rfl | simp
                  clear HS HRC HKP
                  go_wp2
                  go_roundw
                  case rel=>exact ⟨q+1,by omega,by go_num,by rw [HPN.out,e2],HBW.out.trans ((hB).mono HBW.out.size)⟩
                  case measure=>simp [intOf];omega
               ·have eq:q=l.length:=by omega
                subst eq
                have hqi:¬ (l.length:Int)<(l.length:Int):=by omega
                rw [List.take_length]
                have k5:=HF.out.c5
                have kl:=blk_lt HF.out.kb
                have ye:wr.cell? ⟨Y4,j,none⟩=some (.bool (bat (earlyL ns t) j)):=HF.out.cb (i:=4) (by decide) hlj
                have yel:Y4<wr.heap.size:=HF.out.lt (i:=4) (by decide)
                have y0:wr.cell? ⟨Z2,j,none⟩=some (.bool (bat (x) j)):=HF.out.cb (i:=2) (by decide) hlj
                have yf:wr.frozen? ⟨Z2,j,none⟩=false:=HF.out.fr (i:=2) (by decide) j
                have yl:Z2<wr.heap.size:=HF.out.lt (i:=2) (by decide)
                generalize bat (earlyL ns t) j=E at ye HST
                generalize (decide (0<l.length)&&l.all (delayQ ns t (bat x)))=A at HST ⊢
                cases E
                ·have e2:turnTo (sayF ns (delayW ns t)) (turns (sayF ns (delayW ns t)) ns.length k) (j+1)=x.set j A:=by rw [HX.out,HST.out];rfl
                 have HFF:=hide (HF.out.put (i:=2) (by decide) j A)
                 go_wp2
                 go_roundw
                 case rel=>exact ⟨j+1,by omega,by go_num,by rw [e2];exact HFF.out⟩
                 case measure=>simp [intOf];omega
                ·have e2:turnTo (sayF ns (delayW ns t)) (turns (sayF ns (delayW ns t)) ns.length k) (j+1)=x.set j true:=by rw [HX.out,HST.out];rfl
                 have HFF:=hide (HF.out.put (i:=2) (by decide) j true)
                 go_wp2
                 go_roundw
                 case rel=>exact ⟨j+1,by omega,by go_num,by rw [e2];exact HFF.out⟩
                 case measure=>simp [intOf];omega
            ·have ej:j=ns.length:=by omega
             subst ej
             have HF:=hide hF
             clear hF hlj hj
             go_wp2_with fail
             go_roundw
             case rel=>exact ⟨k+1,by omega,by go_num,HF.out⟩
             case measure=>simp [intOf];omega
          ·have ek:k=ns.length+1:=by omega
           subst ek
           have hki:¬ ((ns.length+1:Nat):Int)≤(ns.length:Int):=by omega
           have hgr:turns (sayF ns (delayW ns t)) ns.length (ns.length+1)=delayL ns t:=rfl
           rw [hgr] at hF
           have HF:=hide hF
           clear hF hlt hk
           go_wp2_with fail
           go_loopw [34] (fun v wr=>∃ j:Nat,j≤ns.length∧v=.int .i64 j∧FS w r b off cap ns t (six Z0 Z1 Z2 Z3 Y4 Y5) (putL (putL (putL (putL (putL (L0 ns.length) 0 (downL ns t)) 1 (upL ns t)) 4 (earlyL ns t)) 2 (delayL ns t)) 5 (partL (lateL ns t) ns.length j)) (.slice (some ⟨g13,0,none⟩) ns.length c13) (.slice (some ⟨g14,0,none⟩) ns.length c14) ns.length ns.length wr) (fun v _=>ns.length-(intOf v).toNat)
           case atStart=>exact ⟨0,Nat.zero_le _,rfl,by rw [partL_zero,show putL (putL (putL (putL (putL (L0 ns.length) 0 (downL ns t)) 1 (upL ns t)) 4 (earlyL ns t)) 2 (delayL ns t)) 5 (nol ns.length)=putL (putL (putL (putL (L0 ns.length) 0 (downL ns t)) 1 (upL ns t)) 4 (earlyL ns t)) 2 (delayL ns t) from putL_self (putL (putL (putL (putL (L0 ns.length) 0 (downL ns t)) 1 (upL ns t)) 4 (earlyL ns t)) 2 (delayL ns t)) 5];exact HF.out⟩
           case round =>
            clear HF
            obtain ⟨j,hj,rfl,hF⟩:=hrel
            have k5:=hF.c5
            have kl:=blk_lt hF.kb
            by_cases hlj:j<ns.length
            ·as_aux_lemma =>
              have hst:=late_step (ns:=ns) (t:=t) (n:=j) hlj
              obtain ⟨a,d,hrow,hI,gl⟩:=hF.nx.rowT hlj
              have HM:Hid (∀ m∈nxl ns j,m<ns.length):=fun m hm=>nxl_lt hm
              have hll:=nxl_len ns j
              generalize nxl ns j=l at hst hrow hI HM hll
              have hji:(j:Int)<(ns.length:Int):=by omega
              have HX:=hide (partL_succ (E:=lateL ns t) (n:=ns.length) hlj)
              generalize partL (lateL ns t) ns.length j=x at hF HX
              obtain ⟨xn,hxn⟩:=get_lt hlj
              rw [show bat (rcl ns t) j=rcB t xn from bat_mapn hxn] at hst
              have HXN:=hide hxn
              have HF:=hide hF
              have HST:=hide hst
              clear hF hst hxn
              have HI:=hide hI
              clear hI
              go_wp2_with fail
              clear hrow k5 kl gl
              go_loopw [36,37] (fun v i u=>∃ q:Nat,q≤l.length∧i=.int .i64 q∧v=.bool ((l.take q).any fun m=>!bat (delayL ns t) m)∧u=wr) (fun _ i _=>l.length-(intOf i).toNat)
              case atStart=>exact ⟨0,Nat.zero_le _,rfl,rfl,rfl⟩
              case round =>
               obtain ⟨q,hq,rfl,rfl,rfl⟩:=hrel
               by_cases hql:q<l.length
               ·obtain ⟨m,hm⟩:∃ m,l[q]?=some m:=⟨_,List.getElem?_eq_getElem hql⟩
                obtain ⟨bb,oo,rfl,bl,hz,cs,hbc⟩:=row_at HI.out hm
                have hml:=HM.out m (List.mem_of_getElem? hm)
                have x0:wr.cell? ⟨Z2,m,none⟩=some (.bool (bat (delayL ns t) m)):=HF.out.cb (i:=2) (by decide) hml
                have xl:Z2<wr.heap.size:=HF.out.lt (i:=2) (by decide)
                have hqi:(q:Int)<(l.length:Int):=by omega
                have hmi:(m:Int)<(ns.length:Int):=by omega
                have HT:=hide (take_any_succ (fun m=>!bat (delayL ns t) m) hm)
                clear hm hml hbc
                generalize hB:bat (delayL ns t) m=B at x0
                generalize ((l.take q).any fun m=>!bat (delayL ns t) m)=A at HT ⊢
                have HBB:=hide hB
                clear hB
                cases A
                ·go_wp2
                 go_roundw
                 case rel=>exact ⟨q+1,by omega,by go_num,by rw [HT.out,HBB.out];cases B <;> rfl,trivial⟩
                 case measure=>simp [intOf];omega
                ·go_wp2
                 go_roundw
                 case rel=>exact ⟨q+1,by omega,by go_num,by rw [HT.out];rfl,trivial⟩
                 case measure=>simp [intOf];omega
               ·have eq:q=l.length:=by omega
                subst eq
                have hqi:¬ (l.length:Int)<(l.length:Int):=by omega
                rw [List.take_length]
                go_upto_region 67 with fail
                have xd:wr.cell? ⟨Z2,j,none⟩=some (.bool (bat (delayL ns t) j)):=HF.out.cb (i:=2) (by decide) hlj
                have xl2:Z2<wr.heap.size:=HF.out.lt (i:=2) (by decide)
                have h25:Z2≠Y5:=fun e=>absurd (HF.out.inj 2 5 (by decide) (by decide) e) (by decide)
                have y0:wr.cell? ⟨Y5,j,none⟩=some (.bool (bat (x) j)):=HF.out.cb (i:=5) (by decide) hlj
                have yf:wr.frozen? ⟨Y5,j,none⟩=false:=HF.out.fr (i:=5) (by decide) j
                have yl:Y5<wr.heap.size:=HF.out.lt (i:=5) (by decide)
                have hfr:∀ u:World,Below wr.heap.size wr u→u.frozen? ⟨Y5,j,none⟩=false:=fun u h=>(HF.out.below h).fr (i:=5) (by decide) j
                generalize bat (delayL ns t) j=DJ at xd HST
                have pl:=blk_lt HF.out.pb
                have tl:=blk_lt HF.out.tb
                have nl:=(HN.out.below HF.out.bel HN.out.lt).lt
                have HS:Hid (∀ u:World,Below wr.heap.size wr u→u.cell? ⟨Z2,j,none⟩=some (.bool DJ)∧u.cell? ⟨w.heap.size,0,none⟩=some (.int .i64 r)∧u.cell? ⟨w.heap.size,1,none⟩=some (.slice (some ⟨b,off,none⟩) ns.length cap)∧u.cell? ⟨w.heap.size+1,0,none⟩=some (.int .i64 t.op)∧u.cell? ⟨w.heap.size+1,1,none⟩=some (.int .i64 t.a)∧u.cell? ⟨w.heap.size+1,2,none⟩=some (.int .i64 t.b)∧u.cell? ⟨b,off+j*6,none⟩=some (.int .i64 xn.op)∧u.cell? ⟨b,off+j*6+1,none⟩=some (.int .i64 xn.d)∧u.cell? ⟨b,off+j*6+2,none⟩=some (.int .i64 xn.a)∧u.cell? ⟨b,off+j*6+3,none⟩=some (.int .i64 xn.b)∧u.cell? ⟨b,off+j*6+4,none⟩=some (.int .i64 xn.t)∧u.cell? ⟨b,off+j*6+5,none⟩=some (.int .i64 xn.e)):=fun u h=>⟨(h.cell (p:=⟨Z2,j,none⟩) xl2).trans xd,(HF.out.below h).nc HN.out HXN.out⟩
                have HSet:Hid (∀ (u:World) (v:Value),u.cell? ⟨Z2,j,none⟩=some (.bool DJ)∧u.cell? ⟨w.heap.size,0,none⟩=some (.int .i64 r)∧u.cell? ⟨w.heap.size,1,none⟩=some (.slice (some ⟨b,off,none⟩) ns.length cap)∧u.cell? ⟨w.heap.size+1,0,none⟩=some (.int .i64 t.op)∧u.cell? ⟨w.heap.size+1,1,none⟩=some (.int .i64 t.a)∧u.cell? ⟨w.heap.size+1,2,none⟩=some (.int .i64 t.b)∧u.cell? ⟨b,off+j*6,none⟩=some (.int .i64 xn.op)∧u.cell? ⟨b,off+j*6+1,none⟩=some (.int .i64 xn.d)∧u.cell? ⟨b,off+j*6+2,none⟩=some (.int .i64 xn.a)∧u.cell? ⟨b,off+j*6+3,none⟩=some (.int .i64 xn.b)∧u.cell? ⟨b,off+j*6+4,none⟩=some (.int .i64 xn.t)∧u.cell? ⟨b,off+j*6+5,none⟩=some (.int .i64 xn.e)→(u.setCell ⟨Y5,j,none⟩ v).cell? ⟨Z2,j,none⟩=some (.bool DJ)∧(u.setCell ⟨Y5,j,none⟩ v).cell? ⟨w.heap.size,0,none⟩=some (.int .i64 r)∧(u.setCell ⟨Y5,j,none⟩ v).cell? ⟨w.heap.size,1,none⟩=some (.slice (some ⟨b,off,none⟩) ns.length cap)∧(u.setCell ⟨Y5,j,none⟩ v).cell? ⟨w.heap.size+1,0,none⟩=some (.int .i64 t.op)∧(u.setCell ⟨Y5,j,none⟩ v).cell? ⟨w.heap.size+1,1,none⟩=some (.int .i64 t.a)∧(u.setCell ⟨Y5,j,none⟩ v).cell? ⟨w.heap.size+1,2,none⟩=some (.int .i64 t.b)∧(u.setCell ⟨Y5,j,none⟩ v).cell? ⟨b,off+j*6,none⟩=some (.int .i64 xn.op)∧(u.setCell ⟨Y5,j,none⟩ v).cell? ⟨b,off+j*6+1,none⟩=some (.int .i64 xn.d)∧(u.setCell ⟨Y5,j,none⟩ v).cell? ⟨b,off+j*6+2,none⟩=some (.int .i64 xn.a)∧(u.setCell ⟨Y5,j,none⟩ v).cell? ⟨b,off+j*6+3,none⟩=some (.int .i64 xn.b)∧(u.setCell ⟨Y5,j,none⟩ v).cell? ⟨b,off+j*6+4,none⟩=some (.int .i64 xn.t)∧(u.setCell ⟨Y5,j,none⟩ v).cell? ⟨b,off+j*6+5,none⟩=some (.int .i64 xn.e)):=fun u v h=>⟨(cell_set_ne (q:=⟨Z2,j,none⟩) h25).trans h.1,NC.set h.2 (HF.out.zne HN.out (i:=5) (by decide)).1 (HF.out.zne HN.out (i:=5) (by decide)).2.1 (HF.out.zne HN.out (i:=5) (by decide)).2.2⟩
                have HRC:=hide (fun U=>reckonsIt_any xn t U)
                generalize rcB t xn=RC at HST HRC
                generalize (l.any fun m=>!bat (delayL ns t) m)=A at HST ⊢
                cases DJ
                ·refine wp_fr (fun f hf=>?_)
                 refine reg67_1 hji xl2 y0 yf yl hfr pl tl nl HS HSet (hf 2) (hf 3) (hf 9) (hf 12) (hf 34) (hf 36) fr_is (fun _ _ _ _ _ h=>h) (fun g w' hgg hB=>?_)
                 rw [fr_back 342 19 hf hgg]
                 simp only [wr1,tW1,tW2,tW3]
                 have e2:partL (lateL ns t) ns.length (j+1)=x.set j false:=by rw [HX.out,HST.out];rfl
                 have HFF:=hide ((HF.out.below hB).put (i:=5) (by decide) j false)
                 clear HS HSet HRC
                 go_wp2
                 go_roundw
                 case rel=>exact ⟨j+1,by omega,by go_num,by rw [e2];exact HFF.out⟩
                 case measure=>simp [intOf];omega
                ·cases RC
                 ·refine wp_fr (fun f hf=>?_)
                  refine reg67_2 hji xl2 y0 yf yl hfr pl tl nl HS HSet HRC (hf 2) (hf 3) (hf 9) (hf 12) (hf 34) (hf 36) fr_is (fun _ _ _ _ _ h=>h) (fun g w' hgg hB=>?_)
                  rw [fr_back 342 19 hf hgg]
                  simp only [wr1,tW1,tW2,tW3]
                  have e2:partL (lateL ns t) ns.length (j+1)=x.set j A:=by rw [HX.out,HST.out];rfl
                  have HFF:=hide ((HF.out.below hB).put (i:=5) (by decide) j A)
                  clear HS HSet HRC
                  go_wp2
                  go_roundw
                  case rel=>exact ⟨j+1,by omega,by go_num,by rw [e2];exact HFF.out⟩
                  case measure=>simp [intOf];omega
                 ·refine wp_fr (fun f hf=>?_)
                  refine reg67_3 hji xl2 y0 yf yl hfr pl tl nl HS HSet HRC (hf 2) (hf 3) (hf 9) (hf 12) (hf 34) (hf 36) fr_is (fun _ _ _ _ _ h=>h) (fun g w' hgg hB=>?_)
                  rw [fr_back 342 19 hf hgg]
                  simp only [wr1,tW1,tW2,tW3]
                  have e2:partL (lateL ns t) ns.length (j+1)=x.set j true:=by rw [HX.out,HST.out];rfl
                  have HFF:=hide ((HF.out.below hB).put (i:=5) (by decide) j true)
                  clear HS HSet HRC
                  go_wp2
                  go_roundw
                  case rel=>exact ⟨j+1,by omega,by go_num,by rw [e2];exact HFF.out⟩
                  case measure=>simp [intOf];omega
            ·have ej:j=ns.length:=by omega
             subst ej
             have hji:¬ (ns.length:Int)<(ns.length:Int):=by omega
             rw [partL_all (by simp [lateL])] at hF
             have HF:=hide hF
             clear hF hlj hj
             go_wp2_with fail
             go_loopw [38] (fun v wr=>∃ k:Nat,k≤ns.length+1∧v=.int .i64 k∧FS w r b off cap ns t (six Z0 Z1 Z2 Z3 Y4 Y5) (putL (putL (putL (putL (putL (putL (L0 ns.length) 0 (downL ns t)) 1 (upL ns t)) 4 (earlyL ns t)) 2 (delayL ns t)) 5 (lateL ns t)) 3 (turns (selfT (sayF ns (aloneW ns t))) ns.length k)) (.slice (some ⟨g13,0,none⟩) ns.length c13) (.slice (some ⟨g14,0,none⟩) ns.length c14) ns.length ns.length wr) (fun v _=>ns.length+1-(intOf v).toNat)
             case atStart=>exact ⟨0,Nat.zero_le _,rfl,by rw [show putL (putL (putL (putL (putL (putL (L0 ns.length) 0 (downL ns t)) 1 (upL ns t)) 4 (earlyL ns t)) 2 (delayL ns t)) 5 (lateL ns t)) 3 (turns (selfT (sayF ns (aloneW ns t))) ns.length 0)=putL (putL (putL (putL (putL (L0 ns.length) 0 (downL ns t)) 1 (upL ns t)) 4 (earlyL ns t)) 2 (delayL ns t)) 5 (lateL ns t) from putL_self (putL (putL (putL (putL (putL (L0 ns.length) 0 (downL ns t)) 1 (upL ns t)) 4 (earlyL ns t)) 2 (delayL ns t)) 5 (lateL ns t)) 3];exact HF.out⟩
             case round =>
              clear HF
              obtain ⟨k,hk,rfl,hF⟩:=hrel
              have k5:=hF.c5
              have kl:=blk_lt hF.kb
              by_cases hlt:k≤ns.length
              ·have hki:(k:Int)≤(ns.length:Int):=by omega
               have HF:=hide hF
               clear hF
               go_wp2_with fail
               go_loopw [39] (fun v wr=>∃ j:Nat,j≤ns.length∧v=.int .i64 j∧FS w r b off cap ns t (six Z0 Z1 Z2 Z3 Y4 Y5) (putL (putL (putL (putL (putL (putL (L0 ns.length) 0 (downL ns t)) 1 (upL ns t)) 4 (earlyL ns t)) 2 (delayL ns t)) 5 (lateL ns t)) 3 (turnTo (selfT (sayF ns (aloneW ns t))) (turns (selfT (sayF ns (aloneW ns t))) ns.length k) j)) (.slice (some ⟨g13,0,none⟩) ns.length c13) (.slice (some ⟨g14,0,none⟩) ns.length c14) ns.length ns.length wr) (fun v _=>ns.length-(intOf v).toNat)
               case atStart=>exact ⟨0,Nat.zero_le _,rfl,HF.out⟩
               case round =>
                clear HF k5 kl
                obtain ⟨j,hj,rfl,hF⟩:=hrel
                have k5:=hF.c5
                have kl:=blk_lt hF.kb
                by_cases hlj:j<ns.length
                ·as_aux_lemma =>
                  have HX:Hid (turnTo (selfT (sayF ns (aloneW ns t))) (turns (selfT (sayF ns (aloneW ns t))) ns.length k) (j+1)=(turnTo (selfT (sayF ns (aloneW ns t))) (turns (selfT (sayF ns (aloneW ns t))) ns.length k) j).set j ((selfT (sayF ns (aloneW ns t))) (bat (turnTo (selfT (sayF ns (aloneW ns t))) (turns (selfT (sayF ns (aloneW ns t))) ns.length k) j)) j)):=rfl
                  generalize turnTo (selfT (sayF ns (aloneW ns t))) (turns (selfT (sayF ns (aloneW ns t))) ns.length k) j=x at hF HX
                  have hst:=alone_step (ns:=ns) (t:=t) (n:=j) (bat x) hlj
                  obtain ⟨a,d,hrow,hI,gl⟩:=hF.nx.rowT hlj
                  have HM:Hid (∀ m∈nxl ns j,m<ns.length):=fun m hm=>nxl_lt hm
                  have hll:=nxl_len ns j
                  generalize nxl ns j=l at hst hrow hI HM hll
                  have hji:(j:Int)<(ns.length:Int):=by omega
                  have hxl:x.length=ns.length:=hF.len 3 (by decide)
                  have HF:=hide hF
                  have HST:=hide hst
                  have HXL:=hide hxl
                  have y0:wr.cell? ⟨Z3,j,none⟩=some (.bool (bat x j)):=HF.out.cb (i:=3) (by decide) hlj
                  have yf:wr.frozen? ⟨Z3,j,none⟩=false:=HF.out.fr (i:=3) (by decide) j
                  have yl:Z3<wr.heap.size:=HF.out.lt (i:=3) (by decide)
                  have HI:=hide hI
                  clear hF hst hxl hI
                  go_wp2_with fail
                  have hIs:=owns_set (o:=j) (u:=.bool (true)) HI.out (HF.out.blk 3 (by decide)) (by decide)
                  have hFs:=HF.out.put (i:=3) (by decide) j (true)
                  have HIS:=hide hIs
                  have HFS:=hide hFs
                  clear hrow k5 kl gl y0 yf yl hIs hFs HI HF
                  go_loopw [41] (fun i u=>∃ q:Nat,q≤l.length∧i=.int .i64 q∧u.ownsRow 0 3 1 (.slice a l.length d) l.length ((ints l).map (Value.int .i64))∧FS w r b off cap ns t (six Z0 Z1 Z2 Z3 Y4 Y5) (putL (putL (putL (putL (putL (putL (L0 ns.length) 0 (downL ns t)) 1 (upL ns t)) 4 (earlyL ns t)) 2 (delayL ns t)) 5 (lateL ns t)) 3 (x.set j ((l.take q).all (aloneQ ns t j (bat x))))) (.slice (some ⟨g13,0,none⟩) ns.length c13) (.slice (some ⟨g14,0,none⟩) ns.length c14) ns.length ns.length u) (fun i _=>l.length-(intOf i).toNat)
                  case atStart =>
                   refine ⟨0,Nat.zero_le _,rfl,HIS.out,?_⟩
                   rw [show ((l.take 0).all (aloneQ ns t j (bat x)))=(true) by simp]
                   exact HFS.out
                  case round =>
                   clear HFS HIS
                   obtain ⟨q,hq,rfl,hI,hF⟩:=hrel
                   by_cases hql:q<l.length
                   ·obtain ⟨m,hm⟩:∃ m,l[q]?=some m:=⟨_,List.getElem?_eq_getElem hql⟩
                    obtain ⟨bb,oo,rfl,bl,hz,cs,hbc⟩:=row_at hI hm
                    have hml:=HM.out m (List.mem_of_getElem? hm)
                    obtain ⟨xm,hxm⟩:=get_lt hml
                    have hqi:(q:Int)<(l.length:Int):=by omega
                    have hmi:(m:Int)<(ns.length:Int):=by omega
                    have hrc:bat (rcl ns t) m=rcB t xm:=bat_mapn hxm
                    have hkp:bat (kpl ns t) m=kpB t xm:=bat_mapn hxm
                    have hT:((l.take (q+1)).all (aloneQ ns t j (bat x)))=(((l.take q).all (aloneQ ns t j (bat x)))&&aloneQ ns t j (bat x) m):=by first | (rw [take_all_succ _ hm];simp only [Bool.and_assoc];done) | rw [take_all_succ _ hm]
                    simp only [aloneQ,hrc,hkp] at hT
                    have HF:=hide hF
                    have HXN:=hide hxm
                    have HI:=hide hI
                    have xj:wr.cell? ⟨Z3,j,none⟩=some (.bool ((l.take q).all (aloneQ ns t j (bat x)))):=by
                     have:=HF.out.cb (i:=3) (by decide) hlj
                     rw [show bat (putL (putL (putL (putL (putL (putL (L0 ns.length) 0 (downL ns t)) 1 (upL ns t)) 4 (earlyL ns t)) 2 (delayL ns t)) 5 (lateL ns t)) 3 (x.set j ((l.take q).all (aloneQ ns t j (bat x)))) 3) j=((l.take q).all (aloneQ ns t j (bat x))) from bat_set_same (by rw [HXL.out];exact hlj)] at this
                     exact this
                    have xm0:wr.cell? ⟨Z3,m,none⟩=some (.bool (bat (x.set j ((l.take q).all (aloneQ ns t j (bat x)))) m)):=HF.out.cb (i:=3) (by decide) hml
                    have yf:wr.frozen? ⟨Z3,j,none⟩=false:=HF.out.fr (i:=3) (by decide) j
                    have xl3:Z3<wr.heap.size:=HF.out.lt (i:=3) (by decide)
                    have hbz:bb≠Z3:=blk_ne hbc (HF.out.blk 3 (by decide)) (by decide)
                    have HUM:Hid (((l.take q).all (aloneQ ns t j (bat x)))=true→bat (x.set j ((l.take q).all (aloneQ ns t j (bat x)))) m=(m==j||bat x m)):=fun e=>by rw [e];exact bat_set_self (by rw [HXL.out];exact hlj)
                    generalize hPN:((l.take (q+1)).all (aloneQ ns t j (bat x)))=PN at hT
                    have HPN:=hide hPN
                    clear hPN
                    generalize bat (x.set j ((l.take q).all (aloneQ ns t j (bat x)))) m=UM at xm0 HUM
                    generalize hPG:((l.take q).all (aloneQ ns t j (bat x)))=P at hT xj HUM HF
                    have xt:wr.cell? ⟨Y5,m,none⟩=some (.bool (bat (lateL ns t) m)):=HF.out.cb (i:=5) (by decide) hml
                    have xl5:Y5<wr.heap.size:=HF.out.lt (i:=5) (by decide)
                    have h53:Y5≠Z3:=fun e=>absurd (HF.out.inj 5 3 (by decide) (by decide) e) (by decide)
                    generalize bat (lateL ns t) m=LM at xt hT
                    have pl:=blk_lt HF.out.pb
                    have tl:=blk_lt HF.out.tb
                    have nl:=(HN.out.below HF.out.bel HN.out.lt).lt
                    have HRC:=hide (fun U=>reckonsIt_any xm t U)
                    have HKP:=hide (fun U=>keepsIt_any xm t U)
                    have HS:Hid (∀ u:World,Below wr.heap.size wr u→u.cell? ⟨bb,oo+q,none⟩=some (.int .i64 (m:Int))∧u.cell? ⟨Y5,m,none⟩=some (.bool LM)∧u.cell? ⟨w.heap.size,0,none⟩=some (.int .i64 r)∧u.cell? ⟨w.heap.size,1,none⟩=some (.slice (some ⟨b,off,none⟩) ns.length cap)∧u.cell? ⟨w.heap.size+1,0,none⟩=some (.int .i64 t.op)∧u.cell? ⟨w.heap.size+1,1,none⟩=some (.int .i64 t.a)∧u.cell? ⟨w.heap.size+1,2,none⟩=some (.int .i64 t.b)∧u.cell? ⟨b,off+m*6,none⟩=some (.int .i64 xm.op)∧u.cell? ⟨b,off+m*6+1,none⟩=some (.int .i64 xm.d)∧u.cell? ⟨b,off+m*6+2,none⟩=some (.int .i64 xm.a)∧u.cell? ⟨b,off+m*6+3,none⟩=some (.int .i64 xm.b)∧u.cell? ⟨b,off+m*6+4,none⟩=some (.int .i64 xm.t)∧u.cell? ⟨b,off+m*6+5,none⟩=some (.int .i64 xm.e)):=fun u h=>⟨(h.cell (p:=⟨bb,oo+q,none⟩) bl).trans hz,(h.cell (p:=⟨Y5,m,none⟩) xl5).trans xt,(HF.out.below h).nc HN.out HXN.out⟩
                    have HSet:Hid (∀ (u:World) (v:Value),u.cell? ⟨bb,oo+q,none⟩=some (.int .i64 (m:Int))∧u.cell? ⟨Y5,m,none⟩=some (.bool LM)∧u.cell? ⟨w.heap.size,0,none⟩=some (.int .i64 r)∧u.cell? ⟨w.heap.size,1,none⟩=some (.slice (some ⟨b,off,none⟩) ns.length cap)∧u.cell? ⟨w.heap.size+1,0,none⟩=some (.int .i64 t.op)∧u.cell? ⟨w.heap.size+1,1,none⟩=some (.int .i64 t.a)∧u.cell? ⟨w.heap.size+1,2,none⟩=some (.int .i64 t.b)∧u.cell? ⟨b,off+m*6,none⟩=some (.int .i64 xm.op)∧u.cell? ⟨b,off+m*6+1,none⟩=some (.int .i64 xm.d)∧u.cell? ⟨b,off+m*6+2,none⟩=some (.int .i64 xm.a)∧u.cell? ⟨b,off+m*6+3,none⟩=some (.int .i64 xm.b)∧u.cell? ⟨b,off+m*6+4,none⟩=some (.int .i64 xm.t)∧u.cell? ⟨b,off+m*6+5,none⟩=some (.int .i64 xm.e)→(u.setCell ⟨Z3,j,none⟩ v).cell? ⟨bb,oo+q,none⟩=some (.int .i64 (m:Int))∧(u.setCell ⟨Z3,j,none⟩ v).cell? ⟨Y5,m,none⟩=some (.bool LM)∧(u.setCell ⟨Z3,j,none⟩ v).cell? ⟨w.heap.size,0,none⟩=some (.int .i64 r)∧(u.setCell ⟨Z3,j,none⟩ v).cell? ⟨w.heap.size,1,none⟩=some (.slice (some ⟨b,off,none⟩) ns.length cap)∧(u.setCell ⟨Z3,j,none⟩ v).cell? ⟨w.heap.size+1,0,none⟩=some (.int .i64 t.op)∧(u.setCell ⟨Z3,j,none⟩ v).cell? ⟨w.heap.size+1,1,none⟩=some (.int .i64 t.a)∧(u.setCell ⟨Z3,j,none⟩ v).cell? ⟨w.heap.size+1,2,none⟩=some (.int .i64 t.b)∧(u.setCell ⟨Z3,j,none⟩ v).cell? ⟨b,off+m*6,none⟩=some (.int .i64 xm.op)∧(u.setCell ⟨Z3,j,none⟩ v).cell? ⟨b,off+m*6+1,none⟩=some (.int .i64 xm.d)∧(u.setCell ⟨Z3,j,none⟩ v).cell? ⟨b,off+m*6+2,none⟩=some (.int .i64 xm.a)∧(u.setCell ⟨Z3,j,none⟩ v).cell? ⟨b,off+m*6+3,none⟩=some (.int .i64 xm.b)∧(u.setCell ⟨Z3,j,none⟩ v).cell? ⟨b,off+m*6+4,none⟩=some (.int .i64 xm.t)∧(u.setCell ⟨Z3,j,none⟩ v).cell? ⟨b,off+m*6+5,none⟩=some (.int .i64 xm.e)):=fun u v h=>⟨(cell_set_ne (q:=⟨bb,oo+q,none⟩) hbz).trans h.1,(cell_set_ne (q:=⟨Y5,m,none⟩) h53).trans h.2.1,NC.set h.2.2 (HF.out.zne HN.out (i:=3) (by decide)).1 (HF.out.zne HN.out (i:=3) (by decide)).2.1 (HF.out.zne HN.out (i:=3) (by decide)).2.2⟩
                    generalize rcB t xm=RC at hT HRC
                    generalize kpB t xm=KP at hT HKP
                    have HT:=hide hT
                    clear hF hI hT hrc hkp hxm hm hbc hPG
                    have hfr:∀ u:World,Below wr.heap.size wr u→u.frozen? ⟨Z3,j,none⟩=false:=fun u h=>(HF.out.below h).fr (i:=3) (by decide) j
                    go_upto_region 79 with fail
                    cases P
                    ·refine wp_fr (fun f hf=>?_)
                     refine reg79_1 hqi hmi hji bl hz xj xm0 xl3 yf hfr pl tl nl HS HSet (hf 2) (hf 3) (hf 10) (hf 12) (hf 39) (hf 40) (hf 41) fr_is (fun _ _ _ _ _ h=>h) (fun g w' hgg hB=>?_)
                     rw [fr_back 384 38 hf hgg]
                     simp only [wr1,tW1,tW2,tW3]
                     have e2:PN=false:=by rw [HT.out];first | rfl | (rw [← HU2.out];rfl)
                     have HFF:=hide ((HF.out.below hB).put (i:=3) (by decide) j false)
                     rw [List.set_set] at HFF
                     have HIF:=hide (owns_set (o:=j) (u:=.bool false) (ownsRow_below HI.out hB (Nat.le_refl _)) ((HF.out.below hB).blk 3 (by decide)) (by decide))
                     clear HS HSet HRC HKP
                     go_wp2
                     go_roundw
                     case rel=>exact ⟨q+1,by omega,by go_num,HIF.out,by rw [HPN.out,e2];exact HFF.out⟩
                     case measure=>simp [intOf];omega
                    ·have HU2:=hide (HUM.out rfl)
                     cases LM
                     ·cases RC
                      ·refine wp_fr (fun f hf=>?_)
                       refine reg79_2 hqi hmi hji bl hz xj xm0 xl3 yf hfr pl tl nl HS HSet HRC (hf 2) (hf 3) (hf 10) (hf 12) (hf 39) (hf 40) (hf 41) fr_is (fun _ _ _ _ _ h=>h) (fun g w' hgg hB=>?_)
                       rw [fr_back 384 38 hf hgg]
                       simp only [wr1,tW1,tW2,tW3]
                       have e2:PN=UM:=by rw [HT.out];first | rfl | (rw [← HU2.out];rfl)
                       have HFF:=hide ((HF.out.below hB).put (i:=3) (by decide) j UM)
                       rw [List.set_set] at HFF
                       have HIF:=hide (owns_set (o:=j) (u:=.bool UM) (ownsRow_below HI.out hB (Nat.le_refl _)) ((HF.out.below hB).blk 3 (by decide)) (by decide))
                       clear HS HSet HRC HKP
                       go_wp2
                       go_roundw
                       case rel=>exact ⟨q+1,by omega,by go_num,HIF.out,by rw [HPN.out,e2];exact HFF.out⟩
                       case measure=>simp [intOf];omega
                      ·refine wp_fr (fun f hf=>?_)
                       refine reg79_3 hqi hmi hji bl hz xj xm0 xl3 yf hfr pl tl nl HS HSet HRC (hf 2) (hf 3) (hf 10) (hf 12) (hf 39) (hf 40) (hf 41) fr_is (fun _ _ _ _ _ h=>h) (fun g w' hgg hB=>?_)
                       rw [fr_back 384 38 hf hgg]
                       simp only [wr1,tW1,tW2,tW3]
                       have e2:PN=false:=by rw [HT.out];first | rfl | (rw [← HU2.out];rfl)
                       have HFF:=hide ((HF.out.below hB).put (i:=3) (by decide) j false)
                       rw [List.set_set] at HFF
                       have HIF:=hide (owns_set (o:=j) (u:=.bool false) (ownsRow_below HI.out hB (Nat.le_refl _)) ((HF.out.below hB).blk 3 (by decide)) (by decide))
                       clear HS HSet HRC HKP
                       go_wp2
                       go_roundw
                       case rel=>exact ⟨q+1,by omega,by go_num,HIF.out,by rw [HPN.out,e2];exact HFF.out⟩
                       case measure=>simp [intOf];omega
                     ·refine wp_fr (fun f hf=>?_)
                      refine reg79_4 hqi hmi hji bl hz xj xm0 xl3 yf hfr pl tl nl HS HSet (hf 2) (hf 3) (hf 10) (hf 12) (hf 39) (hf 40) (hf 41) fr_is (fun _ _ _ _ _ h=>h) (fun g w' hgg hB=>?_)
                      rw [fr_back 384 38 hf hgg]
                      simp only [wr1,tW1,tW2,tW3]
                      have e2:PN=true:=by rw [HT.out];first | rfl | (rw [← HU2.out];rfl)
                      have HFF:=hide ((HF.out.below hB).put (i:=3) (by decide) j true)
                      rw [List.set_set] at HFF
                      have HIF:=hide (owns_set (o:=j) (u:=.bool true) (ownsRow_below HI.out hB (Nat.le_refl _)) ((HF.out.below hB).blk 3 (by decide)) (by decide))
                      clear HS HSet HRC HKP
                      go_wp2
                      go_roundw
                      case rel=>exact ⟨q+1,by omega,by go_num,HIF.out,by rw [HPN.out,e2];exact HFF.out⟩
                      case measure=>simp [intOf];omega
                   ·have eq:q=l.length:=by omega
                    subst eq
                    have hqi:¬ (l.length:Int)<(l.length:Int):=by omega
                    rw [List.take_length] at hF
                    rw [← HST.out,← HX.out] at hF
                    have HF:=hide hF
                    clear hF hI
                    go_wp2_with fail
                    go_roundw
                    case rel=>exact ⟨j+1,by omega,by go_num,HF.out⟩
                    case measure=>simp [intOf];omega
                ·have ej:j=ns.length:=by omega
                 subst ej
                 have HF:=hide hF
                 clear hF hlj hj
                 go_wp2_with fail
                 go_roundw
                 case rel=>exact ⟨k+1,by omega,by go_num,HF.out⟩
                 case measure=>simp [intOf];omega
              ·have ek:k=ns.length+1:=by omega
               subst ek
               have hki:¬ ((ns.length+1:Nat):Int)≤(ns.length:Int):=by omega
               have hgr:turns (selfT (sayF ns (aloneW ns t))) ns.length (ns.length+1)=aloneL ns t:=gr_selfT (sayF_mono ns (aloneW ns t)) ns.length
               rw [hgr] at hF
               have HF:=hide hF
               clear hF hlt hk
               have hR:=HF.out.rb
               have y0:=blk_cell hR 0
               have y1:=blk_cell hR 1
               have y2:=blk_cell hR 2
               have y3:=blk_cell hR 3
               have y4:=blk_cell hR 4
               have y5:=blk_cell hR 5
               simp at y0 y1 y2 y3 y4 y5
               have z0:=blk_frozen hR 0
               have z1:=blk_frozen hR 1
               have z2:=blk_frozen hR 2
               have z3:=blk_frozen hR 3
               have z4:=blk_frozen hR 4
               have z5:=blk_frozen hR 5
               have ylt:=blk_lt hR
               clear hR
               go_wp2
               have hk:=blk_set6 (v0:=.slice (some ⟨Z0,0,none⟩) ns.length ns.length) (v1:=.slice (some ⟨Z1,0,none⟩) ns.length ns.length) (v2:=.slice (some ⟨Y4,0,none⟩) ns.length ns.length) (v3:=.slice (some ⟨Z2,0,none⟩) ns.length ns.length) (v4:=.slice (some ⟨Y5,0,none⟩) ns.length ns.length) (v5:=.slice (some ⟨Z3,0,none⟩) ns.length ns.length) HF.out.rb
               have k0:=blk_cell hk 0
               have k1:=blk_cell hk 1
               have k2:=blk_cell hk 2
               have k3:=blk_cell hk 3
               have k4:=blk_cell hk 4
               have k5:=blk_cell hk 5
               simp at k0 k1 k2 k3 k4 k5
               refine bodyPost_ret (v:=.agg #[.slice (some ⟨Z0,0,none⟩) ns.length ns.length,.slice (some ⟨Z1,0,none⟩) ns.length ns.length,.slice (some ⟨Y4,0,none⟩) ns.length ns.length,.slice (some ⟨Z2,0,none⟩) ns.length ns.length,.slice (some ⟨Y5,0,none⟩) ns.length ns.length,.slice (some ⟨Z3,0,none⟩) ns.length ns.length]) (by simp [results,Tryz.results26,go_sem,k0,k1,k2,k3,k4,k5]) rfl ⟨(six Z0 Z1 Z2 Z3 Y4 Y5),rfl,fun i hi=>?_,below_set6 HF.out.bel (by omega)⟩
               have hne:=blk_ne (HF.out.blk i hi) HF.out.rb (by decide)
               have hbi:=HF.out.blk i hi
               exact blk_set_ne _ (blk_set_ne _ (blk_set_ne _ (blk_set_ne _ (blk_set_ne _ (blk_set_ne _ hbi hne) hne) hne) hne) hne) hne
def thereQ (ns:List Nd) (t:Tm) (y:Nat→Bool) (m:Nat):Bool:=y m&&bat (kpl ns t) m
theorem there_step {ns:List Nd} {t:Tm} {n:Nat} (p:List Bool) (y:Nat→Bool) (hn:n<ns.length) :
 sayF ns (thereW ns t p) y n=(bat p n||(decide (0<(ahl ns n).length)&&(ahl ns n).all (thereQ ns t y))):=by
 simp only [sayF,thereW,nbs,if_false,allOr_false,Bool.false_eq_true]
 rw [bat_yesl hn,all_eq (q:=thereQ ns t y) fun m hm=>by
  rw [bat_nol,thereQ]
  cases y m <;> cases bat (kpl ns t) m <;> simp]
 simp
theorem turnTo_len (F:(Nat→Bool)→Nat→Bool) (x:List Bool) {k:Nat} (n:Nat) (h:x.length=k):(turnTo F x n).length=k:=by
 induction n with
 | zero=>exact h
 | succ n ih=>rw [turnTo,List.length_set];exact ih
theorem turns_len (F:(Nat→Bool)→Nat→Bool) (k:Nat) (n:Nat):(turns F k n).length=k:=by
 induction n with
 | zero=>simp [turns]
 | succ n ih=>rw [turns];exact turnTo_len F _ _ ih
structure RB (wA w:World) (x:List Bool) (v:Value) (k:Nat) (ns:List Nd):Prop where
 th:w.heap[wA.heap.size]?=some (.cells (x.map Value.bool).toArray 4 (0,0))
 tb:Tab w (wA.heap.size+1) v k (ahl ns)
 bel:Below wA.heap.size wA w
theorem RB.below {wA w w' :World} {x:List Bool} {v:Value} {k:Nat} {ns:List Nd} (h:RB wA w x v k ns) (hb:Below w.heap.size w w'):RB wA w' x v k ns :=
 ⟨(hb.block _ (blk_lt h.th)).trans h.th,h.tb.below hb,h.bel.trans (hb.mono h.bel.size)⟩
theorem RB.put {wA w:World} {x:List Bool} {v:Value} {k:Nat} {ns:List Nd} (h:RB wA w x v k ns) (j:Nat) (z:Bool):RB wA (w.setCell ⟨wA.heap.size,j,none⟩ (.bool z)) (x.set j z) v k ns:=by
 refine ⟨?_,h.tb.set h.th (by decide) (by decide),h.bel.setCell (p:=⟨wA.heap.size,j,none⟩) (Nat.le_refl _) _⟩
 rw [blk_set _ h.th]
 simp only [List.map_set,List.setIfInBounds_toArray]
theorem RB.grow {wA w w' :World} {x:List Bool} {v v' u:Value} {k:Nat} {ns:List Nd} {vs:List Value} (h:RB wA w x v k ns) (hv:w.ownsRow (wA.heap.size+1) 54 1 v k vs) (hr:∀ m,m<k→∃ u,vs[m]?=some u∧w.ownsRow 0 3 1 u (ahl ns m).length ((ints (ahl ns m)).map (Value.int .i64))) (hu:w.ownsRow 0 3 1 u (ahl ns k).length ((ints (ahl ns k)).map (Value.int .i64))) (hown:w'.ownsRow (wA.heap.size+1) 54 1 v' (k+1) (vs++[u])) (hg:w.grownBy w' v.ownBlock):RB wA w' x v' (k+1) ns :=
 ⟨(hg.block _ (blk_lt h.th) (fun e=>own_row_ne hv h.th (by decide) e.symm)).trans h.th,tab_more hv hr hu hown hg,h.bel.grown hg h.bel.size (fun q e=>Nat.le_of_succ_le (own_block hv q e).1)⟩
structure LW (lb B:Nat) (wB w:World) (v1 v2:Value) (l2:List Bool):Prop where
 box:w.heap[lb]?=some (.cells #[v1,v2] 29 (0,0))
 lt:lb<B
 r2:w.ownsRow B 4 1 v2 l2.length (l2.map Value.bool)
 sz:B≤w.heap.size
 kp:∀ k,k<B→k≠lb→w.heap[k]?=wB.heap[k]?
 bel:Below lb wB w
theorem LW.drew {lb B:Nat} {wB w:World} {v1 v2:Value} {l2:List Bool} (h:LW lb B wB w v1 v2 l2):LW lb B wB w.drew v1 v2 l2:=⟨h.box,h.lt,h.r2,h.sz,h.kp,h.bel.drew⟩
theorem LW.below {lb B:Nat} {wB w w' :World} {v1 v2:Value} {l2:List Bool} (h:LW lb B wB w v1 v2 l2) (hb:Below w.heap.size w w'):LW lb B wB w' v1 v2 l2 :=
 ⟨(hb.block _ (blk_lt h.box)).trans h.box,h.lt,ownsRow_below h.r2 hb (Nat.le_refl _),Nat.le_trans h.sz hb.size,fun k h1 h2=>(hb.block k (Nat.lt_of_lt_of_le h1 h.sz)).trans (h.kp k h1 h2),h.bel.trans (hb.mono (Nat.le_of_lt (blk_lt h.box)))⟩
theorem LW.cell {lb B:Nat} {wB w:World} {v1 v2:Value} {l2:List Bool} (h:LW lb B wB w v1 v2 l2) {k o:Nat} (h1:k<B) (h2:k≠lb):w.cell? ⟨k,o,none⟩=wB.cell? ⟨k,o,none⟩:=World.cell?_of_block (h.kp k h1 h2)
theorem LW.app {lb B:Nat} {wB w:World} {v1 v2:Value} {l2:List Bool} (h:LW lb B wB w v1 v2 l2) (ty:TypeId) (n:Nat) (hn:l2.length=n) (hl:n≤256) (z:Bool) :
 ∃ va vc w', (Builtin.append_ #[27,27] ty #[v2,.slice (some ⟨w.heap.size,0,none⟩) 1 1]).run Tryz.prog (w.alloc (.cells #[.bool z] 4))=.ok (.slice va (n+1) vc) w' ∧Below B w w' ∧LW lb B wB (w'.setCell ⟨lb,1,none⟩ (.slice va (n+1) vc)) v1 (.slice va (n+1) vc) (l2++[z]):=by
 subst hn
 obtain ⟨v', w', hr,hv,hg,hat,hB⟩:=app_row ty h.r2 h.sz hl z
 obtain ⟨va,vc,hve⟩:=owns_slice hv
 rw [show (l2++[z]).length=l2.length+1 by simp] at hve
 subst hve
 have hx:=(hB.block lb h.lt).trans h.box
 refine ⟨va,vc,w', hr,hB,?_,h.lt,owns_set hv hx (by decide),?_,fun k h1 h2=>?_,(h.bel.trans (hB.mono (Nat.le_of_lt h.lt))).setCell (p:=⟨lb,1,none⟩) (Nat.le_refl _) _⟩
 ·rw [blk_set _ hx];simp
 ·have:=hB.size
  have h3:=h.sz
  simp [World.setCell]
  omega
 ·rw [Below.heap_setCell _ _ _ _ (by exact h2),hB.block k h1,h.kp k h1 h2]
theorem owns_from {w w' :World} {base:Nat} {e:TypeId} {size:Nat} {v:Value} {n:Nat} {xs:List Value} (h:w.ownsRow base e size v n xs) (hk:∀ (g:Nat) (cs:Array Value),w.heap[g]?=some (.cells cs e (0,0))→w'.heap[g]?=w.heap[g]?):w'.ownsRow base e size v n xs:=by
 obtain ⟨hl,h3⟩:=h
 refine ⟨hl,?_⟩
 rcases h3 with h3 | ⟨g,cap,cur,rfl,a1,a2,a3⟩
 ·exact Or.inl h3
 ·exact Or.inr ⟨g,cap,cur,rfl,a1,(hk g cur a2).trans a2,a3⟩
end Go.Proofs.YtnbdnbcnlgnicaaGreat
