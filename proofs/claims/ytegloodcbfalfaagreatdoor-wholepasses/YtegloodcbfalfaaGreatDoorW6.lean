/-
  Of the proof of WholePasses: LP, BX, LJ, I, LS.
-/
import Derived.Test.YtegloodcbfalfaaGreatDoorW1
import Derived.Test.YtegloodcbfalfaaGreatDoorW2
import Derived.Test.YtegloodcbfalfaaGreatDoorW3
import Derived.Test.YtegloodcbfalfaaGreatDoorW5
import Derived.Sort.CutIn
import Derived.RangeFuncRecord
import Derived.Deep.DeepCutAuto
set_option linter.unusedVariables false
set_option linter.unusedSimpArgs false
set_option maxHeartbeats 40000000
set_option maxRecDepth 100000
namespace Go.Proofs.YtegloodcbfalfaaGreatDoor
open Go.RowKit Go.Shelf
attribute [local go_sem] Oper.semAt_some
theorem EN (ns:List Nd) (m:Nat):(pick (mF ns m) ns.length).length=(gJ ns m).length:=by simp [pick,gJ]
theorem EO (ns:List Nd) (n:Nat) (out:List Nd) (m:Int):(eB ns n out m).length≤out.length+1∧out.length≤(eB ns n out m).length:=by
 unfold eB;split <;> simp
theorem yR (ns:List Nd) (n:Nat):∀ (l:List Int) (out:List Nd),(l.foldl (eB ns n) out).length≤out.length+l.length∧out.length≤(l.foldl (eB ns n) out).length
 | [],out=>by simp
 | m::l,out=>by
  have h1:=yR ns n l (eB ns n out m)
  have h2:=EO ns n out m
  simp only [List.foldl_cons,List.length_cons];omega
theorem aWX (x:Nd):(jI x).length≤2:=wQ x
theorem uJ (ns:List Nd):∀ k,(dE ns k).length≤ns.length+2*k∧ns.length≤(dE ns k).length
 | 0=>by simp [dE]
 | k+1=>by
  have ih:=uJ ns k
  rw [jS]
  unfold IY
  split
  ·omega
  ·have h1:=yR ns k (jI (nd ns k)) (dE ns k)
   have h2:=aWX (nd ns k)
   omega
theorem pX {w:World} {base g cap:Nat} {l:List Nd} {j:Nat} {y:Nd} (h:w.ownsRow base 42 6 (.slice (some ⟨g,0,none⟩) l.length cap) l.length (l.flatMap aP)) (hj:j<l.length) :
 ((((((w.setCell ⟨g,j*6,none⟩ (.int .i64 y.op)).setCell ⟨g,j*6+1,none⟩ (.int .i64 y.d)).setCell ⟨g,j*6+2,none⟩ (.int .i64 y.a)).setCell ⟨g,j*6+3,none⟩ (.int .i64 y.b)).setCell ⟨g,j*6+4,none⟩ (.int .i64 y.t)).setCell ⟨g,j*6+5,none⟩ (.int .i64 y.e)).ownsRow base 42 6 (.slice (some ⟨g,0,none⟩) (l.set j y).length cap) (l.set j y).length ((l.set j y).flatMap aP):=by
 obtain ⟨x,hx⟩:=bD hj
 have gs:∀ (z:Nd),(l.set j z)[j]?=some z:=fun z=>by rw [List.getElem?_set_self hj]
 have k0:=iB (u:=.int .i64 y.op) h (i:=j*6+0) aF
 rw [jK 6 aP dM l j 0 x ⟨y.op,x.d,x.a,x.b,x.t,x.e⟩ _ hx aL rfl] at k0
 have k1:=iB (u:=.int .i64 y.d) k0 (i:=j*6+1) aF
 rw [jK 6 aP dM (l.set j ⟨y.op,x.d,x.a,x.b,x.t,x.e⟩) j 1 ⟨y.op,x.d,x.a,x.b,x.t,x.e⟩ ⟨y.op,y.d,x.a,x.b,x.t,x.e⟩ (.int .i64 y.d) (gs _) aL rfl,List.set_set] at k1
 have k2:=iB (u:=.int .i64 y.a) k1 (i:=j*6+2) aF
 rw [jK 6 aP dM (l.set j ⟨y.op,y.d,x.a,x.b,x.t,x.e⟩) j 2 ⟨y.op,y.d,x.a,x.b,x.t,x.e⟩ ⟨y.op,y.d,y.a,x.b,x.t,x.e⟩ (.int .i64 y.a) (gs _) aL rfl,List.set_set] at k2
 have k3:=iB (u:=.int .i64 y.b) k2 (i:=j*6+3) aF
 rw [jK 6 aP dM (l.set j ⟨y.op,y.d,y.a,x.b,x.t,x.e⟩) j 3 ⟨y.op,y.d,y.a,x.b,x.t,x.e⟩ ⟨y.op,y.d,y.a,y.b,x.t,x.e⟩ (.int .i64 y.b) (gs _) aL rfl,List.set_set] at k3
 have k4:=iB (u:=.int .i64 y.t) k3 (i:=j*6+4) aF
 rw [jK 6 aP dM (l.set j ⟨y.op,y.d,y.a,y.b,x.t,x.e⟩) j 4 ⟨y.op,y.d,y.a,y.b,x.t,x.e⟩ ⟨y.op,y.d,y.a,y.b,y.t,x.e⟩ (.int .i64 y.t) (gs _) aL rfl,List.set_set] at k4
 have k5:=iB (u:=.int .i64 y.e) k4 (i:=j*6+5) aF
 rw [jK 6 aP dM (l.set j ⟨y.op,y.d,y.a,y.b,y.t,x.e⟩) j 5 ⟨y.op,y.d,y.a,y.b,y.t,x.e⟩ ⟨y.op,y.d,y.a,y.b,y.t,y.e⟩ (.int .i64 y.e) (gs _) aL rfl,List.set_set] at k5
 rw [List.length_set]
 exact k5
def sixN (w:World) (g j:Nat) (y:Nd):World:=(((((w.setCell ⟨g,j*6,none⟩ (.int .i64 y.op)).setCell ⟨g,j*6+1,none⟩ (.int .i64 y.d)).setCell ⟨g,j*6+2,none⟩ (.int .i64 y.a)).setCell ⟨g,j*6+3,none⟩ (.int .i64 y.b)).setCell ⟨g,j*6+4,none⟩ (.int .i64 y.t)).setCell ⟨g,j*6+5,none⟩ (.int .i64 y.e)
theorem gQ {w:World} {g j b:Nat} {y:Nd} (h:b≠g):(sixN w g j y).heap[b]?=w.heap[b]? :=by
 unfold sixN
 rw [Below.heap_setCell _ _ _ _ h,Below.heap_setCell _ _ _ _ h,Below.heap_setCell _ _ _ _ h,Below.heap_setCell _ _ _ _ h,Below.heap_setCell _ _ _ _ h,Below.heap_setCell _ _ _ _ h]
theorem aGS (w:World) (g j:Nat) (y:Nd):KeepsOthers w (sixN w g j y) :=
 (((((KeepsOthers.setCell _ _ _).trans (KeepsOthers.setCell _ _ _)).trans (KeepsOthers.setCell _ _ _)).trans (KeepsOthers.setCell _ _ _)).trans (KeepsOthers.setCell _ _ _)).trans (KeepsOthers.setCell _ _ _)
theorem pY {B:Nat} (w:World) {g:Nat} (j:Nat) (y:Nd) (h:B≤g):Below B w (sixN w g j y) :=
 ((((((Below.refl B w).setCell (p:=⟨g,_,none⟩) h _).setCell (p:=⟨g,_,none⟩) h _).setCell (p:=⟨g,_,none⟩) h _).setCell (p:=⟨g,_,none⟩) h _).setCell (p:=⟨g,_,none⟩) h _).setCell (p:=⟨g,_,none⟩) h _
theorem aWY {w:World} {g j N:Nat} {y:Nd} {cur:Array Value} (h:w.heap[g]?=some (.cells cur 42 (0,0))) (hN:N≠g):KT N w (sixN w g j y) :=
 ⟨gQ hN,fun i vs fr e=>gQ fun q=>by
  subst q;rw [h] at e;cases e⟩
theorem EP (r:Int) (b off cap:Nat) (ns:List Nd) (w:World) (hN:aH w b off ns) (hc:bM r ns=0) :
 CallsIn Fence.wide 5 Tryz.prog 36 #[.agg #[.int .i64 r,.slice (some ⟨b,off,none⟩) ns.length cap]] w fun e w' =>∃ v1 v2 er,e=.returned (.tuple #[.agg #[.int .i64 v1,v2],.int .i64 er])∧((splitN ns).length≤256∧v1=r∧er=0∧w'.ownsRow w.heap.size 42 6 v2 (splitN ns).length ((splitN ns).flatMap aP)∨256<(splitN ns).length∧v1=0∧er=2∧v2=.slice none 0 0)∧Below w.heap.size w w' :=by
 have hl:=(bB hc).1
 obtain ⟨i0,hi0,hz0,hz1,hz2⟩:=info_parts jC
 refine callsIn_of_wp_marks Tryz.func36 rfl trivial ?_ rfl
 simp only [Tryz.ntmps36,List.size_toArray,List.length_cons,List.length_nil,Nat.reduceAdd,Nat.reduceSub,Array.replicate_succ,Array.replicate_zero,List.push_toArray,List.append_toArray,List.nil_append,List.cons_append]
 have hb0:Below w.heap.size w ((w.alloc (.cells #[.int .i64 r,.slice (some ⟨b,off,none⟩) ns.length cap] 24)).alloc (.cells #[.int .i64 0,.slice none 0 0] 24)):=(dY).alloc aQ _
 have p0:((w.alloc (.cells #[.int .i64 r,.slice (some ⟨b,off,none⟩) ns.length cap] 24)).alloc (.cells #[.int .i64 0,.slice none 0 0] 24)).heap[w.heap.size]?=some (.cells #[.int .i64 r,.slice (some ⟨b,off,none⟩) ns.length cap] 24 (0,0)):=(Below.heap_alloc _ _ _ aQ).trans (World.alloc_heap_new w _)
 have p1:((w.alloc (.cells #[.int .i64 r,.slice (some ⟨b,off,none⟩) ns.length cap] 24)).alloc (.cells #[.int .i64 0,.slice none 0 0] 24)).heap[w.heap.size+1]?=some (.cells #[.int .i64 0,.slice none 0 0] 24 (0,0)):=by
  have:=World.alloc_heap_new (w.alloc (.cells #[.int .i64 r,.slice (some ⟨b,off,none⟩) ns.length cap] 24)) (.cells #[.int .i64 0,.slice none 0 0] 24)
  rwa [World.size_alloc] at this
 have hck:=fG r (some ⟨b,off,none⟩) cap ns _ (Or.inr ⟨b,off,rfl,hN.below hb0 hN.lt⟩:pI ((w.alloc (.cells #[.int .i64 r,.slice (some ⟨b,off,none⟩) ns.length cap] 24)).alloc (.cells #[.int .i64 0,.slice none 0 0] 24)) _ ns)
 rw [hc] at hck
 have wX:=aR hck
 clear hck
 have h15:1≤5:=by decide
 gi_wp2_with (refine ⟨trivial,?_⟩;gi_at_call 10;refine (callsIn_wide.2 wX.out).mono ?_)
 rintro e w1 ⟨rfl,hb1⟩
 have hs1:=hb1.size
 replace p0:=(hb1.block w.heap.size bF).trans p0
 replace p1:=(hb1.block (w.heap.size+1) aQ).trans p1
 simp only [World.size_alloc] at hs1 hb1
 have hB1:Below w.heap.size w w1:=hb0.trans (hb1.mono aF)
 have hlt1:=aD p0
 have hlt2:=aD p1
 have q0:=aA p0 0
 have q1:=aA p0 1
 simp at q0 q1
 clear hb1 hb0
 have hah:=vD 4 aL r b off cap ns w1 (hN.below hB1 hN.lt) hc
 have HAH:=aR hah
 clear hah
 gi_wp2_with (refine ⟨trivial,?_⟩;gi_at_call 61;refine HAH.out.mono ?_)
 rintro e w2 ⟨rb,vs,rfl,hR,hb2⟩
 have hs2:=hb2.size
 have P0:=(hb2.block _ hlt1).trans p0
 have P1:=(hb2.block _ hlt2).trans p1
 have hRB:=hR.blk
 have hbx0:=Boxed.new w2 71 (.slice (some ⟨rb,0,none⟩) ns.length ns.length)
 have hb2' :Below w2.heap.size w2 (w2.alloc (.cells #[.slice (some ⟨rb,0,none⟩) ns.length ns.length] 71)):=dY
 have hB2:Below w.heap.size w (w2.alloc (.cells #[.slice (some ⟨rb,0,none⟩) ns.length ns.length] 71)):=(hB1.trans (hb2.mono aF)).trans (hb2'.mono aF)
 have hcn:=EM 4 b off cap ns (w2.alloc (.cells #[.slice (some ⟨rb,0,none⟩) ns.length ns.length] 71)) (hN.below hB2 hN.lt) aF
 have HCN:=aR hcn
 replace q1:=(hb2.cell (p:=⟨w.heap.size,1,none⟩) hlt1).trans q1
 have hlt3:w.heap.size<w2.heap.size:=by omega
 clear hcn
 gi_wp2_with (refine ⟨trivial,?_⟩;gi_at_call 14;refine HCN.out.mono ?_)
 rintro e w3 ⟨vn,rfl,hV,hb3⟩
 obtain ⟨g0,gc0,rfl,a8S,bIT⟩:=hV.form aF
 have hs3:=hb3.size
 simp only [World.size_alloc] at hs3 hb3 a8S hV
 have hB3:Below w.heap.size w w3:=hB2.trans (hb3.mono aF)
 have hRW:dS w3 w1.heap.size rb ns.length vs (fun m=>pick (mF ns m) ns.length):=(hR.below hb2').below (by simpa only [World.size_alloc] using hb3)
 have hAX:Boxed w3 w2.heap.size 71 (.slice (some ⟨rb,0,none⟩) ns.length ns.length):=(hb3.block _ aF).trans hbx0
 have Q0:w3.heap[w.heap.size]?=_:=(hb3.block _ aF).trans ((hb2'.block _ aF).trans P0)
 have Q1:w3.heap[w.heap.size+1]?=_:=(hb3.block _ aF).trans ((hb2'.block _ aF).trans P1)
 have aFT:rb<w2.heap.size:=aD hR.blk
 clear hb3 hb2' hbx0 P0 P1 hRB hR hB2 hb2
 have hX0:=Boxed.new w3 22 (.slice (some ⟨g0,0,none⟩) ns.length gc0)
 have hb4:Below w3.heap.size w3 (w3.alloc (.cells #[.slice (some ⟨g0,0,none⟩) ns.length gc0] 22)):=dY
 have qq:=aA Q0 1
 simp at qq
 have a8T:w.heap.size<w3.heap.size:=by omega
 gi_upto_region 6 with fail
 generalize w3.alloc (.cells #[.slice (some ⟨g0,0,none⟩) ns.length gc0] 22)=W4 at hX0 hb4 ⊢
 have qq4:=(hb4.cell (p:=⟨w.heap.size,1,none⟩) a8T).trans qq
 have hs4:=hb4.size
 have aRT:w.heap.size<W4.heap.size:=by omega
 gi_wp2
 have hV4:W4.ownsRow (w2.heap.size+1) 42 6 (.slice (some ⟨g0,0,none⟩) ns.length gc0) ns.length (ns.flatMap aP):=ownsRow_below hV hb4 dD
 have hbW:Below (w2.heap.size+1) w3 W4:=hb4.mono aF
 refine wpIn_loop (fun a W=>∃ (k:Nat) (v u7 u8 u25 u26 u27 u28 u29 u30 u31 u32 u33 u57:Value) (ds:List Nat),k≤ns.length∧Boxed W w3.heap.size 22 v∧W.ownsRow (w2.heap.size+1) 42 6 v (dE ns k).length ((dE ns k).flatMap aP)∧Below (w2.heap.size+1) w3 W∧Marks ds W∧(∀ D∈ds,w2.heap.size+1≤D) ∧
  a={ tmps:=#[.agg #[.int .i64 r,.slice (some ⟨b,off,none⟩) ns.length cap],.pointer (some ⟨w.heap.size,0,none⟩),.pointer (some ⟨w.heap.size+1,0,none⟩),.int .i64 0,.int .i64 0,.pointer (some ⟨w2.heap.size,0,none⟩),.pointer (some ⟨w3.heap.size,0,none⟩),u7,u8,undef,.agg #[.int .i64 r,.slice (some ⟨b,off,none⟩) ns.length cap],.int .i64 0,.int .i64 0,.bool false,undef,undef,.agg #[.int .i64 r,.slice (some ⟨b,off,none⟩) ns.length cap],.slice (some ⟨rb,0,none⟩) ns.length ns.length,.pointer (some ⟨w.heap.size,1,none⟩),.slice (some ⟨b,off,none⟩) ns.length cap,.slice (some ⟨g0,0,none⟩) ns.length gc0,.pointer (some ⟨w.heap.size,1,none⟩),.slice (some ⟨b,off,none⟩) ns.length cap,.int .i64 (ns.length:Int),.int .i64 (k:Int),u25,u26,u27,u28,u29,u30,u31,u32,u33,undef,undef,undef,undef,undef,undef,undef,undef,undef,undef,undef,undef,undef,undef,undef,undef,undef,undef,undef,undef,undef,undef,undef,u57,undef,undef,undef,undef,undef,undef,undef,undef],defers:=ds.map aDT })
  (fun a _=>ns.length-(intOf (a.tmps.getD 24 undef)).toNat) ?atStart ?round
 case atStart=>exact ⟨0,_,_,_,_,_,_,_,_,_,_,_,_,_,[],Nat.zero_le _,hX0,hV4,hbW,Marks.nil _,aQ,rfl⟩
 case round =>
  rintro _ wr ⟨k,v,u7,u8,u25,u26,u27,u28,u29,u30,u31,u32,u33,u57,ds,hk,hX,hV,hB,hMk,hD', rfl⟩
  have hs:=hB.size
  have hxl:=hX.lt
  have hsp:=uJ ns k
  have hBw:Below w.heap.size w wr:=hB3.trans (hB.mono aF)
  by_cases hlt:k<ns.length
  ·obtain ⟨x,hx⟩:=bD hlt
   have hki:(k:Int)<(ns.length:Int):=by omega
   have hN1:=hN.below hBw hN.lt
   have c0:=hN1.c0 k x hx
   have c1:=hN1.c1 k x hx
   have c2:=hN1.c2 k x hx
   have c3:=hN1.c3 k x hx
   have c4:=hN1.c4 k x hx
   have c5:=hN1.c5 k x hx
   have hblt:=hN1.lt
   have lW:=jF hx
   have EQ:=aR lW
   have HV:=aR hV
   clear hx hN1 lW hV
   by_cases h0:x.op=0
   ·have HS:=aR (show dE ns (k+1)=dE ns k by rw [jS,IY,EQ.out,if_pos h0])
    rw [h0] at c0
    have hBa:Below wr.heap.size wr ((wr.alloc (.cells #[.int .i64 (k:Int)] 3)).alloc (.cells #[.int .i64 0,.int .i64 x.d,.int .i64 x.a,.int .i64 x.b,.int .i64 x.t,.int .i64 x.e] 42)):=(dY).alloc aQ _
    have ZE:=aR hBa
    clear hBa h0
    gi_wp2
    refine ⟨⟨k+1,v,_,_,_,_,_,_,_,_,_,_,_,_,ds,aF,(ZE.out.block _ hxl).trans hX,by rw [HS.out];exact ownsRow_below HV.out ZE.out dD,hB.trans (ZE.out.mono aF),hMk.below ZE.out,hD', rfl⟩,?_⟩
    simp [intOf];omega
   ·have h0b:(x.op==0)=false:=by simp [h0]
    have HS:=aR (show dE ns (k+1)=(jI x).foldl (eB ns k) (dE ns k) by rw [jS,IY,EQ.out,if_neg h0])
    clear h0
    gi_wp2_with (refine ⟨trivial,?_⟩;gi_at_call 62;refine (wR _ _ _ _ _ _ _ _).mono ?_;rintro e w' ⟨rfl,rfl⟩)
    have hBL:Below wr.heap.size wr (((wr.alloc (.cells #[.int .i64 (k:Int)] 3)).alloc (.cells #[.int .i64 x.op,.int .i64 x.d,.int .i64 x.a,.int .i64 x.b,.int .i64 x.t,.int .i64 x.e] 42)).alloc (.cells #[.int .i64 x.op,.int .i64 x.d,.int .i64 x.a,.int .i64 x.b,.int .i64 x.t,.int .i64 x.e] 42)):=((dY).alloc aQ _).alloc bF _
    have hn4:Boxed (((wr.alloc (.cells #[.int .i64 (k:Int)] 3)).alloc (.cells #[.int .i64 x.op,.int .i64 x.d,.int .i64 x.a,.int .i64 x.b,.int .i64 x.t,.int .i64 x.e] 42)).alloc (.cells #[.int .i64 x.op,.int .i64 x.d,.int .i64 x.a,.int .i64 x.b,.int .i64 x.t,.int .i64 x.e] 42)) wr.heap.size 3 (.int .i64 (k:Int)):=((Boxed.new wr 3 (.int .i64 (k:Int))).alloc _).alloc _
    have hnb:bY (((wr.alloc (.cells #[.int .i64 (k:Int)] 3)).alloc (.cells #[.int .i64 x.op,.int .i64 x.d,.int .i64 x.a,.int .i64 x.b,.int .i64 x.t,.int .i64 x.e] 42)).alloc (.cells #[.int .i64 x.op,.int .i64 x.d,.int .i64 x.a,.int .i64 x.b,.int .i64 x.t,.int .i64 x.e] 42)) (wr.heap.size+1+1) x:=by
     have:=lV ((wr.alloc (.cells #[.int .i64 (k:Int)] 3)).alloc (.cells #[.int .i64 x.op,.int .i64 x.d,.int .i64 x.a,.int .i64 x.b,.int .i64 x.t,.int .i64 x.e] 42)) x
     simpa only [World.size_alloc] using this
    generalize (((wr.alloc (.cells #[.int .i64 (k:Int)] 3)).alloc (.cells #[.int .i64 x.op,.int .i64 x.d,.int .i64 x.a,.int .i64 x.b,.int .i64 x.t,.int .i64 x.e] 42)).alloc (.cells #[.int .i64 x.op,.int .i64 x.d,.int .i64 x.a,.int .i64 x.b,.int .i64 x.t,.int .i64 x.e] 42))=WL at hBL hn4 hnb ⊢
    have hsL:=hBL.size
    have aMJ:=hnb.lt
    have aWU:=hMk.below hBL
    have hMl:∀ E∈ds,E<wr.heap.size:=fun E hE=>hMk.lt hE
    have hmx:∀ z:Ex x,0≤z.1∧z.1<ns.length:=fun z=>by
     have:=nM (dJ hc hlt) (m:=z.1) (by rw [EQ.out];exact z.2)
     omega
    clear c0 c1 c2 c3 c4 c5 hMk
    refine wpIn_rangeFunc_ownG rfl aL (gf:=98) (lb:=#[.pointer (some ⟨wr.heap.size+1+1,0,none⟩)]) rfl trivial (enters_of Tryz.func98 fJ rfl)
     (oJ 4 aF (wr.heap.size+1+1) x _ hnb) KT.trans (KT.putObj aMJ) (Below.refl _ _) (fun _=>rfl)
     (fun pre W=>((∃ v,Boxed W w3.heap.size 22 v∧W.ownsRow (w2.heap.size+1) 42 6 v ((exv pre).foldl (eB ns k) (dE ns k)).length (((exv pre).foldl (eB ns k) (dE ns k)).flatMap aP)∧v.ownBlock≠some (wr.heap.size+1+1))∧Boxed W wr.heap.size 3 (.int .i64 (k:Int))∧bY W (wr.heap.size+1+1) x∧Marks ds W)∧Below (w2.heap.size+1) w3 W)
     (fun _ _ _=>False)
     (OwnFrom.and ?own (ownFrom_below aF aF))
     (fun _ _ _ _ _ hs _ _=>hs)
     ⟨⟨⟨v,(hBL.block _ hxl).trans hX,ownsRow_below HV.out hBL dD,fun e=>by have:=(HV.out.lt _ e).2;omega⟩,hn4,hnb,aWU⟩,hB.trans (hBL.mono aF)⟩
     (fun z=>{ tmps:=#[.agg #[.int .i64 r,.slice (some ⟨b,off,none⟩) ns.length cap],.pointer (some ⟨w.heap.size,0,none⟩),.pointer (some ⟨w.heap.size+1,0,none⟩),.int .i64 0,.int .i64 0,.pointer (some ⟨w2.heap.size,0,none⟩),.pointer (some ⟨w3.heap.size,0,none⟩),.pointer (some ⟨wr.heap.size,0,none⟩),.pointer (some ⟨wr.heap.size+1,0,none⟩),.int .i64 z.1,.agg #[.int .i64 r,.slice (some ⟨b,off,none⟩) ns.length cap],.int .i64 0,.int .i64 0,.bool false,undef,undef,.agg #[.int .i64 r,.slice (some ⟨b,off,none⟩) ns.length cap],.slice (some ⟨rb,0,none⟩) ns.length ns.length,.pointer (some ⟨w.heap.size,1,none⟩),.slice (some ⟨b,off,none⟩) ns.length cap,.slice (some ⟨g0,0,none⟩) ns.length gc0,.pointer (some ⟨w.heap.size,1,none⟩),.slice (some ⟨b,off,none⟩) ns.length cap,.int .i64 (ns.length:Int),.int .i64 (k:Int),.bool true,.int .i64 (k:Int),.pointer (some ⟨b,off+k*6,none⟩),.agg #[.int .i64 x.op,.int .i64 x.d,.int .i64 x.a,.int .i64 x.b,.int .i64 x.t,.int .i64 x.e],.pointer (some ⟨wr.heap.size+1,0,none⟩),.int .i64 x.op,.bool false,.agg #[.int .i64 x.op,.int .i64 x.d,.int .i64 x.a,.int .i64 x.b,.int .i64 x.t,.int .i64 x.e],.func (.func 98) #[] #[.pointer (some ⟨wr.heap.size+1+1,0,none⟩)],.int .i64 z.1,undef,undef,undef,undef,undef,undef,undef,undef,undef,undef,undef,undef,undef,undef,undef,undef,undef,undef,undef,undef,undef,undef,u57,undef,undef,undef,undef,undef,undef,undef,undef],defers:=[] }) ?assign ?body ?done ?stop
    case own =>
     rintro pre A C row ⟨⟨v,h1,h2,h3⟩,hb2,hb3,hm1⟩ hg hr
     have hcl:∀ (b:Nat) (o:Obj),A.heap[b]?=some o→o.isCells=true→some b≠row:=fun b o h1 h2 e=>by
      obtain ⟨_,o', h3,h4⟩:=hr b e.symm
      rw [h1] at h3;cases h3;rw [h2] at h4;cases h4
     refine ⟨⟨v,h1.kept hg (hcl _ _ h1 rfl),h2.kept hg ?_,h3⟩,hb2.kept hg (hcl _ _ hb2 rfl),(hg.block _ hb3.lt (hcl _ _ hb3 rfl)).trans hb3,hm1.grown hg fun q e hq=>by
      have h1:=(hr q e).1
      have h2:=hMl q hq
      omega⟩
     rcases h2.2 with ⟨rfl,_⟩ | ⟨g,cap,cur,rfl,_,hgb,_⟩
     ·exact .inl rfl
     ·exact .inr (by
       have:=hcl g _ hgb rfl
       simpa [Value.ownBlock] using this)
    case assign =>
     intro l z W K hK
     gi_wp2
     exact hK
    case body =>
     rintro l pre z W ⟨⟨⟨v,hbx,hrow,hno⟩,hb2,hb3,hm1⟩,hBW⟩ hpl
     obtain ⟨hm0,hm2⟩:=hmx z
     obtain ⟨m,hmz⟩:=Int.eq_ofNat_of_zero_le hm0
     have jP:m<ns.length:=by omega
     have KW:(m:Int)<(ns.length:Int):=by omega
     have aUX:(exv (pre++[z])).foldl (eB ns k) (dE ns k)=eB ns k ((exv pre).foldl (eB ns k) (dE ns k)) (m:Int):=by
      rw [aLL,List.foldl_append,hmz];rfl
     have hlenO:=yR ns k (exv pre) (dE ns k)
     rw [aRQ] at hlenO
     have aGQ:pre.length<2:=Nat.lt_of_lt_of_le hpl (wQ x)
     have HF:=aR aUX
     clear aUX
     generalize (exv pre).foldl (eB ns k) (dE ns k)=out at hrow HF hlenO
     have hkO:k<out.length:=by omega
     have hRm:=(hRW.own m)
     have hmv:m<vs.length:=by rw [hRW.len];exact jP
     obtain ⟨vm,hvm⟩:=bD hmv
     obtain ⟨am,cm,a8W⟩:=aU (hRm vm hvm)
     subst a8W
     have hac:=(hBW.cell (p:=⟨w2.heap.size,0,none⟩) aQ).trans hAX.cell
     have hrc:W.cell? ⟨rb,m,none⟩=some (.slice am (pick (mF ns m) ns.length).length cm):=by
      rw [hBW.cell (p:=⟨rb,m,none⟩) bF,aA hRW.blk];simpa using hvm
     have hsW:=hBW.size
     have bIW:rb<W.heap.size:=by omega
     have h2W:w2.heap.size<W.heap.size:=by omega
     rw [EN] at hrc
     have bIX:(gJ ns m).length≤ns.length:=Nat.le_trans (List.length_filter_le _ _) aQ
     rw [hmz]
     clear hRm hvm
     by_cases hmany:1<(gJ ns m).length
     ·have a8X:(1:Int)<((gJ ns m).length:Int):=by omega
      have rU:=aR (show eB ns k out (m:Int)=out.set k (oV (nd out k) m out.length)++[gX m] by
       unfold eB;rw [Int.toNat_natCast,if_pos hmany];rfl)
      clear hmany
      obtain ⟨g,vc,rfl,hgb,hgl⟩:=hrow.form aF
      obtain ⟨y,hy⟩:=bD hkO
      have cell:∀ (i:Nat) (u:Value),i<6→(aP y)[i]?=some u→W.cell? ⟨g,k*6+i,none⟩=some u:=by
       intro i u hi hu
       have:=hrow.cells (g:=g) rfl (k*6+i) u (by rw [flatK 6 aP dM _ k i y hy hi];exact hu)
       have e:(⟨g,0,none⟩:Addr).add (k*6+i)=⟨g,k*6+i,none⟩:=by
        cases h:k*6+i <;> simp [Addr.add]
       rw [e] at this;exact this
      have c0:=cell 0 _ aL rfl
      have c1:=cell 1 _ aL rfl
      have c2:=cell 2 _ aL rfl
      have c3:=cell 3 _ aL rfl
      have c4:=cell 4 _ aL rfl
      have c5:=cell 5 _ aL rfl
      rw [Nat.add_zero] at c0
      obtain ⟨cur,hgc⟩:∃ cur,W.heap[g]?=some (.cells cur 42 (0,0)):=by
       rcases hrow.2 with ⟨q,_⟩ | ⟨g', cap', cur,q,_,a2,_⟩
       ·cases q
       ·cases q;exact ⟨cur,a2⟩
      have hyn:nd out k=y:=jF hy
      have HTU:Hid (∀ u:World,Calls Tryz.prog 63 #[.agg #[.int .i64 y.op,.int .i64 y.d,.int .i64 y.a,.int .i64 y.b,.int .i64 y.t,.int .i64 y.e],.int .i64 (m:Int),.int .i64 (out.length:Int)] u fun e w' =>e=.returned (.agg #[.int .i64 (oV y (m:Int) (out.length:Int)).op,.int .i64 (oV y (m:Int) (out.length:Int)).d,.int .i64 (oV y (m:Int) (out.length:Int)).a,.int .i64 (oV y (m:Int) (out.length:Int)).b,.int .i64 (oV y (m:Int) (out.length:Int)).t,.int .i64 (oV y (m:Int) (out.length:Int)).e])∧Below u.heap.size u w'):=fun u=>(aRZ y (m:Int) (out.length:Int) u).mono fun e w' h=>⟨h.1,by rw [h.2];exact (dY).alloc aQ _⟩
      rw [hyn] at rU
      generalize oV y (m:Int) (out.length:Int)=T at HTU rU
      have hkb:(k:Int)<(out.length:Int):=by omega
      have xbc:=hbx.cell
      have nbc:=hb2.cell
      have z1:=hbx.lt
      have z2:=hb2.lt
      have uU:=aR hrow
      have HB3:=aR hb3
      have HGC:=aR hgc
      clear cell hrow hyn hy hb3 hgc
      gi_upto_region 13 with fail
      clear hrc hac
      refine vC 11 (S:=fun u=>∀ p:Addr,p.block<W.heap.size→u.cell? p=W.cell? p) fJ (fun p hp=>rfl) (fun hQp hHeld=>?_)
      refine tiw 0 ?_
      iterate 8 refine tiv ?_
      refine tir 9 (fun K hK=>?_)
      go_simp
      refine ⟨trivial,CallsIn.inRound l ((callsIn_wide.2 (HTU.out _)).mono ?_)⟩
      rintro e U ⟨rfl,hbU⟩
      have hBb:Below W.heap.size W U:=(Below.refl _ W).drew.trans hbU
      refine hK.out _ _ (fun p hp=>hBb.cell hp) (fun hHeld=>?_)
      clear hK K
      refine tiv ?_
      have PT:U.heap[g]?=some (.cells cur 42 (0,0)):=(hBb.block _ hgl).trans HGC.out
      have f0:=aC PT (k*6)
      have f1:=aC PT (k*6+1)
      have f2:=aC PT (k*6+2)
      have f3:=aC PT (k*6+3)
      have f4:=aC PT (k*6+4)
      have f5:=aC PT (k*6+5)
      have d0:=(hBb.cell (p:=⟨g,k*6,none⟩) hgl).trans c0
      have d1:=(hBb.cell (p:=⟨g,k*6+1,none⟩) hgl).trans c1
      have d2:=(hBb.cell (p:=⟨g,k*6+2,none⟩) hgl).trans c2
      have d3:=(hBb.cell (p:=⟨g,k*6+3,none⟩) hgl).trans c3
      have d4:=(hBb.cell (p:=⟨g,k*6+4,none⟩) hgl).trans c4
      have d5:=(hBb.cell (p:=⟨g,k*6+5,none⟩) hgl).trans c5
      have gU:=aD PT
      refine tis 11 (fun K hK=>?_)
      go_simp
      refine hK.out _ _ ?_
      clear hK K d0 d1 d2 d3 d4 d5 gU hHeld
      refine zS fJ ?_ _
      refine ⟨fun c e=>(by cases e),?_⟩
      have hgne:wr.heap.size+1+1≠g:=fun q=>hno (by rw [q];rfl)
      have hrowF:=pX (y:=T) (ownsRow_below uU.out hBb dD) hkO
      rw [List.length_set] at hrowF
      have hKO:KeepsOthers W (sixN U g k T):=KeepsOthers.trans ⟨hBb.size,fun j o hj _=>(hBb.block j (Array.getElem?_eq_some_iff.1 hj).1).trans hj⟩ (aGS U g k T)
      have hKF:KT (wr.heap.size+1+1) W (sixN U g k T):=(KT.of_below hBb HB3.out.lt).trans (aWY PT hgne)
      have hBF:Below (w2.heap.size+1) W (sixN U g k T):=(hBb.mono aF).trans (pY _ k T hgb)
      have hxne:w3.heap.size≠g:=fD hbx HGC.out aL
      have a9A:wr.heap.size≠g:=fD hb2 HGC.out aL
      have aWZ:Boxed (sixN U g k T) w3.heap.size 22 (.slice (some ⟨g,0,none⟩) out.length vc):=(gQ hxne).trans ((hBb.block _ z1).trans hbx)
      have aXA:Boxed (sixN U g k T) wr.heap.size 3 (.int .i64 (k:Int)):=(gQ a9A).trans ((hBb.block _ z2).trans hb2)
      have hsF:=hBF.size
      rw [show ((((((U.setCell ⟨g,k*6,none⟩ (.int .i64 T.op)).setCell ⟨g,k*6+1,none⟩ (.int .i64 T.d)).setCell ⟨g,k*6+2,none⟩ (.int .i64 T.a)).setCell ⟨g,k*6+3,none⟩ (.int .i64 T.b)).setCell ⟨g,k*6+4,none⟩ (.int .i64 T.t)).setCell ⟨g,k*6+5,none⟩ (.int .i64 T.e))=sixN U g k T from rfl]
      replace hrowF:(sixN U g k T).ownsRow (w2.heap.size+1) 42 6 (.slice (some ⟨g,0,none⟩) out.length vc) out.length ((out.set k T).flatMap aP):=hrowF
      generalize sixN U g k T=WF at hrowF hKO hKF hBF aWZ aXA hsF ⊢
      have aMN:=hKF.node HB3.out
      have hxc:=aWZ.cell
      have a2E:=hm1.others hKO
      have a2F:=aR aXA
      have a9B:=aR a2E
      clear c0 c1 c2 c3 c4 c5 f0 f1 f2 f3 f4 f5 a2E aXA hm1 xbc nbc PT hBb hbU HTU
      have hsk:(gX (m:Int))=⟨0,0,0,0,(m:Int),0⟩:=rfl
      have HSK:=aR hsk
      clear hsk
      have bDF:out.length+1≤1000:=by omega
      gi_wp2_with (gi_at_builtin;refine wpListIn_append_own _ rfl _ _ 22 rfl (w2.heap.size+1) 42 i0 _ 6 48 Tryz.underlying22 hi0 hz0 hz1 hz2 rfl aL _ _ _ rfl (hrowF.alloc _) ⟨WF.heap.size,0,none⟩ 1 1 (aP (gX (m:Int))) rfl rfl ?cells (by simp [aP,gX,Value.oneCell']) (by unfold maxLen;omega) aF bF ?_)
      case cells =>
       intro j u hj
       rw [show (⟨WF.heap.size,0,none⟩:Addr).add j=⟨WF.heap.size,j,none⟩ from by cases j <;> simp [Addr.add],aA (World.alloc_heap_new WF _)]
       simpa [aP,gX] using hj
      intro v' w5 hown' hgrow _
      obtain ⟨g', cap', rfl⟩:=ownsRow_succ hown'
      obtain ⟨hv1,hv2,hr2,hk2,a9C⟩:=aWZ.appended aL hrowF (by have:=hBF.size;omega) aF hown' hgrow
      have hc1:=hv1.cell
      have hf1:=hv1.frozen
      have hgrow' :(WF.alloc (.cells #[.int .i64 0,.int .i64 0,.int .i64 0,.int .i64 0,.int .i64 (m:Int),.int .i64 0] 42)).grownBy w5 (.slice (some ⟨g,0,none⟩) out.length vc:Value).ownBlock:=hgrow
      have a2G:bY w5 (wr.heap.size+1+1) x:=(hgrow'.block _ (by have:=aMN.lt;simp;omega) (fun q=>by simp only [Value.ownBlock,Option.some.injEq] at q;exact hgne q)).trans ((Below.heap_alloc _ _ _ aMN.lt).trans aMN)
      have hno' :g' ≠wr.heap.size+1+1:=by
       intro q
       rcases hown'.2 with ⟨qq,_⟩ | ⟨g9,aWV,aWW,qq,_,a2,a3,_,a5,_⟩
       ·cases qq
       ·cases qq
        rw [q] at a2
        rw [show w5.heap[wr.heap.size+1+1]?=_ from a2G] at a2
        cases a2
        simp at a5
        omega
      have VO:Boxed w5 wr.heap.size 3 (.int .i64 (k:Int)):=(a2F.out.alloc _).kept hgrow' (a2F.out.not_row aL hrowF)
      have hKA:KT (wr.heap.size+1+1) WF (w5.setCell ⟨w3.heap.size,0,none⟩ (.slice (some ⟨g', 0,none⟩) (out.length+1) cap')):=by
       have aMM :w5.heap[w3.heap.size]?=some (.cells #[.slice (some ⟨g,0,none⟩) out.length vc] 22 (0,0)):=hv1
       refine ((KT.of_below (dY) aMN.lt).trans (KT.grown hgrow' (by have:=aMN.lt;simp;omega) fun j ej=>?_)).trans (KT.setCell (o:=0) aMM aL (fD aMM a2G aL) _)
       simp only [Value.ownBlock,Option.some.injEq] at ej
       subst ej
       rcases (hrowF.alloc (.cells #[.int .i64 0,.int .i64 0,.int .i64 0,.int .i64 0,.int .i64 (m:Int),.int .i64 0] 42)).2 with ⟨qq,_⟩ | ⟨g9,aWV,aWW,qq,_,aSA,_⟩
       ·cases qq
       ·cases qq
        exact ⟨fun q=>hgne q.symm,_,_,_,aSA,aL⟩
      gi_wp2
      refine ⟨(hKO.trans hk2).from _,hKF.trans hKA,⟨⟨_,hv2,?_,?_⟩,?_,(hKF.trans hKA).node HB3.out,a9B.out.others hk2⟩,hBW.trans (hBF.trans a9C)⟩
      ·rw [HF.out,rU.out,List.length_append,List.length_set,List.flatMap_append]
       simpa using hr2
      ·simp only [Value.ownBlock,ne_eq,Option.some.injEq];exact hno'
      ·exact (Below.heap_setCell _ _ _ _ (fD VO (show w5.heap[w3.heap.size]?=some (.cells #[.slice (some ⟨g,0,none⟩) out.length vc] 22 (0,0)) from hv1) aL)).trans VO
     ·have a8X:¬ (1:Int)<((gJ ns m).length:Int):=by omega
      have rU:=aR (show eB ns k out (m:Int)=out by
       unfold eB;rw [Int.toNat_natCast,if_neg hmany])
      clear hmany
      gi_wp2
      refine ⟨KeepsFrom.refl _ _,KT.refl _ _,⟨⟨v,hbx,?_,hno⟩,hb2,hb3,hm1⟩,hBW⟩
      rw [HF.out,rU.out];exact hrow
    case done =>
     rintro D ys W hD rfl ⟨⟨⟨v,hbx,hrow,hno⟩,hb2,hb3,hm1⟩,hBW⟩ hK
     rw [aRP,← HS.out] at hrow
     have HRR:=aR hrow
     have qV:=aR (hm1.cons hK fun E hE=>by have:=hMl E hE;omega)
     clear hrow hm1
     gi_wp2
     refine ⟨⟨k+1,v,_,_,_,_,_,_,_,_,_,_,_,_,D::ds,aF,hbx,HRR.out,hBW,qV.out,fun E hE=>?_,rfl⟩,?_⟩
     ·rcases List.mem_cons.1 hE with rfl | hE
      ·omega
      ·exact hD' E hE
     ·simp [intOf];omega
    case stop =>
     rintro D c pre W _ _ h _
     exact h.elim
  ·have ek:k=ns.length:=by omega
   subst ek
   obtain ⟨g,vc,rfl,hgb,hgl⟩:=hV.form aF
   have xbc:=hX.cell
   have R0:=(hB.block _ aF).trans Q0
   have R1:=(hB.block _ aF).trans Q1
   have y0:=aA R0 0
   simp at y0
   have e0:=aA R1 0
   have e1:=aA R1 1
   have f0:=aC R1 0
   have f1:=aC R1 1
   simp at e0 e1
   have hl1:w.heap.size<wr.heap.size:=by omega
   have hl2:w.heap.size+1<wr.heap.size:=by omega
   have HV:=aR hV
   have HR1:=aR R1
   clear hV R0 R1
   have aMO:dE ns ns.length=splitN ns:=rfl
   have rU:=aR aMO
   clear aMO
   by_cases hbig:256<(dE ns ns.length).length
   ·have hbi:(256:Int)<((dE ns ns.length).length:Int):=by omega
    gi_wp2
    have hk2:((wr.setCell ⟨w.heap.size+1,0,none⟩ (.int .i64 0)).setCell ⟨w.heap.size+1,1,none⟩ (.slice none 0 0)).heap[w.heap.size+1]?=some (.cells #[.int .i64 0,.slice none 0 0] 24 (0,0)):=by
     rw [aG _ (aG _ HR1.out)];simp
    have hKO:KeepsOthers wr ((wr.setCell ⟨w.heap.size+1,0,none⟩ (.int .i64 0)).setCell ⟨w.heap.size+1,1,none⟩ (.slice none 0 0)):=(KeepsOthers.setCell _ _ _).trans (KeepsOthers.setCell _ _ _)
    refine kK (B:=w.heap.size) ds _ (hMk.others hKO) (fun D hD=>by have:=hD' D hD;omega) fun W' hS=>?_
    have a0:=aA (hS.cells _ _ hk2 rfl) 0
    have a1:=aA (hS.cells _ _ hk2 rfl) 1
    simp at a0 a1
    refine ⟨.tuple #[.agg #[.int .i64 0,.slice none 0 0],.int .i64 2],by simp [results,Tryz.results36,go_sem,a0,a1],0,_,2,rfl,Or.inr ⟨by rw [← rU.out];exact hbig,rfl,rfl,rfl⟩,((hBw.setCell (p:=⟨w.heap.size+1,0,none⟩) aQ _).setCell (p:=⟨w.heap.size+1,1,none⟩) aQ _).trans hS.below⟩
   ·have hbi:¬ (256:Int)<((dE ns ns.length).length:Int):=by omega
    gi_wp2
    have hk2:((wr.setCell ⟨w.heap.size+1,0,none⟩ (.int .i64 r)).setCell ⟨w.heap.size+1,1,none⟩ (.slice (some ⟨g,0,none⟩) (dE ns ns.length).length vc)).heap[w.heap.size+1]?=some (.cells #[.int .i64 r,.slice (some ⟨g,0,none⟩) (dE ns ns.length).length vc] 24 (0,0)):=by
     rw [aG _ (aG _ HR1.out)];simp
    have hKO:KeepsOthers wr ((wr.setCell ⟨w.heap.size+1,0,none⟩ (.int .i64 r)).setCell ⟨w.heap.size+1,1,none⟩ (.slice (some ⟨g,0,none⟩) (dE ns ns.length).length vc)):=(KeepsOthers.setCell _ _ _).trans (KeepsOthers.setCell _ _ _)
    have o1:=aI (o:=1) (u:=.slice (some ⟨g,0,none⟩) (dE ns ns.length).length vc) (aI (o:=0) (u:=.int .i64 r) HV.out HR1.out aL) (aG _ HR1.out) aL
    refine kK (B:=w.heap.size) ds _ (hMk.others hKO) (fun D hD=>by have:=hD' D hD;omega) fun W' hS=>?_
    have a0:=aA (hS.cells _ _ hk2 rfl) 0
    have a1:=aA (hS.cells _ _ hk2 rfl) 1
    simp at a0 a1
    refine ⟨.tuple #[.agg #[.int .i64 r,.slice (some ⟨g,0,none⟩) (dE ns ns.length).length vc],.int .i64 0],by simp [results,Tryz.results36,go_sem,a0,a1],r,_,0,rfl,Or.inl ⟨by rw [← rU.out];omega,rfl,rfl,?_⟩,((hBw.setCell (p:=⟨w.heap.size+1,0,none⟩) aQ _).setCell (p:=⟨w.heap.size+1,1,none⟩) aQ _).trans hS.below⟩
    rw [← rU.out]
    exact aK (hS.owns o1) aF
end Go.Proofs.YtegloodcbfalfaaGreatDoor
namespace Go.Proofs.YtegloodcbfalfaaGreatDoor
open Go.RowKit
theorem bx1 (w:World) (o0:Obj):∃ W,Hid (w.alloc o0=W)∧Below w.heap.size w W∧W.heap[w.heap.size]?=some o0:=⟨_,rfl,dY,World.alloc_heap_new w _⟩
theorem VP (w:World) (o0 o1:Obj):∃ W,Hid ((w.alloc o0).alloc o1=W)∧Below w.heap.size w W∧W.heap[w.heap.size]?=some o0∧W.heap[w.heap.size+1]?=some o1:=by
 obtain ⟨V,hV,hb,h0⟩:=bx1 w o0
 obtain ⟨W,hW,hc,h1⟩:=bx1 V o1
 have e:V.heap.size=w.heap.size+1:=by rw [← hV];simp
 exact ⟨W,by rw [hV];exact hW,bG hb hc,(hc.block _ aF).trans h0,by rw [← e];exact h1⟩
theorem JE (w:World) (o0 o1 o2:Obj):∃ W,Hid (((w.alloc o0).alloc o1).alloc o2=W)∧Below w.heap.size w W∧W.heap[w.heap.size]?=some o0∧W.heap[w.heap.size+1]?=some o1∧W.heap[w.heap.size+2]?=some o2:=by
 obtain ⟨V,hV,hb,h0,h1⟩:=VP w o0 o1
 obtain ⟨W,hW,hc,h2⟩:=bx1 V o2
 have e:V.heap.size=w.heap.size+2:=by rw [← hV];simp
 exact ⟨W,by rw [hV];exact hW,bG hb hc,(hc.block _ aF).trans h0,(hc.block _ aF).trans h1,by rw [← e];exact h2⟩
theorem bx4 (w:World) (o0 o1 o2 o3:Obj):∃ W,Hid ((((w.alloc o0).alloc o1).alloc o2).alloc o3=W)∧Below w.heap.size w W∧W.heap[w.heap.size]?=some o0∧W.heap[w.heap.size+1]?=some o1∧W.heap[w.heap.size+2]?=some o2∧W.heap[w.heap.size+3]?=some o3:=by
 obtain ⟨V,hV,hb,h0,h1,h2⟩:=JE w o0 o1 o2
 obtain ⟨W,hW,hc,h3⟩:=bx1 V o3
 have e:V.heap.size=w.heap.size+3:=by rw [← hV];simp
 exact ⟨W,by rw [hV];exact hW,bG hb hc,(hc.block _ aF).trans h0,(hc.block _ aF).trans h1,(hc.block _ aF).trans h2,by rw [← e];exact h3⟩
end Go.Proofs.YtegloodcbfalfaaGreatDoor
namespace Go.Proofs.YtegloodcbfalfaaGreatDoor
open Go.RowKit Go.Shelf
theorem ER (r:Int) (b off cap:Nat) (ns:List Nd) (w:World) (hN:aH w b off ns) (hl:1≤ns.length∧ns.length≤512) :
 CallsIn Fence.wide 1 Tryz.prog 17 #[.agg #[.int .i64 r,.slice (some ⟨b,off,none⟩) ns.length cap]] w fun e w' =>∃ v,e=.returned (.agg #[.int .i64 r,v])∧w'.ownsRow w.heap.size 42 6 v ns.length (ns.flatMap aP)∧Below w.heap.size w w' :=by
 obtain ⟨i0,hi0,hz0,hz1,hz2⟩:=info_parts jC
 refine callsIn_of_wp Tryz.func17 rfl trivial ?_ rfl
 simp only [Tryz.ntmps17,List.size_toArray,List.length_cons,List.length_nil,Nat.reduceAdd,Nat.reduceSub,Array.replicate_succ,Array.replicate_zero,List.push_toArray,List.append_toArray,List.nil_append,List.cons_append]
 gi_upto_region 1 with fail
 obtain ⟨W,jU,hB0,p0,p1⟩:=VP w (.cells #[.int .i64 r,.slice (some ⟨b,off,none⟩) ns.length cap] 24) (.cells #[.int .i64 0,.slice none 0 0] 24)
 rw [jU.out]
 clear jU
 have hNW:=hN.below hB0 hN.lt
 have hsW:=hB0.size
 have a9D:=aD p1
 have VM:Below W.heap.size W (W.drew.alloc (.cells #[] 42)):=(Below.refl _ W).drew.alloc dD _
 have aFV:w.heap.size<W.heap.size:=by omega
 obtain ⟨g,jM,w1,hrun,hown1,hgrow,hat,hgl⟩:=run_append_lies (P:=Tryz.prog) (W.drew.alloc (.cells #[] 42)) 22 22 w.heap.size 42 i0 _ 6 48 Tryz.underlying22 hi0 hz0 hz1 hz2 rfl aL (.slice (some ⟨W.heap.size,0,none⟩) 0 0) 0 [] ⟨rfl,Or.inr ⟨W.heap.size,0,#[],rfl,aF,World.alloc_heap_new W.drew _,Nat.le_refl _,aL,rfl,rfl⟩⟩ ⟨b,off,none⟩ ns.length cap (ns.flatMap aP) (sM 6 aP dM ns) (EA (hNW.below VM hNW.lt)) (yN ns) aF (by unfold maxLen;omega) aF (by have:=VM.size;omega) _ rfl
 rw [Nat.zero_add] at hrun hown1
 rw [List.nil_append] at hown1
 have hgB:Below W.heap.size W w1:=VM.grown hgrow VM.size (fun k e=>by simp [Value.ownBlock] at e;omega)
 have q0:=aA p0 0
 have q1:=aA p0 1
 have r1:=(hgB.block _ a9D).trans p1
 have rc0:=aA r1 0
 have rc1:=aA r1 1
 have rf0:=aC r1 0
 have rf1:=aC r1 1
 have qw0:=(hgB.cell (p:=⟨w.heap.size,0,none⟩) aFV).trans q0
 have qw1:=(hgB.cell (p:=⟨w.heap.size,1,none⟩) aFV).trans q1
 simp at q0 q1 rc0 rc1 qw0 qw1
 have HO:=aR hown1
 have HG:=aR hgB
 have HR:=aR r1
 have HB:=aR hB0
 clear hown1 hgrow hat hgB r1 p0 p1 hNW VM hB0
 simp [go_sem] at hrun
 refine DZ fJ (fun listed a w' =>∃ u3 u4 u5 u6 u7 u8 u9:Value,listed.size=8∧a={ tmps:=#[.agg #[.int .i64 r,.slice (some ⟨b,off,none⟩) ns.length cap],.pointer (some ⟨w.heap.size,0,none⟩),.pointer (some ⟨w.heap.size+1,0,none⟩),u3,u4,u5,u6,u7,u8,u9],defers:=[] }∧(listed.getD 0 false=true→u3=.pointer (some ⟨w.heap.size,0,none⟩))∧(listed.getD 1 false=true→u4=.int .i64 r)∧(listed.getD 2 false=true→u5=.slice (some ⟨W.heap.size,0,none⟩) 0 0)∧(listed.getD 3 false=true→u6=.pointer (some ⟨w.heap.size,1,none⟩))∧(listed.getD 4 false=true→u7=.slice (some ⟨b,off,none⟩) ns.length cap)∧(listed.getD 5 false=true→u8=.slice (some ⟨g,0,none⟩) ns.length jM)∧(listed.getD 6 false=true→u9=.agg #[.int .i64 r,.slice (some ⟨g,0,none⟩) ns.length jM])∧((listed.getD 2 false=false∧listed.getD 5 false=false∧listed.getD 7 false=false∧w' =W.drew)∨(listed.getD 2 false=true∧listed.getD 5 false=false∧listed.getD 7 false=false∧w' =W.drew.alloc (.cells #[] 42))∨(listed.getD 2 false=true∧listed.getD 5 false=true∧listed.getD 7 false=false∧w' =w1)∨((∀ j,j<8→listed.getD j false=true)∧w' =(w1.setCell ⟨w.heap.size+1,0,none⟩ (.int .i64 r)).setCell ⟨w.heap.size+1,1,none⟩ (.slice (some ⟨g,0,none⟩) ns.length jM)))) ?hg ?hsz ?h0 ?hs ?h1
 case hg =>
  intro ix o ho
  match ix,ho with
  | 0,ho | 1,ho | 2,ho | 3,ho | 4,ho | 5,ho | 6,ho | 7,ho=>simp at ho;subst ho;simp [Region.binds]
  | ix+8,ho=>simp at ho
 case hsz=>rintro listed a w' ⟨_,_,_,_,_,_,_,h,_⟩;simpa using h
 case h0 =>
  refine ⟨_,_,_,_,_,_,_,aQ,rfl,aQ,aQ,aQ,aQ,aQ,aQ,aQ,Or.inl ⟨aQ,aQ,aQ,rfl⟩⟩
 case hs =>
  rintro listed a w' ix o ⟨u3,u4,u5,u6,u7,u8,u9,hsz,rfl,e0,e1,e2,e3,e4,e5,e6,hw⟩ hC ho hl hd
  have aMP:ix<8:=(Array.getElem?_eq_some_iff.1 ho).1
  have hl' :listed.getD ix false=false:=by
   simp only [Array.getD] at hl ⊢
   rw [dif_pos aF] at hl ⊢;exact hl
  have keep:∀ j,j≠ix→(listed.setIfInBounds ix true).getD j false=listed.getD j false:=fun j hj=>getD_set_ne false (fun e=>hj e.symm)
  have aMQ:(listed.setIfInBounds ix true).getD ix false=true:=by simp [hsz,aMP]
  have hsz' :(listed.setIfInBounds ix true).size=8:=by simp [hsz]
  clear hl
  match ix,aMP with
  | 0,_ =>
   simp at ho;subst ho
   clear hd
   rcases hw with ⟨g2,g5,g7,nO⟩ | ⟨g2,g5,g7,nO⟩ | ⟨g2,g5,g7,nO⟩ | ⟨hall,nO⟩
   ·obtain rfl:=nO.symm
    refine Oper.wpIn_mono (K:=fun a' w'' =>a' ={ tmps:=#[.agg #[.int .i64 r,.slice (some ⟨b,off,none⟩) ns.length cap],.pointer (some ⟨w.heap.size,0,none⟩),.pointer (some ⟨w.heap.size+1,0,none⟩),.pointer (some ⟨w.heap.size,0,none⟩),u4,u5,u6,u7,u8,u9],defers:=[] }∧w'' =W.drew) (fun a' w'' h=>?_) ?_
    ·obtain ⟨rfl,rfl⟩:=h
     exact ⟨_,_,_,_,_,_,_,hsz', rfl,fun _=>rfl,fun h=>e1 (by rwa [keep 1 aF] at h),fun h=>e2 (by rwa [keep 2 aF] at h),fun h=>e3 (by rwa [keep 3 aF] at h),fun h=>e4 (by rwa [keep 4 aF] at h),fun h=>e5 (by rwa [keep 5 aF] at h),fun h=>e6 (by rwa [keep 6 aF] at h),Or.inl ⟨(keep 2 aF).trans g2,(keep 5 aF).trans g5,(keep 7 aF).trans g7,rfl⟩⟩
    ·go_simp
   ·obtain rfl:=nO.symm
    refine Oper.wpIn_mono (K:=fun a' w'' =>a' ={ tmps:=#[.agg #[.int .i64 r,.slice (some ⟨b,off,none⟩) ns.length cap],.pointer (some ⟨w.heap.size,0,none⟩),.pointer (some ⟨w.heap.size+1,0,none⟩),.pointer (some ⟨w.heap.size,0,none⟩),u4,u5,u6,u7,u8,u9],defers:=[] }∧w'' =W.drew.alloc (.cells #[] 42)) (fun a' w'' h=>?_) ?_
    ·obtain ⟨rfl,rfl⟩:=h
     exact ⟨_,_,_,_,_,_,_,hsz', rfl,fun _=>rfl,fun h=>e1 (by rwa [keep 1 aF] at h),fun h=>e2 (by rwa [keep 2 aF] at h),fun h=>e3 (by rwa [keep 3 aF] at h),fun h=>e4 (by rwa [keep 4 aF] at h),fun h=>e5 (by rwa [keep 5 aF] at h),fun h=>e6 (by rwa [keep 6 aF] at h),Or.inr (Or.inl ⟨(keep 2 aF).trans g2,(keep 5 aF).trans g5,(keep 7 aF).trans g7,rfl⟩)⟩
    ·go_simp
   ·obtain rfl:=nO.symm
    refine Oper.wpIn_mono (K:=fun a' w'' =>a' ={ tmps:=#[.agg #[.int .i64 r,.slice (some ⟨b,off,none⟩) ns.length cap],.pointer (some ⟨w.heap.size,0,none⟩),.pointer (some ⟨w.heap.size+1,0,none⟩),.pointer (some ⟨w.heap.size,0,none⟩),u4,u5,u6,u7,u8,u9],defers:=[] }∧w'' =w1) (fun a' w'' h=>?_) ?_
    ·obtain ⟨rfl,rfl⟩:=h
     exact ⟨_,_,_,_,_,_,_,hsz', rfl,fun _=>rfl,fun h=>e1 (by rwa [keep 1 aF] at h),fun h=>e2 (by rwa [keep 2 aF] at h),fun h=>e3 (by rwa [keep 3 aF] at h),fun h=>e4 (by rwa [keep 4 aF] at h),fun h=>e5 (by rwa [keep 5 aF] at h),fun h=>e6 (by rwa [keep 6 aF] at h),Or.inr (Or.inr (Or.inl ⟨(keep 2 aF).trans g2,(keep 5 aF).trans g5,(keep 7 aF).trans g7,rfl⟩))⟩
    ·go_simp
   ·rw [hall 0 aF] at hl'; cases hl'
  | 1,_ =>
   simp at ho;subst ho
   have d0:listed.getD 0 false=true:=hd ⟨0,.data⟩ aQ rfl
   obtain rfl:=(e0 d0).symm
   clear hd
   rcases hw with ⟨g2,g5,g7,nO⟩ | ⟨g2,g5,g7,nO⟩ | ⟨g2,g5,g7,nO⟩ | ⟨hall,nO⟩
   ·obtain rfl:=nO.symm
    refine Oper.wpIn_mono (K:=fun a' w'' =>a' ={ tmps:=#[.agg #[.int .i64 r,.slice (some ⟨b,off,none⟩) ns.length cap],.pointer (some ⟨w.heap.size,0,none⟩),.pointer (some ⟨w.heap.size+1,0,none⟩),.pointer (some ⟨w.heap.size,0,none⟩),.int .i64 r,u5,u6,u7,u8,u9],defers:=[] }∧w'' =W.drew) (fun a' w'' h=>?_) ?_
    ·obtain ⟨rfl,rfl⟩:=h
     exact ⟨_,_,_,_,_,_,_,hsz', rfl,fun _=>rfl,fun _=>rfl,fun h=>e2 (by rwa [keep 2 aF] at h),fun h=>e3 (by rwa [keep 3 aF] at h),fun h=>e4 (by rwa [keep 4 aF] at h),fun h=>e5 (by rwa [keep 5 aF] at h),fun h=>e6 (by rwa [keep 6 aF] at h),Or.inl ⟨(keep 2 aF).trans g2,(keep 5 aF).trans g5,(keep 7 aF).trans g7,rfl⟩⟩
    ·go_simp
   ·obtain rfl:=nO.symm
    refine Oper.wpIn_mono (K:=fun a' w'' =>a' ={ tmps:=#[.agg #[.int .i64 r,.slice (some ⟨b,off,none⟩) ns.length cap],.pointer (some ⟨w.heap.size,0,none⟩),.pointer (some ⟨w.heap.size+1,0,none⟩),.pointer (some ⟨w.heap.size,0,none⟩),.int .i64 r,u5,u6,u7,u8,u9],defers:=[] }∧w'' =W.drew.alloc (.cells #[] 42)) (fun a' w'' h=>?_) ?_
    ·obtain ⟨rfl,rfl⟩:=h
     exact ⟨_,_,_,_,_,_,_,hsz', rfl,fun _=>rfl,fun _=>rfl,fun h=>e2 (by rwa [keep 2 aF] at h),fun h=>e3 (by rwa [keep 3 aF] at h),fun h=>e4 (by rwa [keep 4 aF] at h),fun h=>e5 (by rwa [keep 5 aF] at h),fun h=>e6 (by rwa [keep 6 aF] at h),Or.inr (Or.inl ⟨(keep 2 aF).trans g2,(keep 5 aF).trans g5,(keep 7 aF).trans g7,rfl⟩)⟩
    ·go_simp
   ·obtain rfl:=nO.symm
    refine Oper.wpIn_mono (K:=fun a' w'' =>a' ={ tmps:=#[.agg #[.int .i64 r,.slice (some ⟨b,off,none⟩) ns.length cap],.pointer (some ⟨w.heap.size,0,none⟩),.pointer (some ⟨w.heap.size+1,0,none⟩),.pointer (some ⟨w.heap.size,0,none⟩),.int .i64 r,u5,u6,u7,u8,u9],defers:=[] }∧w'' =w1) (fun a' w'' h=>?_) ?_
    ·obtain ⟨rfl,rfl⟩:=h
     exact ⟨_,_,_,_,_,_,_,hsz', rfl,fun _=>rfl,fun _=>rfl,fun h=>e2 (by rwa [keep 2 aF] at h),fun h=>e3 (by rwa [keep 3 aF] at h),fun h=>e4 (by rwa [keep 4 aF] at h),fun h=>e5 (by rwa [keep 5 aF] at h),fun h=>e6 (by rwa [keep 6 aF] at h),Or.inr (Or.inr (Or.inl ⟨(keep 2 aF).trans g2,(keep 5 aF).trans g5,(keep 7 aF).trans g7,rfl⟩))⟩
    ·go_simp
   ·rw [hall 1 aF] at hl'; cases hl'
  | 2,_ =>
   simp at ho;subst ho
   clear hd
   rcases hw with ⟨g2,g5,g7,nO⟩ | ⟨g2,g5,g7,nO⟩ | ⟨g2,g5,g7,nO⟩ | ⟨hall,nO⟩
   ·obtain rfl:=nO.symm
    refine Oper.wpIn_mono (K:=fun a' w'' =>a' ={ tmps:=#[.agg #[.int .i64 r,.slice (some ⟨b,off,none⟩) ns.length cap],.pointer (some ⟨w.heap.size,0,none⟩),.pointer (some ⟨w.heap.size+1,0,none⟩),u3,u4,.slice (some ⟨W.heap.size,0,none⟩) 0 0,u6,u7,u8,u9],defers:=[] }∧w'' =W.drew.alloc (.cells #[] 42)) (fun a' w'' h=>?_) ?_
    ·obtain ⟨rfl,rfl⟩:=h
     exact ⟨_,_,_,_,_,_,_,hsz', rfl,fun h=>e0 (by rwa [keep 0 aF] at h),fun h=>e1 (by rwa [keep 1 aF] at h),fun _=>rfl,fun h=>e3 (by rwa [keep 3 aF] at h),fun h=>e4 (by rwa [keep 4 aF] at h),fun h=>e5 (by rwa [keep 5 aF] at h),fun h=>e6 (by rwa [keep 6 aF] at h),Or.inr (Or.inl ⟨aMQ,(keep 5 aF).trans g5,(keep 7 aF).trans g7,rfl⟩)⟩
    ·go_simp
   ·rw [g2] at hl'; cases hl'
   ·rw [g2] at hl'; cases hl'
   ·rw [hall 2 aF] at hl'; cases hl'
  | 3,_ =>
   simp at ho;subst ho
   clear hd
   rcases hw with ⟨g2,g5,g7,nO⟩ | ⟨g2,g5,g7,nO⟩ | ⟨g2,g5,g7,nO⟩ | ⟨hall,nO⟩
   ·obtain rfl:=nO.symm
    refine Oper.wpIn_mono (K:=fun a' w'' =>a' ={ tmps:=#[.agg #[.int .i64 r,.slice (some ⟨b,off,none⟩) ns.length cap],.pointer (some ⟨w.heap.size,0,none⟩),.pointer (some ⟨w.heap.size+1,0,none⟩),u3,u4,u5,.pointer (some ⟨w.heap.size,1,none⟩),u7,u8,u9],defers:=[] }∧w'' =W.drew) (fun a' w'' h=>?_) ?_
    ·obtain ⟨rfl,rfl⟩:=h
     exact ⟨_,_,_,_,_,_,_,hsz', rfl,fun h=>e0 (by rwa [keep 0 aF] at h),fun h=>e1 (by rwa [keep 1 aF] at h),fun h=>e2 (by rwa [keep 2 aF] at h),fun _=>rfl,fun h=>e4 (by rwa [keep 4 aF] at h),fun h=>e5 (by rwa [keep 5 aF] at h),fun h=>e6 (by rwa [keep 6 aF] at h),Or.inl ⟨(keep 2 aF).trans g2,(keep 5 aF).trans g5,(keep 7 aF).trans g7,rfl⟩⟩
    ·go_simp
   ·obtain rfl:=nO.symm
    refine Oper.wpIn_mono (K:=fun a' w'' =>a' ={ tmps:=#[.agg #[.int .i64 r,.slice (some ⟨b,off,none⟩) ns.length cap],.pointer (some ⟨w.heap.size,0,none⟩),.pointer (some ⟨w.heap.size+1,0,none⟩),u3,u4,u5,.pointer (some ⟨w.heap.size,1,none⟩),u7,u8,u9],defers:=[] }∧w'' =W.drew.alloc (.cells #[] 42)) (fun a' w'' h=>?_) ?_
    ·obtain ⟨rfl,rfl⟩:=h
     exact ⟨_,_,_,_,_,_,_,hsz', rfl,fun h=>e0 (by rwa [keep 0 aF] at h),fun h=>e1 (by rwa [keep 1 aF] at h),fun h=>e2 (by rwa [keep 2 aF] at h),fun _=>rfl,fun h=>e4 (by rwa [keep 4 aF] at h),fun h=>e5 (by rwa [keep 5 aF] at h),fun h=>e6 (by rwa [keep 6 aF] at h),Or.inr (Or.inl ⟨(keep 2 aF).trans g2,(keep 5 aF).trans g5,(keep 7 aF).trans g7,rfl⟩)⟩
    ·go_simp
   ·rw [(hC 4 _ rfl (hC 5 _ rfl g5 ⟨4,.data⟩ aQ rfl) ⟨3,.data⟩ aQ rfl)] at hl'; cases hl'
   ·rw [hall 3 aF] at hl'; cases hl'
  | 4,_ =>
   simp at ho;subst ho
   have d3:listed.getD 3 false=true:=hd ⟨3,.data⟩ aQ rfl
   obtain rfl:=(e3 d3).symm
   clear hd
   rcases hw with ⟨g2,g5,g7,nO⟩ | ⟨g2,g5,g7,nO⟩ | ⟨g2,g5,g7,nO⟩ | ⟨hall,nO⟩
   ·obtain rfl:=nO.symm
    refine Oper.wpIn_mono (K:=fun a' w'' =>a' ={ tmps:=#[.agg #[.int .i64 r,.slice (some ⟨b,off,none⟩) ns.length cap],.pointer (some ⟨w.heap.size,0,none⟩),.pointer (some ⟨w.heap.size+1,0,none⟩),u3,u4,u5,.pointer (some ⟨w.heap.size,1,none⟩),.slice (some ⟨b,off,none⟩) ns.length cap,u8,u9],defers:=[] }∧w'' =W.drew) (fun a' w'' h=>?_) ?_
    ·obtain ⟨rfl,rfl⟩:=h
     exact ⟨_,_,_,_,_,_,_,hsz', rfl,fun h=>e0 (by rwa [keep 0 aF] at h),fun h=>e1 (by rwa [keep 1 aF] at h),fun h=>e2 (by rwa [keep 2 aF] at h),fun _=>rfl,fun _=>rfl,fun h=>e5 (by rwa [keep 5 aF] at h),fun h=>e6 (by rwa [keep 6 aF] at h),Or.inl ⟨(keep 2 aF).trans g2,(keep 5 aF).trans g5,(keep 7 aF).trans g7,rfl⟩⟩
    ·go_simp
   ·obtain rfl:=nO.symm
    refine Oper.wpIn_mono (K:=fun a' w'' =>a' ={ tmps:=#[.agg #[.int .i64 r,.slice (some ⟨b,off,none⟩) ns.length cap],.pointer (some ⟨w.heap.size,0,none⟩),.pointer (some ⟨w.heap.size+1,0,none⟩),u3,u4,u5,.pointer (some ⟨w.heap.size,1,none⟩),.slice (some ⟨b,off,none⟩) ns.length cap,u8,u9],defers:=[] }∧w'' =W.drew.alloc (.cells #[] 42)) (fun a' w'' h=>?_) ?_
    ·obtain ⟨rfl,rfl⟩:=h
     exact ⟨_,_,_,_,_,_,_,hsz', rfl,fun h=>e0 (by rwa [keep 0 aF] at h),fun h=>e1 (by rwa [keep 1 aF] at h),fun h=>e2 (by rwa [keep 2 aF] at h),fun _=>rfl,fun _=>rfl,fun h=>e5 (by rwa [keep 5 aF] at h),fun h=>e6 (by rwa [keep 6 aF] at h),Or.inr (Or.inl ⟨(keep 2 aF).trans g2,(keep 5 aF).trans g5,(keep 7 aF).trans g7,rfl⟩)⟩
    ·go_simp
   ·rw [(hC 5 _ rfl g5 ⟨4,.data⟩ aQ rfl)] at hl'; cases hl'
   ·rw [hall 4 aF] at hl'; cases hl'
  | 5,_ =>
   simp at ho;subst ho
   have d2:listed.getD 2 false=true:=hd ⟨2,.data⟩ aQ rfl
   have d4:listed.getD 4 false=true:=hd ⟨4,.data⟩ aQ rfl
   have d3:listed.getD 3 false=true:=hC 4 _ rfl d4 ⟨3,.data⟩ aQ rfl
   obtain rfl:=(e2 d2).symm
   obtain rfl:=(e4 d4).symm
   obtain rfl:=(e3 d3).symm
   clear hd
   rcases hw with ⟨g2,g5,g7,nO⟩ | ⟨g2,g5,g7,nO⟩ | ⟨g2,g5,g7,nO⟩ | ⟨hall,nO⟩
   ·rw [d2] at g2;cases g2
   ·obtain rfl:=nO.symm
    refine Oper.wpIn_mono (K:=fun a' w'' =>a' ={ tmps:=#[.agg #[.int .i64 r,.slice (some ⟨b,off,none⟩) ns.length cap],.pointer (some ⟨w.heap.size,0,none⟩),.pointer (some ⟨w.heap.size+1,0,none⟩),u3,u4,.slice (some ⟨W.heap.size,0,none⟩) 0 0,.pointer (some ⟨w.heap.size,1,none⟩),.slice (some ⟨b,off,none⟩) ns.length cap,.slice (some ⟨g,0,none⟩) ns.length jM,u9],defers:=[] }∧w'' =w1) (fun a' w'' h=>?_) ?_
    ·obtain ⟨rfl,rfl⟩:=h
     exact ⟨_,_,_,_,_,_,_,hsz', rfl,fun h=>e0 (by rwa [keep 0 aF] at h),fun h=>e1 (by rwa [keep 1 aF] at h),fun _=>rfl,fun _=>rfl,fun _=>rfl,fun _=>rfl,fun h=>e6 (by rwa [keep 6 aF] at h),Or.inr (Or.inr (Or.inl ⟨(keep 2 aF).trans g2,aMQ,(keep 7 aF).trans g7,rfl⟩))⟩
    ·go_simp
   ·rw [g5] at hl'; cases hl'
   ·rw [hall 5 aF] at hl'; cases hl'
  | 6,_ =>
   simp at ho;subst ho
   have d1:listed.getD 1 false=true:=hd ⟨1,.data⟩ aQ rfl
   have d5:listed.getD 5 false=true:=hd ⟨5,.data⟩ aQ rfl
   have d0:listed.getD 0 false=true:=hC 1 _ rfl d1 ⟨0,.data⟩ aQ rfl
   have d2:listed.getD 2 false=true:=hC 5 _ rfl d5 ⟨2,.data⟩ aQ rfl
   have d4:listed.getD 4 false=true:=hC 5 _ rfl d5 ⟨4,.data⟩ aQ rfl
   have d3:listed.getD 3 false=true:=hC 4 _ rfl d4 ⟨3,.data⟩ aQ rfl
   obtain rfl:=(e1 d1).symm
   obtain rfl:=(e5 d5).symm
   obtain rfl:=(e0 d0).symm
   obtain rfl:=(e2 d2).symm
   obtain rfl:=(e4 d4).symm
   obtain rfl:=(e3 d3).symm
   clear hd
   rcases hw with ⟨g2,g5,g7,nO⟩ | ⟨g2,g5,g7,nO⟩ | ⟨g2,g5,g7,nO⟩ | ⟨hall,nO⟩
   ·rw [d5] at g5;cases g5
   ·rw [d5] at g5;cases g5
   ·obtain rfl:=nO.symm
    refine Oper.wpIn_mono (K:=fun a' w'' =>a' ={ tmps:=#[.agg #[.int .i64 r,.slice (some ⟨b,off,none⟩) ns.length cap],.pointer (some ⟨w.heap.size,0,none⟩),.pointer (some ⟨w.heap.size+1,0,none⟩),.pointer (some ⟨w.heap.size,0,none⟩),.int .i64 r,.slice (some ⟨W.heap.size,0,none⟩) 0 0,.pointer (some ⟨w.heap.size,1,none⟩),.slice (some ⟨b,off,none⟩) ns.length cap,.slice (some ⟨g,0,none⟩) ns.length jM,.agg #[.int .i64 r,.slice (some ⟨g,0,none⟩) ns.length jM]],defers:=[] }∧w'' =w1) (fun a' w'' h=>?_) ?_
    ·obtain ⟨rfl,rfl⟩:=h
     exact ⟨_,_,_,_,_,_,_,hsz', rfl,fun _=>rfl,fun _=>rfl,fun _=>rfl,fun _=>rfl,fun _=>rfl,fun _=>rfl,fun _=>rfl,Or.inr (Or.inr (Or.inl ⟨(keep 2 aF).trans g2,(keep 5 aF).trans g5,(keep 7 aF).trans g7,rfl⟩))⟩
    ·go_simp
   ·rw [hall 6 aF] at hl'; cases hl'
  | 7,_ =>
   simp at ho;subst ho
   have d6:listed.getD 6 false=true:=hd ⟨6,.data⟩ aQ rfl
   have d0:listed.getD 0 false=true:=hd ⟨0,.phase⟩ aQ rfl
   have d1:listed.getD 1 false=true:=hd ⟨1,.phase⟩ aQ rfl
   have d2:listed.getD 2 false=true:=hd ⟨2,.phase⟩ aQ rfl
   have d3:listed.getD 3 false=true:=hd ⟨3,.phase⟩ aQ rfl
   have d4:listed.getD 4 false=true:=hd ⟨4,.phase⟩ aQ rfl
   have d5:listed.getD 5 false=true:=hd ⟨5,.phase⟩ aQ rfl
   obtain rfl:=(e6 d6).symm
   obtain rfl:=(e0 d0).symm
   obtain rfl:=(e1 d1).symm
   obtain rfl:=(e2 d2).symm
   obtain rfl:=(e3 d3).symm
   obtain rfl:=(e4 d4).symm
   obtain rfl:=(e5 d5).symm
   clear hd
   rcases hw with ⟨g2,g5,g7,nO⟩ | ⟨g2,g5,g7,nO⟩ | ⟨g2,g5,g7,nO⟩ | ⟨hall,nO⟩
   ·rw [d5] at g5;cases g5
   ·rw [d5] at g5;cases g5
   ·obtain rfl:=nO.symm
    refine Oper.wpIn_mono (K:=fun a' w'' =>a' ={ tmps:=#[.agg #[.int .i64 r,.slice (some ⟨b,off,none⟩) ns.length cap],.pointer (some ⟨w.heap.size,0,none⟩),.pointer (some ⟨w.heap.size+1,0,none⟩),.pointer (some ⟨w.heap.size,0,none⟩),.int .i64 r,.slice (some ⟨W.heap.size,0,none⟩) 0 0,.pointer (some ⟨w.heap.size,1,none⟩),.slice (some ⟨b,off,none⟩) ns.length cap,.slice (some ⟨g,0,none⟩) ns.length jM,.agg #[.int .i64 r,.slice (some ⟨g,0,none⟩) ns.length jM]],defers:=[] }∧w'' =(w1.setCell ⟨w.heap.size+1,0,none⟩ (.int .i64 r)).setCell ⟨w.heap.size+1,1,none⟩ (.slice (some ⟨g,0,none⟩) ns.length jM)) (fun a' w'' h=>?_) ?_
    ·obtain ⟨rfl,rfl⟩:=h
     refine ⟨_,_,_,_,_,_,_,hsz', rfl,fun _=>rfl,fun _=>rfl,fun _=>rfl,fun _=>rfl,fun _=>rfl,fun _=>rfl,fun _=>rfl,Or.inr (Or.inr (Or.inr (⟨fun j hj=>?_,rfl⟩)))⟩
     match j,hj with
     | 0,_=>exact (keep 0 aF).trans d0
     | 1,_=>exact (keep 1 aF).trans d1
     | 2,_=>exact (keep 2 aF).trans d2
     | 3,_=>exact (keep 3 aF).trans d3
     | 4,_=>exact (keep 4 aF).trans d4
     | 5,_=>exact (keep 5 aF).trans d5
     | 6,_=>exact (keep 6 aF).trans d6
     | 7,_=>exact aMQ
    ·go_simp
   ·rw [hall 7 aF] at hl'; cases hl'
 case h1 =>
  rintro listed a w' ⟨_,_,_,_,_,_,_,hsz,rfl,e0,e1,e2,e3,e4,e5,e6,hw⟩ hall
  obtain rfl:=(e0 (hall 0 aL)).symm
  obtain rfl:=(e1 (hall 1 aL)).symm
  obtain rfl:=(e2 (hall 2 aL)).symm
  obtain rfl:=(e3 (hall 3 aL)).symm
  obtain rfl:=(e4 (hall 4 aL)).symm
  obtain rfl:=(e5 (hall 5 aL)).symm
  obtain rfl:=(e6 (hall 6 aL)).symm
  rcases hw with ⟨g2,_,_,_⟩ | ⟨_,g5,_,_⟩ | ⟨_,_,g7,_⟩ | ⟨_,nO⟩
  ·rw [hall 2 aL] at g2;cases g2
  ·rw [hall 5 aL] at g5;cases g5
  ·rw [hall 7 aL] at g7;cases g7
  obtain rfl:=nO.symm
  have hk:(((w1.setCell ⟨w.heap.size+1,0,none⟩ (.int .i64 r)).setCell ⟨w.heap.size+1,1,none⟩ (.slice (some ⟨g,0,none⟩) ns.length jM))).heap[w.heap.size+1]?=some (.cells #[.int .i64 r,.slice (some ⟨g,0,none⟩) ns.length jM] 24 (0,0)):=by
   rw [aG _ (aG _ HR.out)];simp
  have nA:Below w.heap.size w ((w1.setCell ⟨w.heap.size+1,0,none⟩ (.int .i64 r)).setCell ⟨w.heap.size+1,1,none⟩ (.slice (some ⟨g,0,none⟩) ns.length jM)):=((HB.out.trans (HG.out.mono hsW)).setCell (p:=⟨w.heap.size+1,0,none⟩) aQ _).setCell (p:=⟨w.heap.size+1,1,none⟩) aQ _
  have hOf:((w1.setCell ⟨w.heap.size+1,0,none⟩ (.int .i64 r)).setCell ⟨w.heap.size+1,1,none⟩ (.slice (some ⟨g,0,none⟩) ns.length jM)).ownsRow w.heap.size 42 6 (.slice (some ⟨g,0,none⟩) ns.length jM) ns.length (ns.flatMap aP):=aI (aI HO.out HR.out aL) (aG _ HR.out) aL
  clear hrun rc0 rc1 rf0 rf1 qw0 qw1 q0 q1
  generalize (w1.setCell ⟨w.heap.size+1,0,none⟩ (.int .i64 r)).setCell ⟨w.heap.size+1,1,none⟩ (.slice (some ⟨g,0,none⟩) ns.length jM)=Wf at hk nA hOf ⊢
  have z0:=aA hk 0
  have z1:=aA hk 1
  simp at z0 z1
  gi_wp2
  refine bodyPost_ret (v:=.agg #[.int .i64 r,.slice (some ⟨g,0,none⟩) ns.length jM]) (by simp [results,Tryz.results17,go_sem,z0,z1]) rfl ⟨_,rfl,hOf,nA⟩
end Go.Proofs.YtegloodcbfalfaaGreatDoor
namespace Go.Proofs.YtegloodcbfalfaaGreatDoor
open Go.RowKit
theorem sS (r:Int) (b off cap:Nat) (ns:List Nd) (n:Nat) (w:World) (hN:aH w b off ns) (hl:ns.length≤256) :
 Calls Tryz.prog 41 #[.agg #[.int .i64 r,.slice (some ⟨b,off,none⟩) ns.length cap],.int .i64 n] w fun e w' =>∃ v,e=.returned v∧w'.ownsRow w.heap.size 3 1 v (pick (mF ns n) ns.length).length ((pick (mF ns n) ns.length).map (Value.int .i64))∧Below w.heap.size w w' :=by
 obtain ⟨i0,hi,hz0,hz1,hz2⟩:=info_parts fZ
 go_enter Tryz.func41,Tryz.ntmps41
 go_wp2
 have q0:(w.alloc (.cells #[.int .i64 r,.slice (some ⟨b,off,none⟩) ns.length cap] 24)).cell? ⟨w.heap.size,0,none⟩=some (.int .i64 r):=by simp
 have q1:(w.alloc (.cells #[.int .i64 r,.slice (some ⟨b,off,none⟩) ns.length cap] 24)).cell? ⟨w.heap.size,1,none⟩=some (.slice (some ⟨b,off,none⟩) ns.length cap):=by simp
 have hN1:aH (w.alloc (.cells #[.int .i64 r,.slice (some ⟨b,off,none⟩) ns.length cap] 24)) b off ns:=hN.below ((Below.refl w.heap.size w).alloc dD _) hN.lt
 have hB1:Below w.heap.size w (w.alloc (.cells #[.int .i64 r,.slice (some ⟨b,off,none⟩) ns.length cap] 24)):=(Below.refl w.heap.size w).alloc dD _
 have hS1:(w.alloc (.cells #[.int .i64 r,.slice (some ⟨b,off,none⟩) ns.length cap] 24)).heap.size=w.heap.size+1:=by simp
 have hblt:=hN.lt
 clear hN
 generalize w.alloc (.cells #[.int .i64 r,.slice (some ⟨b,off,none⟩) ns.length cap] 24)=W at q0 q1 hN1 hB1 hS1 ⊢
 go_loopw [5,6] (fun v i wr=>∃ k:Nat,k≤ns.length∧i=.int .i64 k∧wr.ownsRow (w.heap.size+1) 3 1 v (pick (mF ns n) k).length ((pick (mF ns n) k).map (Value.int .i64))∧Below (w.heap.size+1) W wr) (fun _ i _=>ns.length-(intOf i).toNat)
 case atStart=>exact ⟨0,Nat.zero_le _,rfl,World.ownsRow_nil _ _ _ _,Below.refl _ _⟩
 case round =>
  obtain ⟨k,hk,rfl,hown,hb⟩:=hrel
  have hsz:=hb.size
  have kQ:=hN1.below hb aF
  have p0:wr.cell? ⟨w.heap.size,0,none⟩=some (.int .i64 r):=by rw [hb.cell (p:=⟨w.heap.size,0,none⟩) aQ];exact q0
  have p1:wr.cell? ⟨w.heap.size,1,none⟩=some (.slice (some ⟨b,off,none⟩) ns.length cap):=by rw [hb.cell (p:=⟨w.heap.size,1,none⟩) aQ];exact q1
  have hsw:w.heap.size<wr.heap.size:=by omega
  by_cases hlt:k<ns.length
  ·obtain ⟨y,hy⟩:=bD hlt
   have HY:=aB hy
   clear hy
   go_wp2_with fail
   refine (KD r b off cap ns k n y wr kQ HY.out).mono ?_
   rintro e w1 ⟨rfl,hb1⟩
   have hs1:=hb1.size
   have hown1:=ownsRow_below hown hb1 dD
   have hB2:Below (w.heap.size+1) W w1:=hb.trans (hb1.mono aF)
   clear hown hb hb1 p0 p1 kQ
   have hah:mF ns n k=tY y n:=nG HY.out
   have HA:=aB hah
   clear hah
   cases hld:tY y n
   ·go_wp2
    go_roundw
    case rel=>exact ⟨k+1,aF,by go_num,by rw [tX (by rw [HA.out];exact hld)];exact hown1,hB2⟩
    case measure=>simp [intOf];omega
   ·have hpl:=BZ (mF ns n) k
    go_wp2_with (at_builtin;refine wpList_append_own _ rfl (.tmp 18) (.tmp 20) 25 rfl (w.heap.size+1) 3 i0 (.int .i64 0) 1 8 Tryz.underlying25 hi hz0 hz1 hz2 rfl aL _ _ _ rfl (hown1.alloc _) ⟨w1.heap.size,0,none⟩ 1 1 [.int .i64 k] rfl rfl ?c1 ?c2 ?c3 ?c4 ?c5 ?_)
    case c1 =>
     intro j u hj
     match j,hj with
     | 0,hj=>simp at hj;subst hj;simp [Addr.add]
    case c2=>intro u hu;simp at hu;subst hu;rfl
    case c3=>unfold maxLen;omega
    case c4=>omega
    case c5=>simp;omega
    intro v' w2 hown2 hg2 _
    have hlt1:=hown1.lt
    have hB3:Below (w.heap.size+1) W w2:=(hB2.alloc aF _).grown hg2 bF (fun k hk=>(hlt1 k hk).1)
    have hown3:w2.ownsRow (w.heap.size+1) 3 1 v' (pick (mF ns n) (k+1)).length ((pick (mF ns n) (k+1)).map (Value.int .i64)):=by
     rw [sD (by rw [HA.out];exact hld)];simpa using hown2
    clear hown2 hg2 hlt1 hown1
    go_wp2
    go_roundw
    case rel=>exact ⟨k+1,aF,by go_num,hown3,hB3⟩
    case measure=>simp [intOf];omega
  ·have ek:k=ns.length:=by omega
   have HK:=aB ek
   clear ek
   go_wp2
   go_ret
   refine ⟨_,rfl,?_,hB1.trans (hb.mono aF)⟩
   rw [← HK.out]
   exact aK hown aF
end Go.Proofs.YtegloodcbfalfaaGreatDoor
namespace Go.Proofs.YtegloodcbfalfaaGreatDoor
open Go.RowKit Go.Shelf
theorem aSB {ns:List Nd} {n:Nat} {out:List Nd} {m:Int} {j:Nat} (h:j≠n) (hj:j<out.length):nd (eB ns n out m) j=nd out j:=by
 unfold eB
 split
 ·simp only [nd,List.getD_eq_getElem?_getD]
  rw [List.getElem?_append_left (by simpa using hj),List.getElem?_set_ne (Ne.symm h)]
 ·rfl
theorem VQ {ns:List Nd} {n j:Nat} (h:j≠n):∀ (l:List Int) (out:List Nd),j<out.length→nd (l.foldl (eB ns n) out) j=nd out j
 | [],_,_=>rfl
 | m::l,out,hj=>by
  rw [List.foldl_cons,VQ h l _ (Nat.lt_of_lt_of_le hj (EO ns n out m).2),aSB h hj]
theorem VR {ns:List Nd} {j:Nat} (hj:j<ns.length):∀ k,k≤j→nd (dE ns k) j=nd ns j
 | 0,_=>rfl
 | k+1,h=>by
  rw [jS,IY]
  have ih:=VR hj k aF
  split
  ·exact ih
  ·rw [VQ aF _ _ (Nat.lt_of_lt_of_le hj (uJ ns k).2),ih]
theorem ES {r:Int} {ns:List Nd} {k:Nat} {out:List Nd} {y:Nd} (hF:Full r ns.length y) (h12:y.op≠12) (hy:nd out k=y) (hm:1<(gJ ns y.t.toNat).length) :
 eB ns k out y.t=out.set k { y with t:=out.length,e:=if y.op=11∧y.e=y.t then out.length else y.e }++[gX y.t]:=by
 unfold eB
 rw [if_pos hm,hy]
 have ht:=hF.t h12
 congr 2
 simp only [oV]
 congr 1
 by_cases h11:y.op=11
 ·simp [h11]
 ·have:=hF.e0 h11
  rw [if_neg aF,if_neg (by simp [h11])]
theorem VS {r:Int} {ns:List Nd} {k:Nat} {out:List Nd} {y:Nd} (hF:Full r ns.length y) (h11:y.op=11) (hne:y.e≠y.t) (hlo:ns.length≤out.length) (hk:k<out.length) (hy:nd out k=y) (hm:1<(gJ ns y.e.toNat).length) :
 eB ns k (eB ns k out y.t) y.e=(eB ns k out y.t).set k { nd (eB ns k out y.t) k with e:=(eB ns k out y.t).length }++[gX y.e]:=by
 have he:=hF.e h11
 have ht:=hF.t aF
 have hn:(nd (eB ns k out y.t) k).e=y.e∧(nd (eB ns k out y.t) k).t≠y.e:=by
  by_cases hmt:1<(gJ ns y.t.toNat).length
  ·rw [ES hF aF hy hmt]
   have:nd (out.set k { y with t:=out.length,e:=if y.op=11∧y.e=y.t then out.length else y.e }++[gX y.t]) k={ y with t:=out.length,e:=if y.op=11∧y.e=y.t then out.length else y.e }:=by
    simp only [nd,List.getD_eq_getElem?_getD]
    rw [List.getElem?_append_left (by simpa using hk),List.getElem?_set_self hk];rfl
   rw [this]
   refine ⟨?_,?_⟩
   ·simp [hne]
   ·simp only;omega
  ·have:eB ns k out y.t=out:=by unfold eB;rw [if_neg hmt]
   rw [this,hy]
   exact ⟨rfl,Ne.symm hne⟩
 generalize eB ns k out y.t=o1 at hn
 unfold eB
 rw [if_pos hm]
 congr 2
 simp only [oV]
 congr 1
 ·rw [if_neg hn.2]
 ·rw [if_pos hn.1]
structure VT (W2:World) (base A nb:Nat) (r:Int) (y:Nd) (out:List Nd) (v:Value) (W:World):Prop where
 o:W.heap[A]?=some (.cells #[.int .i64 r,v] 24 (0,0))
 row:W.ownsRow base 42 6 v out.length (out.flatMap aP)
 b:Below base W2 W
 n:W.heap[nb]?=some (.cells #[.int .i64 y.op,.int .i64 y.d,.int .i64 y.a,.int .i64 y.b,.int .i64 y.t,.int .i64 y.e] 42 (0,0))
 ne:v.ownBlock≠some nb
theorem VT.write {W2:World} {base A nb:Nat} {r:Int} {y:Nd} {out:List Nd} {g L vc:Nat} {W:World} (h:VT W2 base A nb r y out (.slice (some ⟨g,0,none⟩) L vc) W) (hL:L=out.length) {k i:Nat} {x y' :Nd} {u:Value} (hx:out[k]?=some x) (hi:i<6) (hu:(aP x).set i u=aP y') :
 VT W2 base A nb r y (out.set k y') (.slice (some ⟨g,0,none⟩) L vc) (W.setCell ⟨g,k*6+i,none⟩ u):=by
 subst hL
 have hk:k<out.length:=by
  rw [List.getElem?_eq_some_iff] at hx;exact hx.1
 have hA:A≠g:=fun e=>dF h.row h.o aL (by rw [e];rfl)
 have hnb:nb≠g:=fun e=>h.ne (by rw [e];rfl)
 have hw:=iB (u:=u) h.row (i:=k*6+i) aF
 rw [jK 6 aP dM out k i x y' u hx hi hu] at hw
 refine ⟨(Below.heap_setCell _ _ _ _ hA).trans h.o,?_,h.b.setCell (p:=⟨g,k*6+i,none⟩) (h.row.lt g rfl).1 _,(Below.heap_setCell _ _ _ _ hnb).trans h.n,h.ne⟩
 rw [List.length_set];exact hw
theorem VT.append {W2:World} {base A nb:Nat} {r:Int} {y x:Nd} {out:List Nd} {g L vc g' cap' :Nat} {W w5:World} {C:Array Value} {t:TypeId} (h:VT W2 base A nb r y out (.slice (some ⟨g,0,none⟩) L vc) W) (hL:L=out.length) (hl:1≤out.length) (hbA:base≤A)
 (hown:w5.ownsRow base 42 6 (.slice (some ⟨g', 0,none⟩) (L+1) cap') (L+1) (out.flatMap aP++aP x)) (hgrow:(W.alloc (.cells C t)).grownBy w5 (some g)) :
 VT W2 base A nb r y (out++[x]) (.slice (some ⟨g', 0,none⟩) (L+1) cap') (w5.setCell ⟨A,1,none⟩ (.slice (some ⟨g', 0,none⟩) (L+1) cap')):=by
 subst hL
 have VU:=aD h.o
 have hnl:=aD h.n
 have hA:some A≠some g:=fun e=>dF h.row h.o aL e
 have hnb:some nb≠some g:=fun e=>h.ne e.symm
 have o5:=(hgrow.block _ bF hA).trans ((Below.heap_alloc _ _ _ VU).trans h.o)
 have n5:=(hgrow.block _ bF hnb).trans ((Below.heap_alloc _ _ _ hnl).trans h.n)
 have hbs:=h.b.size
 have b5:Below base W2 w5:=(h.b.alloc aF _).grown hgrow bF (fun j ej=>by cases ej;exact (h.row.lt g rfl).1)
 have hne:g' ≠nb:=by
  intro q
  rcases hown.2 with ⟨qq,_⟩ | ⟨g9,aWV,aWW,qq,_,a2,a3,_,a5,_⟩
  ·cases qq
  ·cases qq
   rw [q,n5] at a2
   cases a2
   simp at a5
   omega
 refine ⟨by rw [aG _ o5];simp,?_,b5.setCell (p:=⟨A,1,none⟩) hbA _,(Below.heap_setCell _ _ _ _ (fun e=>?_)).trans n5,fun e=>hne (by cases e;rfl)⟩
 ·rw [List.length_append,List.flatMap_append,List.flatMap_singleton]
  exact aI hown o5 aL
 ·exact fD n5 o5 aL e
theorem VT.cell {W2:World} {base A nb:Nat} {r:Int} {y:Nd} {out:List Nd} {g L vc:Nat} {W:World} (h:VT W2 base A nb r y out (.slice (some ⟨g,0,none⟩) L vc) W) {k i:Nat} {x:Nd} {u:Value} (hx:out[k]?=some x) (hi:i<6) (hu:(aP x)[i]?=some u):W.cell? ⟨g,k*6+i,none⟩=some u:=by
 have:=h.row.cells (g:=g) (by
  rcases h.row.2 with ⟨q,_⟩ | ⟨g', cap', cur,q,_⟩
  ·cases q
  ·cases q;rfl) (k*6+i) u (by rw [flatK 6 aP dM _ k i x hx hi];exact hu)
 have e:(⟨g,0,none⟩:Addr).add (k*6+i)=⟨g,k*6+i,none⟩:=by
  cases h:k*6+i <;> simp [Addr.add]
 rw [e] at this;exact this
theorem VT.blk {W2:World} {base A nb:Nat} {r:Int} {y:Nd} {out:List Nd} {g L vc:Nat} {W:World} (h:VT W2 base A nb r y out (.slice (some ⟨g,0,none⟩) L vc) W):∃ cur,W.heap[g]?=some (.cells cur 42 (0,0)):=by
 rcases h.row.2 with ⟨q,_⟩ | ⟨g', cap', cur,q,_,a2,_⟩
 ·cases q
 ·cases q;exact ⟨cur,a2⟩
theorem VT.grown {W2:World} {base A nb:Nat} {r:Int} {y:Nd} {out:List Nd} {g L vc:Nat} {W w5:World} {C:Array Value} {t:TypeId} (h:VT W2 base A nb r y out (.slice (some ⟨g,0,none⟩) L vc) W) (hgrow:(W.alloc (.cells C t)).grownBy w5 (some g)):w5.heap[A]?=some (.cells #[.int .i64 r,.slice (some ⟨g,0,none⟩) L vc] 24 (0,0)):=by
 have VU:=aD h.o
 have hA:some A≠some g:=fun e=>dF h.row h.o aL e
 exact (hgrow.block _ bF hA).trans ((Below.heap_alloc _ _ _ VU).trans h.o)
theorem VT.below {W2:World} {base A nb:Nat} {r:Int} {y:Nd} {out:List Nd} {v:Value} {W W' :World} (h:VT W2 base A nb r y out v W) (hb:base≤W.heap.size) (hB:Below W.heap.size W W'):VT W2 base A nb r y out v W' :=
 ⟨bP hB h.o,ownsRow_below h.row hB dD,h.b.trans (hB.mono hb),bP hB h.n,h.ne⟩
theorem zV (r:Int) (b off cap:Nat) (ns:List Nd) (w:World) (hN:aH w b off ns) (hc:bM r ns=0) :
 Calls Tryz.prog 18 #[.agg #[.int .i64 r,.slice (some ⟨b,off,none⟩) ns.length cap]] w fun e w' =>∃ v1 v2 er,e=.returned (.tuple #[.agg #[.int .i64 v1,v2],.int .i64 er])∧((splitN ns).length≤256∧v1=r∧er=0∧w'.ownsRow w.heap.size 42 6 v2 (splitN ns).length ((splitN ns).flatMap aP)∨256<(splitN ns).length∧v1=0∧er=2∧v2=.slice none 0 0)∧Below w.heap.size w w' :=by
 have hl:=(bB hc).1
 obtain ⟨i0,hi0,hz0,hz1,hz2⟩:=info_parts jC
 go_enter Tryz.func18,Tryz.ntmps18
 go_upto_region 1 with fail
 have hb0:Below w.heap.size w ((w.alloc (.cells #[.int .i64 r,.slice (some ⟨b,off,none⟩) ns.length cap] 24)).alloc (.cells #[.int .i64 0,.slice none 0 0] 24)):=(dY).alloc aQ _
 have p0:((w.alloc (.cells #[.int .i64 r,.slice (some ⟨b,off,none⟩) ns.length cap] 24)).alloc (.cells #[.int .i64 0,.slice none 0 0] 24)).heap[w.heap.size]?=some (.cells #[.int .i64 r,.slice (some ⟨b,off,none⟩) ns.length cap] 24 (0,0)):=(Below.heap_alloc _ _ _ aQ).trans (World.alloc_heap_new w _)
 have p1:((w.alloc (.cells #[.int .i64 r,.slice (some ⟨b,off,none⟩) ns.length cap] 24)).alloc (.cells #[.int .i64 0,.slice none 0 0] 24)).heap[w.heap.size+1]?=some (.cells #[.int .i64 0,.slice none 0 0] 24 (0,0)):=by
  have:=World.alloc_heap_new (w.alloc (.cells #[.int .i64 r,.slice (some ⟨b,off,none⟩) ns.length cap] 24)) (.cells #[.int .i64 0,.slice none 0 0] 24)
  rwa [World.size_alloc] at this
 have hsz:((w.alloc (.cells #[.int .i64 r,.slice (some ⟨b,off,none⟩) ns.length cap] 24)).alloc (.cells #[.int .i64 0,.slice none 0 0] 24)).heap.size=w.heap.size+2:=by simp
 generalize ((w.alloc (.cells #[.int .i64 r,.slice (some ⟨b,off,none⟩) ns.length cap] 24)).alloc (.cells #[.int .i64 0,.slice none 0 0] 24))=W2 at hb0 p0 p1 hsz ⊢
 have q0:=aA p0 0
 have q1:=aA p0 1
 simp at q0 q1
 have hop:=callsIn_wide.1 (ER r b off cap ns W2 (hN.below hb0 hN.lt) aF)
 rw [hsz] at hop
 have JF:=aB hop
 clear hop
 have hz2' :w.heap.size<W2.heap.size:=by omega
 go_upto_region 2 with (go_at_call 17;refine JF.out.mono ?_;rintro e w1 ⟨v0,rfl,hV0,hB0⟩;obtain ⟨va0,vc0,rfl⟩:=aU hV0)
 have hs1:=hB0.size
 have hO0:(w1.alloc (.cells #[.int .i64 r,.slice va0 ns.length vc0] 24)).heap[w1.heap.size]?=some (.cells #[.int .i64 r,.slice va0 ns.length vc0] 24 (0,0)):=World.alloc_heap_new w1 _
 have hBo:Below (w.heap.size+2) W2 (w1.alloc (.cells #[.int .i64 r,.slice va0 ns.length vc0] 24)):=by
  exact hB0.alloc aF _
 have hV1:=hV0.alloc (.cells #[.int .i64 r,.slice va0 ns.length vc0] 24)
 generalize w1.alloc (.cells #[.int .i64 r,.slice va0 ns.length vc0] 24)=WO at hO0 hBo hV1 ⊢
 have hbase:w.heap.size+2≤w1.heap.size:=by omega
 clear hV0 hB0 hs1 JF
 generalize w1.heap.size=A at hO0 hbase ⊢
 go_wp2
 go_loopw [5] (fun i wr=>∃ (k:Nat) (v:Value),k≤ns.length∧i=.int .i64 k∧wr.heap[A]?=some (.cells #[.int .i64 r,v] 24 (0,0))∧wr.ownsRow (w.heap.size+2) 42 6 v (dE ns k).length ((dE ns k).flatMap aP)∧Below (w.heap.size+2) W2 wr) (fun i _=>ns.length-(intOf i).toNat)
 case atStart=>exact ⟨0,_,Nat.zero_le _,rfl,hO0,hV1,hBo⟩
 case round =>
  obtain ⟨k,v,hk,rfl,hO,hV,hB⟩:=hrel
  have hs:=hB.size
  have hal:=aD hO
  have hsp:=uJ ns k
  have qr:=(hB.cell (p:=⟨w.heap.size,1,none⟩) aQ).trans q1
  have qr0:=(hB.cell (p:=⟨w.heap.size,0,none⟩) aQ).trans q0
  have hl1:w.heap.size<wr.heap.size:=by omega
  obtain ⟨va,vc,ET⟩:=aU hV
  subst ET
  by_cases hlt:k<ns.length
  ·have hki:(k:Int)<(ns.length:Int):=by omega
   obtain ⟨y,hy⟩:=bD hlt
   have hN1:=hN.below (hb0.trans (hB.mono aF)) hN.lt
   have c0:=hN1.c0 k y hy
   have c1:=hN1.c1 k y hy
   have c2:=hN1.c2 k y hy
   have c3:=hN1.c3 k y hy
   have c4:=hN1.c4 k y hy
   have c5:=hN1.c5 k y hy
   have hblt:=hN1.lt
   have hyn:=jF hy
   have HYN:=aB hyn
   have HV:=aB hV
   have HO:=aB hO
   have HFU:Hid (Full r ns.length y):=by
    have:=dJ hc hlt
    rw [hyn] at this;exact this
   have ZE:Hid (Below wr.heap.size wr (wr.alloc (.cells #[.int .i64 y.op,.int .i64 y.d,.int .i64 y.a,.int .i64 y.b,.int .i64 y.t,.int .i64 y.e] 42))):=dY
   have rY:Hid ((wr.alloc (.cells #[.int .i64 y.op,.int .i64 y.d,.int .i64 y.a,.int .i64 y.b,.int .i64 y.t,.int .i64 y.e] 42)).heap[wr.heap.size]?=some (.cells #[.int .i64 y.op,.int .i64 y.d,.int .i64 y.a,.int .i64 y.b,.int .i64 y.t,.int .i64 y.e] 42 (0,0))):=World.alloc_heap_new wr _
   clear hN1 hy hyn hV hO
   by_cases h0:y.op=0
   ·have HS:=aB (show dE ns (k+1)=dE ns k by rw [jS,IY,HYN.out,if_pos h0])
    rw [h0] at c0 ZE
    clear h0 rY
    go_wp2
    go_roundw
    case rel=>exact ⟨k+1,_,aF,by go_num,(ZE.out.block _ hal).trans HO.out,by rw [HS.out];exact ownsRow_below HV.out ZE.out dD,hB.trans (ZE.out.mono aF)⟩
    case measure=>simp [intOf];omega
   ·have h0b:(y.op==0)=false:=by simp [h0]
    have HS:=aB (show dE ns (k+1)=(jI y).foldl (eB ns k) (dE ns k) by rw [jS,IY,HYN.out,if_neg h0])
    clear h0
    by_cases h12:y.op=12
    ·have HS2:=aB (show (jI y).foldl (eB ns k) (dE ns k)=dE ns k by unfold jI;rw [h12];rfl)
     rw [h12] at c0 ZE h0b
     clear h12 rY
     go_wp2
     go_roundw
     case rel=>exact ⟨k+1,_,aF,by go_num,(ZE.out.block _ hal).trans HO.out,by rw [HS.out,HS2.out];exact ownsRow_below HV.out ZE.out dD,hB.trans (ZE.out.mono aF)⟩
     case measure=>simp [intOf];omega
    ·have aSD:(y.op==12)=false:=by simp [h12]
     have a2L:∀ (W:World),Below wr.heap.size wr W→Calls Tryz.prog 41 #[.agg #[.int .i64 r,.slice (some ⟨b,off,none⟩) ns.length cap],.int .i64 y.t] W fun e w' =>∃ v,e=.returned v∧w'.ownsRow W.heap.size 3 1 v (pick (mF ns y.t.toNat) ns.length).length ((pick (mF ns y.t.toNat) ns.length).map (Value.int .i64))∧Below W.heap.size W w' :=fun W h=>by
      have:=sS r b off cap ns y.t.toNat W (hN.below ((hb0.trans (hB.mono aF)).trans (h.mono aF)) hN.lt) aF
      rwa [Int.toNat_of_nonneg (show 0≤y.t by have:=HFU.out.t h12;omega)] at this
     have HAH:=aB a2L
     have a2M:=aB h12
     have HL:=aB hlt
     clear a2L h12
     go_upto_if 34 with (go_at_call 41;refine (HAH.out _ ZE.out).mono ?_;rintro e w3 ⟨v3,rfl,hv3,hB3⟩;rw [EN] at hv3;obtain ⟨va3,vc3,rfl⟩:=aU hv3;clear hv3)
     have B3:Below wr.heap.size wr w3:=ZE.out.trans (hB3.mono aQ)
     have h3:VT W2 (w.heap.size+2) A wr.heap.size r y (dE ns k) (.slice va (dE ns k).length vc) w3:=⟨(B3.block _ hal).trans HO.out,ownsRow_below HV.out B3 dD,hB.trans (B3.mono aF),(hB3.block _ aQ).trans rY.out,fun e=>by have:=(HV.out.lt _ e).2;omega⟩
     have hlg:Hid (nd (dE ns k) k=y):=by show _=_;rw [VR HL.out k dD,HYN.out]
     have hko:k<(dE ns k).length:=by omega
     clear c0 c1 c2 c3 c4 c5 qr qr0 ZE rY HO HV B3 hB3 hal
     generalize dE ns k=out at *
     go_cut [] (fun wx=>∃ v,VT W2 (w.heap.size+2) A wr.heap.size r y (eB ns k out y.t) v wx)
     case first =>
      by_cases hm:1<(gJ ns y.t.toNat).length
      ·have KW:(2:Int)≤((gJ ns y.t.toNat).length:Int):=by omega
       have rU:=aB (ES HFU.out a2M.out hlg.out hm)
       obtain ⟨g,vc', hge,-,-⟩:=h3.row.form aF
       cases hge
       obtain ⟨z,hz⟩:=bD hko
       have hzy:z=y:=by rw [← jF hz,hlg.out]
       rw [hzy] at hz
       obtain ⟨L,hLL⟩:∃ L,L=out.length:=⟨_,rfl⟩
       rw [← hLL] at h3 hko hsp
       have a9G:(k:Int)<(L:Int):=by omega
       clear hm hzy
       have uD:=aB hLL
       clear hLL
       have kc:=h3.cell hz (i:=4) aL rfl
       obtain ⟨cur,hgc⟩:=h3.blk
       have kf:=aC hgc (k*6+4)
       have o1:=aA h3.o 1
       simp at o1
       have VU:=aD h3.o
       have hgl:=aD hgc
       clear hgc
       go_upto_region 9 with fail
       have h4:=h3.write uD.out hz (i:=4) (y' :={ y with t:=(L:Int) }) (u:=.int .i64 (L:Int)) aL rfl
       generalize w3.setCell ⟨g,k*6+4,none⟩ (.int .i64 (L:Int))=w4 at h4 ⊢
       clear kc kf o1 VU hgl cur h3
       have hzb:(out.set k { y with t:=(L:Int) })[k]?=some { y with t:=(L:Int) }:=List.getElem?_set_self (by rw [← uD.out];exact hko)
       have n0:=aA h4.n 0
       have n5:=aA h4.n 5
       have n4' :=aA h4.n 4
       simp at n0 n5 n4'
       have aMR :=aD h4.n
       by_cases h11:y.op=11
       ·have H11:=aB h11
        rw [h11] at n0
        clear h11
        by_cases het:y.e=y.t
        ·have HET:=aB het
         rw [het] at n5
         clear het
         go_upto_region 10 with fail
         have kc:=h4.cell hzb (i:=5) aL rfl
         obtain ⟨cur,hgc⟩:=h4.blk
         have kf:=aC hgc (k*6+5)
         have o1:=aA h4.o 1
         simp at o1
         have VU:=aD h4.o
         have hgl:=aD hgc
         clear hgc
         go_upto_region 11 with fail
         have h5:=h4.write (by rw [List.length_set];exact uD.out) hzb (i:=5) (y' :={ y with t:=(L:Int),e:=(L:Int) }) (u:=.int .i64 (L:Int)) aL rfl
         generalize w4.setCell ⟨g,k*6+5,none⟩ (.int .i64 (L:Int))=w5 at h5 ⊢
         rw [List.set_set] at h5
         clear kc kf o1 VU hgl cur h4
         clear n0 n5 n4' aMR
         have o1:=aA h5.o 1
         have n4:=aA h5.n 4
         simp at o1 n4
         have VU:=aD h5.o
         have hNl:=aD h5.n
         have hbs:=h5.b.size
         have HX:=aB h5
         have hrow:=h5.row
         rw [List.length_set,← uD.out] at hrow
         have uU:=aB hrow
         clear h5 hrow
         go_wp2_with (at_builtin;refine wpList_append_own _ rfl _ _ 22 rfl (w.heap.size+2) 42 i0 _ 6 48 Tryz.underlying22 hi0 hz0 hz1 hz2 rfl aL _ _ _ rfl (uU.out.alloc _) ⟨w5.heap.size,0,none⟩ 1 1 (aP (gX y.t)) rfl rfl ?cells (by simp [aP,gX,Value.oneCell']) (by unfold maxLen;omega) aF bF ?_)
         case cells =>
          intro j u hj
          first
           | (rw [show (⟨w5.heap.size,0,none⟩:Addr).add j=⟨w5.heap.size,j,none⟩ by cases j <;> simp [Addr.add],World.cell?_alloc_at _ _ _ _ rfl];simpa [aP,gX] using hj)
           | simpa [aP,gX] using hj
         intro v' w6 hown' hgrow _
         obtain ⟨g', cap', rfl⟩:=ownsRow_succ hown'
         have hgr:=HX.out.grown hgrow
         have m0:=aA hgr 1
         have m1:=aC hgr 1
         have m2:=aD hgr
         simp at m0
         have HF:=aB (HX.out.append (x:=gX y.t) (by simp only [List.length_set];exact uD.out) (by simp only [List.length_set];rw [← uD.out];omega) hbase hown' hgrow)
         clear hown' hgrow hgr o1 n4 VU hNl
         go_wp2
         go_meet
         case rel=>exact ⟨_,by rw [show eB ns k out y.t=out.set k { y with t:=(L:Int),e:=(L:Int) }++[gX y.t] by rw [rU.out,if_pos ⟨H11.out,HET.out⟩,uD.out]];exact HF.out⟩
        ·have HET:=aB het
         have heb:(y.e==y.t)=false:=by simp [het]
         clear het
         go_upto_region 11 with fail
         clear n0 n5 n4' aMR
         have o1:=aA h4.o 1
         have n4:=aA h4.n 4
         simp at o1 n4
         have VU:=aD h4.o
         have hNl:=aD h4.n
         have hbs:=h4.b.size
         have HX:=aB h4
         have hrow:=h4.row
         rw [List.length_set,← uD.out] at hrow
         have uU:=aB hrow
         clear h4 hrow
         go_wp2_with (at_builtin;refine wpList_append_own _ rfl _ _ 22 rfl (w.heap.size+2) 42 i0 _ 6 48 Tryz.underlying22 hi0 hz0 hz1 hz2 rfl aL _ _ _ rfl (uU.out.alloc _) ⟨w4.heap.size,0,none⟩ 1 1 (aP (gX y.t)) rfl rfl ?cells (by simp [aP,gX,Value.oneCell']) (by unfold maxLen;omega) aF bF ?_)
         case cells =>
          intro j u hj
          first
           | (rw [show (⟨w4.heap.size,0,none⟩:Addr).add j=⟨w4.heap.size,j,none⟩ by cases j <;> simp [Addr.add],World.cell?_alloc_at _ _ _ _ rfl];simpa [aP,gX] using hj)
           | simpa [aP,gX] using hj
         intro v' w6 hown' hgrow _
         obtain ⟨g', cap', rfl⟩:=ownsRow_succ hown'
         have hgr:=HX.out.grown hgrow
         have m0:=aA hgr 1
         have m1:=aC hgr 1
         have m2:=aD hgr
         simp at m0
         have HF:=aB (HX.out.append (x:=gX y.t) (by simp only [List.length_set];exact uD.out) (by simp only [List.length_set];rw [← uD.out];omega) hbase hown' hgrow)
         clear hown' hgrow hgr o1 n4 VU hNl
         go_wp2
         go_meet
         case rel=>exact ⟨_,by rw [show eB ns k out y.t=out.set k { y with t:=(L:Int) }++[gX y.t] by rw [rU.out,if_neg (by simp [HET.out]),uD.out]];exact HF.out⟩
       ·have HET:=aB h11
        have aSE:(y.op==11)=false:=by simp [h11]
        clear h11
        go_upto_region 11 with fail
        clear n0 n5 n4' aMR
        have o1:=aA h4.o 1
        have n4:=aA h4.n 4
        simp at o1 n4
        have VU:=aD h4.o
        have hNl:=aD h4.n
        have hbs:=h4.b.size
        have HX:=aB h4
        have hrow:=h4.row
        rw [List.length_set,← uD.out] at hrow
        have uU:=aB hrow
        clear h4 hrow
        go_wp2_with (at_builtin;refine wpList_append_own _ rfl _ _ 22 rfl (w.heap.size+2) 42 i0 _ 6 48 Tryz.underlying22 hi0 hz0 hz1 hz2 rfl aL _ _ _ rfl (uU.out.alloc _) ⟨w4.heap.size,0,none⟩ 1 1 (aP (gX y.t)) rfl rfl ?cells (by simp [aP,gX,Value.oneCell']) (by unfold maxLen;omega) aF bF ?_)
        case cells =>
         intro j u hj
         first
          | (rw [show (⟨w4.heap.size,0,none⟩:Addr).add j=⟨w4.heap.size,j,none⟩ by cases j <;> simp [Addr.add],World.cell?_alloc_at _ _ _ _ rfl];simpa [aP,gX] using hj)
          | simpa [aP,gX] using hj
        intro v' w6 hown' hgrow _
        obtain ⟨g', cap', rfl⟩:=ownsRow_succ hown'
        have hgr:=HX.out.grown hgrow
        have m0:=aA hgr 1
        have m1:=aC hgr 1
        have m2:=aD hgr
        simp at m0
        have HF:=aB (HX.out.append (x:=gX y.t) (by simp only [List.length_set];exact uD.out) (by simp only [List.length_set];rw [← uD.out];omega) hbase hown' hgrow)
        clear hown' hgrow hgr o1 n4 VU hNl
        go_wp2
        go_meet
        case rel=>exact ⟨_,by rw [show eB ns k out y.t=out.set k { y with t:=(L:Int) }++[gX y.t] by rw [rU.out,if_neg (by simp [HET.out]),uD.out]];exact HF.out⟩
      ·have KW:¬ (2:Int)≤((gJ ns y.t.toNat).length:Int):=by omega
       have rU:=aB (show eB ns k out y.t=out by unfold eB;rw [if_neg hm])
       have H3:=aB h3
       clear hm h3
       go_wp2
       go_meet
       case rel=>exact ⟨_,by rw [rU.out];exact H3.out⟩
     case rest =>
      obtain ⟨v,h1⟩:=hcut
      have HOL:=aB (EO ns k out y.t)
      have hol:=HOL.out
      have n0:=aA h1.n 0
      have n5:=aA h1.n 5
      have n4' :=aA h1.n 4
      simp at n0 n5 n4'
      have aMR :=aD h1.n
      have bJB:=h1.b.size
      by_cases h11:y.op=11
      ·have H11:=aB h11
       rw [h11] at n0
       clear h11
       by_cases het:y.e=y.t
       ·have HXO:=aB (show dE ns (k+1)=eB ns k out y.t by rw [HS.out];unfold jI;rw [if_pos H11.out,if_pos het];rfl)
        rw [het] at n5
        clear het
        have H1:=aB h1
        clear h1
        go_wp2
        go_roundw
        case rel=>exact ⟨k+1,_,aF,by go_num,H1.out.o,by rw [HXO.out];exact H1.out.row,H1.out.b⟩
        case measure=>simp [intOf];omega
       ·have HET:=aB het
        have heb:(y.e != y.t)=true:=by simp [het]
        have HXO:=aB (show dE ns (k+1)=eB ns k (eB ns k out y.t) y.e by rw [HS.out];unfold jI;rw [if_pos H11.out,if_neg het];rfl)
        clear het
        have H1:=aB h1
        have a2P:∀ (W:World),Below (w.heap.size+2) W2 W→Calls Tryz.prog 41 #[.agg #[.int .i64 r,.slice (some ⟨b,off,none⟩) ns.length cap],.int .i64 y.e] W fun e w' =>∃ v,e=.returned v∧w'.ownsRow W.heap.size 3 1 v (pick (mF ns y.e.toNat) ns.length).length ((pick (mF ns y.e.toNat) ns.length).map (Value.int .i64))∧Below W.heap.size W w' :=fun W h=>by
         have:=sS r b off cap ns y.e.toNat W (hN.below (hb0.trans (h.mono aF)) hN.lt) aF
         rwa [Int.toNat_of_nonneg (show 0≤y.e by have:=HFU.out.e H11.out;omega)] at this
        have HAE:=aB a2P
        have qr:=(h1.b.cell (p:=⟨w.heap.size,1,none⟩) aQ).trans q1
        have qr0:=(h1.b.cell (p:=⟨w.heap.size,0,none⟩) aQ).trans q0
        have hlw:w.heap.size<wc.heap.size:=by omega
        clear a2P h1
        go_upto_if 86 with (go_at_call 41;refine (HAE.out _ H1.out.b).mono ?_;rintro e w7 ⟨v7,rfl,hv7,uV⟩;rw [EN] at hv7;obtain ⟨va7,vc7,rfl⟩:=aU hv7;clear hv7)
        have h7:=H1.out.below aF uV
        clear n0 n5 n4' aMR qr qr0 H1
        by_cases hm:1<(gJ ns y.e.toNat).length
        ·have KW:(2:Int)≤((gJ ns y.e.toNat).length:Int):=by omega
         have rU:=aB (VS HFU.out H11.out HET.out hsp.2 hko hlg.out hm)
         have a2Q:k<(eB ns k out y.t).length:=by omega
         obtain ⟨g,vc', hge,-,-⟩:=h7.row.form aF
         subst hge
         generalize eB ns k out y.t=o1 at *
         obtain ⟨z,hz⟩:=bD a2Q
         have hzy:nd o1 k=z:=jF hz
         rw [hzy] at rU
         obtain ⟨L,hLL⟩:∃ L,L=o1.length:=⟨_,rfl⟩
         rw [← hLL] at h7 a2Q hol
         have a9G:(k:Int)<(L:Int):=by omega
         have uD:=aB hLL
         clear hm hzy hLL
         have kc:=h7.cell hz (i:=5) aL rfl
         obtain ⟨cur,hgc⟩:=h7.blk
         have kf:=aC hgc (k*6+5)
         have o1c:=aA h7.o 1
         simp at o1c
         have VU:=aD h7.o
         have hgl:=aD hgc
         clear hgc
         go_upto_region 14 with fail
         have h8:=h7.write uD.out hz (i:=5) (y' :={ z with e:=(L:Int) }) (u:=.int .i64 (L:Int)) aL rfl
         generalize w7.setCell ⟨g,k*6+5,none⟩ (.int .i64 (L:Int))=w8 at h8 ⊢
         clear kc kf o1c VU hgl cur h7
         have o1c:=aA h8.o 1
         have n4:=aA h8.n 5
         simp at o1c n4
         have VU:=aD h8.o
         have hNl:=aD h8.n
         have hbs:=h8.b.size
         have HX:=aB h8
         have hrow:=h8.row
         rw [List.length_set,← uD.out] at hrow
         have uU:=aB hrow
         clear h8 hrow
         go_wp2_with (at_builtin;refine wpList_append_own _ rfl _ _ 22 rfl (w.heap.size+2) 42 i0 _ 6 48 Tryz.underlying22 hi0 hz0 hz1 hz2 rfl aL _ _ _ rfl (uU.out.alloc _) ⟨w8.heap.size,0,none⟩ 1 1 (aP (gX y.e)) rfl rfl ?cells (by simp [aP,gX,Value.oneCell']) (by unfold maxLen;omega) aF bF ?_)
         case cells =>
          intro j u hj
          first
           | (rw [show (⟨w8.heap.size,0,none⟩:Addr).add j=⟨w8.heap.size,j,none⟩ by cases j <;> simp [Addr.add],World.cell?_alloc_at _ _ _ _ rfl];simpa [aP,gX] using hj)
           | simpa [aP,gX] using hj
         intro v' w9 hown' hgrow _
         obtain ⟨g', cap', rfl⟩:=ownsRow_succ hown'
         have hgr:=HX.out.grown hgrow
         have m0:=aA hgr 1
         have m1:=aC hgr 1
         have m2:=aD hgr
         simp at m0
         have HF:=aB (HX.out.append (x:=gX y.e) (by simp only [List.length_set];exact uD.out) (by simp only [List.length_set];rw [← uD.out];omega) hbase hown' hgrow)
         clear hown' hgrow hgr o1c n4 VU hNl
         go_wp2
         go_roundw
         case rel=>exact ⟨k+1,_,aF,by go_num,HF.out.o,by rw [HXO.out,rU.out,← uD.out];exact HF.out.row,HF.out.b⟩
         case measure=>simp [intOf];omega
        ·have KW:¬ (2:Int)≤((gJ ns y.e.toNat).length:Int):=by omega
         have rU:=aB (show eB ns k (eB ns k out y.t) y.e=eB ns k out y.t by
          generalize eB ns k out y.t=o1
          unfold eB;rw [if_neg hm])
         have H7:=aB h7
         clear hm h7
         go_wp2
         go_roundw
         case rel=>exact ⟨k+1,_,aF,by go_num,H7.out.o,by rw [HXO.out,rU.out];exact H7.out.row,H7.out.b⟩
         case measure=>simp [intOf];omega
      ·have aSE:(y.op==11)=false:=by simp [h11]
       have HXO:=aB (show dE ns (k+1)=eB ns k out y.t by
        rw [HS.out];unfold jI
        have:=HFU.out.op
        have:=a2M.out
        rw [if_neg h11,if_pos (by rw [aY];omega)];rfl)
       have H1:=aB h1
       clear h1 h11
       go_wp2
       go_roundw
       case rel=>exact ⟨k+1,_,aF,by go_num,H1.out.o,by rw [HXO.out];exact H1.out.row,H1.out.b⟩
       case measure=>simp [intOf];omega
  ·have ek:k=ns.length:=by omega
   subst ek
   have R0:=(hB.block _ aF).trans p0
   have R1:=(hB.block (w.heap.size+1) aF).trans p1
   have e0:=aA R1 0
   have e1:=aA R1 1
   have f0:=aC R1 0
   have f1:=aC R1 1
   have o0:=aA hO 0
   have o1:=aA hO 1
   simp at e0 e1 o0 o1
   have hl2:w.heap.size+1<wr.heap.size:=by omega
   have HV:=aB hV
   have HR1:=aB R1
   have aMO:dE ns ns.length=splitN ns:=rfl
   rw [aMO] at HV o1 hsp
   clear hV R0 R1 hO aMO
   by_cases hbig:256<(splitN ns).length
   ·have hbi:(256:Int)<((splitN ns).length:Int):=by omega
    have HBG:=aB hbig
    clear hbig
    go_wp2
    have hk2:((wr.setCell ⟨w.heap.size+1,0,none⟩ (.int .i64 0)).setCell ⟨w.heap.size+1,1,none⟩ (.slice none 0 0)).heap[w.heap.size+1]?=some (.cells #[.int .i64 0,.slice none 0 0] 24 (0,0)):=by
     rw [aG _ (aG _ HR1.out)];simp
    have a0:=aA hk2 0
    have a1:=aA hk2 1
    simp at a0 a1
    refine bodyPost_ret (v:=.tuple #[.agg #[.int .i64 0,.slice none 0 0],.int .i64 2]) (by simp [results,Tryz.results18,go_sem,a0,a1]) rfl ⟨_,_,_,rfl,?_,((hb0.trans (hB.mono aF)).setCell (p:=⟨w.heap.size+1,0,none⟩) aQ _).setCell (p:=⟨w.heap.size+1,1,none⟩) aQ _⟩
    first
     | exact Or.inr ⟨HBG.out,rfl,rfl,rfl⟩
     | exact ⟨rfl,rfl,rfl⟩
   ·have hbi:¬ (256:Int)<((splitN ns).length:Int):=by omega
    have HBG:=aB hbig
    clear hbig
    go_wp2
    have hk2:((wr.setCell ⟨w.heap.size+1,0,none⟩ (.int .i64 r)).setCell ⟨w.heap.size+1,1,none⟩ (.slice va (splitN ns).length vc)).heap[w.heap.size+1]?=some (.cells #[.int .i64 r,.slice va (splitN ns).length vc] 24 (0,0)):=by
     rw [aG _ (aG _ HR1.out)];simp
    have a0:=aA hk2 0
    have a1:=aA hk2 1
    simp at a0 a1
    have o2:=aI (o:=1) (u:=.slice va (splitN ns).length vc) (aI (o:=0) (u:=.int .i64 r) HV.out HR1.out aL) (aG _ HR1.out) aL
    refine bodyPost_ret (v:=.tuple #[.agg #[.int .i64 r,.slice va (splitN ns).length vc],.int .i64 0]) (by simp [results,Tryz.results18,go_sem,a0,a1]) rfl ⟨_,_,_,rfl,?_,((hb0.trans (hB.mono aF)).setCell (p:=⟨w.heap.size+1,0,none⟩) aQ _).setCell (p:=⟨w.heap.size+1,1,none⟩) aQ _⟩
    have o3:=aK (base' :=w.heap.size) o2 aF
    have hle:=Nat.not_lt.1 HBG.out
    first
     | exact Or.inl ⟨hle,rfl,rfl,o3⟩
     | exact ⟨hle,rfl,rfl,o3⟩
     | exact Or.inl ⟨rfl,rfl,o3⟩
end Go.Proofs.YtegloodcbfalfaaGreatDoor
