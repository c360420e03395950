/-
  Of the proof of WholeSame: LP, LM.
-/
import Derived.Test.YtkkolclmfcmfbaaGreatDoorW1
import Derived.Test.YtkkolclmfcmfbaaGreatDoorW4
import Derived.Test.YtkkolclmfcmfbaaGreatDoorW5
import Derived.Test.YtkkolclmfcmfbaaGreatDoorW6
import Derived.Sort.CutIn
import Derived.Deep.DeepCutAuto
set_option linter.unusedVariables false
set_option linter.unusedSimpArgs false
set_option maxHeartbeats 40000000
namespace Go.Proofs.YtkkolclmfcmfbaaGreatDoor
open Go.RowKit Go.Shelf
attribute [local go_sem] Oper.semAt_some
theorem pick_ahl (ns:List Nd) (m:Nat):(pick (ahB ns m) ns.length).length=(ahl ns m).length:=by simp [pick,ahl]
theorem spl1_len (ns:List Nd) (n:Nat) (out:List Nd) (m:Int):(spl1 ns n out m).length≤out.length+1∧out.length≤(spl1 ns n out m).length:=by
 unfold spl1;split <;> simp
theorem spl1s_len (ns:List Nd) (n:Nat):∀ (l:List Int) (out:List Nd),(l.foldl (spl1 ns n) out).length≤out.length+l.length∧out.length≤(l.foldl (spl1 ns n) out).length
 | [],out=>by simp
 | m::l,out=>by
  have h1:=spl1s_len ns n l (spl1 ns n out m)
  have h2:=spl1_len ns n out m
  simp only [List.foldl_cons,List.length_cons];omega
theorem exo_le (x:Nd):(exo x).length≤2:=exo_len x
theorem splTo_len (ns:List Nd):∀ k,(splTo ns k).length≤ns.length+2*k∧ns.length≤(splTo ns k).length
 | 0=>by simp [splTo]
 | k+1=>by
  have ih:=splTo_len ns k
  rw [splTo_succ]
  unfold spl2
  split
  ·omega
  ·have h1:=spl1s_len ns k (exo (nd ns k)) (splTo ns k)
   have h2:=exo_le (nd ns k)
   omega
theorem owns_node {w:World} {base g cap:Nat} {l:List Nd} {j:Nat} {y:Nd} (h:w.ownsRow base 48 6 (.slice (some ⟨g,0,none⟩) l.length cap) l.length (l.flatMap encNd)) (hj:j<l.length) :
 ((((((w.setCell ⟨g,j*6,none⟩ (.int .i64 y.op)).setCell ⟨g,j*6+1,none⟩ (.int .i64 y.d)).setCell ⟨g,j*6+2,none⟩ (.int .i64 y.a)).setCell ⟨g,j*6+3,none⟩ (.int .i64 y.b)).setCell ⟨g,j*6+4,none⟩ (.int .i64 y.t)).setCell ⟨g,j*6+5,none⟩ (.int .i64 y.e)).ownsRow base 48 6 (.slice (some ⟨g,0,none⟩) (l.set j y).length cap) (l.set j y).length ((l.set j y).flatMap encNd):=by
 obtain ⟨x,hx⟩:=get_lt hj
 have gs:∀ (z:Nd),(l.set j z)[j]?=some z:=fun z=>by rw [List.getElem?_set_self hj]
 have k0:=owns_write (u:=.int .i64 y.op) h (i:=j*6+0) (by omega)
 rw [flat_set 6 encNd encNd_len l j 0 x ⟨y.op,x.d,x.a,x.b,x.t,x.e⟩ _ hx (by decide) rfl] at k0
 have k1:=owns_write (u:=.int .i64 y.d) k0 (i:=j*6+1) (by omega)
 rw [flat_set 6 encNd encNd_len (l.set j ⟨y.op,x.d,x.a,x.b,x.t,x.e⟩) j 1 ⟨y.op,x.d,x.a,x.b,x.t,x.e⟩ ⟨y.op,y.d,x.a,x.b,x.t,x.e⟩ (.int .i64 y.d) (gs _) (by decide) rfl,List.set_set] at k1
 have k2:=owns_write (u:=.int .i64 y.a) k1 (i:=j*6+2) (by omega)
 rw [flat_set 6 encNd encNd_len (l.set j ⟨y.op,y.d,x.a,x.b,x.t,x.e⟩) j 2 ⟨y.op,y.d,x.a,x.b,x.t,x.e⟩ ⟨y.op,y.d,y.a,x.b,x.t,x.e⟩ (.int .i64 y.a) (gs _) (by decide) rfl,List.set_set] at k2
 have k3:=owns_write (u:=.int .i64 y.b) k2 (i:=j*6+3) (by omega)
 rw [flat_set 6 encNd encNd_len (l.set j ⟨y.op,y.d,y.a,x.b,x.t,x.e⟩) j 3 ⟨y.op,y.d,y.a,x.b,x.t,x.e⟩ ⟨y.op,y.d,y.a,y.b,x.t,x.e⟩ (.int .i64 y.b) (gs _) (by decide) rfl,List.set_set] at k3
 have k4:=owns_write (u:=.int .i64 y.t) k3 (i:=j*6+4) (by omega)
 rw [flat_set 6 encNd encNd_len (l.set j ⟨y.op,y.d,y.a,y.b,x.t,x.e⟩) j 4 ⟨y.op,y.d,y.a,y.b,x.t,x.e⟩ ⟨y.op,y.d,y.a,y.b,y.t,x.e⟩ (.int .i64 y.t) (gs _) (by decide) rfl,List.set_set] at k4
 have k5:=owns_write (u:=.int .i64 y.e) k4 (i:=j*6+5) (by omega)
 rw [flat_set 6 encNd encNd_len (l.set j ⟨y.op,y.d,y.a,y.b,y.t,x.e⟩) j 5 ⟨y.op,y.d,y.a,y.b,y.t,x.e⟩ ⟨y.op,y.d,y.a,y.b,y.t,y.e⟩ (.int .i64 y.e) (gs _) (by decide) rfl,List.set_set] at k5
 rw [List.length_set]
 exact k5
def sixN (w:World) (g j:Nat) (y:Nd):World:=(((((w.setCell ⟨g,j*6,none⟩ (.int .i64 y.op)).setCell ⟨g,j*6+1,none⟩ (.int .i64 y.d)).setCell ⟨g,j*6+2,none⟩ (.int .i64 y.a)).setCell ⟨g,j*6+3,none⟩ (.int .i64 y.b)).setCell ⟨g,j*6+4,none⟩ (.int .i64 y.t)).setCell ⟨g,j*6+5,none⟩ (.int .i64 y.e)
theorem six_other {w:World} {g j b:Nat} {y:Nd} (h:b≠g):(sixN w g j y).heap[b]?=w.heap[b]? :=by
 unfold sixN
 rw [Below.heap_setCell _ _ _ _ h,Below.heap_setCell _ _ _ _ h,Below.heap_setCell _ _ _ _ h,Below.heap_setCell _ _ _ _ h,Below.heap_setCell _ _ _ _ h,Below.heap_setCell _ _ _ _ h]
theorem six_keeps (w:World) (g j:Nat) (y:Nd):KeepsOthers w (sixN w g j y) :=
 (((((KeepsOthers.setCell _ _ _).trans (KeepsOthers.setCell _ _ _)).trans (KeepsOthers.setCell _ _ _)).trans (KeepsOthers.setCell _ _ _)).trans (KeepsOthers.setCell _ _ _)).trans (KeepsOthers.setCell _ _ _)
theorem six_below {B:Nat} (w:World) {g:Nat} (j:Nat) (y:Nd) (h:B≤g):Below B w (sixN w g j y) :=
 ((((((Below.refl B w).setCell (p:=⟨g,_,none⟩) h _).setCell (p:=⟨g,_,none⟩) h _).setCell (p:=⟨g,_,none⟩) h _).setCell (p:=⟨g,_,none⟩) h _).setCell (p:=⟨g,_,none⟩) h _).setCell (p:=⟨g,_,none⟩) h _
theorem six_kt {w:World} {g j N:Nat} {y:Nd} {cur:Array Value} (h:w.heap[g]?=some (.cells cur 48 (0,0))) (hN:N≠g):KT N w (sixN w g j y) :=
 ⟨six_other hN,fun i vs fr e=>six_other fun q=>by
  subst q;rw [h] at e;cases e⟩
set_option maxRecDepth 100000 in
theorem split_ok (r:Int) (b off cap:Nat) (ns:List Nd) (w:World) (hN:NodesAt w b off ns) (hc:chk r ns=0) :
 CallsIn Fence.wide 5 Tryz.prog 31 #[.agg #[.int .i64 r,.slice (some ⟨b,off,none⟩) ns.length cap]] w fun e w' =>∃ v1 v2 er,e=.returned (.tuple #[.agg #[.int .i64 v1,v2],.int .i64 er])∧((splitN ns).length≤256∧v1=r∧er=0∧w'.ownsRow w.heap.size 48 6 v2 (splitN ns).length ((splitN ns).flatMap encNd)∨256<(splitN ns).length∧v1=0∧er=2∧v2=.slice none 0 0)∧Below w.heap.size w w' :=by
 have hl:=(chk_zero hc).1
 obtain ⟨i0,hi0,hz0,hz1,hz2⟩:=info_parts info_node
 refine callsIn_of_wp_marks Tryz.func31 rfl trivial ?_ rfl
 simp only [Tryz.ntmps31,List.size_toArray,List.length_cons,List.length_nil,Nat.reduceAdd,Nat.reduceSub,Array.replicate_succ,Array.replicate_zero,List.push_toArray,List.append_toArray,List.nil_append,List.cons_append]
 have hb0:Below w.heap.size w ((w.alloc (.cells #[.int .i64 r,.slice (some ⟨b,off,none⟩) ns.length cap] 24)).alloc (.cells #[.int .i64 0,.slice none 0 0] 24)):=((Below.refl _ w).alloc (Nat.le_refl _) _).alloc (by simp) _
 have p0:((w.alloc (.cells #[.int .i64 r,.slice (some ⟨b,off,none⟩) ns.length cap] 24)).alloc (.cells #[.int .i64 0,.slice none 0 0] 24)).heap[w.heap.size]?=some (.cells #[.int .i64 r,.slice (some ⟨b,off,none⟩) ns.length cap] 24 (0,0)):=(Below.heap_alloc _ _ _ (by simp)).trans (World.alloc_heap_new w _)
 have p1:((w.alloc (.cells #[.int .i64 r,.slice (some ⟨b,off,none⟩) ns.length cap] 24)).alloc (.cells #[.int .i64 0,.slice none 0 0] 24)).heap[w.heap.size+1]?=some (.cells #[.int .i64 0,.slice none 0 0] 24 (0,0)):=by
  have:=World.alloc_heap_new (w.alloc (.cells #[.int .i64 r,.slice (some ⟨b,off,none⟩) ns.length cap] 24)) (.cells #[.int .i64 0,.slice none 0 0] 24)
  rwa [World.size_alloc] at this
 have hck:=check_any r (some ⟨b,off,none⟩) cap ns _ (Or.inr ⟨b,off,rfl,hN.below hb0 hN.lt⟩:SlN ((w.alloc (.cells #[.int .i64 r,.slice (some ⟨b,off,none⟩) ns.length cap] 24)).alloc (.cells #[.int .i64 0,.slice none 0 0] 24)) _ ns)
 rw [hc] at hck
 have HCK:=hide' hck
 clear hck
 have h15:1≤5:=by decide
 gi_wp2_with (refine ⟨trivial,?_⟩;gi_at_call 11;refine (callsIn_wide.2 HCK.out).mono ?_)
 rintro e w1 ⟨rfl,hb1⟩
 have hs1:=hb1.size
 replace p0:=(hb1.block w.heap.size (by simp;omega)).trans p0
 replace p1:=(hb1.block (w.heap.size+1) (by simp)).trans p1
 simp only [World.size_alloc] at hs1 hb1
 have hB1:Below w.heap.size w w1:=hb0.trans (hb1.mono (by omega))
 have hlt1:=blk_lt p0
 have hlt2:=blk_lt p1
 have q0:=blk_cell p0 0
 have q1:=blk_cell p0 1
 simp at q0 q1
 clear hb1 hb0
 have hah:=linksAhead_in 4 (by decide) r b off cap ns w1 (hN.below hB1 hN.lt) hc
 have HAH:=hide' hah
 clear hah
 gi_wp2_with (refine ⟨trivial,?_⟩;gi_at_call 49;refine HAH.out.mono ?_)
 rintro e w2 ⟨rb,vs,rfl,hR,hb2⟩
 have hs2:=hb2.size
 have P0:=(hb2.block _ hlt1).trans p0
 have P1:=(hb2.block _ hlt2).trans p1
 have hRB:=hR.blk
 have hbx0:=Boxed.new w2 96 (.slice (some ⟨rb,0,none⟩) ns.length ns.length)
 have hb2' :Below w2.heap.size w2 (w2.alloc (.cells #[.slice (some ⟨rb,0,none⟩) ns.length ns.length] 96)):=(Below.refl _ w2).alloc (Nat.le_refl _) _
 have hB2:Below w.heap.size w (w2.alloc (.cells #[.slice (some ⟨rb,0,none⟩) ns.length ns.length] 96)):=(hB1.trans (hb2.mono (by omega))).trans (hb2'.mono (by omega))
 have hcn:=clone_in 4 b off cap ns (w2.alloc (.cells #[.slice (some ⟨rb,0,none⟩) ns.length ns.length] 96)) (hN.below hB2 hN.lt) (by omega)
 have HCN:=hide' hcn
 replace q1:=(hb2.cell (p:=⟨w.heap.size,1,none⟩) hlt1).trans q1
 have hlt3:w.heap.size<w2.heap.size:=by omega
 clear hcn
 gi_wp2_with (refine ⟨trivial,?_⟩;gi_at_call 15;refine HCN.out.mono ?_)
 rintro e w3 ⟨vn,rfl,hV,hb3⟩
 obtain ⟨g0,gc0,rfl,hgb0,hgl0⟩:=hV.form (by omega)
 have hs3:=hb3.size
 simp only [World.size_alloc] at hs3 hb3 hgb0 hV
 have hB3:Below w.heap.size w w3:=hB2.trans (hb3.mono (by omega))
 have hRW:RowsAt w3 w1.heap.size rb ns.length vs (fun m=>pick (ahB ns m) ns.length):=(hR.below hb2').below (by simpa only [World.size_alloc] using hb3)
 have hAX:Boxed w3 w2.heap.size 96 (.slice (some ⟨rb,0,none⟩) ns.length ns.length):=(hb3.block _ (by omega)).trans hbx0
 have Q0:w3.heap[w.heap.size]?=_:=(hb3.block _ (by omega)).trans ((hb2'.block _ (by omega)).trans P0)
 have Q1:w3.heap[w.heap.size+1]?=_:=(hb3.block _ (by omega)).trans ((hb2'.block _ (by omega)).trans P1)
 have hrlt:rb<w2.heap.size:=blk_lt hR.blk
 clear hb3 hb2' hbx0 P0 P1 hRB hR hB2 hb2
 have hX0:=Boxed.new w3 22 (.slice (some ⟨g0,0,none⟩) ns.length gc0)
 have hb4:Below w3.heap.size w3 (w3.alloc (.cells #[.slice (some ⟨g0,0,none⟩) ns.length gc0] 22)):=(Below.refl _ w3).alloc (Nat.le_refl _) _
 have qq:=blk_cell Q0 1
 simp at qq
 have hlt4:w.heap.size<w3.heap.size:=by omega
 gi_upto_region 6 with fail
 generalize w3.alloc (.cells #[.slice (some ⟨g0,0,none⟩) ns.length gc0] 22)=W4 at hX0 hb4 ⊢
 have qq4:=(hb4.cell (p:=⟨w.heap.size,1,none⟩) hlt4).trans qq
 have hs4:=hb4.size
 have hlt5:w.heap.size<W4.heap.size:=by omega
 gi_wp2
 have hV4:W4.ownsRow (w2.heap.size+1) 48 6 (.slice (some ⟨g0,0,none⟩) ns.length gc0) ns.length (ns.flatMap encNd):=ownsRow_below hV hb4 (Nat.le_refl _)
 have hbW:Below (w2.heap.size+1) w3 W4:=hb4.mono (by omega)
 refine wpIn_loop (fun a W=>∃ (k:Nat) (v u7 u8 u25 u26 u27 u28 u29 u30 u31 u32 u33 u57:Value) (ds:List Nat),k≤ns.length∧Boxed W w3.heap.size 22 v∧W.ownsRow (w2.heap.size+1) 48 6 v (splTo ns k).length ((splTo ns k).flatMap encNd)∧Below (w2.heap.size+1) w3 W∧Marks ds W∧(∀ D∈ds,w2.heap.size+1≤D) ∧
  a={ tmps:=#[.agg #[.int .i64 r,.slice (some ⟨b,off,none⟩) ns.length cap],.pointer (some ⟨w.heap.size,0,none⟩),.pointer (some ⟨w.heap.size+1,0,none⟩),.int .i64 0,.int .i64 0,.pointer (some ⟨w2.heap.size,0,none⟩),.pointer (some ⟨w3.heap.size,0,none⟩),u7,u8,undef,.agg #[.int .i64 r,.slice (some ⟨b,off,none⟩) ns.length cap],.int .i64 0,.int .i64 0,.bool false,undef,undef,.agg #[.int .i64 r,.slice (some ⟨b,off,none⟩) ns.length cap],.slice (some ⟨rb,0,none⟩) ns.length ns.length,.pointer (some ⟨w.heap.size,1,none⟩),.slice (some ⟨b,off,none⟩) ns.length cap,.slice (some ⟨g0,0,none⟩) ns.length gc0,.pointer (some ⟨w.heap.size,1,none⟩),.slice (some ⟨b,off,none⟩) ns.length cap,.int .i64 (ns.length:Int),.int .i64 (k:Int),u25,u26,u27,u28,u29,u30,u31,u32,u33,undef,undef,undef,undef,undef,undef,undef,undef,undef,undef,undef,undef,undef,undef,undef,undef,undef,undef,undef,undef,undef,undef,undef,u57,undef,undef,undef,undef,undef,undef,undef,undef],defers:=ds.map markD })
  (fun a _=>ns.length-(intOf (a.tmps.getD 24 undef)).toNat) ?atStart ?round
 case atStart=>exact ⟨0,_,_,_,_,_,_,_,_,_,_,_,_,_,[],Nat.zero_le _,hX0,hV4,hbW,Marks.nil _,by simp,rfl⟩
 case round =>
  rintro _ wr ⟨k,v,u7,u8,u25,u26,u27,u28,u29,u30,u31,u32,u33,u57,ds,hk,hX,hV,hB,hMk,hD', rfl⟩
  have hs:=hB.size
  have hxl:=hX.lt
  have hsp:=splTo_len ns k
  have hBw:Below w.heap.size w wr:=hB3.trans (hB.mono (by omega))
  by_cases hlt:k<ns.length
  ·obtain ⟨x,hx⟩:=get_lt hlt
   have hki:(k:Int)<(ns.length:Int):=by omega
   have hN1:=hN.below hBw hN.lt
   have c0:=hN1.c0 k x hx
   have c1:=hN1.c1 k x hx
   have c2:=hN1.c2 k x hx
   have c3:=hN1.c3 k x hx
   have c4:=hN1.c4 k x hx
   have c5:=hN1.c5 k x hx
   have hblt:=hN1.lt
   have hxn:=nd_get hx
   have HXN:=hide' hxn
   have HV:=hide' hV
   clear hx hN1 hxn hV
   by_cases h0:x.op=0
   ·have HS:=hide' (show splTo ns (k+1)=splTo ns k by rw [splTo_succ,spl2,HXN.out,if_pos h0])
    rw [h0] at c0
    have hBa:Below wr.heap.size wr ((wr.alloc (.cells #[.int .i64 (k:Int)] 3)).alloc (.cells #[.int .i64 0,.int .i64 x.d,.int .i64 x.a,.int .i64 x.b,.int .i64 x.t,.int .i64 x.e] 48)):=((Below.refl _ wr).alloc (Nat.le_refl _) _).alloc (by simp) _
    have HBa:=hide' hBa
    clear hBa h0
    gi_wp2
    refine ⟨⟨k+1,v,_,_,_,_,_,_,_,_,_,_,_,_,ds,by omega,(HBa.out.block _ hxl).trans hX,by rw [HS.out];exact ownsRow_below HV.out HBa.out (Nat.le_refl _),hB.trans (HBa.out.mono (by omega)),hMk.below HBa.out,hD', rfl⟩,?_⟩
    simp [intOf];omega
   ·have h0b:(x.op==0)=false:=by simp [h0]
    have HS:=hide' (show splTo ns (k+1)=(exo x).foldl (spl1 ns k) (splTo ns k) by rw [splTo_succ,spl2,HXN.out,if_neg h0])
    clear h0
    gi_wp2_with (refine ⟨trivial,?_⟩;gi_at_call 50;refine (exits_in _ _ _ _ _ _ _ _).mono ?_;rintro e w' ⟨rfl,rfl⟩)
    have hBL:Below wr.heap.size wr (((wr.alloc (.cells #[.int .i64 (k:Int)] 3)).alloc (.cells #[.int .i64 x.op,.int .i64 x.d,.int .i64 x.a,.int .i64 x.b,.int .i64 x.t,.int .i64 x.e] 48)).alloc (.cells #[.int .i64 x.op,.int .i64 x.d,.int .i64 x.a,.int .i64 x.b,.int .i64 x.t,.int .i64 x.e] 48)):=(((Below.refl _ wr).alloc (Nat.le_refl _) _).alloc (by simp) _).alloc (by simp;omega) _
    have hn4:Boxed (((wr.alloc (.cells #[.int .i64 (k:Int)] 3)).alloc (.cells #[.int .i64 x.op,.int .i64 x.d,.int .i64 x.a,.int .i64 x.b,.int .i64 x.t,.int .i64 x.e] 48)).alloc (.cells #[.int .i64 x.op,.int .i64 x.d,.int .i64 x.a,.int .i64 x.b,.int .i64 x.t,.int .i64 x.e] 48)) wr.heap.size 3 (.int .i64 (k:Int)):=((Boxed.new wr 3 (.int .i64 (k:Int))).alloc _).alloc _
    have hnb:NodeBox (((wr.alloc (.cells #[.int .i64 (k:Int)] 3)).alloc (.cells #[.int .i64 x.op,.int .i64 x.d,.int .i64 x.a,.int .i64 x.b,.int .i64 x.t,.int .i64 x.e] 48)).alloc (.cells #[.int .i64 x.op,.int .i64 x.d,.int .i64 x.a,.int .i64 x.b,.int .i64 x.t,.int .i64 x.e] 48)) (wr.heap.size+1+1) x:=by
     have:=nodeBox_new ((wr.alloc (.cells #[.int .i64 (k:Int)] 3)).alloc (.cells #[.int .i64 x.op,.int .i64 x.d,.int .i64 x.a,.int .i64 x.b,.int .i64 x.t,.int .i64 x.e] 48)) x
     simpa only [World.size_alloc] using this
    generalize (((wr.alloc (.cells #[.int .i64 (k:Int)] 3)).alloc (.cells #[.int .i64 x.op,.int .i64 x.d,.int .i64 x.a,.int .i64 x.b,.int .i64 x.t,.int .i64 x.e] 48)).alloc (.cells #[.int .i64 x.op,.int .i64 x.d,.int .i64 x.a,.int .i64 x.b,.int .i64 x.t,.int .i64 x.e] 48))=WL at hBL hn4 hnb ⊢
    have hsL:=hBL.size
    have hltB:=hnb.lt
    have hMkL:=hMk.below hBL
    have hMl:∀ E∈ds,E<wr.heap.size:=fun E hE=>hMk.lt hE
    have hmx:∀ z:Ex x,0≤z.1∧z.1<ns.length:=fun z=>by
     have:=exo_bounds (chk_at hc hlt) (m:=z.1) (by rw [HXN.out];exact z.2)
     omega
    clear c0 c1 c2 c3 c4 c5 hMk
    refine wpIn_rangeFunc_ownG rfl (by decide) (gf:=75) (lb:=#[.pointer (some ⟨wr.heap.size+1+1,0,none⟩)]) rfl trivial (enters_of Tryz.func75 (by kernel_rfl) rfl)
     (exits_stops 4 (by omega) (wr.heap.size+1+1) x _ hnb) KT.trans (KT.putObj hltB) (Below.refl _ _) (fun _=>rfl)
     (fun pre W=>((∃ v,Boxed W w3.heap.size 22 v∧W.ownsRow (w2.heap.size+1) 48 6 v ((exv pre).foldl (spl1 ns k) (splTo ns k)).length (((exv pre).foldl (spl1 ns k) (splTo ns k)).flatMap encNd)∧v.ownBlock≠some (wr.heap.size+1+1))∧Boxed W wr.heap.size 3 (.int .i64 (k:Int))∧NodeBox W (wr.heap.size+1+1) x∧Marks ds W)∧Below (w2.heap.size+1) w3 W)
     (fun _ _ _=>False)
     (OwnFrom.and ?own (ownFrom_below (by omega) (by omega)))
     (fun _ _ _ _ _ hs _ _=>hs)
     ⟨⟨⟨v,(hBL.block _ hxl).trans hX,ownsRow_below HV.out hBL (Nat.le_refl _),fun e=>by have:=(HV.out.lt _ e).2;omega⟩,hn4,hnb,hMkL⟩,hB.trans (hBL.mono (by omega))⟩
     (fun z=>{ tmps:=#[.agg #[.int .i64 r,.slice (some ⟨b,off,none⟩) ns.length cap],.pointer (some ⟨w.heap.size,0,none⟩),.pointer (some ⟨w.heap.size+1,0,none⟩),.int .i64 0,.int .i64 0,.pointer (some ⟨w2.heap.size,0,none⟩),.pointer (some ⟨w3.heap.size,0,none⟩),.pointer (some ⟨wr.heap.size,0,none⟩),.pointer (some ⟨wr.heap.size+1,0,none⟩),.int .i64 z.1,.agg #[.int .i64 r,.slice (some ⟨b,off,none⟩) ns.length cap],.int .i64 0,.int .i64 0,.bool false,undef,undef,.agg #[.int .i64 r,.slice (some ⟨b,off,none⟩) ns.length cap],.slice (some ⟨rb,0,none⟩) ns.length ns.length,.pointer (some ⟨w.heap.size,1,none⟩),.slice (some ⟨b,off,none⟩) ns.length cap,.slice (some ⟨g0,0,none⟩) ns.length gc0,.pointer (some ⟨w.heap.size,1,none⟩),.slice (some ⟨b,off,none⟩) ns.length cap,.int .i64 (ns.length:Int),.int .i64 (k:Int),.bool true,.int .i64 (k:Int),.pointer (some ⟨b,off+k*6,none⟩),.agg #[.int .i64 x.op,.int .i64 x.d,.int .i64 x.a,.int .i64 x.b,.int .i64 x.t,.int .i64 x.e],.pointer (some ⟨wr.heap.size+1,0,none⟩),.int .i64 x.op,.bool false,.agg #[.int .i64 x.op,.int .i64 x.d,.int .i64 x.a,.int .i64 x.b,.int .i64 x.t,.int .i64 x.e],.func (.func 75) #[] #[.pointer (some ⟨wr.heap.size+1+1,0,none⟩)],.int .i64 z.1,undef,undef,undef,undef,undef,undef,undef,undef,undef,undef,undef,undef,undef,undef,undef,undef,undef,undef,undef,undef,undef,undef,u57,undef,undef,undef,undef,undef,undef,undef,undef],defers:=[] }) ?assign ?body ?done ?stop
    case own =>
     rintro pre A C row ⟨⟨v,h1,h2,h3⟩,hb2,hb3,hm1⟩ hg hr
     have hcl:∀ (b:Nat) (o:Obj),A.heap[b]?=some o→o.isCells=true→some b≠row:=fun b o h1 h2 e=>by
      obtain ⟨_,o', h3,h4⟩:=hr b e.symm
      rw [h1] at h3;cases h3;rw [h2] at h4;cases h4
     refine ⟨⟨v,h1.kept hg (hcl _ _ h1 rfl),h2.kept hg ?_,h3⟩,hb2.kept hg (hcl _ _ hb2 rfl),(hg.block _ hb3.lt (hcl _ _ hb3 rfl)).trans hb3,hm1.grown hg fun q e hq=>by
      have h1:=(hr q e).1
      have h2:=hMl q hq
      omega⟩
     rcases h2.2 with ⟨rfl,_⟩ | ⟨g,cap,cur,rfl,_,hgb,_⟩
     ·exact .inl rfl
     ·exact .inr (by
       have:=hcl g _ hgb rfl
       simpa [Value.ownBlock] using this)
    case assign =>
     intro l z W K hK
     gi_wp2
     exact hK
    case body =>
     rintro l pre z W ⟨⟨⟨v,hbx,hrow,hno⟩,hb2,hb3,hm1⟩,hBW⟩ hpl
     obtain ⟨hm0,hm2⟩:=hmx z
     obtain ⟨m,hmz⟩:=Int.eq_ofNat_of_zero_le hm0
     have hml:m<ns.length:=by omega
     have hmi:(m:Int)<(ns.length:Int):=by omega
     have hfold:(exv (pre++[z])).foldl (spl1 ns k) (splTo ns k)=spl1 ns k ((exv pre).foldl (spl1 ns k) (splTo ns k)) (m:Int):=by
      rw [exv_snoc,List.foldl_append,hmz];rfl
     have hlenO:=spl1s_len ns k (exv pre) (splTo ns k)
     rw [exv_len] at hlenO
     have hpl2:pre.length<2:=Nat.lt_of_lt_of_le hpl (exo_len x)
     have HF:=hide' hfold
     clear hfold
     generalize (exv pre).foldl (spl1 ns k) (splTo ns k)=out at hrow HF hlenO
     have hkO:k<out.length:=by omega
     have hRm:=(hRW.own m)
     have hmv:m<vs.length:=by rw [hRW.len];exact hml
     obtain ⟨vm,hvm⟩:=get_lt hmv
     obtain ⟨am,cm,hvme⟩:=owns_slice (hRm vm hvm)
     subst hvme
     have hac:=(hBW.cell (p:=⟨w2.heap.size,0,none⟩) (by simp)).trans hAX.cell
     have hrc:W.cell? ⟨rb,m,none⟩=some (.slice am (pick (ahB ns m) ns.length).length cm):=by
      rw [hBW.cell (p:=⟨rb,m,none⟩) (by simp;omega),blk_cell hRW.blk];simpa using hvm
     have hsW:=hBW.size
     have hrbW:rb<W.heap.size:=by omega
     have h2W:w2.heap.size<W.heap.size:=by omega
     rw [pick_ahl] at hrc
     have hahl:(ahl ns m).length≤ns.length:=Nat.le_trans (List.length_filter_le _ _) (by simp)
     rw [hmz]
     clear hRm hvm
     by_cases hmany:1<(ahl ns m).length
     ·have hmi2:(1:Int)<((ahl ns m).length:Int):=by omega
      have HSP:=hide' (show spl1 ns k out (m:Int)=out.set k (trn (nd out k) m out.length)++[skp m] by
       unfold spl1;rw [Int.toNat_natCast,if_pos hmany];rfl)
      clear hmany
      obtain ⟨g,vc,rfl,hgb,hgl⟩:=hrow.form (by omega)
      obtain ⟨y,hy⟩:=get_lt hkO
      have cell:∀ (i:Nat) (u:Value),i<6→(encNd y)[i]?=some u→W.cell? ⟨g,k*6+i,none⟩=some u:=by
       intro i u hi hu
       have:=hrow.cells (g:=g) rfl (k*6+i) u (by rw [flatK 6 encNd encNd_len _ k i y hy hi];exact hu)
       have e:(⟨g,0,none⟩:Addr).add (k*6+i)=⟨g,k*6+i,none⟩:=by
        cases h:k*6+i <;> simp [Addr.add]
       rw [e] at this;exact this
      have c0:=cell 0 _ (by decide) rfl
      have c1:=cell 1 _ (by decide) rfl
      have c2:=cell 2 _ (by decide) rfl
      have c3:=cell 3 _ (by decide) rfl
      have c4:=cell 4 _ (by decide) rfl
      have c5:=cell 5 _ (by decide) rfl
      rw [Nat.add_zero] at c0
      obtain ⟨cur,hgc⟩:∃ cur,W.heap[g]?=some (.cells cur 48 (0,0)):=by
       rcases hrow.2 with ⟨q,_⟩ | ⟨g', cap', cur,q,_,a2,_⟩
       ·cases q
       ·cases q;exact ⟨cur,a2⟩
      have f0:=blk_frozen hgc (k*6)
      have f1:=blk_frozen hgc (k*6+1)
      have f2:=blk_frozen hgc (k*6+2)
      have f3:=blk_frozen hgc (k*6+3)
      have f4:=blk_frozen hgc (k*6+4)
      have f5:=blk_frozen hgc (k*6+5)
      have hyn:nd out k=y:=nd_get hy
      have HTU:Hid (∀ u:World,Calls Tryz.prog 51 #[.agg #[.int .i64 y.op,.int .i64 y.d,.int .i64 y.a,.int .i64 y.b,.int .i64 y.t,.int .i64 y.e],.int .i64 (m:Int),.int .i64 (out.length:Int)] u fun e w' =>e=.returned (.agg #[.int .i64 (trn y (m:Int) (out.length:Int)).op,.int .i64 (trn y (m:Int) (out.length:Int)).d,.int .i64 (trn y (m:Int) (out.length:Int)).a,.int .i64 (trn y (m:Int) (out.length:Int)).b,.int .i64 (trn y (m:Int) (out.length:Int)).t,.int .i64 (trn y (m:Int) (out.length:Int)).e])∧w' =(u.alloc (.cells (encNd (trn y (m:Int) (out.length:Int))).toArray 48)).alloc (.cells (encNd (trn y (m:Int) (out.length:Int))).toArray 48)):=fun u=>turn_at y (m:Int) (out.length:Int) u
      rw [hyn] at HSP
      generalize trn y (m:Int) (out.length:Int)=T at HTU HSP
      have hkb:(k:Int)<(out.length:Int):=by omega
      have xbc:=hbx.cell
      have nbc:=hb2.cell
      have z1:=hbx.lt
      have z2:=hb2.lt
      have HROW:=hide' hrow
      have HB3:=hide' hb3
      have HGC:=hide' hgc
      clear cell hrow hyn hy hb3 hgc
      gi_upto_region 13 with fail
      clear hrc hac
      refine region_inv (by kernel_rfl) (fun listed a w' =>∃ z41 z42 z43 z44 z45 z46 z47 z48 z49 z50 z51:Value,listed.size=12∧a={ tmps:=#[.agg #[.int .i64 r,.slice (some ⟨b,off,none⟩) ns.length cap],.pointer (some ⟨w.heap.size,0,none⟩),.pointer (some ⟨w.heap.size+1,0,none⟩),.int .i64 0,.int .i64 0,.pointer (some ⟨w2.heap.size,0,none⟩),.pointer (some ⟨w3.heap.size,0,none⟩),.pointer (some ⟨wr.heap.size,0,none⟩),.pointer (some ⟨wr.heap.size+1,0,none⟩),.int .i64 (m:Int),.agg #[.int .i64 r,.slice (some ⟨b,off,none⟩) ns.length cap],.int .i64 0,.int .i64 0,.bool false,undef,undef,.agg #[.int .i64 r,.slice (some ⟨b,off,none⟩) ns.length cap],.slice (some ⟨rb,0,none⟩) ns.length ns.length,.pointer (some ⟨w.heap.size,1,none⟩),.slice (some ⟨b,off,none⟩) ns.length cap,.slice (some ⟨g0,0,none⟩) ns.length gc0,.pointer (some ⟨w.heap.size,1,none⟩),.slice (some ⟨b,off,none⟩) ns.length cap,.int .i64 (ns.length:Int),.int .i64 (k:Int),.bool true,.int .i64 (k:Int),.pointer (some ⟨b,off+k*6,none⟩),.agg #[.int .i64 x.op,.int .i64 x.d,.int .i64 x.a,.int .i64 x.b,.int .i64 x.t,.int .i64 x.e],.pointer (some ⟨wr.heap.size+1,0,none⟩),.int .i64 x.op,.bool false,.agg #[.int .i64 x.op,.int .i64 x.d,.int .i64 x.a,.int .i64 x.b,.int .i64 x.t,.int .i64 x.e],.func (.func 75) #[] #[.pointer (some ⟨wr.heap.size+1+1,0,none⟩)],.int .i64 (m:Int),.slice (some ⟨rb,0,none⟩) ns.length ns.length,.int .i64 (m:Int),.pointer (some ⟨rb,m,none⟩),.slice am (ahl ns m).length cm,.int .i64 ((ahl ns m).length:Int),.bool true,z41,z42,z43,z44,z45,z46,z47,z48,z49,z50,z51,undef,undef,undef,undef,undef,u57,undef,undef,undef,undef,undef,undef,undef,undef],defers:=[] }∧(listed.getD 0 false=true→z41=.slice (some ⟨g,0,none⟩) out.length vc)∧(listed.getD 1 false=true→z42=.int .i64 (k:Int))∧(listed.getD 2 false=true→z43=.slice (some ⟨g,0,none⟩) out.length vc)∧(listed.getD 3 false=true→z44=.int .i64 (k:Int))∧(listed.getD 4 false=true→z45=.pointer (some ⟨g,k*6,none⟩))∧(listed.getD 5 false=true→z46=.agg #[.int .i64 y.op,.int .i64 y.d,.int .i64 y.a,.int .i64 y.b,.int .i64 y.t,.int .i64 y.e])∧(listed.getD 6 false=true→z47=.int .i64 (m:Int))∧(listed.getD 7 false=true→z48=.slice (some ⟨g,0,none⟩) out.length vc)∧(listed.getD 8 false=true→z49=.int .i64 (out.length:Int))∧(listed.getD 9 false=true→z50=.agg #[.int .i64 T.op,.int .i64 T.d,.int .i64 T.a,.int .i64 T.b,.int .i64 T.t,.int .i64 T.e])∧(listed.getD 10 false=true→z51=.pointer (some ⟨g,k*6,none⟩))∧((listed.getD 9 false=false∧listed.getD 11 false=false∧w' =W.drew)∨(listed.getD 9 false=true∧listed.getD 11 false=false∧w' =(W.drew.alloc (.cells #[.int .i64 T.op,.int .i64 T.d,.int .i64 T.a,.int .i64 T.b,.int .i64 T.t,.int .i64 T.e] 48)).alloc (.cells #[.int .i64 T.op,.int .i64 T.d,.int .i64 T.a,.int .i64 T.b,.int .i64 T.t,.int .i64 T.e] 48))∨((∀ j,j<12→listed.getD j false=true)∧w' =((((((((W.drew.alloc (.cells #[.int .i64 T.op,.int .i64 T.d,.int .i64 T.a,.int .i64 T.b,.int .i64 T.t,.int .i64 T.e] 48)).alloc (.cells #[.int .i64 T.op,.int .i64 T.d,.int .i64 T.a,.int .i64 T.b,.int .i64 T.t,.int .i64 T.e] 48)).setCell ⟨g,k*6,none⟩ (.int .i64 T.op)).setCell ⟨g,k*6+1,none⟩ (.int .i64 T.d)).setCell ⟨g,k*6+2,none⟩ (.int .i64 T.a)).setCell ⟨g,k*6+3,none⟩ (.int .i64 T.b)).setCell ⟨g,k*6+4,none⟩ (.int .i64 T.t)).setCell ⟨g,k*6+5,none⟩ (.int .i64 T.e))))) ?hg ?hsz ?h0 ?hs ?h1
      case hg =>
       intro ix o ho
       match ix,ho with
       | 0,ho | 1,ho | 2,ho | 3,ho | 4,ho | 5,ho | 6,ho | 7,ho | 8,ho | 9,ho | 10,ho | 11,ho=>simp at ho;subst ho;simp [Region.binds]
       | ix+12,ho=>simp at ho
      case hsz=>rintro listed a w' ⟨_,_,_,_,_,_,_,_,_,_,_,h,_⟩;simpa using h
      case h0 =>
       refine ⟨_,_,_,_,_,_,_,_,_,_,_,by simp,rfl,by simp,by simp,by simp,by simp,by simp,by simp,by simp,by simp,by simp,by simp,by simp,Or.inl ⟨by simp,by simp,rfl⟩⟩
      case hs =>
       rintro listed a w' ix o ⟨z41,z42,z43,z44,z45,z46,z47,z48,z49,z50,z51,hsz,rfl,e0,e1,e2,e3,e4,e5,e6,e7,e8,e9,e10,hw⟩ hC ho hl hd
       have hltn:ix<12:=(Array.getElem?_eq_some_iff.1 ho).1
       have hl' :listed.getD ix false=false:=by
        simp only [Array.getD] at hl ⊢
        rw [dif_pos (by omega)] at hl ⊢;exact hl
       have keep:∀ j,j≠ix→(listed.setIfInBounds ix true).getD j false=listed.getD j false:=fun j hj=>getD_set_ne false (fun e=>hj e.symm)
       have sett:(listed.setIfInBounds ix true).getD ix false=true:=by simp [hsz,hltn]
       have hsz' :(listed.setIfInBounds ix true).size=12:=by simp [hsz]
       clear hl
       match ix,hltn with
       | 0,_ =>
        simp at ho;subst ho
        clear hd
        rcases hw with ⟨g9,g11,hwe⟩ | ⟨g9,g11,hwe⟩ | ⟨hall,hwe⟩
        ·obtain rfl:=hwe.symm
         refine Oper.wpIn_mono (K:=fun a' w'' =>a' ={ tmps:=#[.agg #[.int .i64 r,.slice (some ⟨b,off,none⟩) ns.length cap],.pointer (some ⟨w.heap.size,0,none⟩),.pointer (some ⟨w.heap.size+1,0,none⟩),.int .i64 0,.int .i64 0,.pointer (some ⟨w2.heap.size,0,none⟩),.pointer (some ⟨w3.heap.size,0,none⟩),.pointer (some ⟨wr.heap.size,0,none⟩),.pointer (some ⟨wr.heap.size+1,0,none⟩),.int .i64 (m:Int),.agg #[.int .i64 r,.slice (some ⟨b,off,none⟩) ns.length cap],.int .i64 0,.int .i64 0,.bool false,undef,undef,.agg #[.int .i64 r,.slice (some ⟨b,off,none⟩) ns.length cap],.slice (some ⟨rb,0,none⟩) ns.length ns.length,.pointer (some ⟨w.heap.size,1,none⟩),.slice (some ⟨b,off,none⟩) ns.length cap,.slice (some ⟨g0,0,none⟩) ns.length gc0,.pointer (some ⟨w.heap.size,1,none⟩),.slice (some ⟨b,off,none⟩) ns.length cap,.int .i64 (ns.length:Int),.int .i64 (k:Int),.bool true,.int .i64 (k:Int),.pointer (some ⟨b,off+k*6,none⟩),.agg #[.int .i64 x.op,.int .i64 x.d,.int .i64 x.a,.int .i64 x.b,.int .i64 x.t,.int .i64 x.e],.pointer (some ⟨wr.heap.size+1,0,none⟩),.int .i64 x.op,.bool false,.agg #[.int .i64 x.op,.int .i64 x.d,.int .i64 x.a,.int .i64 x.b,.int .i64 x.t,.int .i64 x.e],.func (.func 75) #[] #[.pointer (some ⟨wr.heap.size+1+1,0,none⟩)],.int .i64 (m:Int),.slice (some ⟨rb,0,none⟩) ns.length ns.length,.int .i64 (m:Int),.pointer (some ⟨rb,m,none⟩),.slice am (ahl ns m).length cm,.int .i64 ((ahl ns m).length:Int),.bool true,.slice (some ⟨g,0,none⟩) out.length vc,z42,z43,z44,z45,z46,z47,z48,z49,z50,z51,undef,undef,undef,undef,undef,u57,undef,undef,undef,undef,undef,undef,undef,undef],defers:=[] }∧w'' =W.drew) (fun a' w'' h=>?_) ?_
         ·obtain ⟨rfl,rfl⟩:=h
          exact ⟨_,_,_,_,_,_,_,_,_,_,_,hsz', rfl,fun _=>rfl,fun h=>e1 (by rwa [keep 1 (by omega)] at h),fun h=>e2 (by rwa [keep 2 (by omega)] at h),fun h=>e3 (by rwa [keep 3 (by omega)] at h),fun h=>e4 (by rwa [keep 4 (by omega)] at h),fun h=>e5 (by rwa [keep 5 (by omega)] at h),fun h=>e6 (by rwa [keep 6 (by omega)] at h),fun h=>e7 (by rwa [keep 7 (by omega)] at h),fun h=>e8 (by rwa [keep 8 (by omega)] at h),fun h=>e9 (by rwa [keep 9 (by omega)] at h),fun h=>e10 (by rwa [keep 10 (by omega)] at h),Or.inl ⟨(keep 9 (by omega)).trans g9,(keep 11 (by omega)).trans g11,rfl⟩⟩
         ·go_simp
        ·obtain rfl:=hwe.symm
         refine Oper.wpIn_mono (K:=fun a' w'' =>a' ={ tmps:=#[.agg #[.int .i64 r,.slice (some ⟨b,off,none⟩) ns.length cap],.pointer (some ⟨w.heap.size,0,none⟩),.pointer (some ⟨w.heap.size+1,0,none⟩),.int .i64 0,.int .i64 0,.pointer (some ⟨w2.heap.size,0,none⟩),.pointer (some ⟨w3.heap.size,0,none⟩),.pointer (some ⟨wr.heap.size,0,none⟩),.pointer (some ⟨wr.heap.size+1,0,none⟩),.int .i64 (m:Int),.agg #[.int .i64 r,.slice (some ⟨b,off,none⟩) ns.length cap],.int .i64 0,.int .i64 0,.bool false,undef,undef,.agg #[.int .i64 r,.slice (some ⟨b,off,none⟩) ns.length cap],.slice (some ⟨rb,0,none⟩) ns.length ns.length,.pointer (some ⟨w.heap.size,1,none⟩),.slice (some ⟨b,off,none⟩) ns.length cap,.slice (some ⟨g0,0,none⟩) ns.length gc0,.pointer (some ⟨w.heap.size,1,none⟩),.slice (some ⟨b,off,none⟩) ns.length cap,.int .i64 (ns.length:Int),.int .i64 (k:Int),.bool true,.int .i64 (k:Int),.pointer (some ⟨b,off+k*6,none⟩),.agg #[.int .i64 x.op,.int .i64 x.d,.int .i64 x.a,.int .i64 x.b,.int .i64 x.t,.int .i64 x.e],.pointer (some ⟨wr.heap.size+1,0,none⟩),.int .i64 x.op,.bool false,.agg #[.int .i64 x.op,.int .i64 x.d,.int .i64 x.a,.int .i64 x.b,.int .i64 x.t,.int .i64 x.e],.func (.func 75) #[] #[.pointer (some ⟨wr.heap.size+1+1,0,none⟩)],.int .i64 (m:Int),.slice (some ⟨rb,0,none⟩) ns.length ns.length,.int .i64 (m:Int),.pointer (some ⟨rb,m,none⟩),.slice am (ahl ns m).length cm,.int .i64 ((ahl ns m).length:Int),.bool true,.slice (some ⟨g,0,none⟩) out.length vc,z42,z43,z44,z45,z46,z47,z48,z49,z50,z51,undef,undef,undef,undef,undef,u57,undef,undef,undef,undef,undef,undef,undef,undef],defers:=[] }∧w'' =(W.drew.alloc (.cells #[.int .i64 T.op,.int .i64 T.d,.int .i64 T.a,.int .i64 T.b,.int .i64 T.t,.int .i64 T.e] 48)).alloc (.cells #[.int .i64 T.op,.int .i64 T.d,.int .i64 T.a,.int .i64 T.b,.int .i64 T.t,.int .i64 T.e] 48)) (fun a' w'' h=>?_) ?_
         ·obtain ⟨rfl,rfl⟩:=h
          exact ⟨_,_,_,_,_,_,_,_,_,_,_,hsz', rfl,fun _=>rfl,fun h=>e1 (by rwa [keep 1 (by omega)] at h),fun h=>e2 (by rwa [keep 2 (by omega)] at h),fun h=>e3 (by rwa [keep 3 (by omega)] at h),fun h=>e4 (by rwa [keep 4 (by omega)] at h),fun h=>e5 (by rwa [keep 5 (by omega)] at h),fun h=>e6 (by rwa [keep 6 (by omega)] at h),fun h=>e7 (by rwa [keep 7 (by omega)] at h),fun h=>e8 (by rwa [keep 8 (by omega)] at h),fun h=>e9 (by rwa [keep 9 (by omega)] at h),fun h=>e10 (by rwa [keep 10 (by omega)] at h),Or.inr (Or.inl ⟨(keep 9 (by omega)).trans g9,(keep 11 (by omega)).trans g11,rfl⟩)⟩
         ·go_simp
        ·rw [hall 0 (by omega)] at hl'; cases hl'
       | 1,_ =>
        simp at ho;subst ho
        clear hd
        rcases hw with ⟨g9,g11,hwe⟩ | ⟨g9,g11,hwe⟩ | ⟨hall,hwe⟩
        ·obtain rfl:=hwe.symm
         refine Oper.wpIn_mono (K:=fun a' w'' =>a' ={ tmps:=#[.agg #[.int .i64 r,.slice (some ⟨b,off,none⟩) ns.length cap],.pointer (some ⟨w.heap.size,0,none⟩),.pointer (some ⟨w.heap.size+1,0,none⟩),.int .i64 0,.int .i64 0,.pointer (some ⟨w2.heap.size,0,none⟩),.pointer (some ⟨w3.heap.size,0,none⟩),.pointer (some ⟨wr.heap.size,0,none⟩),.pointer (some ⟨wr.heap.size+1,0,none⟩),.int .i64 (m:Int),.agg #[.int .i64 r,.slice (some ⟨b,off,none⟩) ns.length cap],.int .i64 0,.int .i64 0,.bool false,undef,undef,.agg #[.int .i64 r,.slice (some ⟨b,off,none⟩) ns.length cap],.slice (some ⟨rb,0,none⟩) ns.length ns.length,.pointer (some ⟨w.heap.size,1,none⟩),.slice (some ⟨b,off,none⟩) ns.length cap,.slice (some ⟨g0,0,none⟩) ns.length gc0,.pointer (some ⟨w.heap.size,1,none⟩),.slice (some ⟨b,off,none⟩) ns.length cap,.int .i64 (ns.length:Int),.int .i64 (k:Int),.bool true,.int .i64 (k:Int),.pointer (some ⟨b,off+k*6,none⟩),.agg #[.int .i64 x.op,.int .i64 x.d,.int .i64 x.a,.int .i64 x.b,.int .i64 x.t,.int .i64 x.e],.pointer (some ⟨wr.heap.size+1,0,none⟩),.int .i64 x.op,.bool false,.agg #[.int .i64 x.op,.int .i64 x.d,.int .i64 x.a,.int .i64 x.b,.int .i64 x.t,.int .i64 x.e],.func (.func 75) #[] #[.pointer (some ⟨wr.heap.size+1+1,0,none⟩)],.int .i64 (m:Int),.slice (some ⟨rb,0,none⟩) ns.length ns.length,.int .i64 (m:Int),.pointer (some ⟨rb,m,none⟩),.slice am (ahl ns m).length cm,.int .i64 ((ahl ns m).length:Int),.bool true,z41,.int .i64 (k:Int),z43,z44,z45,z46,z47,z48,z49,z50,z51,undef,undef,undef,undef,undef,u57,undef,undef,undef,undef,undef,undef,undef,undef],defers:=[] }∧w'' =W.drew) (fun a' w'' h=>?_) ?_
         ·obtain ⟨rfl,rfl⟩:=h
          exact ⟨_,_,_,_,_,_,_,_,_,_,_,hsz', rfl,fun h=>e0 (by rwa [keep 0 (by omega)] at h),fun _=>rfl,fun h=>e2 (by rwa [keep 2 (by omega)] at h),fun h=>e3 (by rwa [keep 3 (by omega)] at h),fun h=>e4 (by rwa [keep 4 (by omega)] at h),fun h=>e5 (by rwa [keep 5 (by omega)] at h),fun h=>e6 (by rwa [keep 6 (by omega)] at h),fun h=>e7 (by rwa [keep 7 (by omega)] at h),fun h=>e8 (by rwa [keep 8 (by omega)] at h),fun h=>e9 (by rwa [keep 9 (by omega)] at h),fun h=>e10 (by rwa [keep 10 (by omega)] at h),Or.inl ⟨(keep 9 (by omega)).trans g9,(keep 11 (by omega)).trans g11,rfl⟩⟩
         ·go_simp
        ·obtain rfl:=hwe.symm
         refine Oper.wpIn_mono (K:=fun a' w'' =>a' ={ tmps:=#[.agg #[.int .i64 r,.slice (some ⟨b,off,none⟩) ns.length cap],.pointer (some ⟨w.heap.size,0,none⟩),.pointer (some ⟨w.heap.size+1,0,none⟩),.int .i64 0,.int .i64 0,.pointer (some ⟨w2.heap.size,0,none⟩),.pointer (some ⟨w3.heap.size,0,none⟩),.pointer (some ⟨wr.heap.size,0,none⟩),.pointer (some ⟨wr.heap.size+1,0,none⟩),.int .i64 (m:Int),.agg #[.int .i64 r,.slice (some ⟨b,off,none⟩) ns.length cap],.int .i64 0,.int .i64 0,.bool false,undef,undef,.agg #[.int .i64 r,.slice (some ⟨b,off,none⟩) ns.length cap],.slice (some ⟨rb,0,none⟩) ns.length ns.length,.pointer (some ⟨w.heap.size,1,none⟩),.slice (some ⟨b,off,none⟩) ns.length cap,.slice (some ⟨g0,0,none⟩) ns.length gc0,.pointer (some ⟨w.heap.size,1,none⟩),.slice (some ⟨b,off,none⟩) ns.length cap,.int .i64 (ns.length:Int),.int .i64 (k:Int),.bool true,.int .i64 (k:Int),.pointer (some ⟨b,off+k*6,none⟩),.agg #[.int .i64 x.op,.int .i64 x.d,.int .i64 x.a,.int .i64 x.b,.int .i64 x.t,.int .i64 x.e],.pointer (some ⟨wr.heap.size+1,0,none⟩),.int .i64 x.op,.bool false,.agg #[.int .i64 x.op,.int .i64 x.d,.int .i64 x.a,.int .i64 x.b,.int .i64 x.t,.int .i64 x.e],.func (.func 75) #[] #[.pointer (some ⟨wr.heap.size+1+1,0,none⟩)],.int .i64 (m:Int),.slice (some ⟨rb,0,none⟩) ns.length ns.length,.int .i64 (m:Int),.pointer (some ⟨rb,m,none⟩),.slice am (ahl ns m).length cm,.int .i64 ((ahl ns m).length:Int),.bool true,z41,.int .i64 (k:Int),z43,z44,z45,z46,z47,z48,z49,z50,z51,undef,undef,undef,undef,undef,u57,undef,undef,undef,undef,undef,undef,undef,undef],defers:=[] }∧w'' =(W.drew.alloc (.cells #[.int .i64 T.op,.int .i64 T.d,.int .i64 T.a,.int .i64 T.b,.int .i64 T.t,.int .i64 T.e] 48)).alloc (.cells #[.int .i64 T.op,.int .i64 T.d,.int .i64 T.a,.int .i64 T.b,.int .i64 T.t,.int .i64 T.e] 48)) (fun a' w'' h=>?_) ?_
         ·obtain ⟨rfl,rfl⟩:=h
          exact ⟨_,_,_,_,_,_,_,_,_,_,_,hsz', rfl,fun h=>e0 (by rwa [keep 0 (by omega)] at h),fun _=>rfl,fun h=>e2 (by rwa [keep 2 (by omega)] at h),fun h=>e3 (by rwa [keep 3 (by omega)] at h),fun h=>e4 (by rwa [keep 4 (by omega)] at h),fun h=>e5 (by rwa [keep 5 (by omega)] at h),fun h=>e6 (by rwa [keep 6 (by omega)] at h),fun h=>e7 (by rwa [keep 7 (by omega)] at h),fun h=>e8 (by rwa [keep 8 (by omega)] at h),fun h=>e9 (by rwa [keep 9 (by omega)] at h),fun h=>e10 (by rwa [keep 10 (by omega)] at h),Or.inr (Or.inl ⟨(keep 9 (by omega)).trans g9,(keep 11 (by omega)).trans g11,rfl⟩)⟩
         ·go_simp
        ·rw [hall 1 (by omega)] at hl'; cases hl'
       | 2,_ =>
        simp at ho;subst ho
        clear hd
        rcases hw with ⟨g9,g11,hwe⟩ | ⟨g9,g11,hwe⟩ | ⟨hall,hwe⟩
        ·obtain rfl:=hwe.symm
         refine Oper.wpIn_mono (K:=fun a' w'' =>a' ={ tmps:=#[.agg #[.int .i64 r,.slice (some ⟨b,off,none⟩) ns.length cap],.pointer (some ⟨w.heap.size,0,none⟩),.pointer (some ⟨w.heap.size+1,0,none⟩),.int .i64 0,.int .i64 0,.pointer (some ⟨w2.heap.size,0,none⟩),.pointer (some ⟨w3.heap.size,0,none⟩),.pointer (some ⟨wr.heap.size,0,none⟩),.pointer (some ⟨wr.heap.size+1,0,none⟩),.int .i64 (m:Int),.agg #[.int .i64 r,.slice (some ⟨b,off,none⟩) ns.length cap],.int .i64 0,.int .i64 0,.bool false,undef,undef,.agg #[.int .i64 r,.slice (some ⟨b,off,none⟩) ns.length cap],.slice (some ⟨rb,0,none⟩) ns.length ns.length,.pointer (some ⟨w.heap.size,1,none⟩),.slice (some ⟨b,off,none⟩) ns.length cap,.slice (some ⟨g0,0,none⟩) ns.length gc0,.pointer (some ⟨w.heap.size,1,none⟩),.slice (some ⟨b,off,none⟩) ns.length cap,.int .i64 (ns.length:Int),.int .i64 (k:Int),.bool true,.int .i64 (k:Int),.pointer (some ⟨b,off+k*6,none⟩),.agg #[.int .i64 x.op,.int .i64 x.d,.int .i64 x.a,.int .i64 x.b,.int .i64 x.t,.int .i64 x.e],.pointer (some ⟨wr.heap.size+1,0,none⟩),.int .i64 x.op,.bool false,.agg #[.int .i64 x.op,.int .i64 x.d,.int .i64 x.a,.int .i64 x.b,.int .i64 x.t,.int .i64 x.e],.func (.func 75) #[] #[.pointer (some ⟨wr.heap.size+1+1,0,none⟩)],.int .i64 (m:Int),.slice (some ⟨rb,0,none⟩) ns.length ns.length,.int .i64 (m:Int),.pointer (some ⟨rb,m,none⟩),.slice am (ahl ns m).length cm,.int .i64 ((ahl ns m).length:Int),.bool true,z41,z42,.slice (some ⟨g,0,none⟩) out.length vc,z44,z45,z46,z47,z48,z49,z50,z51,undef,undef,undef,undef,undef,u57,undef,undef,undef,undef,undef,undef,undef,undef],defers:=[] }∧w'' =W.drew) (fun a' w'' h=>?_) ?_
         ·obtain ⟨rfl,rfl⟩:=h
          exact ⟨_,_,_,_,_,_,_,_,_,_,_,hsz', rfl,fun h=>e0 (by rwa [keep 0 (by omega)] at h),fun h=>e1 (by rwa [keep 1 (by omega)] at h),fun _=>rfl,fun h=>e3 (by rwa [keep 3 (by omega)] at h),fun h=>e4 (by rwa [keep 4 (by omega)] at h),fun h=>e5 (by rwa [keep 5 (by omega)] at h),fun h=>e6 (by rwa [keep 6 (by omega)] at h),fun h=>e7 (by rwa [keep 7 (by omega)] at h),fun h=>e8 (by rwa [keep 8 (by omega)] at h),fun h=>e9 (by rwa [keep 9 (by omega)] at h),fun h=>e10 (by rwa [keep 10 (by omega)] at h),Or.inl ⟨(keep 9 (by omega)).trans g9,(keep 11 (by omega)).trans g11,rfl⟩⟩
         ·go_simp
        ·rw [(hC 4 _ rfl (hC 5 _ rfl (hC 9 _ rfl g9 ⟨5,.data⟩ (by simp) rfl) ⟨4,.data⟩ (by simp) rfl) ⟨2,.data⟩ (by simp) rfl)] at hl'; cases hl'
        ·rw [hall 2 (by omega)] at hl'; cases hl'
       | 3,_ =>
        simp at ho;subst ho
        clear hd
        rcases hw with ⟨g9,g11,hwe⟩ | ⟨g9,g11,hwe⟩ | ⟨hall,hwe⟩
        ·obtain rfl:=hwe.symm
         refine Oper.wpIn_mono (K:=fun a' w'' =>a' ={ tmps:=#[.agg #[.int .i64 r,.slice (some ⟨b,off,none⟩) ns.length cap],.pointer (some ⟨w.heap.size,0,none⟩),.pointer (some ⟨w.heap.size+1,0,none⟩),.int .i64 0,.int .i64 0,.pointer (some ⟨w2.heap.size,0,none⟩),.pointer (some ⟨w3.heap.size,0,none⟩),.pointer (some ⟨wr.heap.size,0,none⟩),.pointer (some ⟨wr.heap.size+1,0,none⟩),.int .i64 (m:Int),.agg #[.int .i64 r,.slice (some ⟨b,off,none⟩) ns.length cap],.int .i64 0,.int .i64 0,.bool false,undef,undef,.agg #[.int .i64 r,.slice (some ⟨b,off,none⟩) ns.length cap],.slice (some ⟨rb,0,none⟩) ns.length ns.length,.pointer (some ⟨w.heap.size,1,none⟩),.slice (some ⟨b,off,none⟩) ns.length cap,.slice (some ⟨g0,0,none⟩) ns.length gc0,.pointer (some ⟨w.heap.size,1,none⟩),.slice (some ⟨b,off,none⟩) ns.length cap,.int .i64 (ns.length:Int),.int .i64 (k:Int),.bool true,.int .i64 (k:Int),.pointer (some ⟨b,off+k*6,none⟩),.agg #[.int .i64 x.op,.int .i64 x.d,.int .i64 x.a,.int .i64 x.b,.int .i64 x.t,.int .i64 x.e],.pointer (some ⟨wr.heap.size+1,0,none⟩),.int .i64 x.op,.bool false,.agg #[.int .i64 x.op,.int .i64 x.d,.int .i64 x.a,.int .i64 x.b,.int .i64 x.t,.int .i64 x.e],.func (.func 75) #[] #[.pointer (some ⟨wr.heap.size+1+1,0,none⟩)],.int .i64 (m:Int),.slice (some ⟨rb,0,none⟩) ns.length ns.length,.int .i64 (m:Int),.pointer (some ⟨rb,m,none⟩),.slice am (ahl ns m).length cm,.int .i64 ((ahl ns m).length:Int),.bool true,z41,z42,z43,.int .i64 (k:Int),z45,z46,z47,z48,z49,z50,z51,undef,undef,undef,undef,undef,u57,undef,undef,undef,undef,undef,undef,undef,undef],defers:=[] }∧w'' =W.drew) (fun a' w'' h=>?_) ?_
         ·obtain ⟨rfl,rfl⟩:=h
          exact ⟨_,_,_,_,_,_,_,_,_,_,_,hsz', rfl,fun h=>e0 (by rwa [keep 0 (by omega)] at h),fun h=>e1 (by rwa [keep 1 (by omega)] at h),fun h=>e2 (by rwa [keep 2 (by omega)] at h),fun _=>rfl,fun h=>e4 (by rwa [keep 4 (by omega)] at h),fun h=>e5 (by rwa [keep 5 (by omega)] at h),fun h=>e6 (by rwa [keep 6 (by omega)] at h),fun h=>e7 (by rwa [keep 7 (by omega)] at h),fun h=>e8 (by rwa [keep 8 (by omega)] at h),fun h=>e9 (by rwa [keep 9 (by omega)] at h),fun h=>e10 (by rwa [keep 10 (by omega)] at h),Or.inl ⟨(keep 9 (by omega)).trans g9,(keep 11 (by omega)).trans g11,rfl⟩⟩
         ·go_simp
        ·rw [(hC 4 _ rfl (hC 5 _ rfl (hC 9 _ rfl g9 ⟨5,.data⟩ (by simp) rfl) ⟨4,.data⟩ (by simp) rfl) ⟨3,.data⟩ (by simp) rfl)] at hl'; cases hl'
        ·rw [hall 3 (by omega)] at hl'; cases hl'
       | 4,_ =>
        simp at ho;subst ho
        have d2:listed.getD 2 false=true:=hd ⟨2,.data⟩ (by simp) rfl
        have d3:listed.getD 3 false=true:=hd ⟨3,.data⟩ (by simp) rfl
        obtain rfl:=(e2 d2).symm
        obtain rfl:=(e3 d3).symm
        clear hd
        rcases hw with ⟨g9,g11,hwe⟩ | ⟨g9,g11,hwe⟩ | ⟨hall,hwe⟩
        ·obtain rfl:=hwe.symm
         refine Oper.wpIn_mono (K:=fun a' w'' =>a' ={ tmps:=#[.agg #[.int .i64 r,.slice (some ⟨b,off,none⟩) ns.length cap],.pointer (some ⟨w.heap.size,0,none⟩),.pointer (some ⟨w.heap.size+1,0,none⟩),.int .i64 0,.int .i64 0,.pointer (some ⟨w2.heap.size,0,none⟩),.pointer (some ⟨w3.heap.size,0,none⟩),.pointer (some ⟨wr.heap.size,0,none⟩),.pointer (some ⟨wr.heap.size+1,0,none⟩),.int .i64 (m:Int),.agg #[.int .i64 r,.slice (some ⟨b,off,none⟩) ns.length cap],.int .i64 0,.int .i64 0,.bool false,undef,undef,.agg #[.int .i64 r,.slice (some ⟨b,off,none⟩) ns.length cap],.slice (some ⟨rb,0,none⟩) ns.length ns.length,.pointer (some ⟨w.heap.size,1,none⟩),.slice (some ⟨b,off,none⟩) ns.length cap,.slice (some ⟨g0,0,none⟩) ns.length gc0,.pointer (some ⟨w.heap.size,1,none⟩),.slice (some ⟨b,off,none⟩) ns.length cap,.int .i64 (ns.length:Int),.int .i64 (k:Int),.bool true,.int .i64 (k:Int),.pointer (some ⟨b,off+k*6,none⟩),.agg #[.int .i64 x.op,.int .i64 x.d,.int .i64 x.a,.int .i64 x.b,.int .i64 x.t,.int .i64 x.e],.pointer (some ⟨wr.heap.size+1,0,none⟩),.int .i64 x.op,.bool false,.agg #[.int .i64 x.op,.int .i64 x.d,.int .i64 x.a,.int .i64 x.b,.int .i64 x.t,.int .i64 x.e],.func (.func 75) #[] #[.pointer (some ⟨wr.heap.size+1+1,0,none⟩)],.int .i64 (m:Int),.slice (some ⟨rb,0,none⟩) ns.length ns.length,.int .i64 (m:Int),.pointer (some ⟨rb,m,none⟩),.slice am (ahl ns m).length cm,.int .i64 ((ahl ns m).length:Int),.bool true,z41,z42,.slice (some ⟨g,0,none⟩) out.length vc,.int .i64 (k:Int),.pointer (some ⟨g,k*6,none⟩),z46,z47,z48,z49,z50,z51,undef,undef,undef,undef,undef,u57,undef,undef,undef,undef,undef,undef,undef,undef],defers:=[] }∧w'' =W.drew) (fun a' w'' h=>?_) ?_
         ·obtain ⟨rfl,rfl⟩:=h
          exact ⟨_,_,_,_,_,_,_,_,_,_,_,hsz', rfl,fun h=>e0 (by rwa [keep 0 (by omega)] at h),fun h=>e1 (by rwa [keep 1 (by omega)] at h),fun _=>rfl,fun _=>rfl,fun _=>rfl,fun h=>e5 (by rwa [keep 5 (by omega)] at h),fun h=>e6 (by rwa [keep 6 (by omega)] at h),fun h=>e7 (by rwa [keep 7 (by omega)] at h),fun h=>e8 (by rwa [keep 8 (by omega)] at h),fun h=>e9 (by rwa [keep 9 (by omega)] at h),fun h=>e10 (by rwa [keep 10 (by omega)] at h),Or.inl ⟨(keep 9 (by omega)).trans g9,(keep 11 (by omega)).trans g11,rfl⟩⟩
         ·go_simp
        ·rw [(hC 5 _ rfl (hC 9 _ rfl g9 ⟨5,.data⟩ (by simp) rfl) ⟨4,.data⟩ (by simp) rfl)] at hl'; cases hl'
        ·rw [hall 4 (by omega)] at hl'; cases hl'
       | 5,_ =>
        simp at ho;subst ho
        have d4:listed.getD 4 false=true:=hd ⟨4,.data⟩ (by simp) rfl
        have d2:listed.getD 2 false=true:=hC 4 _ rfl d4 ⟨2,.data⟩ (by simp) rfl
        have d3:listed.getD 3 false=true:=hC 4 _ rfl d4 ⟨3,.data⟩ (by simp) rfl
        obtain rfl:=(e4 d4).symm
        obtain rfl:=(e2 d2).symm
        obtain rfl:=(e3 d3).symm
        clear hd
        rcases hw with ⟨g9,g11,hwe⟩ | ⟨g9,g11,hwe⟩ | ⟨hall,hwe⟩
        ·obtain rfl:=hwe.symm
         refine Oper.wpIn_mono (K:=fun a' w'' =>a' ={ tmps:=#[.agg #[.int .i64 r,.slice (some ⟨b,off,none⟩) ns.length cap],.pointer (some ⟨w.heap.size,0,none⟩),.pointer (some ⟨w.heap.size+1,0,none⟩),.int .i64 0,.int .i64 0,.pointer (some ⟨w2.heap.size,0,none⟩),.pointer (some ⟨w3.heap.size,0,none⟩),.pointer (some ⟨wr.heap.size,0,none⟩),.pointer (some ⟨wr.heap.size+1,0,none⟩),.int .i64 (m:Int),.agg #[.int .i64 r,.slice (some ⟨b,off,none⟩) ns.length cap],.int .i64 0,.int .i64 0,.bool false,undef,undef,.agg #[.int .i64 r,.slice (some ⟨b,off,none⟩) ns.length cap],.slice (some ⟨rb,0,none⟩) ns.length ns.length,.pointer (some ⟨w.heap.size,1,none⟩),.slice (some ⟨b,off,none⟩) ns.length cap,.slice (some ⟨g0,0,none⟩) ns.length gc0,.pointer (some ⟨w.heap.size,1,none⟩),.slice (some ⟨b,off,none⟩) ns.length cap,.int .i64 (ns.length:Int),.int .i64 (k:Int),.bool true,.int .i64 (k:Int),.pointer (some ⟨b,off+k*6,none⟩),.agg #[.int .i64 x.op,.int .i64 x.d,.int .i64 x.a,.int .i64 x.b,.int .i64 x.t,.int .i64 x.e],.pointer (some ⟨wr.heap.size+1,0,none⟩),.int .i64 x.op,.bool false,.agg #[.int .i64 x.op,.int .i64 x.d,.int .i64 x.a,.int .i64 x.b,.int .i64 x.t,.int .i64 x.e],.func (.func 75) #[] #[.pointer (some ⟨wr.heap.size+1+1,0,none⟩)],.int .i64 (m:Int),.slice (some ⟨rb,0,none⟩) ns.length ns.length,.int .i64 (m:Int),.pointer (some ⟨rb,m,none⟩),.slice am (ahl ns m).length cm,.int .i64 ((ahl ns m).length:Int),.bool true,z41,z42,.slice (some ⟨g,0,none⟩) out.length vc,.int .i64 (k:Int),.pointer (some ⟨g,k*6,none⟩),.agg #[.int .i64 y.op,.int .i64 y.d,.int .i64 y.a,.int .i64 y.b,.int .i64 y.t,.int .i64 y.e],z47,z48,z49,z50,z51,undef,undef,undef,undef,undef,u57,undef,undef,undef,undef,undef,undef,undef,undef],defers:=[] }∧w'' =W.drew) (fun a' w'' h=>?_) ?_
         ·obtain ⟨rfl,rfl⟩:=h
          exact ⟨_,_,_,_,_,_,_,_,_,_,_,hsz', rfl,fun h=>e0 (by rwa [keep 0 (by omega)] at h),fun h=>e1 (by rwa [keep 1 (by omega)] at h),fun _=>rfl,fun _=>rfl,fun _=>rfl,fun _=>rfl,fun h=>e6 (by rwa [keep 6 (by omega)] at h),fun h=>e7 (by rwa [keep 7 (by omega)] at h),fun h=>e8 (by rwa [keep 8 (by omega)] at h),fun h=>e9 (by rwa [keep 9 (by omega)] at h),fun h=>e10 (by rwa [keep 10 (by omega)] at h),Or.inl ⟨(keep 9 (by omega)).trans g9,(keep 11 (by omega)).trans g11,rfl⟩⟩
         ·go_simp
        ·rw [(hC 9 _ rfl g9 ⟨5,.data⟩ (by simp) rfl)] at hl'; cases hl'
        ·rw [hall 5 (by omega)] at hl'; cases hl'
       | 6,_ =>
        simp at ho;subst ho
        clear hd
        rcases hw with ⟨g9,g11,hwe⟩ | ⟨g9,g11,hwe⟩ | ⟨hall,hwe⟩
        ·obtain rfl:=hwe.symm
         refine Oper.wpIn_mono (K:=fun a' w'' =>a' ={ tmps:=#[.agg #[.int .i64 r,.slice (some ⟨b,off,none⟩) ns.length cap],.pointer (some ⟨w.heap.size,0,none⟩),.pointer (some ⟨w.heap.size+1,0,none⟩),.int .i64 0,.int .i64 0,.pointer (some ⟨w2.heap.size,0,none⟩),.pointer (some ⟨w3.heap.size,0,none⟩),.pointer (some ⟨wr.heap.size,0,none⟩),.pointer (some ⟨wr.heap.size+1,0,none⟩),.int .i64 (m:Int),.agg #[.int .i64 r,.slice (some ⟨b,off,none⟩) ns.length cap],.int .i64 0,.int .i64 0,.bool false,undef,undef,.agg #[.int .i64 r,.slice (some ⟨b,off,none⟩) ns.length cap],.slice (some ⟨rb,0,none⟩) ns.length ns.length,.pointer (some ⟨w.heap.size,1,none⟩),.slice (some ⟨b,off,none⟩) ns.length cap,.slice (some ⟨g0,0,none⟩) ns.length gc0,.pointer (some ⟨w.heap.size,1,none⟩),.slice (some ⟨b,off,none⟩) ns.length cap,.int .i64 (ns.length:Int),.int .i64 (k:Int),.bool true,.int .i64 (k:Int),.pointer (some ⟨b,off+k*6,none⟩),.agg #[.int .i64 x.op,.int .i64 x.d,.int .i64 x.a,.int .i64 x.b,.int .i64 x.t,.int .i64 x.e],.pointer (some ⟨wr.heap.size+1,0,none⟩),.int .i64 x.op,.bool false,.agg #[.int .i64 x.op,.int .i64 x.d,.int .i64 x.a,.int .i64 x.b,.int .i64 x.t,.int .i64 x.e],.func (.func 75) #[] #[.pointer (some ⟨wr.heap.size+1+1,0,none⟩)],.int .i64 (m:Int),.slice (some ⟨rb,0,none⟩) ns.length ns.length,.int .i64 (m:Int),.pointer (some ⟨rb,m,none⟩),.slice am (ahl ns m).length cm,.int .i64 ((ahl ns m).length:Int),.bool true,z41,z42,z43,z44,z45,z46,.int .i64 (m:Int),z48,z49,z50,z51,undef,undef,undef,undef,undef,u57,undef,undef,undef,undef,undef,undef,undef,undef],defers:=[] }∧w'' =W.drew) (fun a' w'' h=>?_) ?_
         ·obtain ⟨rfl,rfl⟩:=h
          exact ⟨_,_,_,_,_,_,_,_,_,_,_,hsz', rfl,fun h=>e0 (by rwa [keep 0 (by omega)] at h),fun h=>e1 (by rwa [keep 1 (by omega)] at h),fun h=>e2 (by rwa [keep 2 (by omega)] at h),fun h=>e3 (by rwa [keep 3 (by omega)] at h),fun h=>e4 (by rwa [keep 4 (by omega)] at h),fun h=>e5 (by rwa [keep 5 (by omega)] at h),fun _=>rfl,fun h=>e7 (by rwa [keep 7 (by omega)] at h),fun h=>e8 (by rwa [keep 8 (by omega)] at h),fun h=>e9 (by rwa [keep 9 (by omega)] at h),fun h=>e10 (by rwa [keep 10 (by omega)] at h),Or.inl ⟨(keep 9 (by omega)).trans g9,(keep 11 (by omega)).trans g11,rfl⟩⟩
         ·go_simp
        ·rw [(hC 9 _ rfl g9 ⟨6,.data⟩ (by simp) rfl)] at hl'; cases hl'
        ·rw [hall 6 (by omega)] at hl'; cases hl'
       | 7,_ =>
        simp at ho;subst ho
        clear hd
        rcases hw with ⟨g9,g11,hwe⟩ | ⟨g9,g11,hwe⟩ | ⟨hall,hwe⟩
        ·obtain rfl:=hwe.symm
         refine Oper.wpIn_mono (K:=fun a' w'' =>a' ={ tmps:=#[.agg #[.int .i64 r,.slice (some ⟨b,off,none⟩) ns.length cap],.pointer (some ⟨w.heap.size,0,none⟩),.pointer (some ⟨w.heap.size+1,0,none⟩),.int .i64 0,.int .i64 0,.pointer (some ⟨w2.heap.size,0,none⟩),.pointer (some ⟨w3.heap.size,0,none⟩),.pointer (some ⟨wr.heap.size,0,none⟩),.pointer (some ⟨wr.heap.size+1,0,none⟩),.int .i64 (m:Int),.agg #[.int .i64 r,.slice (some ⟨b,off,none⟩) ns.length cap],.int .i64 0,.int .i64 0,.bool false,undef,undef,.agg #[.int .i64 r,.slice (some ⟨b,off,none⟩) ns.length cap],.slice (some ⟨rb,0,none⟩) ns.length ns.length,.pointer (some ⟨w.heap.size,1,none⟩),.slice (some ⟨b,off,none⟩) ns.length cap,.slice (some ⟨g0,0,none⟩) ns.length gc0,.pointer (some ⟨w.heap.size,1,none⟩),.slice (some ⟨b,off,none⟩) ns.length cap,.int .i64 (ns.length:Int),.int .i64 (k:Int),.bool true,.int .i64 (k:Int),.pointer (some ⟨b,off+k*6,none⟩),.agg #[.int .i64 x.op,.int .i64 x.d,.int .i64 x.a,.int .i64 x.b,.int .i64 x.t,.int .i64 x.e],.pointer (some ⟨wr.heap.size+1,0,none⟩),.int .i64 x.op,.bool false,.agg #[.int .i64 x.op,.int .i64 x.d,.int .i64 x.a,.int .i64 x.b,.int .i64 x.t,.int .i64 x.e],.func (.func 75) #[] #[.pointer (some ⟨wr.heap.size+1+1,0,none⟩)],.int .i64 (m:Int),.slice (some ⟨rb,0,none⟩) ns.length ns.length,.int .i64 (m:Int),.pointer (some ⟨rb,m,none⟩),.slice am (ahl ns m).length cm,.int .i64 ((ahl ns m).length:Int),.bool true,z41,z42,z43,z44,z45,z46,z47,.slice (some ⟨g,0,none⟩) out.length vc,z49,z50,z51,undef,undef,undef,undef,undef,u57,undef,undef,undef,undef,undef,undef,undef,undef],defers:=[] }∧w'' =W.drew) (fun a' w'' h=>?_) ?_
         ·obtain ⟨rfl,rfl⟩:=h
          exact ⟨_,_,_,_,_,_,_,_,_,_,_,hsz', rfl,fun h=>e0 (by rwa [keep 0 (by omega)] at h),fun h=>e1 (by rwa [keep 1 (by omega)] at h),fun h=>e2 (by rwa [keep 2 (by omega)] at h),fun h=>e3 (by rwa [keep 3 (by omega)] at h),fun h=>e4 (by rwa [keep 4 (by omega)] at h),fun h=>e5 (by rwa [keep 5 (by omega)] at h),fun h=>e6 (by rwa [keep 6 (by omega)] at h),fun _=>rfl,fun h=>e8 (by rwa [keep 8 (by omega)] at h),fun h=>e9 (by rwa [keep 9 (by omega)] at h),fun h=>e10 (by rwa [keep 10 (by omega)] at h),Or.inl ⟨(keep 9 (by omega)).trans g9,(keep 11 (by omega)).trans g11,rfl⟩⟩
         ·go_simp
        ·rw [(hC 8 _ rfl (hC 9 _ rfl g9 ⟨8,.data⟩ (by simp) rfl) ⟨7,.data⟩ (by simp) rfl)] at hl'; cases hl'
        ·rw [hall 7 (by omega)] at hl'; cases hl'
       | 8,_ =>
        simp at ho;subst ho
        have d7:listed.getD 7 false=true:=hd ⟨7,.data⟩ (by simp) rfl
        obtain rfl:=(e7 d7).symm
        clear hd
        rcases hw with ⟨g9,g11,hwe⟩ | ⟨g9,g11,hwe⟩ | ⟨hall,hwe⟩
        ·obtain rfl:=hwe.symm
         refine Oper.wpIn_mono (K:=fun a' w'' =>a' ={ tmps:=#[.agg #[.int .i64 r,.slice (some ⟨b,off,none⟩) ns.length cap],.pointer (some ⟨w.heap.size,0,none⟩),.pointer (some ⟨w.heap.size+1,0,none⟩),.int .i64 0,.int .i64 0,.pointer (some ⟨w2.heap.size,0,none⟩),.pointer (some ⟨w3.heap.size,0,none⟩),.pointer (some ⟨wr.heap.size,0,none⟩),.pointer (some ⟨wr.heap.size+1,0,none⟩),.int .i64 (m:Int),.agg #[.int .i64 r,.slice (some ⟨b,off,none⟩) ns.length cap],.int .i64 0,.int .i64 0,.bool false,undef,undef,.agg #[.int .i64 r,.slice (some ⟨b,off,none⟩) ns.length cap],.slice (some ⟨rb,0,none⟩) ns.length ns.length,.pointer (some ⟨w.heap.size,1,none⟩),.slice (some ⟨b,off,none⟩) ns.length cap,.slice (some ⟨g0,0,none⟩) ns.length gc0,.pointer (some ⟨w.heap.size,1,none⟩),.slice (some ⟨b,off,none⟩) ns.length cap,.int .i64 (ns.length:Int),.int .i64 (k:Int),.bool true,.int .i64 (k:Int),.pointer (some ⟨b,off+k*6,none⟩),.agg #[.int .i64 x.op,.int .i64 x.d,.int .i64 x.a,.int .i64 x.b,.int .i64 x.t,.int .i64 x.e],.pointer (some ⟨wr.heap.size+1,0,none⟩),.int .i64 x.op,.bool false,.agg #[.int .i64 x.op,.int .i64 x.d,.int .i64 x.a,.int .i64 x.b,.int .i64 x.t,.int .i64 x.e],.func (.func 75) #[] #[.pointer (some ⟨wr.heap.size+1+1,0,none⟩)],.int .i64 (m:Int),.slice (some ⟨rb,0,none⟩) ns.length ns.length,.int .i64 (m:Int),.pointer (some ⟨rb,m,none⟩),.slice am (ahl ns m).length cm,.int .i64 ((ahl ns m).length:Int),.bool true,z41,z42,z43,z44,z45,z46,z47,.slice (some ⟨g,0,none⟩) out.length vc,.int .i64 (out.length:Int),z50,z51,undef,undef,undef,undef,undef,u57,undef,undef,undef,undef,undef,undef,undef,undef],defers:=[] }∧w'' =W.drew) (fun a' w'' h=>?_) ?_
         ·obtain ⟨rfl,rfl⟩:=h
          exact ⟨_,_,_,_,_,_,_,_,_,_,_,hsz', rfl,fun h=>e0 (by rwa [keep 0 (by omega)] at h),fun h=>e1 (by rwa [keep 1 (by omega)] at h),fun h=>e2 (by rwa [keep 2 (by omega)] at h),fun h=>e3 (by rwa [keep 3 (by omega)] at h),fun h=>e4 (by rwa [keep 4 (by omega)] at h),fun h=>e5 (by rwa [keep 5 (by omega)] at h),fun h=>e6 (by rwa [keep 6 (by omega)] at h),fun _=>rfl,fun _=>rfl,fun h=>e9 (by rwa [keep 9 (by omega)] at h),fun h=>e10 (by rwa [keep 10 (by omega)] at h),Or.inl ⟨(keep 9 (by omega)).trans g9,(keep 11 (by omega)).trans g11,rfl⟩⟩
         ·go_simp
        ·rw [(hC 9 _ rfl g9 ⟨8,.data⟩ (by simp) rfl)] at hl'; cases hl'
        ·rw [hall 8 (by omega)] at hl'; cases hl'
       | 9,_ =>
        simp at ho;subst ho
        have d5:listed.getD 5 false=true:=hd ⟨5,.data⟩ (by simp) rfl
        have d6:listed.getD 6 false=true:=hd ⟨6,.data⟩ (by simp) rfl
        have d8:listed.getD 8 false=true:=hd ⟨8,.data⟩ (by simp) rfl
        have d4:listed.getD 4 false=true:=hC 5 _ rfl d5 ⟨4,.data⟩ (by simp) rfl
        have d7:listed.getD 7 false=true:=hC 8 _ rfl d8 ⟨7,.data⟩ (by simp) rfl
        have d2:listed.getD 2 false=true:=hC 4 _ rfl d4 ⟨2,.data⟩ (by simp) rfl
        have d3:listed.getD 3 false=true:=hC 4 _ rfl d4 ⟨3,.data⟩ (by simp) rfl
        obtain rfl:=(e5 d5).symm
        obtain rfl:=(e6 d6).symm
        obtain rfl:=(e8 d8).symm
        obtain rfl:=(e4 d4).symm
        obtain rfl:=(e7 d7).symm
        obtain rfl:=(e2 d2).symm
        obtain rfl:=(e3 d3).symm
        clear hd
        rcases hw with ⟨g9,g11,hwe⟩ | ⟨g9,g11,hwe⟩ | ⟨hall,hwe⟩
        ·obtain rfl:=hwe.symm
         refine Oper.wpIn_mono (K:=fun a' w'' =>a' ={ tmps:=#[.agg #[.int .i64 r,.slice (some ⟨b,off,none⟩) ns.length cap],.pointer (some ⟨w.heap.size,0,none⟩),.pointer (some ⟨w.heap.size+1,0,none⟩),.int .i64 0,.int .i64 0,.pointer (some ⟨w2.heap.size,0,none⟩),.pointer (some ⟨w3.heap.size,0,none⟩),.pointer (some ⟨wr.heap.size,0,none⟩),.pointer (some ⟨wr.heap.size+1,0,none⟩),.int .i64 (m:Int),.agg #[.int .i64 r,.slice (some ⟨b,off,none⟩) ns.length cap],.int .i64 0,.int .i64 0,.bool false,undef,undef,.agg #[.int .i64 r,.slice (some ⟨b,off,none⟩) ns.length cap],.slice (some ⟨rb,0,none⟩) ns.length ns.length,.pointer (some ⟨w.heap.size,1,none⟩),.slice (some ⟨b,off,none⟩) ns.length cap,.slice (some ⟨g0,0,none⟩) ns.length gc0,.pointer (some ⟨w.heap.size,1,none⟩),.slice (some ⟨b,off,none⟩) ns.length cap,.int .i64 (ns.length:Int),.int .i64 (k:Int),.bool true,.int .i64 (k:Int),.pointer (some ⟨b,off+k*6,none⟩),.agg #[.int .i64 x.op,.int .i64 x.d,.int .i64 x.a,.int .i64 x.b,.int .i64 x.t,.int .i64 x.e],.pointer (some ⟨wr.heap.size+1,0,none⟩),.int .i64 x.op,.bool false,.agg #[.int .i64 x.op,.int .i64 x.d,.int .i64 x.a,.int .i64 x.b,.int .i64 x.t,.int .i64 x.e],.func (.func 75) #[] #[.pointer (some ⟨wr.heap.size+1+1,0,none⟩)],.int .i64 (m:Int),.slice (some ⟨rb,0,none⟩) ns.length ns.length,.int .i64 (m:Int),.pointer (some ⟨rb,m,none⟩),.slice am (ahl ns m).length cm,.int .i64 ((ahl ns m).length:Int),.bool true,z41,z42,.slice (some ⟨g,0,none⟩) out.length vc,.int .i64 (k:Int),.pointer (some ⟨g,k*6,none⟩),.agg #[.int .i64 y.op,.int .i64 y.d,.int .i64 y.a,.int .i64 y.b,.int .i64 y.t,.int .i64 y.e],.int .i64 (m:Int),.slice (some ⟨g,0,none⟩) out.length vc,.int .i64 (out.length:Int),.agg #[.int .i64 T.op,.int .i64 T.d,.int .i64 T.a,.int .i64 T.b,.int .i64 T.t,.int .i64 T.e],z51,undef,undef,undef,undef,undef,u57,undef,undef,undef,undef,undef,undef,undef,undef],defers:=[] }∧w'' =(W.drew.alloc (.cells #[.int .i64 T.op,.int .i64 T.d,.int .i64 T.a,.int .i64 T.b,.int .i64 T.t,.int .i64 T.e] 48)).alloc (.cells #[.int .i64 T.op,.int .i64 T.d,.int .i64 T.a,.int .i64 T.b,.int .i64 T.t,.int .i64 T.e] 48)) (fun a' w'' h=>?_) ?_
         ·obtain ⟨rfl,rfl⟩:=h
          exact ⟨_,_,_,_,_,_,_,_,_,_,_,hsz', rfl,fun h=>e0 (by rwa [keep 0 (by omega)] at h),fun h=>e1 (by rwa [keep 1 (by omega)] at h),fun _=>rfl,fun _=>rfl,fun _=>rfl,fun _=>rfl,fun _=>rfl,fun _=>rfl,fun _=>rfl,fun _=>rfl,fun h=>e10 (by rwa [keep 10 (by omega)] at h),Or.inr (Or.inl ⟨sett,(keep 11 (by omega)).trans g11,rfl⟩)⟩
         ·go_simp
          refine ⟨trivial,CallsIn.inRound l ((callsIn_wide.2 (HTU.out _)).mono ?_)⟩
          rintro e w' ⟨rfl,rfl⟩
          exact ⟨rfl,rfl⟩
        ·rw [g9] at hl'; cases hl'
        ·rw [hall 9 (by omega)] at hl'; cases hl'
       | 10,_ =>
        simp at ho;subst ho
        have d0:listed.getD 0 false=true:=hd ⟨0,.phase⟩ (by simp) rfl
        have d1:listed.getD 1 false=true:=hd ⟨1,.phase⟩ (by simp) rfl
        have d2:listed.getD 2 false=true:=hd ⟨2,.phase⟩ (by simp) rfl
        have d3:listed.getD 3 false=true:=hd ⟨3,.phase⟩ (by simp) rfl
        have d4:listed.getD 4 false=true:=hd ⟨4,.phase⟩ (by simp) rfl
        have d5:listed.getD 5 false=true:=hd ⟨5,.phase⟩ (by simp) rfl
        have d6:listed.getD 6 false=true:=hd ⟨6,.phase⟩ (by simp) rfl
        have d7:listed.getD 7 false=true:=hd ⟨7,.phase⟩ (by simp) rfl
        have d8:listed.getD 8 false=true:=hd ⟨8,.phase⟩ (by simp) rfl
        have d9:listed.getD 9 false=true:=hd ⟨9,.phase⟩ (by simp) rfl
        obtain rfl:=(e0 d0).symm
        obtain rfl:=(e1 d1).symm
        obtain rfl:=(e2 d2).symm
        obtain rfl:=(e3 d3).symm
        obtain rfl:=(e4 d4).symm
        obtain rfl:=(e5 d5).symm
        obtain rfl:=(e6 d6).symm
        obtain rfl:=(e7 d7).symm
        obtain rfl:=(e8 d8).symm
        obtain rfl:=(e9 d9).symm
        clear hd
        rcases hw with ⟨g9,g11,hwe⟩ | ⟨g9,g11,hwe⟩ | ⟨hall,hwe⟩
        ·rw [d9] at g9;cases g9
        ·obtain rfl:=hwe.symm
         refine Oper.wpIn_mono (K:=fun a' w'' =>a' ={ tmps:=#[.agg #[.int .i64 r,.slice (some ⟨b,off,none⟩) ns.length cap],.pointer (some ⟨w.heap.size,0,none⟩),.pointer (some ⟨w.heap.size+1,0,none⟩),.int .i64 0,.int .i64 0,.pointer (some ⟨w2.heap.size,0,none⟩),.pointer (some ⟨w3.heap.size,0,none⟩),.pointer (some ⟨wr.heap.size,0,none⟩),.pointer (some ⟨wr.heap.size+1,0,none⟩),.int .i64 (m:Int),.agg #[.int .i64 r,.slice (some ⟨b,off,none⟩) ns.length cap],.int .i64 0,.int .i64 0,.bool false,undef,undef,.agg #[.int .i64 r,.slice (some ⟨b,off,none⟩) ns.length cap],.slice (some ⟨rb,0,none⟩) ns.length ns.length,.pointer (some ⟨w.heap.size,1,none⟩),.slice (some ⟨b,off,none⟩) ns.length cap,.slice (some ⟨g0,0,none⟩) ns.length gc0,.pointer (some ⟨w.heap.size,1,none⟩),.slice (some ⟨b,off,none⟩) ns.length cap,.int .i64 (ns.length:Int),.int .i64 (k:Int),.bool true,.int .i64 (k:Int),.pointer (some ⟨b,off+k*6,none⟩),.agg #[.int .i64 x.op,.int .i64 x.d,.int .i64 x.a,.int .i64 x.b,.int .i64 x.t,.int .i64 x.e],.pointer (some ⟨wr.heap.size+1,0,none⟩),.int .i64 x.op,.bool false,.agg #[.int .i64 x.op,.int .i64 x.d,.int .i64 x.a,.int .i64 x.b,.int .i64 x.t,.int .i64 x.e],.func (.func 75) #[] #[.pointer (some ⟨wr.heap.size+1+1,0,none⟩)],.int .i64 (m:Int),.slice (some ⟨rb,0,none⟩) ns.length ns.length,.int .i64 (m:Int),.pointer (some ⟨rb,m,none⟩),.slice am (ahl ns m).length cm,.int .i64 ((ahl ns m).length:Int),.bool true,.slice (some ⟨g,0,none⟩) out.length vc,.int .i64 (k:Int),.slice (some ⟨g,0,none⟩) out.length vc,.int .i64 (k:Int),.pointer (some ⟨g,k*6,none⟩),.agg #[.int .i64 y.op,.int .i64 y.d,.int .i64 y.a,.int .i64 y.b,.int .i64 y.t,.int .i64 y.e],.int .i64 (m:Int),.slice (some ⟨g,0,none⟩) out.length vc,.int .i64 (out.length:Int),.agg #[.int .i64 T.op,.int .i64 T.d,.int .i64 T.a,.int .i64 T.b,.int .i64 T.t,.int .i64 T.e],.pointer (some ⟨g,k*6,none⟩),undef,undef,undef,undef,undef,u57,undef,undef,undef,undef,undef,undef,undef,undef],defers:=[] }∧w'' =(W.drew.alloc (.cells #[.int .i64 T.op,.int .i64 T.d,.int .i64 T.a,.int .i64 T.b,.int .i64 T.t,.int .i64 T.e] 48)).alloc (.cells #[.int .i64 T.op,.int .i64 T.d,.int .i64 T.a,.int .i64 T.b,.int .i64 T.t,.int .i64 T.e] 48)) (fun a' w'' h=>?_) ?_
         ·obtain ⟨rfl,rfl⟩:=h
          exact ⟨_,_,_,_,_,_,_,_,_,_,_,hsz', rfl,fun _=>rfl,fun _=>rfl,fun _=>rfl,fun _=>rfl,fun _=>rfl,fun _=>rfl,fun _=>rfl,fun _=>rfl,fun _=>rfl,fun _=>rfl,fun _=>rfl,Or.inr (Or.inl ⟨(keep 9 (by omega)).trans g9,(keep 11 (by omega)).trans g11,rfl⟩)⟩
         ·go_simp
        ·rw [hall 10 (by omega)] at hl'; cases hl'
       | 11,_ =>
        simp at ho;subst ho
        have d10:listed.getD 10 false=true:=hd ⟨10,.data⟩ (by simp) rfl
        have d0:listed.getD 0 false=true:=hd ⟨0,.phase⟩ (by simp) rfl
        have d1:listed.getD 1 false=true:=hd ⟨1,.phase⟩ (by simp) rfl
        have d2:listed.getD 2 false=true:=hd ⟨2,.phase⟩ (by simp) rfl
        have d3:listed.getD 3 false=true:=hd ⟨3,.phase⟩ (by simp) rfl
        have d4:listed.getD 4 false=true:=hd ⟨4,.phase⟩ (by simp) rfl
        have d5:listed.getD 5 false=true:=hd ⟨5,.phase⟩ (by simp) rfl
        have d6:listed.getD 6 false=true:=hd ⟨6,.phase⟩ (by simp) rfl
        have d7:listed.getD 7 false=true:=hd ⟨7,.phase⟩ (by simp) rfl
        have d8:listed.getD 8 false=true:=hd ⟨8,.phase⟩ (by simp) rfl
        have d9:listed.getD 9 false=true:=hd ⟨9,.phase⟩ (by simp) rfl
        obtain rfl:=(e10 d10).symm
        obtain rfl:=(e0 d0).symm
        obtain rfl:=(e1 d1).symm
        obtain rfl:=(e2 d2).symm
        obtain rfl:=(e3 d3).symm
        obtain rfl:=(e4 d4).symm
        obtain rfl:=(e5 d5).symm
        obtain rfl:=(e6 d6).symm
        obtain rfl:=(e7 d7).symm
        obtain rfl:=(e8 d8).symm
        obtain rfl:=(e9 d9).symm
        clear hd
        rcases hw with ⟨g9,g11,hwe⟩ | ⟨g9,g11,hwe⟩ | ⟨hall,hwe⟩
        ·rw [d9] at g9;cases g9
        ·obtain rfl:=hwe.symm
         refine Oper.wpIn_mono (K:=fun a' w'' =>a' ={ tmps:=#[.agg #[.int .i64 r,.slice (some ⟨b,off,none⟩) ns.length cap],.pointer (some ⟨w.heap.size,0,none⟩),.pointer (some ⟨w.heap.size+1,0,none⟩),.int .i64 0,.int .i64 0,.pointer (some ⟨w2.heap.size,0,none⟩),.pointer (some ⟨w3.heap.size,0,none⟩),.pointer (some ⟨wr.heap.size,0,none⟩),.pointer (some ⟨wr.heap.size+1,0,none⟩),.int .i64 (m:Int),.agg #[.int .i64 r,.slice (some ⟨b,off,none⟩) ns.length cap],.int .i64 0,.int .i64 0,.bool false,undef,undef,.agg #[.int .i64 r,.slice (some ⟨b,off,none⟩) ns.length cap],.slice (some ⟨rb,0,none⟩) ns.length ns.length,.pointer (some ⟨w.heap.size,1,none⟩),.slice (some ⟨b,off,none⟩) ns.length cap,.slice (some ⟨g0,0,none⟩) ns.length gc0,.pointer (some ⟨w.heap.size,1,none⟩),.slice (some ⟨b,off,none⟩) ns.length cap,.int .i64 (ns.length:Int),.int .i64 (k:Int),.bool true,.int .i64 (k:Int),.pointer (some ⟨b,off+k*6,none⟩),.agg #[.int .i64 x.op,.int .i64 x.d,.int .i64 x.a,.int .i64 x.b,.int .i64 x.t,.int .i64 x.e],.pointer (some ⟨wr.heap.size+1,0,none⟩),.int .i64 x.op,.bool false,.agg #[.int .i64 x.op,.int .i64 x.d,.int .i64 x.a,.int .i64 x.b,.int .i64 x.t,.int .i64 x.e],.func (.func 75) #[] #[.pointer (some ⟨wr.heap.size+1+1,0,none⟩)],.int .i64 (m:Int),.slice (some ⟨rb,0,none⟩) ns.length ns.length,.int .i64 (m:Int),.pointer (some ⟨rb,m,none⟩),.slice am (ahl ns m).length cm,.int .i64 ((ahl ns m).length:Int),.bool true,.slice (some ⟨g,0,none⟩) out.length vc,.int .i64 (k:Int),.slice (some ⟨g,0,none⟩) out.length vc,.int .i64 (k:Int),.pointer (some ⟨g,k*6,none⟩),.agg #[.int .i64 y.op,.int .i64 y.d,.int .i64 y.a,.int .i64 y.b,.int .i64 y.t,.int .i64 y.e],.int .i64 (m:Int),.slice (some ⟨g,0,none⟩) out.length vc,.int .i64 (out.length:Int),.agg #[.int .i64 T.op,.int .i64 T.d,.int .i64 T.a,.int .i64 T.b,.int .i64 T.t,.int .i64 T.e],.pointer (some ⟨g,k*6,none⟩),undef,undef,undef,undef,undef,u57,undef,undef,undef,undef,undef,undef,undef,undef],defers:=[] }∧w'' =((((((((W.drew.alloc (.cells #[.int .i64 T.op,.int .i64 T.d,.int .i64 T.a,.int .i64 T.b,.int .i64 T.t,.int .i64 T.e] 48)).alloc (.cells #[.int .i64 T.op,.int .i64 T.d,.int .i64 T.a,.int .i64 T.b,.int .i64 T.t,.int .i64 T.e] 48)).setCell ⟨g,k*6,none⟩ (.int .i64 T.op)).setCell ⟨g,k*6+1,none⟩ (.int .i64 T.d)).setCell ⟨g,k*6+2,none⟩ (.int .i64 T.a)).setCell ⟨g,k*6+3,none⟩ (.int .i64 T.b)).setCell ⟨g,k*6+4,none⟩ (.int .i64 T.t)).setCell ⟨g,k*6+5,none⟩ (.int .i64 T.e))) (fun a' w'' h=>?_) ?_
         ·obtain ⟨rfl,rfl⟩:=h
          refine ⟨_,_,_,_,_,_,_,_,_,_,_,hsz', rfl,fun _=>rfl,fun _=>rfl,fun _=>rfl,fun _=>rfl,fun _=>rfl,fun _=>rfl,fun _=>rfl,fun _=>rfl,fun _=>rfl,fun _=>rfl,fun _=>rfl,Or.inr (Or.inr (⟨fun j hj=>?_,rfl⟩))⟩
          match j,hj with
          | 0,_=>exact (keep 0 (by omega)).trans d0
          | 1,_=>exact (keep 1 (by omega)).trans d1
          | 2,_=>exact (keep 2 (by omega)).trans d2
          | 3,_=>exact (keep 3 (by omega)).trans d3
          | 4,_=>exact (keep 4 (by omega)).trans d4
          | 5,_=>exact (keep 5 (by omega)).trans d5
          | 6,_=>exact (keep 6 (by omega)).trans d6
          | 7,_=>exact (keep 7 (by omega)).trans d7
          | 8,_=>exact (keep 8 (by omega)).trans d8
          | 9,_=>exact (keep 9 (by omega)).trans d9
          | 10,_=>exact (keep 10 (by omega)).trans d10
          | 11,_=>exact sett
          | jx+12,hj=>exact absurd hj (by omega)
         ·go_simp
        ·rw [hall 11 (by omega)] at hl'; cases hl'
      case h1 =>
       rintro listed a w' ⟨_,_,_,_,_,_,_,_,_,_,_,hsz,rfl,e0,e1,e2,e3,e4,e5,e6,e7,e8,e9,e10,hw⟩ hall
       obtain rfl:=(e0 (hall 0 (by decide))).symm
       obtain rfl:=(e1 (hall 1 (by decide))).symm
       obtain rfl:=(e2 (hall 2 (by decide))).symm
       obtain rfl:=(e3 (hall 3 (by decide))).symm
       obtain rfl:=(e4 (hall 4 (by decide))).symm
       obtain rfl:=(e5 (hall 5 (by decide))).symm
       obtain rfl:=(e6 (hall 6 (by decide))).symm
       obtain rfl:=(e7 (hall 7 (by decide))).symm
       obtain rfl:=(e8 (hall 8 (by decide))).symm
       obtain rfl:=(e9 (hall 9 (by decide))).symm
       obtain rfl:=(e10 (hall 10 (by decide))).symm
       rcases hw with ⟨g9,_,_⟩ | ⟨_,g11,_⟩ | ⟨_,hwe⟩
       ·rw [hall 9 (by decide)] at g9;cases g9
       ·rw [hall 11 (by decide)] at g11;cases g11
       obtain rfl:=hwe.symm
       dsimp only
       have hBb:Below W.heap.size W ((W.drew.alloc (.cells #[.int .i64 T.op,.int .i64 T.d,.int .i64 T.a,.int .i64 T.b,.int .i64 T.t,.int .i64 T.e] 48)).alloc (.cells #[.int .i64 T.op,.int .i64 T.d,.int .i64 T.a,.int .i64 T.b,.int .i64 T.t,.int .i64 T.e] 48)):=(((Below.refl _ W).drew).alloc (Nat.le_refl _) _).alloc (by simp) _
       have hgne:wr.heap.size+1+1≠g:=fun q=>hno (by rw [q];rfl)
       have hgcB:((W.drew.alloc (.cells #[.int .i64 T.op,.int .i64 T.d,.int .i64 T.a,.int .i64 T.b,.int .i64 T.t,.int .i64 T.e] 48)).alloc (.cells #[.int .i64 T.op,.int .i64 T.d,.int .i64 T.a,.int .i64 T.b,.int .i64 T.t,.int .i64 T.e] 48)).heap[g]?=some (.cells cur 48 (0,0)):=(hBb.block _ hgl).trans HGC.out
       have hrowF:=owns_node (y:=T) (ownsRow_below HROW.out hBb (Nat.le_refl _)) hkO
       rw [List.length_set] at hrowF
       have hKO:KeepsOthers W (sixN ((W.drew.alloc (.cells #[.int .i64 T.op,.int .i64 T.d,.int .i64 T.a,.int .i64 T.b,.int .i64 T.t,.int .i64 T.e] 48)).alloc (.cells #[.int .i64 T.op,.int .i64 T.d,.int .i64 T.a,.int .i64 T.b,.int .i64 T.t,.int .i64 T.e] 48)) g k T):=(((KeepsOthers.drew W).trans (KeepsOthers.alloc W.drew _)).trans (KeepsOthers.alloc _ _)).trans (six_keeps _ g k T)
       have hKF:KT (wr.heap.size+1+1) W (sixN ((W.drew.alloc (.cells #[.int .i64 T.op,.int .i64 T.d,.int .i64 T.a,.int .i64 T.b,.int .i64 T.t,.int .i64 T.e] 48)).alloc (.cells #[.int .i64 T.op,.int .i64 T.d,.int .i64 T.a,.int .i64 T.b,.int .i64 T.t,.int .i64 T.e] 48)) g k T):=(KT.of_below hBb HB3.out.lt).trans (six_kt hgcB hgne)
       have hBF:Below (w2.heap.size+1) W (sixN ((W.drew.alloc (.cells #[.int .i64 T.op,.int .i64 T.d,.int .i64 T.a,.int .i64 T.b,.int .i64 T.t,.int .i64 T.e] 48)).alloc (.cells #[.int .i64 T.op,.int .i64 T.d,.int .i64 T.a,.int .i64 T.b,.int .i64 T.t,.int .i64 T.e] 48)) g k T):=(hBb.mono (by omega)).trans (six_below _ k T hgb)
       have hxne:w3.heap.size≠g:=boxed_ne hbx HGC.out (by decide)
       have hnne:wr.heap.size≠g:=boxed_ne hb2 HGC.out (by decide)
       have hbxF:Boxed (sixN ((W.drew.alloc (.cells #[.int .i64 T.op,.int .i64 T.d,.int .i64 T.a,.int .i64 T.b,.int .i64 T.t,.int .i64 T.e] 48)).alloc (.cells #[.int .i64 T.op,.int .i64 T.d,.int .i64 T.a,.int .i64 T.b,.int .i64 T.t,.int .i64 T.e] 48)) g k T) w3.heap.size 22 (.slice (some ⟨g,0,none⟩) out.length vc):=(six_other hxne).trans ((hBb.block _ z1).trans hbx)
       have hb2F:Boxed (sixN ((W.drew.alloc (.cells #[.int .i64 T.op,.int .i64 T.d,.int .i64 T.a,.int .i64 T.b,.int .i64 T.t,.int .i64 T.e] 48)).alloc (.cells #[.int .i64 T.op,.int .i64 T.d,.int .i64 T.a,.int .i64 T.b,.int .i64 T.t,.int .i64 T.e] 48)) g k T) wr.heap.size 3 (.int .i64 (k:Int)):=(six_other hnne).trans ((hBb.block _ z2).trans hb2)
       have hsF:=hBF.size
       rw [show ((((((((W.drew.alloc (.cells #[.int .i64 T.op,.int .i64 T.d,.int .i64 T.a,.int .i64 T.b,.int .i64 T.t,.int .i64 T.e] 48)).alloc (.cells #[.int .i64 T.op,.int .i64 T.d,.int .i64 T.a,.int .i64 T.b,.int .i64 T.t,.int .i64 T.e] 48)).setCell ⟨g,k*6,none⟩ (.int .i64 T.op)).setCell ⟨g,k*6+1,none⟩ (.int .i64 T.d)).setCell ⟨g,k*6+2,none⟩ (.int .i64 T.a)).setCell ⟨g,k*6+3,none⟩ (.int .i64 T.b)).setCell ⟨g,k*6+4,none⟩ (.int .i64 T.t)).setCell ⟨g,k*6+5,none⟩ (.int .i64 T.e))=sixN ((W.drew.alloc (.cells #[.int .i64 T.op,.int .i64 T.d,.int .i64 T.a,.int .i64 T.b,.int .i64 T.t,.int .i64 T.e] 48)).alloc (.cells #[.int .i64 T.op,.int .i64 T.d,.int .i64 T.a,.int .i64 T.b,.int .i64 T.t,.int .i64 T.e] 48)) g k T from rfl]
       replace hrowF:(sixN ((W.drew.alloc (.cells #[.int .i64 T.op,.int .i64 T.d,.int .i64 T.a,.int .i64 T.b,.int .i64 T.t,.int .i64 T.e] 48)).alloc (.cells #[.int .i64 T.op,.int .i64 T.d,.int .i64 T.a,.int .i64 T.b,.int .i64 T.t,.int .i64 T.e] 48)) g k T).ownsRow (w2.heap.size+1) 48 6 (.slice (some ⟨g,0,none⟩) out.length vc) out.length ((out.set k T).flatMap encNd):=hrowF
       generalize sixN ((W.drew.alloc (.cells #[.int .i64 T.op,.int .i64 T.d,.int .i64 T.a,.int .i64 T.b,.int .i64 T.t,.int .i64 T.e] 48)).alloc (.cells #[.int .i64 T.op,.int .i64 T.d,.int .i64 T.a,.int .i64 T.b,.int .i64 T.t,.int .i64 T.e] 48)) g k T=WF at hrowF hKO hKF hBF hbxF hb2F hsF ⊢
       have hb3F:=hKF.node HB3.out
       have hxc:=hbxF.cell
       have hm1F:=hm1.others hKO
       have HB2F:=hide' hb2F
       have HM1F:=hide' hm1F
       clear c0 c1 c2 c3 c4 c5 f0 f1 f2 f3 f4 f5 hm1F hb2F hm1 xbc nbc hgcB hBb HTU
       have hsk:(skp (m:Int))=⟨0,0,0,0,(m:Int),0⟩:=rfl
       have HSK:=hide' hsk
       clear hsk
       have hlenb:out.length+1≤1000:=by omega
       gi_wp2_with (gi_at_builtin;refine wpListIn_append_own _ rfl _ _ 22 rfl (w2.heap.size+1) 48 i0 _ 6 48 Tryz.underlying22 hi0 hz0 hz1 hz2 rfl (by decide) _ _ _ rfl (hrowF.alloc _) ⟨WF.heap.size,0,none⟩ 1 1 (encNd (skp (m:Int))) rfl rfl ?cells (by simp [encNd,skp,Value.oneCell']) (by unfold maxLen;omega) (by omega) (by simp;omega) ?_)
       case cells =>
        intro j u hj
        simpa [encNd,skp] using hj
       intro v' w5 hown' hgrow _
       obtain ⟨g', cap', rfl⟩:=ownsRow_succ hown'
       obtain ⟨hv1,hv2,hr2,hk2,hbb2⟩:=hbxF.appended (by decide) hrowF (by have:=hBF.size;omega) (by omega) hown' hgrow
       have hc1:=hv1.cell
       have hf1:=hv1.frozen
       have hgrow' :(WF.alloc (.cells #[.int .i64 0,.int .i64 0,.int .i64 0,.int .i64 0,.int .i64 (m:Int),.int .i64 0] 48)).grownBy w5 (.slice (some ⟨g,0,none⟩) out.length vc:Value).ownBlock:=hgrow
       have hnb5:NodeBox w5 (wr.heap.size+1+1) x:=(hgrow'.block _ (by have:=hb3F.lt;simp;omega) (fun q=>by simp only [Value.ownBlock,Option.some.injEq] at q;exact hgne q)).trans ((Below.heap_alloc _ _ _ hb3F.lt).trans hb3F)
       have hno' :g' ≠wr.heap.size+1+1:=by
        intro q
        rcases hown'.2 with ⟨qq,_⟩ | ⟨g9,cap9,cur9,qq,_,a2,a3,_,a5,_⟩
        ·cases qq
        ·cases qq
         rw [q] at a2
         rw [show w5.heap[wr.heap.size+1+1]?=_ from hnb5] at a2
         cases a2
         simp at a5
         omega
       have hb25:Boxed w5 wr.heap.size 3 (.int .i64 (k:Int)):=(HB2F.out.alloc _).kept hgrow' (HB2F.out.not_row (by decide) hrowF)
       have hKA:KT (wr.heap.size+1+1) WF (w5.setCell ⟨w3.heap.size,0,none⟩ (.slice (some ⟨g', 0,none⟩) (out.length+1) cap')):=by
        have hv1' :w5.heap[w3.heap.size]?=some (.cells #[.slice (some ⟨g,0,none⟩) out.length vc] 22 (0,0)):=hv1
        refine ((KT.of_below ((Below.refl _ WF).alloc (Nat.le_refl _) _) hb3F.lt).trans (KT.grown hgrow' (by have:=hb3F.lt;simp;omega) fun j ej=>?_)).trans (KT.setCell (o:=0) hv1' (by decide) (boxed_ne hv1' hnb5 (by decide)) _)
        simp only [Value.ownBlock,Option.some.injEq] at ej
        subst ej
        rcases (hrowF.alloc (.cells #[.int .i64 0,.int .i64 0,.int .i64 0,.int .i64 0,.int .i64 (m:Int),.int .i64 0] 48)).2 with ⟨qq,_⟩ | ⟨g9,cap9,cur9,qq,_,hgb9,_⟩
        ·cases qq
        ·cases qq
         exact ⟨fun q=>hgne q.symm,_,_,_,hgb9,by decide⟩
       gi_wp2
       refine ⟨(hKO.trans hk2).from _,hKF.trans hKA,⟨⟨_,hv2,?_,?_⟩,?_,(hKF.trans hKA).node HB3.out,HM1F.out.others hk2⟩,hBW.trans (hBF.trans hbb2)⟩
       ·rw [HF.out,HSP.out,List.length_append,List.length_set,List.flatMap_append]
        simpa using hr2
       ·simp only [Value.ownBlock,ne_eq,Option.some.injEq];exact hno'
       ·exact (Below.heap_setCell _ _ _ _ (boxed_ne hb25 (show w5.heap[w3.heap.size]?=some (.cells #[.slice (some ⟨g,0,none⟩) out.length vc] 22 (0,0)) from hv1) (by decide))).trans hb25
     ·have hmi2:¬ (1:Int)<((ahl ns m).length:Int):=by omega
      have HSP:=hide' (show spl1 ns k out (m:Int)=out by
       unfold spl1;rw [Int.toNat_natCast,if_neg hmany])
      clear hmany
      gi_wp2
      refine ⟨KeepsFrom.refl _ _,KT.refl _ _,⟨⟨v,hbx,?_,hno⟩,hb2,hb3,hm1⟩,hBW⟩
      rw [HF.out,HSP.out];exact hrow
    case done =>
     rintro D ys W hD rfl ⟨⟨⟨v,hbx,hrow,hno⟩,hb2,hb3,hm1⟩,hBW⟩ hK
     rw [exv_all,← HS.out] at hrow
     have HRR:=hide' hrow
     have HM1:=hide' (hm1.cons hK fun E hE=>by have:=hMl E hE;omega)
     clear hrow hm1
     gi_wp2
     refine ⟨⟨k+1,v,_,_,_,_,_,_,_,_,_,_,_,_,D::ds,by omega,hbx,HRR.out,hBW,HM1.out,fun E hE=>?_,rfl⟩,?_⟩
     ·rcases List.mem_cons.1 hE with rfl | hE
      ·omega
      ·exact hD' E hE
     ·simp [intOf];omega
    case stop =>
     rintro D c pre W _ _ h _
     exact h.elim
  ·have ek:k=ns.length:=by omega
   subst ek
   obtain ⟨g,vc,rfl,hgb,hgl⟩:=hV.form (by omega)
   have xbc:=hX.cell
   have R0:=(hB.block _ (by omega)).trans Q0
   have R1:=(hB.block _ (by omega)).trans Q1
   have y0:=blk_cell R0 0
   simp at y0
   have e0:=blk_cell R1 0
   have e1:=blk_cell R1 1
   have f0:=blk_frozen R1 0
   have f1:=blk_frozen R1 1
   simp at e0 e1
   have hl1:w.heap.size<wr.heap.size:=by omega
   have hl2:w.heap.size+1<wr.heap.size:=by omega
   have HV:=hide' hV
   have HR1:=hide' R1
   clear hV R0 R1
   have hspl:splTo ns ns.length=splitN ns:=rfl
   have HSP:=hide' hspl
   clear hspl
   by_cases hbig:256<(splTo ns ns.length).length
   ·have hbi:(256:Int)<((splTo ns ns.length).length:Int):=by omega
    gi_wp2
    have hk2:((wr.setCell ⟨w.heap.size+1,0,none⟩ (.int .i64 0)).setCell ⟨w.heap.size+1,1,none⟩ (.slice none 0 0)).heap[w.heap.size+1]?=some (.cells #[.int .i64 0,.slice none 0 0] 24 (0,0)):=by
     rw [blk_set _ (blk_set _ HR1.out)];simp
    have hKO:KeepsOthers wr ((wr.setCell ⟨w.heap.size+1,0,none⟩ (.int .i64 0)).setCell ⟨w.heap.size+1,1,none⟩ (.slice none 0 0)):=(KeepsOthers.setCell _ _ _).trans (KeepsOthers.setCell _ _ _)
    refine leaves_marks (B:=w.heap.size) ds _ (hMk.others hKO) (fun D hD=>by have:=hD' D hD;omega) fun W' hS=>?_
    have a0:=blk_cell (hS.cells _ _ hk2 rfl) 0
    have a1:=blk_cell (hS.cells _ _ hk2 rfl) 1
    simp at a0 a1
    refine ⟨.tuple #[.agg #[.int .i64 0,.slice none 0 0],.int .i64 2],by simp [results,Tryz.results31,go_sem,a0,a1],0,_,2,rfl,Or.inr ⟨by rw [← HSP.out];exact hbig,rfl,rfl,rfl⟩,((hBw.setCell (p:=⟨w.heap.size+1,0,none⟩) (by simp) _).setCell (p:=⟨w.heap.size+1,1,none⟩) (by simp) _).trans hS.below⟩
   ·have hbi:¬ (256:Int)<((splTo ns ns.length).length:Int):=by omega
    gi_wp2
    have hk2:((wr.setCell ⟨w.heap.size+1,0,none⟩ (.int .i64 r)).setCell ⟨w.heap.size+1,1,none⟩ (.slice (some ⟨g,0,none⟩) (splTo ns ns.length).length vc)).heap[w.heap.size+1]?=some (.cells #[.int .i64 r,.slice (some ⟨g,0,none⟩) (splTo ns ns.length).length vc] 24 (0,0)):=by
     rw [blk_set _ (blk_set _ HR1.out)];simp
    have hKO:KeepsOthers wr ((wr.setCell ⟨w.heap.size+1,0,none⟩ (.int .i64 r)).setCell ⟨w.heap.size+1,1,none⟩ (.slice (some ⟨g,0,none⟩) (splTo ns ns.length).length vc)):=(KeepsOthers.setCell _ _ _).trans (KeepsOthers.setCell _ _ _)
    have o1:=owns_set (o:=1) (u:=.slice (some ⟨g,0,none⟩) (splTo ns ns.length).length vc) (owns_set (o:=0) (u:=.int .i64 r) HV.out HR1.out (by decide)) (blk_set _ HR1.out) (by decide)
    refine leaves_marks (B:=w.heap.size) ds _ (hMk.others hKO) (fun D hD=>by have:=hD' D hD;omega) fun W' hS=>?_
    have a0:=blk_cell (hS.cells _ _ hk2 rfl) 0
    have a1:=blk_cell (hS.cells _ _ hk2 rfl) 1
    simp at a0 a1
    refine ⟨.tuple #[.agg #[.int .i64 r,.slice (some ⟨g,0,none⟩) (splTo ns ns.length).length vc],.int .i64 0],by simp [results,Tryz.results31,go_sem,a0,a1],r,_,0,rfl,Or.inl ⟨by rw [← HSP.out];omega,rfl,rfl,?_⟩,((hBw.setCell (p:=⟨w.heap.size+1,0,none⟩) (by simp) _).setCell (p:=⟨w.heap.size+1,1,none⟩) (by simp) _).trans hS.below⟩
    rw [← HSP.out]
    exact ownsRow_base (hS.owns o1) (by omega)
end Go.Proofs.YtkkolclmfcmfbaaGreatDoor
namespace Go.Proofs.YtkkolclmfcmfbaaGreatDoor
open Go.RowKit Go.Shelf
theorem reach_err (r:Int) (a:Option Addr) (cap:Nat) (ns:List Nd) (w:World) (hN:SlN w a ns) (hc:chk r ns≠0) :
 Calls Tryz.prog 59 #[.agg #[.int .i64 r,.slice a ns.length cap]] w fun e w' =>e=.returned (.tuple #[.slice none 0 0,.int .i64 (chk r ns)])∧Below w.heap.size w w' :=by
 have hb0:Below w.heap.size w (w.alloc (.cells #[.int .i64 r,.slice a ns.length cap] 24)):=(Below.refl _ w).alloc (Nat.le_refl _) _
 have hck:=check_any r a cap ns _ (hN.below hb0)
 have hcb:(chk r ns != 0)=true:=by simpa using hc
 have HCK:=hide hck
 clear hck hc
 generalize chk r ns=c at hcb HCK ⊢
 go_enter Tryz.func59,Tryz.ntmps59
 go_wp2_with fail
 refine HCK.out.mono ?_
 rintro e w1 ⟨rfl,hb1⟩
 have hs1:=hb1.size
 simp only [World.size_alloc] at hs1 hb1
 have hB1:Below w.heap.size w w1:=hb0.trans (hb1.mono (by omega))
 go_wp2
 go_ret2
 exact ⟨rfl,hB1⟩
theorem reach_any (r:Int) (b off cap:Nat) (ns:List Nd) (w:World) (hN:NodesAt w b off ns) (hc:chk r ns=0) :
 Calls Tryz.prog 59 #[.agg #[.int .i64 r,.slice (some ⟨b,off,none⟩) ns.length cap]] w fun e w' =>∃ v,e=.returned (.tuple #[v,.int .i64 0])∧w'.ownsRow w.heap.size 4 1 v ns.length ((rchL ns).map Value.bool)∧Below w.heap.size w w' :=
 callsIn_wide.1 (reach_ok r b off cap ns w hN hc)
theorem trim_err (r:Int) (a:Option Addr) (cap:Nat) (ns:List Nd) (w:World) (hN:SlN w a ns) (hc:chk r ns≠0) :
 Calls Tryz.prog 34 #[.agg #[.int .i64 r,.slice a ns.length cap]] w fun e w' =>e=.returned (.tuple #[.agg #[.int .i64 0,.slice none 0 0],.int .i64 (chk r ns)])∧Below w.heap.size w w' :=by
 have hb0:Below w.heap.size w ((w.alloc (.cells #[.int .i64 r,.slice a ns.length cap] 24)).alloc (.cells #[.int .i64 0,.slice none 0 0] 24)):=((Below.refl _ w).alloc (Nat.le_refl _) _).alloc (by simp) _
 have hck:=reach_err r a cap ns _ (hN.below hb0) hc
 have hcb:(chk r ns != 0)=true:=by simpa using hc
 have HCK:=hide hck
 clear hck hc
 generalize chk r ns=c at hcb HCK ⊢
 go_enter Tryz.func34,Tryz.ntmps34
 go_wp2_with fail
 refine HCK.out.mono ?_
 rintro e w1 ⟨rfl,hb1⟩
 have hs1:=hb1.size
 have hk:w1.heap[w.heap.size+1]?=some (.cells #[.int .i64 0,.slice none 0 0] 24 (0,0)):=by
  rw [hb1.block _ (by simp)]
  have:=World.alloc_heap_new (w.alloc (.cells #[.int .i64 r,.slice a ns.length cap] 24)) (.cells #[.int .i64 0,.slice none 0 0] 24)
  rwa [World.size_alloc] at this
 simp only [World.size_alloc] at hs1 hb1
 have hB1:Below w.heap.size w w1:=hb0.trans (hb1.mono (by omega))
 have z0:=blk_cell hk 0
 have z1:=blk_cell hk 1
 have f0:=blk_frozen hk 0
 have f1:=blk_frozen hk 1
 simp at z0 z1
 go_wp2
 refine bodyPost_ret (v:=.tuple #[.agg #[.int .i64 0,.slice none 0 0],.int .i64 c]) ?_ rfl ⟨rfl,(hB1.setCell (p:=⟨w.heap.size+1,0,none⟩) (by simp) _).setCell (p:=⟨w.heap.size+1,1,none⟩) (by simp) _⟩
 have hk2:((w1.setCell ⟨w.heap.size+1,0,none⟩ (.int .i64 0)).setCell ⟨w.heap.size+1,1,none⟩ (.slice none 0 0)).heap[w.heap.size+1]?=some (.cells #[.int .i64 0,.slice none 0 0] 24 (0,0)):=by
  rw [blk_set _ (blk_set _ hk)];simp
 have y0:=blk_cell hk2 0
 have y1:=blk_cell hk2 1
 simp at y0 y1
 simp [results,Tryz.results34,go_sem,y0,y1]
end Go.Proofs.YtkkolclmfcmfbaaGreatDoor
