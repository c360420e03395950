/-
  Of the proof of WholePasses: LM, LN, LQ, GraphSame, ZJ, GC, LG, MC, GH, MA.
-/
import Derived.Test.YtegloodcbfalfaaGreatDoorW1
import Derived.Test.YtegloodcbfalfaaGreatDoorW2
import Derived.Test.YtegloodcbfalfaaGreatDoorW3
import Derived.Test.YtegloodcbfalfaaGreatDoorW5
import Derived.Test.YtegloodcbfalfaaGreatDoorW6
import Derived.Deep.DeepCutAuto
import Derived.ProofKit
import Derived.OpenShut
import Derived.Lib.SmallJoins
import Derived.Deep.Slices
import Derived.Test.YtegloodcbfalfaaGreatDoorSh
import Derived.Sort.OwnSortedInts
set_option linter.unusedVariables false
set_option linter.unusedSimpArgs false
set_option maxHeartbeats 40000000
set_option maxRecDepth 100000
namespace Go.Proofs.YtegloodcbfalfaaGreatDoor
open Go.RowKit
theorem aBA :(Tryz.prog.info? 4).map (fun i=>(i.zero,i.size,i.bytes))=some (some (.bool false),1,1):=by kernel_rfl
theorem VV (n:Nat):madeCells #[Value.bool false] n=((List.replicate n false).map Value.bool).toArray:=by
 apply Array.ext'
 rw [toList_madeCells_one]
 simp
theorem qB {w:World} {q m:Nat} {x:List Bool} (h:w.heap[q]?=some (.cells (x.map Value.bool).toArray 4 (0,0))) (hm:m<x.length):w.cell? ⟨q,m,none⟩=some (.bool (aM x m)):=by
 rw [aA h]
 rw [List.getElem?_toArray,List.getElem?_map,kE hm];rfl
theorem EU {w:World} {q:Nat} {x:List Bool} (h:w.heap[q]?=some (.cells (x.map Value.bool).toArray 4 (0,0))) (m:Nat) (b:Bool):(w.setCell ⟨q,m,none⟩ (.bool b)).heap[q]?=some (.cells ((x.set m b).map Value.bool).toArray 4 (0,0)):=by
 rw [aG _ h];simp only [List.map_set,List.setIfInBounds_toArray]
theorem VW (r:Int) (b off cap:Nat) (ns:List Nd) (w:World) (hN:aH w b off ns) (hc:bM r ns=0) :
 Calls Tryz.prog 45 #[.agg #[.int .i64 r,.slice (some ⟨b,off,none⟩) ns.length cap]] w fun e w' =>∃ v,e=.returned v∧w'.ownsRow w.heap.size 4 1 v ns.length ((bA ns).map Value.bool)∧Below w.heap.size w w' :=by
 have hl:=(bB hc).1
 have hms:∀ W:World,Sem.run Tryz.prog (Instr.makeSlice 73 (.int .i64 (ns.length:Int)) (.int .i64 (ns.length:Int))) W=.ok (.slice (some ⟨W.heap.size,0,none⟩) ns.length ns.length) (W.alloc (.cells (madeCells #[.bool false] ns.length) 4)):=fun W=>run_make_row' 73 4 _ 1 Tryz.underlying73 aBA rfl .i64 .i64 ns.length aF aF W
 go_enter Tryz.func45,Tryz.ntmps45
 go_upto_region 2 with fail
 have hB0:Below w.heap.size w ((w.alloc (.cells #[.int .i64 r,.slice (some ⟨b,off,none⟩) ns.length cap] 24)).alloc (.cells (madeCells #[.bool false] ns.length) 4)):=(dY).alloc aQ _
 have p1:((w.alloc (.cells #[.int .i64 r,.slice (some ⟨b,off,none⟩) ns.length cap] 24)).alloc (.cells (madeCells #[.bool false] ns.length) 4)).cell? ⟨w.heap.size,1,none⟩=some (.slice (some ⟨b,off,none⟩) ns.length cap):=by simp
 have hr0:((w.alloc (.cells #[.int .i64 r,.slice (some ⟨b,off,none⟩) ns.length cap] 24)).alloc (.cells (madeCells #[.bool false] ns.length) 4)).heap[w.heap.size+1]?=some (.cells ((List.replicate ns.length false).map Value.bool).toArray 4 (0,0)):=by
  have:=World.alloc_heap_new (w.alloc (.cells #[.int .i64 r,.slice (some ⟨b,off,none⟩) ns.length cap] 24)) (.cells (madeCells #[.bool false] ns.length) 4)
  rw [World.size_alloc] at this
  rw [this,VV]
 generalize ((w.alloc (.cells #[.int .i64 r,.slice (some ⟨b,off,none⟩) ns.length cap] 24)).alloc (.cells (madeCells #[.bool false] ns.length) 4))=W0 at hB0 p1 hr0 ⊢
 have aDY:0<ns.length:=by omega
 have hpos:(0:Int)<(ns.length:Int):=by omega
 have k0:=qB (m:=0) hr0 (by rw [List.length_replicate];exact aDY)
 have f0:=aC hr0 0
 go_upto_region 3 with fail
 have hr1:=EU hr0 0 true
 have hB1:Below w.heap.size w (W0.setCell ⟨w.heap.size+1,0,none⟩ (.bool true)):=hB0.setCell (p:=⟨w.heap.size+1,0,none⟩) aQ _
 have p2:(W0.setCell ⟨w.heap.size+1,0,none⟩ (.bool true)).cell? ⟨w.heap.size,1,none⟩=some (.slice (some ⟨b,off,none⟩) ns.length cap):=by
  have h:=((Below.refl (w.heap.size+1) W0).setCell (p:=⟨w.heap.size+1,0,none⟩) dD (.bool true)).cell (p:=⟨w.heap.size,1,none⟩) aQ
  exact h.trans p1
 generalize W0.setCell ⟨w.heap.size+1,0,none⟩ (.bool true)=W1 at hr1 hB1 p2 ⊢
 clear hB0 p1 hr0 k0 f0
 go_wp2
 go_loopw [4] (fun i wr=>∃ t:Nat,t≤ns.length∧i=.int .i64 t∧wr.heap[w.heap.size+1]?=some (.cells ((fK ns t).map Value.bool).toArray 4 (0,0))∧wr.cell? ⟨w.heap.size,1,none⟩=some (.slice (some ⟨b,off,none⟩) ns.length cap)∧Below w.heap.size w wr) (fun i _=>ns.length-(intOf i).toNat)
 case atStart=>exact ⟨0,Nat.zero_le _,rfl,hr1,p2,hB1⟩
 case round =>
  obtain ⟨t,ht,rfl,hrow,hp,hB⟩:=hrel
  have hs:=hB.size
  have hrl:=aD hrow
  have hpl:w.heap.size<wr.heap.size:=by omega
  by_cases htl:t<ns.length
  ·have hti:(t:Int)<(ns.length:Int):=by omega
   go_wp2
   go_loopw [5] (fun j wv=>∃ n:Nat,n≤ns.length∧j=.int .i64 n∧wv.heap[w.heap.size+1]?=some (.cells ((iK ns (fK ns t) n).map Value.bool).toArray 4 (0,0))∧wv.cell? ⟨w.heap.size,1,none⟩=some (.slice (some ⟨b,off,none⟩) ns.length cap)∧Below w.heap.size w wv) (fun j _=>ns.length-(intOf j).toNat)
   case atStart=>exact ⟨0,Nat.zero_le _,rfl,hrow,hp,hB⟩
   case round =>
    obtain ⟨n,hn,rfl,hrow,hp,hB⟩:=hrel
    have hs:=hB.size
    have hrl:=aD hrow
    have hpl:w.heap.size<wr.heap.size:=by omega
    have hXl:(iK ns (fK ns t) n).length=ns.length:=by rw [nL,iZ]
    by_cases hnl:n<ns.length
    ·have hni:(n:Int)<(ns.length:Int):=by omega
     obtain ⟨y,hy⟩:=bD hnl
     have hN1:=hN.below hB hN.lt
     have c0:=hN1.c0 n y hy
     have c1:=hN1.c1 n y hy
     have c2:=hN1.c2 n y hy
     have c3:=hN1.c3 n y hy
     have c4:=hN1.c4 n y hy
     have c5:=hN1.c5 n y hy
     have hblt:=hN1.lt
     have hyn:=jF hy
     have hF:=dJ hc hnl
     rw [hyn] at hF
     have HMK:=aB (show iK ns (fK ns t) (n+1)=mark ns (iK ns (fK ns t) n) n from rfl)
     have xn:=qB (m:=n) hrow aF
     have uU:=aB hrow
     have HF:=aB hF
     have HYN:=aB hyn
     generalize iK ns (fK ns t) n=X at HMK xn hXl uU
     clear hN1 hy hyn hF hrow
     have hal:Below wr.heap.size wr (wr.alloc (.cells #[.int .i64 y.op,.int .i64 y.d,.int .i64 y.a,.int .i64 y.b,.int .i64 y.t,.int .i64 y.e] 42)):=dY
     have VX:=aB hal
     clear hal
     cases lW:aM X n
     ·rw [lW] at xn
      have qV:=aB (show mark ns X n=X by
       have e1:iN ns X n=X:=by unfold iN;rw [lW];rfl
       unfold mark;rw [e1];unfold mH;rw [lW];rfl)
      clear lW
      go_wp2
      go_roundw
      case rel=>exact ⟨n+1,aF,by go_num,by rw [HMK.out,qV.out];exact (VX.out.block _ hrl).trans uU.out,(VX.out.cell (p:=⟨w.heap.size,1,none⟩) hpl).trans hp,bG hB VX.out⟩
      case measure=>simp [intOf];omega
     ·rw [lW] at xn
      by_cases h12:y.op=12
      ·have qV:=aB (show mark ns X n=X by
        have e1:iN ns X n=X:=by unfold iN;rw [lW,HYN.out,h12];rfl
        unfold mark;rw [e1];unfold mH;rw [lW,HYN.out,h12];rfl)
       clear lW
       rw [h12] at c0 VX
       go_wp2
       go_roundw
       case rel=>exact ⟨n+1,aF,by go_num,by rw [HMK.out,qV.out];exact (VX.out.block _ hrl).trans (by first | exact uU.out),(VX.out.cell (p:=⟨w.heap.size,1,none⟩) hpl).trans hp,bG hB VX.out⟩
       case measure=>simp [intOf];omega
      ·have ht:=HF.out.t h12
       obtain ⟨tn,htn⟩:=Int.eq_ofNat_of_zero_le (show 0≤y.t by omega)
       have aSD:(y.op != 12)=true:=by simp [h12]
       have aSF:tn<X.length:=by omega
       have bJC:(tn:Int)<(ns.length:Int):=by omega
       rw [htn] at c4 VX
       have qV:=aB (show iN ns X n=X.set tn true by unfold iN;rw [lW,HYN.out,aSD,htn];rfl)
       have hr2:=uU.out
       have xt:=qB (m:=tn) hr2 aSF
       have ft:=aC hr2 tn
       have hr3:((wr.setCell ⟨w.heap.size+1,tn,none⟩ (.bool true)).alloc (.cells #[.int .i64 y.op,.int .i64 y.d,.int .i64 y.a,.int .i64 y.b,.int .i64 (tn:Int),.int .i64 y.e] 42)).heap[w.heap.size+1]?=_:=(Below.heap_alloc _ _ _ (by simpa using hrl)).trans (EU hr2 tn true)
       have hB3:Below (w.heap.size+1) wr ((wr.setCell ⟨w.heap.size+1,tn,none⟩ (.bool true)).alloc (.cells #[.int .i64 y.op,.int .i64 y.d,.int .i64 y.a,.int .i64 y.b,.int .i64 (tn:Int),.int .i64 y.e] 42)):=((Below.refl (w.heap.size+1) wr).setCell (p:=⟨w.heap.size+1,tn,none⟩) dD _).alloc bF _
       have hnb:((wr.setCell ⟨w.heap.size+1,tn,none⟩ (.bool true)).alloc (.cells #[.int .i64 y.op,.int .i64 y.d,.int .i64 y.a,.int .i64 y.b,.int .i64 (tn:Int),.int .i64 y.e] 42)).heap[wr.heap.size]?=some (.cells #[.int .i64 y.op,.int .i64 y.d,.int .i64 y.a,.int .i64 y.b,.int .i64 (tn:Int),.int .i64 y.e] 42 (0,0)):=by
        have:=World.alloc_heap_new (wr.setCell ⟨w.heap.size+1,tn,none⟩ (.bool true)) (.cells #[.int .i64 y.op,.int .i64 y.d,.int .i64 y.a,.int .i64 y.b,.int .i64 (tn:Int),.int .i64 y.e] 42)
        simpa using this
       have hs3:wr.heap.size<((wr.setCell ⟨w.heap.size+1,tn,none⟩ (.bool true)).alloc (.cells #[.int .i64 y.op,.int .i64 y.d,.int .i64 y.a,.int .i64 y.b,.int .i64 (tn:Int),.int .i64 y.e] 42)).heap.size:=aD hnb
       have HR3:=aB hr3
       have rY:=aB hnb
       have HB3:=aB hB3
       have aUY:aM (X.set tn true) n=true:=by rw [dR aSF];split;rfl;exact lW
       have HXS:=aB aUY
       clear hr3 hnb hB3 aUY lW h12
       go_upto_region 12 with fail
       clear hr2 xt ft xn c0 c1 c2 c3 c4 c5
       generalize ((wr.setCell ⟨w.heap.size+1,tn,none⟩ (.bool true)).alloc (.cells #[.int .i64 y.op,.int .i64 y.d,.int .i64 y.a,.int .i64 y.b,.int .i64 (tn:Int),.int .i64 y.e] 42))=W2 at HR3 rY HB3 hs3 ⊢
       have n0:=aA rY.out 0
       have n5:=aA rY.out 5
       simp at n0 n5
       have hr2:=HR3.out
       have xn2:=qB (m:=n) hr2 (by rw [List.length_set];omega)
       rw [HXS.out] at xn2
       clear hr2
       have hp2:=(HB3.out.cell (p:=⟨w.heap.size,1,none⟩) aQ).trans hp
       by_cases h11:y.op=11
       ·have he:=HF.out.e h11
        obtain ⟨en,hen⟩:=Int.eq_ofNat_of_zero_le (show 0≤y.e by omega)
        have hel:en<(X.set tn true).length:=by rw [List.length_set];omega
        have hei:(en:Int)<(ns.length:Int):=by omega
        have YZ:=aB (show mark ns X n=(X.set tn true).set en true by
         unfold mark;rw [qV.out];unfold mH;rw [HXS.out,HYN.out,h11,hen];rfl)
        rw [hen] at n5
        rw [h11] at n0
        have hr2:=HR3.out
        have xe:=qB (m:=en) hr2 hel
        have fe:=aC hr2 en
        have HR4:=aB (EU hr2 en true)
        have kP:=aB (HB3.out.setCell (p:=⟨w.heap.size+1,en,none⟩) dD (.bool true))
        clear hr2
        go_wp2
        go_roundw
        case rel=>exact ⟨n+1,aF,by go_num,by rw [HMK.out,YZ.out];exact HR4.out,(kP.out.cell (p:=⟨w.heap.size,1,none⟩) aQ).trans hp,hB.trans (kP.out.mono aF)⟩
        case measure=>simp [intOf];omega
       ·have aSE:(y.op==11)=false:=by simp [h11]
        have YZ:=aB (show mark ns X n=X.set tn true by
         unfold mark;rw [qV.out];unfold mH;rw [HXS.out,HYN.out,aSE];rfl)
        clear h11
        go_wp2
        go_roundw
        case rel=>exact ⟨n+1,aF,by go_num,by rw [HMK.out,YZ.out];exact HR3.out,hp2,hB.trans (HB3.out.mono aF)⟩
        case measure=>simp [intOf];omega
    ·have en:n=ns.length:=by omega
     have HEN:=aB en
     have uU:=aB hrow
     clear en hrow
     go_wp2
     go_roundw
     case rel=>exact ⟨t+1,aF,by go_num,by rw [show fK ns (t+1)=iK ns (fK ns t) ns.length from rfl,← HEN.out];exact uU.out,hp,hB⟩
     case measure=>simp [intOf];omega
  ·have et:t=ns.length:=by omega
   have HT:=aB et
   clear et
   go_wp2
   go_ret
   refine ⟨_,rfl,⟨by simp [nJ],Or.inr ⟨w.heap.size+1,ns.length,_,rfl,aF,hrow,Nat.le_refl _,by unfold maxLen;omega,by simp [iZ],?_⟩⟩,hB⟩
   rw [HT.out,ZY hc,Nat.mul_one]
   exact List.take_of_length_le (by simp [nJ])
end Go.Proofs.YtegloodcbfalfaaGreatDoor
namespace Go.Proofs.YtegloodcbfalfaaGreatDoor
open Go.RowKit Go.Shelf
theorem aGT (r:Int) (a:Option Addr) (cap:Nat) (ns:List Nd) (w:World) (hN:pI w a ns) (hc:bM r ns≠0) :
 Calls Tryz.prog 71 #[.agg #[.int .i64 r,.slice a ns.length cap]] w fun e w' =>e=.returned (.tuple #[.slice none 0 0,.int .i64 (bM r ns)])∧Below w.heap.size w w' :=by
 have hb0:Below w.heap.size w (w.alloc (.cells #[.int .i64 r,.slice a ns.length cap] 24)):=dY
 have hck:=fG r a cap ns _ (hN.below hb0)
 have hcb:(bM r ns != 0)=true:=by simpa using hc
 have wX:=aB hck
 clear hck hc
 generalize bM r ns=c at hcb wX ⊢
 go_enter Tryz.func71,Tryz.ntmps71
 go_wp2_with fail
 refine wX.out.mono ?_
 rintro e w1 ⟨rfl,hb1⟩
 have hs1:=hb1.size
 simp only [World.size_alloc] at hs1 hb1
 have hB1:Below w.heap.size w w1:=hb0.trans (hb1.mono aF)
 go_wp2
 go_ret2
 exact ⟨rfl,hB1⟩
theorem aGU (r:Int) (b off cap:Nat) (ns:List Nd) (w:World) (hN:aH w b off ns) (hc:bM r ns=0) :
 Calls Tryz.prog 71 #[.agg #[.int .i64 r,.slice (some ⟨b,off,none⟩) ns.length cap]] w fun e w' =>∃ v,e=.returned (.tuple #[v,.int .i64 0])∧w'.ownsRow w.heap.size 4 1 v ns.length ((bA ns).map Value.bool)∧Below w.heap.size w w' :=
 callsIn_wide.1 (aMK r b off cap ns w hN hc)
theorem aMS (r:Int) (a:Option Addr) (cap:Nat) (ns:List Nd) (w:World) (hN:pI w a ns) (hc:bM r ns≠0) :
 Calls Tryz.prog 39 #[.agg #[.int .i64 r,.slice a ns.length cap]] w fun e w' =>e=.returned (.tuple #[.agg #[.int .i64 0,.slice none 0 0],.int .i64 (bM r ns)])∧Below w.heap.size w w' :=by
 have hb0:Below w.heap.size w ((w.alloc (.cells #[.int .i64 r,.slice a ns.length cap] 24)).alloc (.cells #[.int .i64 0,.slice none 0 0] 24)):=(dY).alloc aQ _
 have hck:=aGT r a cap ns _ (hN.below hb0) hc
 have hcb:(bM r ns != 0)=true:=by simpa using hc
 have wX:=aB hck
 clear hck hc
 generalize bM r ns=c at hcb wX ⊢
 go_enter Tryz.func39,Tryz.ntmps39
 go_wp2_with fail
 refine wX.out.mono ?_
 rintro e w1 ⟨rfl,hb1⟩
 have hs1:=hb1.size
 have hk:w1.heap[w.heap.size+1]?=some (.cells #[.int .i64 0,.slice none 0 0] 24 (0,0)):=by
  rw [hb1.block _ aQ]
  have:=World.alloc_heap_new (w.alloc (.cells #[.int .i64 r,.slice a ns.length cap] 24)) (.cells #[.int .i64 0,.slice none 0 0] 24)
  rwa [World.size_alloc] at this
 simp only [World.size_alloc] at hs1 hb1
 have hB1:Below w.heap.size w w1:=hb0.trans (hb1.mono aF)
 have z0:=aA hk 0
 have z1:=aA hk 1
 have f0:=aC hk 0
 have f1:=aC hk 1
 simp at z0 z1
 go_wp2
 refine bodyPost_ret (v:=.tuple #[.agg #[.int .i64 0,.slice none 0 0],.int .i64 c]) ?_ rfl ⟨rfl,(hB1.setCell (p:=⟨w.heap.size+1,0,none⟩) aQ _).setCell (p:=⟨w.heap.size+1,1,none⟩) aQ _⟩
 have hk2:((w1.setCell ⟨w.heap.size+1,0,none⟩ (.int .i64 0)).setCell ⟨w.heap.size+1,1,none⟩ (.slice none 0 0)).heap[w.heap.size+1]?=some (.cells #[.int .i64 0,.slice none 0 0] 24 (0,0)):=by
  rw [aG _ (aG _ hk)];simp
 have y0:=aA hk2 0
 have y1:=aA hk2 1
 simp at y0 y1
 simp [results,Tryz.results39,go_sem,y0,y1]
def iT (x:List Bool) (L k:Nat):List Int:=(List.range L).map fun j=>((sG x k j:Nat):Int)
theorem EW (x:List Bool) (L:Nat):iT x L 0=List.replicate L 0:=by
 apply List.ext_getElem?
 intro j
 by_cases h:j<L
 ·simp [iT,sG,h]
 ·simp [iT,h]
theorem VY {x:List Bool} {L k:Nat} (h:aM x k=false):iT x L (k+1)=iT x L k:=by
 refine List.map_congr_left fun j _=>?_
 congr 1
 unfold sG
 by_cases e:j=k
 ·subst e;simp [bL,h]
 ·by_cases q:j<k
  ·rw [if_pos q,if_pos aF]
  ·rw [if_neg q,if_neg aF]
theorem KX {x:List Bool} {L k:Nat} (h:aM x k=true) (hk:k<L):iT x L (k+1)=(iT x L k).set k ((bI x k).length:Nat):=by
 apply List.ext_getElem?
 intro j
 rw [List.getElem?_set]
 by_cases hj:j<L
 ·by_cases e:k=j
  ·subst e
   simp [iT,sG,bL,h,hk]
  ·rw [if_neg e]
   simp only [iT,List.getElem?_map,List.getElem?_range hj,Option.map_some]
   congr 2
   unfold sG
   by_cases q:j<k
   ·rw [if_pos q,if_pos aF]
   ·rw [if_neg q,if_neg aF]
 ·have:¬ k=j:=by omega
  simp [iT,hj,this]
theorem EX {x:List Bool} {L j:Nat} (hj:j<L):(iT x L L)[j]?=some ((bL x j:Nat):Int):=by
 simp [iT,sG,hj]
def eF (ns:List Nd) (x:List Bool) (k:Nat):List Nd:=(bI x k).map (nd ns)
def gD (x:List Bool) (l:List Nd) (j:Nat):List Nd:=(l.take j).map (ren x)++l.drop j
theorem VZ (x:List Bool) (l:List Nd) (j:Nat):(gD x l j).length=l.length:=by
 simp [gD];omega
theorem PU (x:List Bool) (l:List Nd):gD x l 0=l:=by simp [gD]
theorem aBB {x:List Bool} {l:List Nd} {j:Nat} {y:Nd} (h:l[j]?=some y):(gD x l j)[j]?=some y:=by
 have hj:=(List.getElem?_eq_some_iff.1 h).1
 simp only [gD]
 rw [List.getElem?_append_right bF]
 simp [Nat.min_eq_left (Nat.le_of_lt hj),h]
theorem PV {x:List Bool} {l:List Nd} {j:Nat} {y:Nd} (h:l[j]?=some y):gD x l (j+1)=(gD x l j).set j (ren x y):=by
 have hj:=(List.getElem?_eq_some_iff.1 h).1
 have e:=(List.getElem?_eq_some_iff.1 h).2
 simp only [gD]
 rw [List.set_append_right _ _ bF]
 simp only [List.length_map,List.length_take,Nat.min_eq_left (Nat.le_of_lt hj),Nat.sub_self]
 have hd:l.drop j=y::l.drop (j+1):=by rw [List.drop_eq_getElem_cons hj,e]
 rw [iH h,List.map_append,List.append_assoc,hd]
 simp
theorem WC {x:List Bool} {l:List Nd}:gD x l l.length=l.map (ren x):=by simp [gD]
theorem aDZ (r:Int) (b off cap:Nat) (ns:List Nd) (w:World) (hN:aH w b off ns) (hc:bM r ns=0) :
 CallsIn Fence.wide 1 Tryz.prog 39 #[.agg #[.int .i64 r,.slice (some ⟨b,off,none⟩) ns.length cap]] w fun e w' =>∃ v,e=.returned (.tuple #[.agg #[.int .i64 r,v],.int .i64 0])∧w'.ownsRow w.heap.size 42 6 v (cB ns).length ((cB ns).flatMap aP)∧Below w.heap.size w w' :=by
 have hl:=(bB hc).1
 obtain ⟨i0,hi0,hz0,hz1,hz2⟩:=info_parts jC
 have hms:∀ W:World,Sem.run Tryz.prog (Instr.makeSlice 25 (.int .i64 (ns.length:Int)) (.int .i64 (ns.length:Int))) W=.ok (.slice (some ⟨W.heap.size,0,none⟩) ns.length ns.length) (W.alloc (.cells (madeCells #[.int .i64 0] ns.length) 3)):=fun W=>run_make_row' 25 3 _ 8 Tryz.underlying25 fZ rfl .i64 .i64 ns.length aF aF W
 refine callsIn_of_wp Tryz.func39 rfl trivial ?_ rfl
 simp only [Tryz.ntmps39,List.size_toArray,List.length_cons,List.length_nil,Nat.reduceAdd,Nat.reduceSub,Array.replicate_succ,Array.replicate_zero,List.push_toArray,List.append_toArray,List.nil_append,List.cons_append]
 have hb0:Below w.heap.size w ((w.alloc (.cells #[.int .i64 r,.slice (some ⟨b,off,none⟩) ns.length cap] 24)).alloc (.cells #[.int .i64 0,.slice none 0 0] 24)):=(dY).alloc aQ _
 have p0:((w.alloc (.cells #[.int .i64 r,.slice (some ⟨b,off,none⟩) ns.length cap] 24)).alloc (.cells #[.int .i64 0,.slice none 0 0] 24)).heap[w.heap.size]?=some (.cells #[.int .i64 r,.slice (some ⟨b,off,none⟩) ns.length cap] 24 (0,0)):=(Below.heap_alloc _ _ _ aQ).trans (World.alloc_heap_new w _)
 have p1:((w.alloc (.cells #[.int .i64 r,.slice (some ⟨b,off,none⟩) ns.length cap] 24)).alloc (.cells #[.int .i64 0,.slice none 0 0] 24)).heap[w.heap.size+1]?=some (.cells #[.int .i64 0,.slice none 0 0] 24 (0,0)):=by
  have:=World.alloc_heap_new (w.alloc (.cells #[.int .i64 r,.slice (some ⟨b,off,none⟩) ns.length cap] 24)) (.cells #[.int .i64 0,.slice none 0 0] 24)
  rwa [World.size_alloc] at this
 have hre:=aGU r b off cap ns _ (hN.below hb0 hN.lt) hc
 have HRE:=aR hre
 clear hre
 have h11:1≤1:=by decide
 gi_wp2_with (refine ⟨trivial,?_⟩;gi_at_call 71;refine (callsIn_wide.2 HRE.out).mono ?_)
 rintro e w1 ⟨v1,rfl,hrr,hb1⟩
 obtain ⟨rb,a9J,rfl,aBC,aFT⟩:=hrr.form aF
 have hs1:=hb1.size
 replace p0:=(hb1.block w.heap.size bF).trans p0
 replace p1:=(hb1.block (w.heap.size+1) aQ).trans p1
 simp only [World.size_alloc] at hs1 hb1 aBC
 have hB1:Below w.heap.size w w1:=hb0.trans (hb1.mono aF)
 have hlt1:=aD p0
 have hlt2:=aD p1
 have q1:=aA p0 1
 simp at q1
 clear hb1 hb0
 gi_upto_region 6 with fail
 have hA0:(w1.alloc (.cells (madeCells #[.int .i64 0] ns.length) 3)).heap[w1.heap.size]?=some (.cells ((iT (bA ns) ns.length 0).map (Value.int .i64)).toArray 3 (0,0)):=by
  rw [World.alloc_heap_new,KM,EW]
 have hBA:Below w1.heap.size w1 (w1.alloc (.cells (madeCells #[.int .i64 0] ns.length) 3)):=dY
 have hsA:w1.heap.size+1≤(w1.alloc (.cells (madeCells #[.int .i64 0] ns.length) 3)).heap.size:=by simp
 generalize w1.alloc (.cells (madeCells #[.int .i64 0] ns.length) 3)=WA at hA0 hBA hsA ⊢
 have qA:=(hBA.cell (p:=⟨w.heap.size,1,none⟩) hlt1).trans q1
 have bJF:w.heap.size<WA.heap.size:=by omega
 gi_wp2
 gi_loopw [7,28] (fun v i wr=>∃ k:Nat,k≤ns.length∧i=.int .i64 k∧wr.heap[w1.heap.size]?=some (.cells ((iT (bA ns) ns.length k).map (Value.int .i64)).toArray 3 (0,0))∧wr.ownsRow (w1.heap.size+1) 42 6 v (eF ns (bA ns) k).length ((eF ns (bA ns) k).flatMap aP)∧Below w1.heap.size w1 wr) (fun _ i _=>ns.length-(intOf i).toNat)
 case atStart=>exact ⟨0,Nat.zero_le _,rfl,hA0,World.ownsRow_nil _ _ _ _,hBA⟩
 case round =>
  obtain ⟨k,hk,rfl,hA,hK,hB⟩:=hrel
  have hs:=hB.size
  have hal:=aD hA
  have hkl:(eF ns (bA ns) k).length≤k:=by simp only [eF,List.length_map];exact mX _ _
  obtain ⟨ka,kc,hkv⟩:=aU hK
  subst hkv
  by_cases hlt:k<ns.length
  ·obtain ⟨y,hy⟩:=bD hlt
   have hki:(k:Int)<(ns.length:Int):=by omega
   have hN1:=hN.below (hB1.trans (hB.mono aF)) hN.lt
   have c0:=hN1.c0 k y hy
   have c1:=hN1.c1 k y hy
   have c2:=hN1.c2 k y hy
   have c3:=hN1.c3 k y hy
   have c4:=hN1.c4 k y hy
   have c5:=hN1.c5 k y hy
   have hblt:=hN1.lt
   have xk:wr.cell? ⟨rb,k,none⟩=some (.bool (aM (bA ns) k)):=by
    rw [hB.cell (p:=⟨rb,k,none⟩) aFT]
    have:=hrr.cells (g:=rb) rfl k (.bool (aM (bA ns) k)) (by rw [List.getElem?_map,kE (by rw [nJ];exact hlt)];rfl)
    have e:(⟨rb,0,none⟩:Addr).add k=⟨rb,k,none⟩:=by cases k <;> simp [Addr.add]
    rw [e] at this;exact this
   have hrl2:rb<wr.heap.size:=by omega
   have HA:=aR hA
   have HK:=aR hK
   have HYD:=aR (jF hy)
   clear hN1 hy hA hK
   cases hxk:aM (bA ns) k
   ·rw [hxk] at xk
    have HAN:=aR (VY (L:=ns.length) hxk)
    have HKN:=aR (show eF ns (bA ns) (k+1)=eF ns (bA ns) k by rw [eF,eF,nK hxk])
    clear hxk
    gi_wp2
    go_roundw
    case rel=>exact ⟨k+1,aF,by go_num,by rw [HAN.out];exact (Below.heap_alloc _ _ _ hal).trans HA.out,by rw [HKN.out];exact HK.out.alloc _,hB.alloc hB.size _⟩
    case measure=>simp [intOf];omega
   ·rw [hxk] at xk
    have HAN:=aR (KX hxk hlt)
    have HKN:=aR (show eF ns (bA ns) (k+1)=eF ns (bA ns) k++[y] by rw [eF,eF,gM hxk,List.map_append,List.map_singleton,HYD.out])
    have hkN:(eF ns (bA ns) k).length=(bI (bA ns) k).length:=by simp [eF]
    have HKL:=aR hkN
    have hAc:=aA HA.out k
    have hAf:=aC HA.out k
    have hAk:((iT (bA ns) ns.length k).map (Value.int .i64)).toArray[k]?=some (.int .i64 ((sG (bA ns) k k:Nat):Int)):=by
     rw [List.getElem?_toArray,List.getElem?_map]
     simp [iT,hlt]
    rw [hAk] at hAc
    clear hxk hkN hAk
    gi_upto_region 11 with fail
    have hA2:((wr.setCell ⟨w1.heap.size,k,none⟩ (.int .i64 ((eF ns (bA ns) k).length:Int))).alloc (.cells #[.int .i64 y.op,.int .i64 y.d,.int .i64 y.a,.int .i64 y.b,.int .i64 y.t,.int .i64 y.e] 42)).heap[w1.heap.size]?=some (.cells ((iT (bA ns) ns.length (k+1)).map (Value.int .i64)).toArray 3 (0,0)):=by
     refine (Below.heap_alloc _ _ _ (by simpa using hal)).trans ?_
     rw [aG _ HA.out,HAN.out,← HKL.out]
     simp only [List.map_set,List.setIfInBounds_toArray]
    have hK2:((wr.setCell ⟨w1.heap.size,k,none⟩ (.int .i64 ((eF ns (bA ns) k).length:Int))).alloc (.cells #[.int .i64 y.op,.int .i64 y.d,.int .i64 y.a,.int .i64 y.b,.int .i64 y.t,.int .i64 y.e] 42)).ownsRow (w1.heap.size+1) 42 6 (.slice ka (eF ns (bA ns) k).length kc) (eF ns (bA ns) k).length ((eF ns (bA ns) k).flatMap aP):=(aI HK.out HA.out aL).alloc _
    have hB2:Below w1.heap.size w1 ((wr.setCell ⟨w1.heap.size,k,none⟩ (.int .i64 ((eF ns (bA ns) k).length:Int))).alloc (.cells #[.int .i64 y.op,.int .i64 y.d,.int .i64 y.a,.int .i64 y.b,.int .i64 y.t,.int .i64 y.e] 42)):=(hB.setCell (p:=⟨w1.heap.size,k,none⟩) dD _).alloc bF _
    have hnb:bY ((wr.setCell ⟨w1.heap.size,k,none⟩ (.int .i64 ((eF ns (bA ns) k).length:Int))).alloc (.cells #[.int .i64 y.op,.int .i64 y.d,.int .i64 y.a,.int .i64 y.b,.int .i64 y.t,.int .i64 y.e] 42)) wr.heap.size y:=by
     have:=lV (wr.setCell ⟨w1.heap.size,k,none⟩ (.int .i64 ((eF ns (bA ns) k).length:Int))) y
     simpa using this
    clear hAc hAf xk c0 c1 c2 c3 c4 c5
    generalize ((wr.setCell ⟨w1.heap.size,k,none⟩ (.int .i64 ((eF ns (bA ns) k).length:Int))).alloc (.cells #[.int .i64 y.op,.int .i64 y.d,.int .i64 y.a,.int .i64 y.b,.int .i64 y.t,.int .i64 y.e] 42))=W2 at hA2 hK2 hB2 hnb ⊢
    have hs2:=hB2.size
    have hnl:=hnb.lt
    have n0:=aA hnb 0
    have n1:=aA hnb 1
    have n2:=aA hnb 2
    have n3:=aA hnb 3
    have n4:=aA hnb 4
    have n5:=aA hnb 5
    simp at n0 n1 n2 n3 n4 n5
    gi_wp2_with (gi_at_builtin;refine wpListIn_append_own _ rfl _ _ 22 rfl (w1.heap.size+1) 42 i0 _ 6 48 Tryz.underlying22 hi0 hz0 hz1 hz2 rfl aL _ _ _ rfl (hK2.alloc _) ⟨W2.heap.size,0,none⟩ 1 1 (aP y) rfl rfl ?cells (by simp [aP,Value.oneCell']) (by unfold maxLen;omega) aF bF ?_)
    case cells =>
     intro j u hj
     have e:(⟨W2.heap.size,0,none⟩:Addr).add j=⟨W2.heap.size,j,none⟩:=by cases j <;> simp [Addr.add]
     rw [e,World.cell?_alloc_at _ _ _ _ rfl]
     simpa [aP] using hj
    intro v' w5 hown' hgrow _
    obtain ⟨g', cap', rfl⟩:=ownsRow_succ hown'
    have hg2:(W2.alloc (.cells #[.int .i64 y.op,.int .i64 y.d,.int .i64 y.a,.int .i64 y.b,.int .i64 y.t,.int .i64 y.e] 42)).grownBy w5 (Value.slice ka (eF ns (bA ns) k).length kc).ownBlock:=hgrow
    have hA5:w5.heap[w1.heap.size]?=_:=(hg2.block _ (by have:=aD hA2;simp;omega) (dF hK2 hA2 aL)).trans ((Below.heap_alloc _ _ _ (aD hA2)).trans hA2)
    have hB5:Below w1.heap.size w1 w5:=(hB2.alloc hB2.size (.cells #[.int .i64 y.op,.int .i64 y.d,.int .i64 y.a,.int .i64 y.b,.int .i64 y.t,.int .i64 y.e] 42)).grown hg2 (by have:=hB2.size;simp;omega) (fun j ej=>by have:=(hK2.lt j ej).1;omega)
    have hK5:w5.ownsRow (w1.heap.size+1) 42 6 (.slice (some ⟨g', 0,none⟩) ((eF ns (bA ns) k).length+1) cap') (eF ns (bA ns) (k+1)).length ((eF ns (bA ns) (k+1)).flatMap aP):=by
     rw [HKN.out,List.length_append,List.flatMap_append]
     simpa using hown'
    clear hgrow hg2 hown' hK2 hA2 hB2
    gi_wp2
    go_roundw
    case rel=>exact ⟨k+1,aF,by go_num,hA5,hK5,hB5⟩
    case measure=>simp [intOf];omega
  ·have ek:k=ns.length:=by omega
   subst ek
   have hmem:∀ (j:Nat) (y:Nd),(eF ns (bA ns) ns.length)[j]?=some y→Full r ns.length y:=by
    intro j y hj
    obtain ⟨i,hi,rfl⟩:=List.mem_map.1 (List.mem_of_getElem? hj)
    exact dJ hc (yD.1 hi).1
   have hK1:=hK
   have aVA:0<(eF ns (bA ns) ns.length).length:=by
    have:=JU (ns:=ns) aF
    rw [JS] at this
    simpa [eF] using this
   have hA1:=hA
   obtain ⟨g,gc,hgv,hgb,hgl⟩:=hK1.form aVA
   cases hgv
   have a9K:(eF ns (bA ns) ns.length).length≤256:=by omega
   have HA1:=aR hA1
   have hB' :=hB
   have hK1' :wr.ownsRow (w1.heap.size+1) 42 6 (.slice (some ⟨g,0,none⟩) (eF ns (bA ns) ns.length).length kc) (eF ns (bA ns) ns.length).length ((gD (bA ns) (eF ns (bA ns) ns.length) 0).flatMap aP):=by rw [PU];exact hK1
   have HKT:=aR (show cB ns=(eF ns (bA ns) ns.length).map (ren (bA ns)) by simp [cB,eF])
   have hnA:(w1.heap.size:Nat)≠g:=by omega
   clear hK1 hA1 hK hA
   generalize eF ns (bA ns) ns.length=l at hmem aVA a9K hK1' HKT ⊢
   gi_wp2
   gi_loopw [49] (fun i wv=>∃ j:Nat,j≤l.length∧i=.int .i64 j∧wv.heap[w1.heap.size]?=some (.cells ((iT (bA ns) ns.length ns.length).map (Value.int .i64)).toArray 3 (0,0))∧wv.ownsRow (w1.heap.size+1) 42 6 (.slice (some ⟨g,0,none⟩) l.length kc) l.length ((gD (bA ns) l j).flatMap aP)∧Below w1.heap.size w1 wv) (fun i _=>l.length-(intOf i).toNat)
   case atStart=>exact ⟨0,Nat.zero_le _,rfl,HA1.out,hK1', hB'⟩
   case round =>
    obtain ⟨j,hj,rfl,hA,hK,hB⟩:=hrel
    have hs:=hB.size
    have hal:=aD hA
    have a2T:g<wr.heap.size:=(hK.lt g rfl).2
    by_cases hlt:j<l.length
    ·obtain ⟨y,hy⟩:=bD hlt
     have hji:(j:Int)<(l.length:Int):=by omega
     have hF:=hmem j y hy
     have hbd:=iR hF hl.1
     have hyt:=aBB (x:=bA ns) hy
     have cell:∀ (i:Nat) (u:Value),i<6→(aP y)[i]?=some u→wr.cell? ⟨g,j*6+i,none⟩=some u:=by
      intro i u hi hu
      have:=hK.cells (g:=g) rfl (j*6+i) u (by rw [flatK 6 aP dM _ j i y hyt hi];exact hu)
      have e:(⟨g,0,none⟩:Addr).add (j*6+i)=⟨g,j*6+i,none⟩:=by
       cases h:j*6+i <;> simp [Addr.add]
      rw [e] at this;exact this
     have c0:=cell 0 _ aL rfl
     have c1:=cell 1 _ aL rfl
     have c2:=cell 2 _ aL rfl
     have c3:=cell 3 _ aL rfl
     have c4:=cell 4 _ aL rfl
     have c5:=cell 5 _ aL rfl
     rw [Nat.add_zero] at c0
     clear cell
     obtain ⟨yop,yd,ya,yb,yt,ye⟩:=y
     simp only at hbd c0 c1 c2 c3 c4 c5
     obtain ⟨tn,rfl⟩:=Int.eq_ofNat_of_zero_le hbd.1
     obtain ⟨en,rfl⟩:=Int.eq_ofNat_of_zero_le hbd.2.2.1
     have htl:tn<ns.length:=by omega
     have hel:en<ns.length:=by omega
     have hti:(tn:Int)<(ns.length:Int):=by omega
     have hei:(en:Int)<(ns.length:Int):=by omega
     have at1:wr.cell? ⟨w1.heap.size,tn,none⟩=some (.int .i64 ((bL (bA ns) tn:Nat):Int)):=by
      rw [aA hA,List.getElem?_toArray,List.getElem?_map,EX htl];rfl
     have at2:wr.cell? ⟨w1.heap.size,en,none⟩=some (.int .i64 ((bL (bA ns) en:Nat):Int)):=by
      rw [aA hA,List.getElem?_toArray,List.getElem?_map,EX hel];rfl
     have hHA:=aR hA
     have hHK:=aR hK
     have HY:=aR hy
     have HYT:=aR hyt
     have hne1:g≠wr.heap.size:=by omega
     have hne2:w1.heap.size≠g:=by omega
     clear hA hK hy hyt hF
     gi_upto_region 16 with fail
     obtain ⟨W,jU,hBW,hnb⟩:=bx1 wr (.cells #[.int .i64 yop,.int .i64 yd,.int .i64 ya,.int .i64 yb,.int .i64 (tn:Int),.int .i64 (en:Int)] 42)
     rw [jU.out]
     clear jU
     have hKW:=ownsRow_below hHK.out hBW dD
     have hAW:W.heap[w1.heap.size]?=_:=(hBW.block _ hal).trans hHA.out
     have b4:=aA hnb 4
     have b5:=aA hnb 5
     simp at b4 b5
     replace at1:=(hBW.cell (p:=⟨w1.heap.size,tn,none⟩) hal).trans at1
     replace at2:=(hBW.cell (p:=⟨w1.heap.size,en,none⟩) hal).trans at2
     replace c4:=(hBW.cell (p:=⟨g,j*6+4,none⟩) a2T).trans c4
     replace c5:=(hBW.cell (p:=⟨g,j*6+5,none⟩) a2T).trans c5
     obtain ⟨cur,hgc⟩:∃ cur,W.heap[g]?=some (.cells cur 42 (0,0)):=by
      rcases hKW.2 with ⟨q,_⟩ | ⟨g', cap', cur,q,_,a2,_⟩
      ·cases q
      ·cases q;exact ⟨cur,a2⟩
     have f4:=aC hgc (j*6+4)
     have f5:=aC hgc (j*6+5)
     have HKW:=aR hKW
     have HAW:=aR hAW
     have iX:=aR hBW
     clear c0 c1 c2 c3 hKW hAW hBW hgc hnb
     refine wpIn_wide.2 ?_
     refine wp_region_held_drew (S:=fun u=>u.cell? ⟨wr.heap.size,4,none⟩=some (.int .i64 (tn:Int))∧u.cell? ⟨wr.heap.size,5,none⟩=some (.int .i64 (en:Int))∧u.cell? ⟨w1.heap.size,tn,none⟩=some (.int .i64 ((bL (bA ns) tn:Nat):Int))∧u.cell? ⟨w1.heap.size,en,none⟩=some (.int .i64 ((bL (bA ns) en:Nat):Int))) fJ ⟨b4,b5,at1,at2⟩ (fun hHeld=>?_)
     refine tkw 0 ?_
     iterate 15 (first | refine tkv ?_ | refine tku ?_)
     refine tkr 16 (fun K hK=>?_)
     go_simp
     refine hK.out _ _ ⟨(AR hne1.symm).trans b4,(AR hne1.symm).trans b5,(AR hne2).trans at1,(AR hne2).trans at2⟩ (fun hHeld=>?_)
     clear hK K
     iterate 2 (first | refine tkv ?_ | refine tku ?_)
     refine tkr 19 (fun K hK=>?_)
     go_simp
     refine hK.out _ _ ⟨(AR hne1.symm).trans ((AR hne1.symm).trans b4),(AR hne1.symm).trans ((AR hne1.symm).trans b5),(AR hne2).trans ((AR hne2).trans at1),(AR hne2).trans ((AR hne2).trans at2)⟩ (fun hHeld=>?_)
     clear hK K
     refine wpAnyH_done fJ ?_ _
     have k1:=iB (u:=.int .i64 ((bL (bA ns) tn:Nat):Int)) HKW.out (i:=j*6+4) aF
     have k2:=iB (u:=.int .i64 ((bL (bA ns) en:Nat):Int)) k1 (i:=j*6+5) aF
     rw [jK 6 aP dM (gD (bA ns) l j) j 4 _ ⟨yop,yd,ya,yb,((bL (bA ns) tn:Nat):Int),(en:Int)⟩ _ HYT.out aL rfl] at k2
     rw [jK 6 aP dM _ j 5 ⟨yop,yd,ya,yb,((bL (bA ns) tn:Nat):Int),(en:Int)⟩ ⟨yop,yd,ya,yb,((bL (bA ns) tn:Nat):Int),((bL (bA ns) en:Nat):Int)⟩ _ (by rw [List.getElem?_set_self (by rw [VZ];exact hlt)]) aL rfl,List.set_set] at k2
     have e1:(gD (bA ns) l j).set j ⟨yop,yd,ya,yb,((bL (bA ns) tn:Nat):Int),((bL (bA ns) en:Nat):Int)⟩=gD (bA ns) l (j+1):=by
      rw [PV HY.out];simp [ren]
     rw [e1] at k2
     have k3:((W.setCell ⟨g,j*6+4,none⟩ (.int .i64 ((bL (bA ns) tn:Nat):Int))).setCell ⟨g,j*6+5,none⟩ (.int .i64 ((bL (bA ns) en:Nat):Int))).drew.ownsRow (w1.heap.size+1) 42 6 (.slice (some ⟨g,0,none⟩) l.length kc) l.length ((gD (bA ns) l (j+1)).flatMap aP):=k2
     have k4:((W.setCell ⟨g,j*6+4,none⟩ (.int .i64 ((bL (bA ns) tn:Nat):Int))).setCell ⟨g,j*6+5,none⟩ (.int .i64 ((bL (bA ns) en:Nat):Int))).drew.heap[w1.heap.size]?=some (.cells ((iT (bA ns) ns.length ns.length).map (Value.int .i64)).toArray 3 (0,0)):=(Below.heap_setCell _ _ _ _ hne2).trans ((Below.heap_setCell _ _ _ _ hne2).trans HAW.out)
     have k5:Below w1.heap.size w1 ((W.setCell ⟨g,j*6+4,none⟩ (.int .i64 ((bL (bA ns) tn:Nat):Int))).setCell ⟨g,j*6+5,none⟩ (.int .i64 ((bL (bA ns) en:Nat):Int))).drew:=((((hB.trans (iX.out.mono hs))).setCell (p:=⟨g,j*6+4,none⟩) bF _).setCell (p:=⟨g,j*6+5,none⟩) bF _).drew
     generalize ((W.setCell ⟨g,j*6+4,none⟩ (.int .i64 ((bL (bA ns) tn:Nat):Int))).setCell ⟨g,j*6+5,none⟩ (.int .i64 ((bL (bA ns) en:Nat):Int))).drew=Wf at k3 k4 k5 ⊢
     gi_wp2
     go_roundw
     case rel=>exact ⟨j+1,aF,by go_num,k4,k3,k5⟩
     case measure=>simp [intOf];omega
    ·have ej:j=l.length:=by omega
     subst ej
     rw [WC,← HKT.out] at hK
     have hll:(cB ns).length=l.length:=by rw [HKT.out];simp
     have P0:=(hB.block _ hlt1).trans p0
     have P1:=(hB.block _ hlt2).trans p1
     have q0:=aA P0 0
     simp at q0
     have r0:=aA P1 0
     have r1:=aA P1 1
     have f0:=aC P1 0
     have f1:=aC P1 1
     simp at r0 r1
     have a8I:w.heap.size<wr.heap.size:=by omega
     have bDM:w.heap.size+1<wr.heap.size:=by omega
     have HK2:=aR hK
     have kH:=aR P1
     clear hK P0 P1 hA
     gi_wp2
     have hk2:((wr.setCell ⟨w.heap.size+1,0,none⟩ (.int .i64 r)).setCell ⟨w.heap.size+1,1,none⟩ (.slice (some ⟨g,0,none⟩) l.length kc)).heap[w.heap.size+1]?=some (.cells #[.int .i64 r,.slice (some ⟨g,0,none⟩) l.length kc] 24 (0,0)):=by
      rw [aG _ (aG _ kH.out)];simp
     have y0:=aA hk2 0
     have y1:=aA hk2 1
     simp at y0 y1
     refine bodyPost_ret (v:=.tuple #[.agg #[.int .i64 r,.slice (some ⟨g,0,none⟩) l.length kc],.int .i64 0]) (by simp [results,Tryz.results39,go_sem,y0,y1]) rfl ⟨_,rfl,?_,(((hB1.trans (hB.mono aF)).setCell (p:=⟨w.heap.size+1,0,none⟩) aQ _).setCell (p:=⟨w.heap.size+1,1,none⟩) aQ _)⟩
     have o1:=aI (o:=1) (u:=.slice (some ⟨g,0,none⟩) l.length kc) (aI (o:=0) (u:=.int .i64 r) HK2.out kH.out aL) (aG _ kH.out) aL
     rw [hll]
     exact aK o1 aF
theorem aBD {r:Int} {len:Nat} {x:List Bool} {m:Nd} (h:Full r len m):ren x m={ m with t:=if m.op=12 then m.t else ((bL x m.t.toNat:Nat):Int),e:=if m.op=11 then ((bL x m.e.toNat:Nat):Int) else m.e }:=by
 obtain ⟨op,d,a,b,t,e⟩:=m
 simp only [ren]
 congr 1
 ·split
  ·rename_i h12
   have:=h.t0 h12
   simp only at this;subst this;simp [mY]
  ·rfl
 ·split
  ·rfl
  ·rename_i h11
   have:=h.e0 h11
   simp only at this;subst this;simp [mY]
def bW (ns:List Nd) (k:Nat):List Nd:=(bI (bA ns) k).map fun n=>ren (bA ns) (nd ns n)
theorem aBE (ns:List Nd):bW ns ns.length=cB ns:=rfl
theorem KY (r:Int) (b off cap:Nat) (ns:List Nd) (w:World) (hN:aH w b off ns) (hc:bM r ns=0) :
 CallsIn Fence.wide 1 Tryz.prog 21 #[.agg #[.int .i64 r,.slice (some ⟨b,off,none⟩) ns.length cap]] w fun e w' =>∃ v,e=.returned (.agg #[.int .i64 r,v])∧w'.ownsRow w.heap.size 42 6 v (cB ns).length ((cB ns).flatMap aP)∧Below w.heap.size w w' :=by
 have hl:=(bB hc).1
 obtain ⟨i0,hi0,hz0,hz1,hz2⟩:=info_parts jC
 have hms:∀ W:World,Sem.run Tryz.prog (Instr.makeSlice 25 (.int .i64 (ns.length:Int)) (.int .i64 (ns.length:Int))) W=.ok (.slice (some ⟨W.heap.size,0,none⟩) ns.length ns.length) (W.alloc (.cells (madeCells #[.int .i64 0] ns.length) 3)):=fun W=>run_make_row' 25 3 _ 8 Tryz.underlying25 fZ rfl .i64 .i64 ns.length aF aF W
 refine callsIn_of_wp Tryz.func21 rfl trivial ?_ rfl
 simp only [Tryz.ntmps21,List.size_toArray,List.length_cons,List.length_nil,Nat.reduceAdd,Nat.reduceSub,Array.replicate_succ,Array.replicate_zero,List.push_toArray,List.append_toArray,List.nil_append,List.cons_append]
 have hb0:Below w.heap.size w ((w.alloc (.cells #[.int .i64 r,.slice (some ⟨b,off,none⟩) ns.length cap] 24)).alloc (.cells #[.int .i64 0,.slice none 0 0] 24)):=(dY).alloc aQ _
 have p0:((w.alloc (.cells #[.int .i64 r,.slice (some ⟨b,off,none⟩) ns.length cap] 24)).alloc (.cells #[.int .i64 0,.slice none 0 0] 24)).heap[w.heap.size]?=some (.cells #[.int .i64 r,.slice (some ⟨b,off,none⟩) ns.length cap] 24 (0,0)):=(Below.heap_alloc _ _ _ aQ).trans (World.alloc_heap_new w _)
 have p1:((w.alloc (.cells #[.int .i64 r,.slice (some ⟨b,off,none⟩) ns.length cap] 24)).alloc (.cells #[.int .i64 0,.slice none 0 0] 24)).heap[w.heap.size+1]?=some (.cells #[.int .i64 0,.slice none 0 0] 24 (0,0)):=by
  have:=World.alloc_heap_new (w.alloc (.cells #[.int .i64 r,.slice (some ⟨b,off,none⟩) ns.length cap] 24)) (.cells #[.int .i64 0,.slice none 0 0] 24)
  rwa [World.size_alloc] at this
 have hre:=VW r b off cap ns _ (hN.below hb0 hN.lt) hc
 have HRE:=aR hre
 clear hre
 have h11:1≤1:=by decide
 gi_wp2_with (refine ⟨trivial,?_⟩;gi_at_call 45;refine (callsIn_wide.2 HRE.out).mono ?_)
 rintro e w1 ⟨v1,rfl,hrr,hb1⟩
 obtain ⟨rb,a9J,rfl,aBC,aFT⟩:=hrr.form aF
 have hs1:=hb1.size
 replace p0:=(hb1.block w.heap.size bF).trans p0
 replace p1:=(hb1.block (w.heap.size+1) aQ).trans p1
 simp only [World.size_alloc] at hs1 hb1 aBC
 have hB1:Below w.heap.size w w1:=hb0.trans (hb1.mono aF)
 have hlt1:=aD p0
 have hlt2:=aD p1
 have q0:=aA p0 0
 have q1:=aA p0 1
 simp at q0 q1
 have reach:Hid (∀ (W:World) (k:Nat),Below w1.heap.size w1 W→k<ns.length→W.cell? ⟨rb,k,none⟩=some (.bool (aM (bA ns) k))):=fun W k hB hlt=>by
  rw [hB.cell (p:=⟨rb,k,none⟩) aFT]
  have:=hrr.cells (g:=rb) rfl k (.bool (aM (bA ns) k)) (by rw [List.getElem?_map,kE (by rw [nJ];exact hlt)];rfl)
  have e:(⟨rb,0,none⟩:Addr).add k=⟨rb,k,none⟩:=by cases k <;> simp [Addr.add]
  rw [e] at this;exact this
 clear hb1 hb0
 gi_upto_region 3 with fail
 have hA0:(w1.alloc (.cells (madeCells #[.int .i64 0] ns.length) 3)).heap[w1.heap.size]?=some (.cells ((iT (bA ns) ns.length 0).map (Value.int .i64)).toArray 3 (0,0)):=by
  rw [World.alloc_heap_new,KM,EW]
 have hBA:Below w1.heap.size w1 (w1.alloc (.cells (madeCells #[.int .i64 0] ns.length) 3)):=dY
 have hsA:w1.heap.size+1≤(w1.alloc (.cells (madeCells #[.int .i64 0] ns.length) 3)).heap.size:=by simp
 generalize w1.alloc (.cells (madeCells #[.int .i64 0] ns.length) 3)=WA at hA0 hBA hsA ⊢
 gi_wp2
 gi_loopw [5,6] (fun kv i wr=>∃ k:Nat,k≤ns.length∧i=.int .i64 k∧kv=.int .i64 ((bI (bA ns) k).length:Nat)∧wr.heap[w1.heap.size]?=some (.cells ((iT (bA ns) ns.length k).map (Value.int .i64)).toArray 3 (0,0))∧Below w1.heap.size w1 wr) (fun _ i _=>ns.length-(intOf i).toNat)
 case atStart=>exact ⟨0,Nat.zero_le _,rfl,rfl,hA0,hBA⟩
 case round =>
  obtain ⟨k,hk,rfl,rfl,hA,hB⟩:=hrel
  have hs:=hB.size
  have hal:=aD hA
  have hkl:=mX (bA ns) k
  have qr:=(hB.cell (p:=⟨w.heap.size,1,none⟩) hlt1).trans q1
  have qr0:=(hB.cell (p:=⟨w.heap.size,0,none⟩) hlt1).trans q0
  have hl1:w.heap.size<wr.heap.size:=by omega
  have hrl2:rb<wr.heap.size:=by omega
  by_cases hlt:k<ns.length
  ·have hki:(k:Int)<(ns.length:Int):=by omega
   have xk:=reach.out wr k hB hlt
   cases hxk:aM (bA ns) k
   ·rw [hxk] at xk
    have HAN:=aR (VY (L:=ns.length) hxk)
    have HKN:=aR (nK hxk)
    have HA:=aR hA
    clear hxk hA
    gi_wp2
    go_roundw
    case rel=>exact ⟨k+1,aF,by go_num,by rw [HKN.out],by rw [HAN.out];exact HA.out,hB⟩
    case measure=>simp [intOf];omega
   ·rw [hxk] at xk
    have HAN:=aR (KX hxk hlt)
    have HKN:=aR (show (bI (bA ns) (k+1)).length=(bI (bA ns) k).length+1 by rw [gM hxk];simp)
    have hAc:=aA hA k
    have hAf:=aC hA k
    have hAk:((iT (bA ns) ns.length k).map (Value.int .i64)).toArray[k]?=some (.int .i64 ((sG (bA ns) k k:Nat):Int)):=by
     rw [List.getElem?_toArray,List.getElem?_map]
     simp [iT,hlt]
    rw [hAk] at hAc
    have HA:=aR hA
    clear hxk hA hAk
    gi_wp2
    go_roundw
    case rel =>
     refine ⟨k+1,aF,by go_num,?_,?_,hB.setCell (p:=⟨w1.heap.size,k,none⟩) dD _⟩
     ·rw [HKN.out];go_num
     ·rw [aG _ HA.out,HAN.out]
      simp only [List.map_set,List.setIfInBounds_toArray]
    case measure=>simp [intOf];omega
  ·have ek:k=ns.length:=by omega
   subst ek
   have HA:=aR hA
   clear hA
   gi_wp2
   obtain ⟨wo,hwo⟩:∃ wo:World,wo=wr:=⟨_,rfl⟩
   subst hwo
   obtain ⟨WO,jU,hBo,hO0⟩:=bx1 wo (.cells #[.int .i64 r,.slice none 0 0] 24)
   rw [jU.out]
   clear jU
   have a9N:Below w1.heap.size w1 wo:=hB
   clear qr qr0 hB
   gi_loopw [8] (fun i wr=>∃ (k:Nat) (v:Value),k≤ns.length∧i=.int .i64 k∧wr.heap[wo.heap.size]?=some (.cells #[.int .i64 r,v] 24 (0,0))∧wr.ownsRow (wo.heap.size+1) 42 6 v (bW ns k).length ((bW ns k).flatMap aP)∧Below wo.heap.size wo wr) (fun i _=>ns.length-(intOf i).toNat)
   case atStart=>exact ⟨0,_,Nat.zero_le _,rfl,hO0,World.ownsRow_nil _ _ _ _,hBo⟩
   case round =>
    obtain ⟨k,v,hk,rfl,hO,hV,hB⟩:=hrel
    have hs2:=hB.size
    have hol:=aD hO
    have hBw:=a9N.trans (hB.mono aF)
    have qr:=(hBw.cell (p:=⟨w.heap.size,1,none⟩) hlt1).trans q1
    have hl2:w.heap.size<wr.heap.size:=by omega
    have hrl3:rb<wr.heap.size:=by omega
    have htl:(bW ns k).length≤k:=by simp only [bW,List.length_map];exact mX _ _
    obtain ⟨va,JG,ET⟩:=aU hV
    subst ET
    by_cases hlt:k<ns.length
    ·have hki:(k:Int)<(ns.length:Int):=by omega
     have xk:=reach.out wr k hBw hlt
     cases hxk:aM (bA ns) k
     ·rw [hxk] at xk
      have HKN:=aR (show bW ns (k+1)=bW ns k by rw [bW,bW,nK hxk])
      have HV:=aR hV
      have HO:=aR hO
      clear hxk hV hO
      gi_wp2
      go_roundw
      case rel=>exact ⟨k+1,_,aF,by go_num,HO.out,by rw [HKN.out];exact HV.out,hB⟩
      case measure=>simp [intOf];omega
     ·rw [hxk] at xk
      obtain ⟨y,hy⟩:=bD hlt
      have hN1:=hN.below (hB1.trans (hBw.mono aF)) hN.lt
      have c0:=hN1.c0 k y hy
      have c1:=hN1.c1 k y hy
      have c2:=hN1.c2 k y hy
      have c3:=hN1.c3 k y hy
      have c4:=hN1.c4 k y hy
      have c5:=hN1.c5 k y hy
      have hblt:=hN1.lt
      have hyn:=jF hy
      have HTT:=aR (show bW ns (k+1)=bW ns k++[ren (bA ns) y] by rw [bW,bW,gM hxk,List.map_append,List.map_singleton,hyn])
      have hF:=dJ hc hlt
      rw [hyn] at hF
      have HFU:=aR hF
      have hbd:=iR hF hl.1
      have HV:=aR hV
      have HO:=aR hO
      have o0:=aA hO 0
      have o1:=aA hO 1
      simp at o0 o1
      have hAw:=(hB.block _ hal).trans HA.out
      have aw:Hid (∀ j,j<ns.length→wr.cell? ⟨w1.heap.size,j,none⟩=some (.int .i64 ((bL (bA ns) j:Nat):Int))):=fun j hj=>by
       rw [aA hAw,List.getElem?_toArray,List.getElem?_map,EX hj];rfl
      have bJN:w1.heap.size<wr.heap.size:=by omega
      clear hN1 hy hyn hxk hF hV hO hAw
      by_cases h12:y.op=12
      ·rw [h12] at c0
       gi_upto_region 20 with fail
       obtain ⟨WN,oG,hBn,hnb⟩:=bx1 wr (.cells #[.int .i64 12,.int .i64 y.d,.int .i64 y.a,.int .i64 y.b,.int .i64 y.t,.int .i64 y.e] 42)
       have HEQ:Hid ((aP (ren (bA ns) y))=[.int .i64 12,.int .i64 y.d,.int .i64 y.a,.int .i64 y.b,.int .i64 y.t,.int .i64 y.e]):=by
        show _=_
        rw [aBD HFU.out];simp [aP, *]
       rw [oG.out]
       clear oG
       have n0:=aA hnb 0
       have n1:=aA hnb 1
       have n2:=aA hnb 2
       have n3:=aA hnb 3
       have n4:=aA hnb 4
       have n5:=aA hnb 5
       simp at n0 n1 n2 n3 n4 n5
       have hnl:=aD hnb
       have WE:=(hBn.block _ hol).trans HO.out
       have on1:=aA WE 1
       simp at on1
       have aMU:=aD WE
       have hVN:=ownsRow_below HV.out hBn dD
       have hsn:=hBn.size
       clear c0 c1 c2 c3 c4 c5 o0 o1 xk
       gi_wp2_with (gi_at_builtin;refine wpListIn_append_own _ rfl _ _ 22 rfl (wo.heap.size+1) 42 i0 _ 6 48 Tryz.underlying22 hi0 hz0 hz1 hz2 rfl aL _ _ _ rfl (hVN.alloc _) ⟨WN.heap.size,0,none⟩ 1 1 [.int .i64 12,.int .i64 y.d,.int .i64 y.a,.int .i64 y.b,.int .i64 y.t,.int .i64 y.e] rfl rfl ?cells (by simp [Value.oneCell']) (by unfold maxLen;omega) aF bF ?_)
       case cells =>
        intro j u hj
        have e:(⟨WN.heap.size,0,none⟩:Addr).add j=⟨WN.heap.size,j,none⟩:=by cases j <;> simp [Addr.add]
        first
         | (rw [e,World.cell?_alloc_at _ _ _ _ rfl];simpa using hj)
         | simpa using hj
       intro v' w5 hown' hgrow _
       obtain ⟨g', cap', rfl⟩:=ownsRow_succ hown'
       have hgrow' :(WN.alloc (.cells #[.int .i64 12,.int .i64 y.d,.int .i64 y.a,.int .i64 y.b,.int .i64 y.t,.int .i64 y.e] 42)).grownBy w5 (Value.slice va (bW ns k).length JG).ownBlock:=hgrow
       have hOF:w5.heap[wo.heap.size]?=some (.cells #[.int .i64 r,.slice va (bW ns k).length JG] 24 (0,0)):=(hgrow'.block _ bF (dF hVN WE aL)).trans ((Below.heap_alloc _ _ _ aMU).trans WE)
       have m0:=aA hOF 1
       have m1:=aC hOF 1
       simp at m0
       have hBF:Below (wo.heap.size) wo w5:=(hB.trans (hBn.mono aF)).trans (((Below.refl wo.heap.size WN).alloc aF (.cells #[.int .i64 12,.int .i64 y.d,.int .i64 y.a,.int .i64 y.b,.int .i64 y.t,.int .i64 y.e] 42)).grown hgrow' bF (fun j ej=>by have:=(hVN.lt j ej).1;omega))
       have hVF:(w5.setCell ⟨wo.heap.size,1,none⟩ (.slice (some ⟨g', 0,none⟩) ((bW ns k).length+1) cap')).ownsRow (wo.heap.size+1) 42 6 (.slice (some ⟨g', 0,none⟩) ((bW ns k).length+1) cap') (bW ns (k+1)).length ((bW ns (k+1)).flatMap aP):=by
        rw [HTT.out,List.length_append,List.flatMap_append,List.flatMap_singleton,HEQ.out]
        exact aI hown' hOF aL
       have aMV:(w5.setCell ⟨wo.heap.size,1,none⟩ (.slice (some ⟨g', 0,none⟩) ((bW ns k).length+1) cap')).heap[wo.heap.size]?=some (.cells #[.int .i64 r,.slice (some ⟨g', 0,none⟩) ((bW ns k).length+1) cap'] 24 (0,0)):=by
        rw [aG _ hOF];simp
       have aMW:=hBF.setCell (p:=⟨wo.heap.size,1,none⟩) dD (.slice (some ⟨g', 0,none⟩) ((bW ns k).length+1) cap')
       clear hgrow hgrow' hown' hVN WE
       gi_wp2
       go_roundw
       case rel=>exact ⟨k+1,_,aF,by go_num,aMV,hVF,aMW⟩
       case measure=>simp [intOf];omega
      ·have aSD:(y.op != 12)=true:=by simp [h12]
       obtain ⟨tn,htn⟩:=Int.eq_ofNat_of_zero_le hbd.1
       have aSF:tn<ns.length:=by omega
       have hti:(tn:Int)<(ns.length:Int):=by omega
       have a1:=aw.out tn aSF
       rw [htn] at c4
       by_cases h11:y.op=11
       ·obtain ⟨en,hen⟩:=Int.eq_ofNat_of_zero_le hbd.2.2.1
        have a9O:en<ns.length:=by omega
        have hei:(en:Int)<(ns.length:Int):=by omega
        have a2:=aw.out en a9O
        rw [hen] at c5
        rw [h11] at c0
        clear aSD
        gi_upto_region 20 with fail
        obtain ⟨WN,yL,hBn,hnb⟩:=bx1 wr (.cells #[.int .i64 11,.int .i64 y.d,.int .i64 y.a,.int .i64 y.b,.int .i64 ((bL (bA ns) tn:Nat):Int),.int .i64 ((bL (bA ns) en:Nat):Int)] 42)
        have HEQ:Hid ((aP (ren (bA ns) y))=[.int .i64 11,.int .i64 y.d,.int .i64 y.a,.int .i64 y.b,.int .i64 ((bL (bA ns) tn:Nat):Int),.int .i64 ((bL (bA ns) en:Nat):Int)]):=by
         show _=_
         rw [aBD HFU.out];simp [aP, *]
        rw [yL.out]
        clear yL
        have n0:=aA hnb 0
        have n1:=aA hnb 1
        have n2:=aA hnb 2
        have n3:=aA hnb 3
        have n4:=aA hnb 4
        have n5:=aA hnb 5
        simp at n0 n1 n2 n3 n4 n5
        have hnl:=aD hnb
        have WE:=(hBn.block _ hol).trans HO.out
        have on1:=aA WE 1
        simp at on1
        have aMU:=aD WE
        have hVN:=ownsRow_below HV.out hBn dD
        have hsn:=hBn.size
        clear c0 c1 c2 c3 c4 c5 o0 o1 xk
        gi_wp2_with (gi_at_builtin;refine wpListIn_append_own _ rfl _ _ 22 rfl (wo.heap.size+1) 42 i0 _ 6 48 Tryz.underlying22 hi0 hz0 hz1 hz2 rfl aL _ _ _ rfl (hVN.alloc _) ⟨WN.heap.size,0,none⟩ 1 1 [.int .i64 11,.int .i64 y.d,.int .i64 y.a,.int .i64 y.b,.int .i64 ((bL (bA ns) tn:Nat):Int),.int .i64 ((bL (bA ns) en:Nat):Int)] rfl rfl ?cells (by simp [Value.oneCell']) (by unfold maxLen;omega) aF bF ?_)
        case cells =>
         intro j u hj
         have e:(⟨WN.heap.size,0,none⟩:Addr).add j=⟨WN.heap.size,j,none⟩:=by cases j <;> simp [Addr.add]
         first
          | (rw [e,World.cell?_alloc_at _ _ _ _ rfl];simpa using hj)
          | simpa using hj
        intro v' w5 hown' hgrow _
        obtain ⟨g', cap', rfl⟩:=ownsRow_succ hown'
        have hgrow' :(WN.alloc (.cells #[.int .i64 11,.int .i64 y.d,.int .i64 y.a,.int .i64 y.b,.int .i64 ((bL (bA ns) tn:Nat):Int),.int .i64 ((bL (bA ns) en:Nat):Int)] 42)).grownBy w5 (Value.slice va (bW ns k).length JG).ownBlock:=hgrow
        have hOF:w5.heap[wo.heap.size]?=some (.cells #[.int .i64 r,.slice va (bW ns k).length JG] 24 (0,0)):=(hgrow'.block _ bF (dF hVN WE aL)).trans ((Below.heap_alloc _ _ _ aMU).trans WE)
        have m0:=aA hOF 1
        have m1:=aC hOF 1
        simp at m0
        have hBF:Below (wo.heap.size) wo w5:=(hB.trans (hBn.mono aF)).trans (((Below.refl wo.heap.size WN).alloc aF (.cells #[.int .i64 11,.int .i64 y.d,.int .i64 y.a,.int .i64 y.b,.int .i64 ((bL (bA ns) tn:Nat):Int),.int .i64 ((bL (bA ns) en:Nat):Int)] 42)).grown hgrow' bF (fun j ej=>by have:=(hVN.lt j ej).1;omega))
        have hVF:(w5.setCell ⟨wo.heap.size,1,none⟩ (.slice (some ⟨g', 0,none⟩) ((bW ns k).length+1) cap')).ownsRow (wo.heap.size+1) 42 6 (.slice (some ⟨g', 0,none⟩) ((bW ns k).length+1) cap') (bW ns (k+1)).length ((bW ns (k+1)).flatMap aP):=by
         rw [HTT.out,List.length_append,List.flatMap_append,List.flatMap_singleton,HEQ.out]
         exact aI hown' hOF aL
        have aMV:(w5.setCell ⟨wo.heap.size,1,none⟩ (.slice (some ⟨g', 0,none⟩) ((bW ns k).length+1) cap')).heap[wo.heap.size]?=some (.cells #[.int .i64 r,.slice (some ⟨g', 0,none⟩) ((bW ns k).length+1) cap'] 24 (0,0)):=by
         rw [aG _ hOF];simp
        have aMW:=hBF.setCell (p:=⟨wo.heap.size,1,none⟩) dD (.slice (some ⟨g', 0,none⟩) ((bW ns k).length+1) cap')
        clear hgrow hgrow' hown' hVN WE
        gi_wp2
        go_roundw
        case rel=>exact ⟨k+1,_,aF,by go_num,aMV,hVF,aMW⟩
        case measure=>simp [intOf];omega
       ·have aSE:(y.op==11)=false:=by simp [h11]
        gi_upto_region 20 with fail
        obtain ⟨WN,zW,hBn,hnb⟩:=bx1 wr (.cells #[.int .i64 y.op,.int .i64 y.d,.int .i64 y.a,.int .i64 y.b,.int .i64 ((bL (bA ns) tn:Nat):Int),.int .i64 y.e] 42)
        have HEQ:Hid ((aP (ren (bA ns) y))=[.int .i64 y.op,.int .i64 y.d,.int .i64 y.a,.int .i64 y.b,.int .i64 ((bL (bA ns) tn:Nat):Int),.int .i64 y.e]):=by
         show _=_
         rw [aBD HFU.out];simp [aP, *]
        rw [zW.out]
        clear zW
        have n0:=aA hnb 0
        have n1:=aA hnb 1
        have n2:=aA hnb 2
        have n3:=aA hnb 3
        have n4:=aA hnb 4
        have n5:=aA hnb 5
        simp at n0 n1 n2 n3 n4 n5
        have hnl:=aD hnb
        have WE:=(hBn.block _ hol).trans HO.out
        have on1:=aA WE 1
        simp at on1
        have aMU:=aD WE
        have hVN:=ownsRow_below HV.out hBn dD
        have hsn:=hBn.size
        clear c0 c1 c2 c3 c4 c5 o0 o1 xk
        gi_wp2_with (gi_at_builtin;refine wpListIn_append_own _ rfl _ _ 22 rfl (wo.heap.size+1) 42 i0 _ 6 48 Tryz.underlying22 hi0 hz0 hz1 hz2 rfl aL _ _ _ rfl (hVN.alloc _) ⟨WN.heap.size,0,none⟩ 1 1 [.int .i64 y.op,.int .i64 y.d,.int .i64 y.a,.int .i64 y.b,.int .i64 ((bL (bA ns) tn:Nat):Int),.int .i64 y.e] rfl rfl ?cells (by simp [Value.oneCell']) (by unfold maxLen;omega) aF bF ?_)
        case cells =>
         intro j u hj
         have e:(⟨WN.heap.size,0,none⟩:Addr).add j=⟨WN.heap.size,j,none⟩:=by cases j <;> simp [Addr.add]
         first
          | (rw [e,World.cell?_alloc_at _ _ _ _ rfl];simpa using hj)
          | simpa using hj
        intro v' w5 hown' hgrow _
        obtain ⟨g', cap', rfl⟩:=ownsRow_succ hown'
        have hgrow' :(WN.alloc (.cells #[.int .i64 y.op,.int .i64 y.d,.int .i64 y.a,.int .i64 y.b,.int .i64 ((bL (bA ns) tn:Nat):Int),.int .i64 y.e] 42)).grownBy w5 (Value.slice va (bW ns k).length JG).ownBlock:=hgrow
        have hOF:w5.heap[wo.heap.size]?=some (.cells #[.int .i64 r,.slice va (bW ns k).length JG] 24 (0,0)):=(hgrow'.block _ bF (dF hVN WE aL)).trans ((Below.heap_alloc _ _ _ aMU).trans WE)
        have m0:=aA hOF 1
        have m1:=aC hOF 1
        simp at m0
        have hBF:Below (wo.heap.size) wo w5:=(hB.trans (hBn.mono aF)).trans (((Below.refl wo.heap.size WN).alloc aF (.cells #[.int .i64 y.op,.int .i64 y.d,.int .i64 y.a,.int .i64 y.b,.int .i64 ((bL (bA ns) tn:Nat):Int),.int .i64 y.e] 42)).grown hgrow' bF (fun j ej=>by have:=(hVN.lt j ej).1;omega))
        have hVF:(w5.setCell ⟨wo.heap.size,1,none⟩ (.slice (some ⟨g', 0,none⟩) ((bW ns k).length+1) cap')).ownsRow (wo.heap.size+1) 42 6 (.slice (some ⟨g', 0,none⟩) ((bW ns k).length+1) cap') (bW ns (k+1)).length ((bW ns (k+1)).flatMap aP):=by
         rw [HTT.out,List.length_append,List.flatMap_append,List.flatMap_singleton,HEQ.out]
         exact aI hown' hOF aL
        have aMV:(w5.setCell ⟨wo.heap.size,1,none⟩ (.slice (some ⟨g', 0,none⟩) ((bW ns k).length+1) cap')).heap[wo.heap.size]?=some (.cells #[.int .i64 r,.slice (some ⟨g', 0,none⟩) ((bW ns k).length+1) cap'] 24 (0,0)):=by
         rw [aG _ hOF];simp
        have aMW:=hBF.setCell (p:=⟨wo.heap.size,1,none⟩) dD (.slice (some ⟨g', 0,none⟩) ((bW ns k).length+1) cap')
        clear hgrow hgrow' hown' hVN WE
        gi_wp2
        go_roundw
        case rel=>exact ⟨k+1,_,aF,by go_num,aMV,hVF,aMW⟩
        case measure=>simp [intOf];omega
    ·have ek:k=ns.length:=by omega
     subst ek
     rw [aBE] at hV
     have R1:=(hBw.block _ hlt2).trans p1
     have b0:=aA hO 0
     have b1:=aA hO 1
     simp at b0 b1
     have e0:=aA R1 0
     have e1:=aA R1 1
     have f0:=aC R1 0
     have f1:=aC R1 1
     simp at e0 e1
     have hl4:w.heap.size+1<wr.heap.size:=by omega
     have HV:=aR hV
     have HR1:=aR R1
     clear hV R1 hO
     gi_wp2
     have hk2:((wr.setCell ⟨w.heap.size+1,0,none⟩ (.int .i64 r)).setCell ⟨w.heap.size+1,1,none⟩ (.slice va (bW ns ns.length).length JG)).heap[w.heap.size+1]?=some (.cells #[.int .i64 r,.slice va (bW ns ns.length).length JG] 24 (0,0)):=by
      rw [aG _ (aG _ HR1.out)];simp
     have a0:=aA hk2 0
     have a1:=aA hk2 1
     simp at a0 a1
     refine bodyPost_ret (v:=.agg #[.int .i64 r,.slice va (bW ns ns.length).length JG]) (by simp [results,Tryz.results21,go_sem,a0,a1]) rfl ⟨_,rfl,?_,((hB1.trans (hBw.mono aF)).setCell (p:=⟨w.heap.size+1,0,none⟩) aQ _).setCell (p:=⟨w.heap.size+1,1,none⟩) aQ _⟩
     have o1:=aI (o:=1) (u:=.slice va (bW ns ns.length).length JG) (aI (o:=0) (u:=.int .i64 r) HV.out HR1.out aL) (aG _ HR1.out) aL
     exact aK o1 aF
end Go.Proofs.YtegloodcbfalfaaGreatDoor
namespace Go.Proofs.YtegloodcbfalfaaGreatDoor
open Go.ChangeShapes Go.WideShapes Go.ChangeAt Go.RowKit Go.Joins Go.Deep
theorem own:ownKnob Tryz.prog.godebug=none:=by kernel_rfl
theorem laidOut:laidOutB Tryz.prog=true:=by kernel_rfl
theorem aBF:Tryz.prog.cellsOf 42=6:=by kernel_rfl
theorem aGW:Tryz.prog.cellsOf 3=1:=by kernel_rfl
theorem aBG:Tryz.prog.cellsOf 24=2:=by kernel_rfl
theorem aVB {α:Type} {l:List α} (h:l.length=6):∃ a b c d e f,l=[a,b,c,d,e,f]:=by
 match l,h with
 | [a,b,c,d,e,f],_=>exact ⟨a,b,c,d,e,f,rfl⟩
theorem aSH {H:Type} {enc:TypeId × Value→H} {W:World} {sp:Nat→Bool} {a:Addr} {n:Nat} {cs:List Value} {y:DataW H × List MemPlace} (hc:W.cells? 0 a 6=some cs)
 (ht:DataW.trod enc Tryz.prog W 0 sp true n 42 cs=some y) :
 ∃ x:Nd,W.cell? (a.add 0)=some (.int .i64 x.op)∧W.cell? (a.add 1)=some (.int .i64 x.d)∧W.cell? (a.add 2)=some (.int .i64 x.a)∧W.cell? (a.add 3)=some (.int .i64 x.b)∧W.cell? (a.add 4)=some (.int .i64 x.t)∧W.cell? (a.add 5)=some (.int .i64 x.e):=by
 obtain ⟨_,hl,hcell⟩:=World.cells?_some hc
 obtain ⟨c0,c1,c2,c3,c4,c5,rfl⟩:=aVB hl
 obtain ⟨xs,m,_,_,_,hxs,hf⟩:=DataW.trod_struct Tryz.underlying42 ht
 obtain ⟨x0,x1,x2,x3,x4,x5,rfl⟩:=aVB (l:=xs) hxs
 have f0:=hf 0 _ rfl
 have f1:=hf 1 _ rfl
 have f2:=hf 2 _ rfl
 have f3:=hf 3 _ rfl
 have f4:=hf 4 _ rfl
 have f5:=hf 5 _ rfl
 simp only [List.getElem?_cons_zero,List.getElem?_cons_succ] at f0 f1 f2 f3 f4 f5
 obtain ⟨z0,e0,_⟩:=DataW.trod_int Tryz.underlying3 f0
 obtain ⟨z1,e1,_⟩:=DataW.trod_int Tryz.underlying3 f1
 obtain ⟨z2,e2,_⟩:=DataW.trod_int Tryz.underlying3 f2
 obtain ⟨z3,e3,_⟩:=DataW.trod_int Tryz.underlying3 f3
 obtain ⟨z4,e4,_⟩:=DataW.trod_int Tryz.underlying3 f4
 obtain ⟨z5,e5,_⟩:=DataW.trod_int Tryz.underlying3 f5
 cases e0;cases e1;cases e2;cases e3;cases e4;cases e5
 exact ⟨⟨z0,z1,z2,z3,z4,z5⟩,hcell 0 aF,hcell 1 aF,hcell 2 aF,hcell 3 aF,hcell 4 aF,hcell 5 aF⟩
theorem WG (b off i:Nat):(⟨b,off,none⟩:Addr).add i=⟨b,off+i,none⟩:=by cases i <;> simp [Addr.add]
theorem aMX {H:Type} {enc:TypeId × Value→H} {W:World} {sp:Nat→Bool} {fuel:Nat} {v:Value} {y:DataW H × List MemPlace}
 (h:DataW.trod enc Tryz.prog W 0 sp true fuel 22 [v]=some y):∃ a cap ns,v=.slice a (List.length ns) cap∧pI W a ns∧ns.length≤9223372036854775807:=by
 rcases open_slice Tryz.underlying22 h with ⟨hcs,_⟩ | ⟨a,len,cap,m,n,D,Pl,hcs,_,hl,hm,hmm,_,hx⟩
 ·simp at hcs
  exact ⟨none,0,[],by simpa using hcs,Or.inl rfl,aQ⟩
 ·simp at hcs
  subst hcs
  have hlm:len≤m:=by rw [hmm];split <;> omega
  obtain ⟨F,hF⟩:=choose_lt (α:=Nd) (n:=len) (p:=fun i x=>W.cell? ((a.add (i*6)).add 0)=some (.int .i64 x.op)∧W.cell? ((a.add (i*6)).add 1)=some (.int .i64 x.d)∧W.cell? ((a.add (i*6)).add 2)=some (.int .i64 x.a)∧W.cell? ((a.add (i*6)).add 3)=some (.int .i64 x.b)∧W.cell? ((a.add (i*6)).add 4)=some (.int .i64 x.t)∧W.cell? ((a.add (i*6)).add 5)=some (.int .i64 x.e)) (fun i hi=>by
   obtain ⟨cs', h1,h2⟩:=hx i aF
   rw [aBF] at h1
   exact aSH h1 h2)
  refine ⟨some a,cap,(List.range len).map F,aQ,?_,by simp;unfold maxLen at hm;omega⟩
  by_cases h0:len=0
  ·subst h0;exact Or.inl rfl
  obtain ⟨b,off,spot⟩:=a
  have hc0:=(hF 0 aF).1
  have hspot:spot=none:=by simpa [Addr.add] using World.cell?_spot hc0
  subst hspot
  have hblt:b<W.heap.size:=by simpa [Addr.add] using block_lt_of_cell hc0
  have key:∀ (i:Nat) (x:Nd),((List.range len).map F)[i]?=some x→i<len∧F i=x:=by
   intro i x hi
   rw [List.getElem?_map,Option.map_eq_some_iff] at hi
   obtain ⟨j,hj,rfl⟩:=hi
   have hlt:i<len:=by have:=(List.getElem?_eq_some_iff.1 hj).1;simpa using this
   rw [List.getElem?_range hlt] at hj
   cases hj
   exact ⟨hlt,rfl⟩
  refine Or.inr ⟨b,off,rfl,hblt,?_,?_,?_,?_,?_,?_⟩
  all_goals
   intro i x hi
   obtain ⟨hlt,rfl⟩:=key i x hi
   have:=hF i hlt
   simp only [WG] at this
   obtain ⟨k0,k1,k2,k3,k4,k5⟩:=this
   assumption
theorem aGX {H:Type} {enc:TypeId × Value→H} {W:World} {sp:Nat→Bool} {base:Nat} {v:Value} {d:DataW H} {p:List MemPlace}
 (hv:Value.okWide Tryz.prog W .any base 24 v) (h:DataW.Trod enc Tryz.prog W 0 sp true 24 v d p) :
 ∃ r a cap ns,v=.agg #[.int .i64 r,.slice a (List.length ns) cap]∧pI W a ns∧ns.length≤9223372036854775807:=by
 obtain ⟨c0,c1,y0,y1,m,rfl,_,_,hy0,hy1⟩:=open_agg2 Tryz.underlying24 fJ aBG hv h
 obtain ⟨r,e0,_,_⟩:=DataW.trod_int Tryz.underlying3 hy0
 obtain ⟨a,cap,ns,rfl,hN,hl⟩:=aMX hy1
 simp at e0
 subst e0
 exact ⟨r,a,cap,ns,rfl,hN,hl⟩
end Go.Proofs.YtegloodcbfalfaaGreatDoor
namespace Go.Proofs.YtegloodcbfalfaaGreatDoor
open Go.RowKit Go.Shelf
theorem wY (r:Int) (b off cap:Nat) (ns:List Nd) (w:World) (hN:aH w b off ns) (hc:bM r ns=0) :
 Calls Tryz.prog 39 #[.agg #[.int .i64 r,.slice (some ⟨b,off,none⟩) ns.length cap]] w fun e w' =>∃ tb tq tc,e=.returned (.tuple #[.agg #[.int .i64 r,.slice (some ⟨tb,tq,none⟩) (cB ns).length tc],.int .i64 0])∧aH w' tb tq (cB ns)∧Below w.heap.size w w' :=by
 refine (callsIn_wide.1 (aDZ r b off cap ns w hN hc)).mono ?_
 rintro e w' ⟨v,rfl,hv,hB⟩
 obtain ⟨ta,tc,rfl,hs⟩:=lI hv
 obtain ⟨tb,tq,rfl,hn⟩:=hs.some (bB (fC hc)).1.1
 exact ⟨tb,tq,tc,rfl,hn,hB⟩
theorem aBH (r:Int) (b off cap:Nat) (ns:List Nd) (w:World) (hN:aH w b off ns) (hc:bM r ns=0) (hl:256<(splitN ns).length) :
 Calls Tryz.prog 36 #[.agg #[.int .i64 r,.slice (some ⟨b,off,none⟩) ns.length cap]] w fun e w' =>e=.returned (.tuple #[.agg #[.int .i64 0,.slice none 0 0],.int .i64 2])∧Below w.heap.size w w' :=by
 refine (callsIn_wide.1 (EP r b off cap ns w hN hc)).mono ?_
 rintro e w' ⟨v1,v2,er,rfl,h,hB⟩
 rcases h with ⟨h,_⟩ | ⟨_,rfl,rfl,rfl⟩
 ·omega
 ·exact ⟨rfl,hB⟩
end Go.Proofs.YtegloodcbfalfaaGreatDoor
namespace Go.Proofs.YtegloodcbfalfaaGreatDoor
open Go.ChangeShapes Go.WideShapes Go.ChangeAt Go.RowKit Go.Joins Go.Deep
theorem EY {H:Type} {enc:TypeId × Value→H} {W:World} {sp:Nat→Bool} {base:Nat} {v:Value} {d:DataW H} {p:List MemPlace}
 (hv:Value.okWide Tryz.prog W .any base 25 v) (h:DataW.Trod enc Tryz.prog W 0 sp true 25 v d p) :
 ∃ a cap l,v=.slice a (List.length l) cap∧dW W a l∧l.length≤9223372036854775807∧l.length≤cap∧∀ z∈l,(Lit.int .i64 z).wf=true:=by
 obtain ⟨a,len,cap,rfl⟩:=okWide_slice Tryz.underlying25 hv
 obtain ⟨fuel,hf0⟩:=h
 have hf:DataW.trod enc Tryz.prog W 0 sp true fuel 25 [.slice a len cap]=some (d,p):=hf0
 rcases open_slice Tryz.underlying25 hf with ⟨hcs,_⟩ | ⟨a,len,cap,m,n,D,Pl,hcs,_,hl,hm,hmm,_,hx⟩
 ·simp at hcs
  obtain ⟨rfl,rfl,rfl⟩:=hcs
  exact ⟨none,0,[],aQ,Or.inl rfl,aQ,aQ,aQ⟩
 ·simp at hcs
  obtain ⟨rfl,rfl,rfl⟩:=hcs
  have hlm:len≤m:=by rw [hmm];split <;> omega
  obtain ⟨F,hF⟩:=choose_lt (α:=Int) (n:=len) (p:=fun i x=>W.cell? ((a.add (i*1)).add 0)=some (.int .i64 x)∧(Lit.int .i64 x).wf=true) (fun i hi=>by
   obtain ⟨cs', h1,h2⟩:=hx i aF
   rw [aGW] at h1
   obtain ⟨_,hl1,hcell⟩:=World.cells?_some h1
   obtain ⟨z,e,_,w2⟩:=DataW.trod_int Tryz.underlying3 h2
   subst e
   exact ⟨z,hcell 0 aF,w2⟩)
  refine ⟨some a,cap,(List.range len).map F,aQ,?_,by simp;unfold maxLen at hm;omega,by simp;omega,fun z hz=>by
   obtain ⟨i,hi,rfl⟩:=List.mem_map.1 hz
   exact (hF i (List.mem_range.1 hi)).2⟩
  by_cases h0:len=0
  ·subst h0;exact Or.inl rfl
  obtain ⟨b,off,spot⟩:=a
  have hc0:=(hF 0 aF).1
  have hspot:spot=none:=by simpa [Addr.add] using World.cell?_spot hc0
  subst hspot
  have hblt:b<W.heap.size:=by simpa [Addr.add] using block_lt_of_cell hc0
  refine Or.inr ⟨b,off,rfl,hblt,?_⟩
  intro i x hi
  rw [List.getElem?_map,Option.map_eq_some_iff] at hi
  obtain ⟨j,hj,rfl⟩:=hi
  have hlt:i<len:=by have:=(List.getElem?_eq_some_iff.1 hj).1;simpa using this
  rw [List.getElem?_range hlt] at hj
  cases hj
  have:=(hF i hlt).1
  simpa only [WG, Nat.mul_one,Nat.add_zero] using this
end Go.Proofs.YtegloodcbfalfaaGreatDoor
namespace Go.Proofs.YtegloodcbfalfaaGreatDoor
def nP (t:Tm) (x:Nd):Bool:=x.op==t.op&&x.a==t.a&&x.b==t.b
def vE (t:Tm) (x:Nd):Bool:=!wi x.op 1 9||(x.d != t.a&&x.d != t.b)
def nC (ns:List Nd) (t:Tm):List Bool:=ns.map (nP t)
def yS (ns:List Nd) (t:Tm):List Bool:=ns.map (vE t)
def sU (k:Nat):List Bool:=List.replicate k true
def EZ (k:Nat):List Bool:=List.replicate k false
def wZ (ns:List Nd) (t:Tm):List Bool:=ns.map fun x=>vE t x&&nP t x
def yT (ns:List Nd) (t:Tm):List Bool:=ns.map fun x=>!nP t x
theorem cZ {ns:List Nd} {f:Nd→Bool} {n:Nat} {x:Nd} (h:ns[n]?=some x):aM (ns.map f) n=f x:=by simp [aM,h]
def jN (ns:List Nd) (t:Tm):BA:=⟨true,false,nC ns t,yS ns t,EZ ns.length,sU ns.length⟩
def KZ (ns:List Nd) (t:Tm):BA:=⟨false,false,EZ ns.length,sU ns.length,wZ ns t,yS ns t⟩
def dG (ns:List Nd) (t:Tm):List Bool:=wG ns (jN ns t)
def sV (ns:List Nd) (t:Tm):List Bool:=wG ns (KZ ns t)
def dA (ns:List Nd) (t:Tm):List Bool:=(List.range ns.length).map fun n=>aM (dG ns t) n&&((gJ ns n).isEmpty||!(gJ ns n).all fun m=>aM (yS ns t) m&&(aM (dG ns t) m||aM (sV ns t) m))
def eZ (ns:List Nd) (t:Tm):BA:=⟨false,false,dA ns t,sU ns.length,EZ ns.length,yT ns t⟩
def dH (ns:List Nd) (t:Tm):List Bool:=wG ns (eZ ns t)
def dI (ns:List Nd) (t:Tm):List Bool:=(List.range ns.length).map fun n=>aM (dH ns t) n&&(aM (nC ns t) n||!(iQ ns n).all fun m=>aM (dH ns t) m)
def fT (ns:List Nd) (t:Tm):BA:=⟨true,true,EZ ns.length,sU ns.length,dI ns t,yT ns t⟩
def fA (ns:List Nd) (t:Tm):List Bool:=wG ns (fT ns t)
theorem fI (ns:List Nd) (f:BA):(wG ns f).length=ns.length:=(CL (pO ns f) ns.length).len
def bK (ns:List Nd) (t:Tm):List Bool:=(List.range ns.length).map fun n=>aM (dI ns t) n&&!aM (fA ns t) n
def aZ (ns:List Nd) (t:Tm):List Bool:=(List.range ns.length).map fun n=>aM (nC ns t) n&&!(aM (dI ns t) n&&aM (fA ns t) n)
end Go.Proofs.YtegloodcbfalfaaGreatDoor
namespace Go.Proofs.YtegloodcbfalfaaGreatDoor
open Go.RowKit Go.Shelf Go.Sort
attribute [local go_sem] Oper.semAt_some
theorem WH (x:Nd):((jI x).mergeSort fun a b=>decide (a≤b))=ZV x:=by
 unfold jI ZV
 by_cases h11:x.op=11
 ·rw [if_pos h11,if_pos h11]
  by_cases he:x.e=x.t
  ·rw [if_pos he,if_pos he.symm,a0W]
  ·rw [if_neg he,if_neg (fun q=>he q.symm),a0X]
   by_cases hl:x.t<x.e
   ·rw [if_pos hl,if_pos aF]
   ·rw [if_neg hl,if_neg aF]
 ·rw [if_neg h11,if_neg h11]
  cases wi x.op 0 11
  ·simp
  ·simp
theorem PW (x:Nd):(ZV x).length=(jI x).length:=by rw [← WH,List.length_mergeSort]
theorem sorted_in (n:Nat) (hn:5≤n) (B:Nat) (x:Nd) (w:World) (hx:bY w B x) :
 CallsIn Fence.wide n Tryz.prog 134 #[.func (.func 98) #[] #[.pointer (some ⟨B,0,none⟩)]] w fun e W' =>∃ v,e=.returned v∧W'.ownsRow w.heap.size 3 1 v (ZV x).length ((ZV x).map (Value.int .i64))∧Below w.heap.size w W' :=by
 have h1:1≤n:=by omega
 have hC:=collect_in (n-1) aF B x w hx
 have hl2:=wQ x
 refine callsIn_of_wp Tryz.func134 rfl trivial ?_ rfl
 simp only [Tryz.ntmps134,List.size_toArray,List.length_cons,List.length_nil,Nat.reduceAdd,Nat.reduceSub,Array.replicate_succ,Array.replicate_zero,List.push_toArray,List.append_toArray,List.nil_append,List.cons_append]
 gi_wp2_with (refine ⟨trivial,?_⟩;gi_at_call 172;refine hC.mono ?_;rintro e W ⟨v,rfl,hrow,hb⟩)
 rcases hrow.2 with ⟨rfl,hz⟩ | ⟨gb,cap,cur,rfl,hbase,hgb,r1,r2,r3,r4⟩
 ·have hsl:ZV x=[]:=List.eq_nil_of_length_eq_zero (by rw [PW];exact hz)
  gi_wp2_with (refine ⟨trivial,?_⟩;gi_at_call 173;refine (callsIn_wide.2 (Tryz.slices_Sort_int_none none 0 W)).mono ?_;rintro e w' ⟨rfl,rfl⟩)
  go_ret
  exact ⟨.slice none 0 0,rfl,by rw [hsl];exact World.ownsRow_nil _ _ _ _,hb⟩
 ·have hH:Holds (Value.int .i64) W gb 0 (jI x).toArray:=holds_of_blockI hgb (by simpa using r4)
  have hS:=callsIn_wide (n:=n-1).2 (Tryz.slices_Sort_int gb 0 cap (jI x) W hH (Array.getElem?_eq_some_iff.1 hgb).1 aF)
  gi_wp2_with (refine ⟨trivial,?_⟩;gi_at_call 173;refine hS.mono ?_;rintro e w' ⟨rfl,q,os,rfl⟩)
  go_ret
  refine ⟨_,rfl,?_,hb.grown (grownBy_sortedI (w:=W) (g:=gb) (n:=q) (os:=os) _) hb.size (fun k e=>by cases e;exact hbase)⟩
  have h3:=ownsRow_sortedI (w:=W) (n:=q) (os:=os) (base:=w.heap.size) (ss:=jI x) (ts:=ZV x) (PW x) hbase hgb r1 r2 r3
  rw [PW,WH]
  exact h3
end Go.Proofs.YtegloodcbfalfaaGreatDoor
namespace Go.Proofs.YtegloodcbfalfaaGreatDoor
open Go.RowKit Go.Shelf
theorem FC (r:Int) (b off cap:Nat) (ns:List Nd) (w:World) (hN:aH w b off ns) (hc:bM r ns=0) :
 Calls Tryz.prog 61 #[.agg #[.int .i64 r,.slice (some ⟨b,off,none⟩) ns.length cap]] w fun e w' =>∃ rb vs,e=.returned (.slice (some ⟨rb,0,none⟩) ns.length ns.length)∧dS w' w.heap.size rb ns.length vs (fun m=>pick (mF ns m) ns.length)∧Below w.heap.size w w' :=
 callsIn_wide.1 (vD 4 aL r b off cap ns w hN hc)
def ints (l:List Nat):List Int:=l.map fun k:Nat=>(k:Int)
theorem bX (l:List Nat):(ints l).length=l.length:=by simp [ints]
structure qC (w:World) (rb L:Nat) (F:Nat→List Nat):Prop where
 lt:rb<w.heap.size
 row:∀ m,m<L→∃ a c,w.cell? ⟨rb,m,none⟩=some (.slice a (F m).length c)∧dW w a (ints (F m))
theorem qC.below {w w' :World} {rb L:Nat} {F:Nat→List Nat} (h:qC w rb L F) (hb:Below w.heap.size w w'):qC w' rb L F :=
 ⟨Nat.lt_of_lt_of_le h.lt hb.size,fun m hm=>by
  obtain ⟨a,c,h1,h2⟩:=h.row m hm
  exact ⟨a,c,(hb.cell (p:=⟨rb,m,none⟩) h.lt).trans h1,h2.below hb⟩⟩
def fQ (w:World) (rb L:Nat) (F:Nat→List Nat):Prop :=
 ∃ vs:List Value,w.heap[rb]?=some (.cells vs.toArray 25 (0,0))∧vs.length=L∧∀ (m:Nat) (v:Value),vs[m]?=some v→w.ownsRow 0 3 1 v (ints (F m)).length ((ints (F m)).map (Value.int .i64))
theorem fQ.below {w w' :World} {rb L:Nat} {F:Nat→List Nat} (h:fQ w rb L F) (hb:Below w.heap.size w w'):fQ w' rb L F:=by
 obtain ⟨vs,h1,h2,h3⟩:=h
 exact ⟨vs,bP hb h1,h2,fun m v hv=>ownsRow_below (h3 m v hv) hb dD⟩
theorem fQ.set {w:World} {rb L b o:Nat} {F:Nat→List Nat} {cs:Array Value} {t:TypeId} {u:Value} (h:fQ w rb L F) (hb:w.heap[b]?=some (.cells cs t (0,0))) (h1:t≠25) (h2:t≠3):fQ (w.setCell ⟨b,o,none⟩ u) rb L F:=by
 obtain ⟨vs,k1,k2,k3⟩:=h
 refine ⟨vs,?_,k2,fun m v hv=>aI (k3 m v hv) hb h2⟩
 refine (Below.heap_setCell _ _ _ _ ?_).trans k1
 rintro rfl
 rw [k1] at hb
 cases hb
 exact h1 rfl
theorem fQ.read {w:World} {rb L:Nat} {F:Nat→List Nat} (h:fQ w rb L F):qC w rb L F:=by
 obtain ⟨vs,k1,k2,k3⟩:=h
 refine ⟨aD k1,fun m hm=>?_⟩
 have hl:m<vs.length:=by rw [k2];exact hm
 have hv:vs[m]?=some vs[m]:=List.getElem?_eq_getElem hl
 obtain ⟨a,c,e,hI⟩:=mP (k3 m _ hv)
 rw [bX] at e
 exact ⟨a,c,by rw [aA k1,List.getElem?_toArray,hv,e],hI⟩
theorem aMY {w:World} {base rb L:Nat} {vs:List Value} {f:Nat→List Int} {F:Nat→List Nat} (h:dS w base rb L vs f) (hf:∀ m,f m=ints (F m)):fQ w rb L F :=
 ⟨vs,h.blk,h.len,fun m v hv=>by rw [← hf m];exact aK (h.own m v hv) (Nat.zero_le _)⟩
theorem jR (r:Int) (b off cap:Nat) (ns:List Nd) (w:World) (hN:aH w b off ns) (hc:bM r ns=0) :
 Calls Tryz.prog 61 #[.agg #[.int .i64 r,.slice (some ⟨b,off,none⟩) ns.length cap]] w fun e w' =>∃ rb,e=.returned (.slice (some ⟨rb,0,none⟩) ns.length ns.length)∧fQ w' rb ns.length (gJ ns)∧Below w.heap.size w w' :=by
 refine (FC r b off cap ns w hN hc).mono ?_
 rintro e w' ⟨rb,vs,rfl,hR,hB⟩
 exact ⟨rb,rfl,aMY hR (fun m=>rfl),hB⟩
theorem WI {ns:List Nd} {n:Nat} {x:Nd} (hx:ns[n]?=some x):pick (tY x) ns.length=ints (iQ ns n):=by
 simp only [pick,ints,iQ]
 congr 1
 refine List.filter_congr fun m _=>?_
 simp [mF,hx]
theorem kM (r:Int) (b off cap:Nat) (ns:List Nd) (w:World) (hN:aH w b off ns) (hc:bM r ns=0) :
 Calls Tryz.prog 104 #[.agg #[.int .i64 r,.slice (some ⟨b,off,none⟩) ns.length cap]] w fun e w' =>∃ rb,e=.returned (.slice (some ⟨rb,0,none⟩) ns.length ns.length)∧fQ w' rb ns.length (iQ ns)∧Below w.heap.size w w' :=by
 have hl:=(bB hc).1
 have HC:=aB hc
 clear hc
 have hms:∀ W:World,Sem.run Tryz.prog (Instr.makeSlice 71 (.int .i64 (ns.length:Int)) (.int .i64 (ns.length:Int))) W=.ok (.slice (some ⟨W.heap.size,0,none⟩) ns.length ns.length) (W.alloc (.cells (madeCells #[.slice none 0 0] ns.length) 25)):=fun W=>run_make_row' 71 25 _ 24 Tryz.underlying71 uH rfl .i64 .i64 ns.length aF aF W
 go_enter Tryz.func104,Tryz.ntmps104
 go_wp2
 have hB0:Below w.heap.size w ((w.alloc (.cells #[.int .i64 r,.slice (some ⟨b,off,none⟩) ns.length cap] 24)).alloc (.cells (madeCells #[.slice none 0 0] ns.length) 25)):=(dY).alloc aQ _
 have hR0:((w.alloc (.cells #[.int .i64 r,.slice (some ⟨b,off,none⟩) ns.length cap] 24)).alloc (.cells (madeCells #[.slice none 0 0] ns.length) 25)).heap[w.heap.size+1]?=some (.cells (List.replicate ns.length (Value.slice none 0 0)).toArray 25 (0,0)):=by
  have:=World.alloc_heap_new (w.alloc (.cells #[.int .i64 r,.slice (some ⟨b,off,none⟩) ns.length cap] 24)) (.cells (madeCells #[.slice none 0 0] ns.length) 25)
  rw [uI] at this
  rw [uI]
  rwa [World.size_alloc] at this
 generalize ((w.alloc (.cells #[.int .i64 r,.slice (some ⟨b,off,none⟩) ns.length cap] 24)).alloc (.cells (madeCells #[.slice none 0 0] ns.length) 25))=W0 at hB0 hR0 ⊢
 have HR0:=aB hR0
 clear hR0 hms
 go_loopw [13] (fun i wr=>∃ k:Nat,k≤ns.length∧i=.int .i64 k∧(∃ vs:List Value,wr.heap[w.heap.size+1]?=some (.cells vs.toArray 25 (0,0))∧vs.length=ns.length∧∀ m,m<k→∃ v,vs[m]?=some v∧wr.ownsRow (w.heap.size+1) 3 1 v (ints (iQ ns m)).length ((ints (iQ ns m)).map (Value.int .i64)))∧Below w.heap.size w wr) (fun i _=>ns.length-(intOf i).toNat)
 case atStart=>exact ⟨0,Nat.zero_le _,rfl,⟨_,HR0.out,aQ,fun m hm=>absurd hm aF⟩,hB0⟩
 case round =>
  obtain ⟨k,hk,rfl,⟨vs,hR,hvl,hrow⟩,hb⟩:=hrel
  have hsz:=hb.size
  have hRl:=aD hR
  by_cases hlt:k<ns.length
  ·obtain ⟨x,hx⟩:=bD hlt
   have hN1:=hN.below hb hN.lt
   have c0:=hN1.c0 k x hx
   have c1:=hN1.c1 k x hx
   have c2:=hN1.c2 k x hx
   have c3:=hN1.c3 k x hx
   have c4:=hN1.c4 k x hx
   have c5:=hN1.c5 k x hx
   have hblt:=hN1.lt
   have HX:=aB hx
   have HR:=aB hR
   have HV:=aB hrow
   have hli:(k:Int)<(ns.length:Int):=by omega
   clear hx hN1 hR hrow
   go_wp2_with (go_at_call 62;refine (callsIn_wide.1 (wR 1 _ _ _ _ _ _ _)).mono ?_;rintro e w2 ⟨rfl,rfl⟩)
   have hbA:Below wr.heap.size wr ((wr.alloc (.cells #[.int .i64 x.op,.int .i64 x.d,.int .i64 x.a,.int .i64 x.b,.int .i64 x.t,.int .i64 x.e] 42)).alloc (.cells #[.int .i64 x.op,.int .i64 x.d,.int .i64 x.a,.int .i64 x.b,.int .i64 x.t,.int .i64 x.e] 42)):=(dY).alloc aQ _
   have hnb:bY ((wr.alloc (.cells #[.int .i64 x.op,.int .i64 x.d,.int .i64 x.a,.int .i64 x.b,.int .i64 x.t,.int .i64 x.e] 42)).alloc (.cells #[.int .i64 x.op,.int .i64 x.d,.int .i64 x.a,.int .i64 x.b,.int .i64 x.t,.int .i64 x.e] 42)) (wr.heap.size+1) x:=by
    have:=lV (wr.alloc (.cells #[.int .i64 x.op,.int .i64 x.d,.int .i64 x.a,.int .i64 x.b,.int .i64 x.t,.int .i64 x.e] 42)) x
    rwa [World.size_alloc] at this
   generalize ((wr.alloc (.cells #[.int .i64 x.op,.int .i64 x.d,.int .i64 x.a,.int .i64 x.b,.int .i64 x.t,.int .i64 x.e] 42)).alloc (.cells #[.int .i64 x.op,.int .i64 x.d,.int .i64 x.a,.int .i64 x.b,.int .i64 x.t,.int .i64 x.e] 42))=W2 at hbA hnb ⊢
   have hsA:=hbA.size
   clear c0 c1 c2 c3 c4 c5
   refine (callsIn_wide.1 (sorted_in 5 aL (wr.heap.size+1) x W2 hnb)).mono ?_
   rintro e w3 ⟨v,rfl,hown,hb3⟩
   obtain ⟨va,vc,rfl⟩:=aU hown
   have hB3:Below wr.heap.size wr w3:=hbA.trans (hb3.mono hsA)
   have hR3:=(hB3.block _ hRl).trans HR.out
   have bJP:=aD hR3
   have hRc:w3.cell? ⟨w.heap.size+1,k,none⟩=some (vs[k]'(by omega)):=by
    rw [aA hR3,List.getElem?_toArray];exact List.getElem?_eq_getElem _
   have hRf:=aC hR3 k
   have HO:=aB hown
   have HR3:=aB hR3
   have HB3:=aB hB3
   have e1:ZV x=ints (iQ ns k):=by rw [← WI HX.out];exact aVS HC.out (List.mem_of_getElem? HX.out)
   rw [e1] at HO ⊢
   have hvk:k<vs.length:=by omega
   generalize vs[k]'hvk=vk at hRc
   clear hown hR3 hB3 hb3 hnb hbA e1
   go_wp2_with fail
   go_roundw
   case rel =>
    have hle:w.heap.size+1≤W2.heap.size:=by omega
    refine ⟨k+1,aF,by go_num,⟨vs.set k (.slice va (ints (iQ ns k)).length vc),?_,by simp [hvl],fun m hm=>?_⟩,(hb.trans (HB3.out.mono hsz)).setCell (p:=⟨w.heap.size+1,k,none⟩) aQ _⟩
    ·rw [aG _ HR3.out];simp
    ·by_cases e:m=k
     ·subst e
      exact ⟨_,by rw [List.getElem?_set_self hvk],aI (aK HO.out hle) HR3.out aL⟩
     ·obtain ⟨u,h1,h2⟩:=HV.out m aF
      exact ⟨u,by rw [List.getElem?_set_ne (fun q=>e q.symm)];exact h1,aI (ownsRow_below h2 HB3.out dD) HR3.out aL⟩
   case measure=>simp [intOf];omega
  ·have ek:k=ns.length:=by omega
   have HR:=aB hR
   have HV:=aB hrow
   clear hR hrow
   go_wp2
   go_ret
   refine ⟨_,rfl,⟨vs,HR.out,hvl,fun m v hv=>?_⟩,hb⟩
   obtain ⟨u,h1,h2⟩:=HV.out m (by have:=(List.getElem?_eq_some_iff.1 hv).1;omega)
   rw [h1] at hv
   cases hv
   exact aK h2 (Nat.zero_le _)
end Go.Proofs.YtegloodcbfalfaaGreatDoor
namespace Go.Proofs.YtegloodcbfalfaaGreatDoor
structure Stk (F:(Nat→Bool)→Nat→Bool) (k:Nat) (x:List Bool) (wk:List Nat):Prop where
 on:iD F k x
 lt:∀ n∈wk,n<k
 bad:∀ n,n<k→aM x n=true→F (aM x) n=false→n∈wk
 few:wk.length+dU x*(k+1)≤k+k*(k+1)
structure aXF (F:(Nat→Bool)→Nat→Bool) (k:Nat) (ask:Nat→List Nat):Prop where
 lt:∀ n m,m∈ask n→m<k
 len:∀ n,(ask n).length≤k
 dep:∀ (x y:Nat→Bool) n m,(∀ j,j≠n→x j=y j)→F x m=true→F y m=false→m<k→m∈ask n
theorem aGY (k:Nat):dU (List.replicate k true)=k:=by simp [dU]
theorem Stk.start (F:(Nat→Bool)→Nat→Bool) (k:Nat):Stk F k (List.replicate k true) (List.range k) :=
 ⟨iD.start F k,fun n hn=>by simpa using hn,fun n hn _ _=>by simpa using hn,by rw [aGY];simp⟩
theorem Stk.pop {F:(Nat→Bool)→Nat→Bool} {k:Nat} {x:List Bool} {wk:List Nat} {n:Nat} (h:Stk F k x (wk++[n])) (hn:aM x n=false∨F (aM x) n=true):Stk F k x wk:=by
 refine ⟨h.on,fun m hm=>h.lt m (by simp [hm]),fun m hm h1 h2=>?_,by have:=h.few;simp at this;omega⟩
 have:=h.bad m hm h1 h2
 simp only [List.mem_append,List.mem_singleton] at this
 rcases this with q | rfl
 ·exact q
 ·rcases hn with q | q
  ·rw [q] at h1;cases h1
  ·rw [q] at h2;cases h2
theorem Stk.turn {F:(Nat→Bool)→Nat→Bool} {k:Nat} {x:List Bool} {wk:List Nat} {n:Nat} {ask:Nat→List Nat} (hF:oD F) (hA:aXF F k ask) (h:Stk F k x (wk++[n])) (h1:aM x n=true) (h2:F (aM x) n=false):Stk F k (x.set n false) (wk++ask n):=by
 have hn:n<k:=h.lt n aQ
 have hl:n<x.length:=by rw [h.on.len];exact hn
 refine ⟨h.on.set hF hn h2,fun m hm=>?_,fun m hm h3 h4=>?_,?_⟩
 ·rcases List.mem_append.1 hm with q | q
  ·exact h.lt m (by simp [q])
  ·exact hA.lt n m q
 ·have hb:aM x m=true:=by
   rw [dR hl] at h3;split at h3
   ·cases h3
   ·exact h3
  have hne:m≠n:=by
   rintro rfl;rw [dR hl] at h3;simp at h3
  cases e:F (aM x) m
  ·have:=h.bad m hm hb e
   simp only [List.mem_append,List.mem_singleton] at this
   rcases this with q | q
   ·exact List.mem_append.2 (Or.inl q)
   ·exact absurd q hne
  ·exact List.mem_append.2 (Or.inr (hA.dep (aM x) (aM (x.set n false)) n m (fun j hj=>by rw [dR hl,if_neg hj]) e h4 hm))
 ·have h5:=pK hl h1
  have h6:=h.few
  have h7:=hA.len n
  simp only [List.length_append,List.length_singleton] at h6 ⊢
  have h8:(dU (x.set n false)+1)*(k+1)=dU (x.set n false)*(k+1)+(k+1):=Nat.succ_mul _ _
  rw [← h5,h8] at h6
  omega
theorem Stk.less {F:(Nat→Bool)→Nat→Bool} {k:Nat} {x:List Bool} {wk:List Nat} {n:Nat} {ask:Nat→List Nat} (hA:aXF F k ask) (h:Stk F k x (wk++[n])) (h1:aM x n=true):(wk++ask n).length+dU (x.set n false)*(k+1)<(wk++[n]).length+dU x*(k+1):=by
 have hl:n<x.length:=by rw [h.on.len];exact h.lt n aQ
 have h5:=pK hl h1
 have h7:=hA.len n
 simp only [List.length_append,List.length_singleton]
 have h8:(dU (x.set n false)+1)*(k+1)=dU (x.set n false)*(k+1)+(k+1):=Nat.succ_mul _ _
 rw [← h5,h8]
 omega
theorem Stk.done {F:(Nat→Bool)→Nat→Bool} {k:Nat} {x:List Bool} (h:Stk F k x []):IsG F k x :=
 h.on.done fun n hn h1=>by
  cases e:F (aM x) n
  ·have:=h.bad n hn h1 e;cases this
  ·rfl
theorem uK (ns:List Nd) (n:Nat):(iQ ns n).length≤ns.length:=by
 have:=List.length_filter_le (fun m=>mF ns m n) (List.range ns.length)
 simpa [iQ] using this
theorem uL (ns:List Nd) (n:Nat):(gJ ns n).length≤ns.length:=by
 have:=List.length_filter_le (fun m=>mF ns n m) (List.range ns.length)
 simpa [gJ] using this
def ask (ns:List Nd) (f:BA) (n:Nat):List Nat:=if f.back then gJ ns n else iQ ns n
theorem aMZ {l:List Nat} {p q:Nat→Bool} (hp:l.all p=true) (hq:l.all q=false):∃ m∈l,p m≠q m:=by
 rw [List.all_eq_false] at hq
 obtain ⟨m,hm,h⟩:=hq
 rw [List.all_eq_true] at hp
 exact ⟨m,hm,fun e=>h (by rw [← e];exact hp m hm)⟩
theorem aBI {e:Bool} {l:List Nat} {p q:Nat→Bool} (hp:lQ e l p=true) (hq:lQ e l q=false):∃ m∈l,p m≠q m:=by
 unfold lQ at hp hq
 split at hp
 ·rename_i hl;rw [if_pos hl] at hq;rw [hp] at hq;cases hq
 ·rename_i hl;rw [if_neg hl] at hq;exact aMZ hp hq
theorem aED (ns:List Nd) (f:BA):aXF (bZ ns f) ns.length (ask ns f):=by
 refine ⟨fun n m hm=>?_,fun n=>?_,fun x y n m hxy h1 h2 hm=>?_⟩
 ·unfold ask at hm
  split at hm
  ·exact (lH.1 hm).1
  ·exact (iY.1 hm).1
 ·unfold ask
  split
  ·exact uL ns n
  ·exact uK ns n
 ·simp only [bZ,Bool.or_eq_true,Bool.and_eq_true,Bool.or_eq_false_iff,Bool.and_eq_false_iff] at h1 h2
  obtain ⟨h3,h4⟩:=h2
  rcases h1 with h1 | ⟨h5,h6⟩
  ·rw [h1] at h3;cases h3
  ·rcases h4 with h4 | h4
   ·rw [h5] at h4;cases h4
   ·obtain ⟨j,hj,hne⟩:=aBI h6 h4
    have ej:j=n:=Classical.byContradiction fun q=>hne (by rw [hxy j q])
    subst ej
    unfold zH at hj
    unfold ask
    split at hj
    ·rename_i hb;rw [if_pos hb]
     exact lH.2 ⟨hm,(iY.1 hj).2⟩
    ·rename_i hb;rw [if_neg hb]
     exact iY.2 ⟨hm,(lH.1 hj).2⟩
end Go.Proofs.YtegloodcbfalfaaGreatDoor
namespace Go.Proofs.YtegloodcbfalfaaGreatDoor
open Go.RowKit Go.Shelf
theorem rE (R:Int→Bool) (g:Nat) (cb:Array Value) (a:Option Addr) (cap:Nat) (zs:List Int) (w:World) (hz:dW w a zs) (hl:zs.length≤140737488351232)
 (eg:∀ args w,(callFunc g args).run Tryz.prog w=.ok (.enter g args) w)
 (hg:∀ z∈zs,∀ W:World,Below w.heap.size w W→Calls Tryz.prog g (#[.int .i64 z]++cb) W fun e w' =>e=.returned (.bool (R z))∧Below W.heap.size W w') :
 Calls Tryz.prog 13 #[.slice a zs.length cap,.func (.func g) #[] cb] w fun e w' =>e=.returned (.bool (zs.all R))∧Below w.heap.size w w' :=by
 go_enter Tryz.func13,Tryz.ntmps13
 have HG:=aB hg
 clear hg
 go_wp2
 go_loopw [9] (fun i wr=>∃ k:Nat,k≤zs.length∧i=.int .i64 k∧Hid ((zs.take k).all R=true)∧Below w.heap.size w wr) (fun i _=>zs.length-(intOf i).toNat)
 case atStart=>exact ⟨0,Nat.zero_le _,rfl,rfl,Below.refl _ _⟩
 case round =>
  obtain ⟨k,hk,rfl,hA,hb⟩:=hrel
  have hsz:=hb.size
  by_cases hlt:k<zs.length
  ·obtain ⟨z,hz'⟩:=bD hlt
   have hI:=hz.below hb
   obtain ⟨b,off,rfl,hbl,hc⟩:=hI.at hlt
   have c0:=hc k z hz'
   have HX:Hid (zs[k]?=some z):=hz'
   have hm:z∈zs:=List.mem_of_getElem? hz'
   clear hz' hc hI
   go_wp2_with fail
   refine (HG.out z hm _ hb).mono ?_
   rintro e w1 ⟨rfl,hb1⟩
   have hB:Below w.heap.size w w1:=hb.trans (hb1.mono hsz)
   cases hR:R z
   ·go_wp2
    go_ret
    exact ⟨aO (dQ R HX.out hR).symm,hB⟩
   ·go_wp2
    go_roundw
    case rel=>exact ⟨k+1,aF,by go_num,(by show _=_;rw [fE _ HX.out,hA.out,hR];rfl),hB⟩
    case measure=>simp [intOf];omega
  ·go_wp2
   go_ret
   refine ⟨aO ?_,hb⟩
   rw [← hA.out,fV aF]
theorem PX (R:Int→Bool) (g:Nat) (cb:Array Value) (b cap:Nat) (vs:List (Option Addr × Nat × Nat)) (w:World) (hb0:b<w.heap.size) (hv:∀ (j:Nat) (v:Option Addr × Nat × Nat),vs[j]?=some v→w.cell? ⟨b,j,none⟩=some (.slice v.1 v.2.1 v.2.2)) (hl:vs.length≤140737488351232)
 (eg:∀ args w,(callFunc g args).run Tryz.prog w=.ok (.enter g args) w)
 (hg:∀ v∈vs,∀ W:World,Below w.heap.size w W→Calls Tryz.prog g (#[.slice v.1 v.2.1 v.2.2]++cb) W fun e w' =>e=.returned (.bool (R v.2.1))∧Below W.heap.size W w') :
 Calls Tryz.prog 239 #[.slice (some ⟨b,0,none⟩) vs.length cap,.func (.func g) #[] cb] w fun e w' =>e=.returned (.bool (vs.all fun v=>R v.2.1))∧Below w.heap.size w w' :=by
 go_enter Tryz.func239,Tryz.ntmps239
 have HG:=aB hg
 have HV:=aB hv
 clear hg hv
 go_wp2
 go_loopw [9] (fun i wr=>∃ k:Nat,k≤vs.length∧i=.int .i64 k∧Hid ((vs.take k).all (fun v=>R v.2.1)=true)∧Below w.heap.size w wr) (fun i _=>vs.length-(intOf i).toNat)
 case atStart=>exact ⟨0,Nat.zero_le _,rfl,rfl,Below.refl _ _⟩
 case round =>
  obtain ⟨k,hk,rfl,hA,hb⟩:=hrel
  have hsz:=hb.size
  by_cases hlt:k<vs.length
  ·obtain ⟨v,hv'⟩:=bD hlt
   have c0:=(hb.cell (p:=⟨b,k,none⟩) hb0).trans (HV.out k v hv')
   have hbl:b<wr.heap.size:=Nat.lt_of_lt_of_le hb0 hsz
   have HX:Hid (vs[k]?=some v):=hv'
   have hm:v∈vs:=List.mem_of_getElem? hv'
   clear hv'
   go_wp2_with fail
   refine (HG.out v hm _ hb).mono ?_
   rintro e w1 ⟨rfl,hb1⟩
   have hB:Below w.heap.size w w1:=hb.trans (hb1.mono hsz)
   cases hR:R v.2.1
   ·go_wp2
    go_ret
    exact ⟨aO (dQ (fun v:Option Addr × Nat × Nat=>R v.2.1) HX.out hR).symm,hB⟩
   ·go_wp2
    go_roundw
    case rel=>exact ⟨k+1,aF,by go_num,(by show _=_;rw [fE _ HX.out,hA.out,hR];rfl),hB⟩
    case measure=>simp [intOf];omega
  ·go_wp2
   go_ret
   refine ⟨aO ?_,hb⟩
   rw [← hA.out,fV aF]
end Go.Proofs.YtegloodcbfalfaaGreatDoor
