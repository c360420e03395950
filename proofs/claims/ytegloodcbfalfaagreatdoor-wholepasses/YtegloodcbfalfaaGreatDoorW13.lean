/-
  Of the proof of WholePasses: NC, NE, ZC.
-/
import Derived.Test.YtegloodcbfalfaaGreatDoorW1
import Derived.Test.YtegloodcbfalfaaGreatDoorW2
import Derived.Test.YtegloodcbfalfaaGreatDoorW5
import Derived.Test.YtegloodcbfalfaaGreatDoorW6
import Derived.Test.YtegloodcbfalfaaGreatDoorW7
import Derived.Test.YtegloodcbfalfaaGreatDoorW11
import Derived.Test.YtegloodcbfalfaaGreatDoorW12
import Derived.Laws.BitsAllLaws
import Derived.RangeFuncBox
import Derived.Deep.Upon
import Derived.Deep.RegionHeld3
import Derived.Deep.DeepCutAuto
import Derived.ScopeJumps
import Derived.WalkMore
set_option linter.unusedVariables false
set_option linter.unusedSimpArgs false
set_option maxHeartbeats 40000000
set_option maxRecDepth 100000
namespace Go.Proofs.YtegloodcbfalfaaGreatDoor
open Go.RowKit
theorem nZ (m:BitVec 64):BitVec.ofInt 64 (m.toNat:Int)=m:=by
 rw [BitVec.ofInt_natCast,BitVec.ofNat_toNat,BitVec.setWidth_eq]
theorem BR (m:BitVec 64):IntKind.u64.wrap (m.toNat:Int)=(m.toNat:Int):=by
 have:=m.isLt
 rw [IntKind.wrap_u64];omega
theorem BS (m n:BitVec 64):bits .or .u64 (m.toNat:Int) (n.toNat:Int)=((m ||| n).toNat:Int):=by
 show IntKind.u64.wrap ((BitVec.ofInt 64 (m.toNat:Int) ||| BitVec.ofInt 64 (n.toNat:Int)).toNat:Int)=_
 rw [nZ,nZ,BR]
theorem QP (m:BitVec 64):bits .or .u64 0 (m.toNat:Int)=(m.toNat:Int):=by
 have:=BS 0#64 m
 rw [BitVec.zero_or] at this
 exact this
theorem XZ (m n:BitVec 64):bits .andNot .u64 (m.toNat:Int) (n.toNat:Int)=((m &&& ~~~n).toNat:Int):=by
 show IntKind.u64.wrap ((BitVec.ofInt 64 (m.toNat:Int) &&& ~~~BitVec.ofInt 64 (n.toNat:Int)).toNat:Int)=_
 rw [nZ,nZ,BR]
theorem aOW (m n:BitVec 64):bits .and .u64 (m.toNat:Int) (n.toNat:Int)=((m &&& n).toNat:Int):=by
 show IntKind.u64.wrap ((BitVec.ofInt 64 (m.toNat:Int) &&& BitVec.ofInt 64 (n.toNat:Int)).toNat:Int)=_
 rw [nZ,nZ,BR]
theorem xQ {a:Int} (h:0≤a∧a<64):IntKind.u64.wrap (2 ^ a.toNat)=((FZ a).toNat:Int):=by
 have h1:a.toNat<64:=by omega
 have e:(FZ a).toNat=2 ^ a.toNat:=by
  simp only [FZ,BitVec.toNat_shiftLeft,BitVec.toNat_ofNat]
  rw [Nat.shiftLeft_eq,Nat.mod_eq_of_lt (a:=1) aL,Nat.one_mul,Nat.mod_eq_of_lt (Nat.pow_lt_pow_right aL h1)]
 have:=BR (FZ a)
 rw [e] at this ⊢
 rw [← this];norm_cast
theorem GZ (x:Nd) (w:World) :
 Calls Tryz.prog 68 #[.agg #[.int .i64 x.op,.int .i64 x.d,.int .i64 x.a,.int .i64 x.b,.int .i64 x.t,.int .i64 x.e]] w fun e w' =>e=.returned (.bool (wi x.op 1 8))∧Below w.heap.size w w' :=by
 have hb0:Below w.heap.size w (w.alloc (.cells #[.int .i64 x.op,.int .i64 x.d,.int .i64 x.a,.int .i64 x.b,.int .i64 x.t,.int .i64 x.e] 42)):=dY
 by_cases h1:1≤x.op
 ·go_enter Tryz.func68,Tryz.ntmps68
  go_wp2
  go_ret
  exact ⟨aO (by simp [wi,h1]),hb0⟩
 ·go_enter Tryz.func68,Tryz.ntmps68
  go_wp2
  go_ret
  exact ⟨aO (by simp [wi];omega),hb0⟩
theorem aYM (x:Nd):k1 x.op=1↔usA x=true:=by
 unfold k1 usA
 by_cases h:x.op=1
 ·simp [h,wi]
 ·rw [if_neg h]
  have e:(wi x.op 2 8||wi x.op 10 12)=(x.op==2||wi x.op 3 8||wi x.op 10 12):=by
   congr 1
   by_cases h2:x.op=2
   ·simp [h2,wi]
   ·have:(x.op==2)=false:=by simp [h2]
    rw [this,Bool.false_or]
    simp only [wi]
    congr 1
    simp;omega
  rw [e]
  cases (x.op==2||wi x.op 3 8||wi x.op 10 12) <;> simp
theorem aYN (x:Nd):k2 x.op=1↔usB x=true:=by
 unfold k2 usB
 cases wi x.op 3 8 <;> simp
theorem aOX (x:Nd) (w:World) (ha:usA x=true→0≤x.a∧x.a<64) (hb:usB x=true→0≤x.b∧x.b<64) :
 Calls Tryz.prog 105 #[.agg #[.int .i64 x.op,.int .i64 x.d,.int .i64 x.a,.int .i64 x.b,.int .i64 x.t,.int .i64 x.e]] w fun e w' =>e=.returned (.int .u64 ((aNT x).toNat:Int))∧Below w.heap.size w w' :=by
 obtain ⟨W,jU,hb0,hn⟩:=bx1 w (.cells #[.int .i64 x.op,.int .i64 x.d,.int .i64 x.a,.int .i64 x.b,.int .i64 x.t,.int .i64 x.e] 42)
 go_enter Tryz.func105,Tryz.ntmps105
 go_wp2_with fail
 rw [jU.out]
 clear jU
 refine (nE _ _).mono ?_
 rintro e w1 ⟨rfl,hb1⟩
 have hn1:=bP hb1 hn
 have c2:=aA hn1 2
 have c3:=aA hn1 3
 simp at c2 c3
 have cl:=aD hn1
 have HB:=aB (bG hb0 hb1)
 clear hn hn1 hb1 hb0
 have HA:=aB (aYM x)
 have QN:=aB (aYN x)
 have hA' :=ha
 have hB' :=hb
 have HU:Hid (aNT x=(if usA x then FZ x.a else 0#64) ||| (if usB x then FZ x.b else 0#64)):=rfl
 have Ha:=aB ha
 have Hb:=aB hb
 clear ha hb hA' hB'
 generalize k0 x.op=K0
 generalize k1 x.op=K1 at HA ⊢
 generalize k2 x.op=K2 at QN ⊢
 generalize k3 x.op=K3
 generalize k4 x.op=K4
 generalize kn x.op=KN
 generalize usA x=ua at HA HU Ha
 generalize usB x=ub at QN HU Hb
 by_cases h1:K1=1
 ·have e1:ua=true:=HA.out.1 h1
  have r1:=Ha.out e1
  have hk1:(K1==1)=true:=by simp [h1]
  have r10:=r1.1
  have r11:x.a≤64:=by omega
  have H1:=aB e1
  have R1:=aB r1
  clear h1 e1 r1
  by_cases h2:K2=1
  ·have e2:ub=true:=QN.out.1 h2
   have r2:=Hb.out e2
   have hk2:(K2==1)=true:=by simp [h2]
   have r20:=r2.1
   have r21:x.b≤64:=by omega
   have H2:=aB e2
   have R2:=aB r2
   clear h2 e2 r2
   go_wp2
   go_ret
   exact ⟨bU (by rw [xQ R1.out,xQ R2.out,QP,BS,HU.out,H1.out,H2.out];rfl),HB.out.alloc HB.out.size _⟩
  ·have e2:ub=false:=by cases h:ub;rfl;exact absurd (QN.out.2 h) h2
   have hk2:(K2==1)=false:=by simp [h2]
   have H2:=aB e2
   clear h2 e2
   go_wp2
   go_ret
   exact ⟨bU (by rw [xQ R1.out,QP,HU.out,H1.out,H2.out];simp),HB.out.alloc HB.out.size _⟩
 ·have e1:ua=false:=by cases h:ua;rfl;exact absurd (HA.out.2 h) h1
  have hk1:(K1==1)=false:=by simp [h1]
  have H1:=aB e1
  clear h1 e1
  by_cases h2:K2=1
  ·have e2:ub=true:=QN.out.1 h2
   have r2:=Hb.out e2
   have hk2:(K2==1)=true:=by simp [h2]
   have r20:=r2.1
   have r21:x.b≤64:=by omega
   have H2:=aB e2
   have R2:=aB r2
   clear h2 e2 r2
   go_wp2
   go_ret
   exact ⟨bU (by rw [xQ R2.out,QP,HU.out,H1.out,H2.out];simp),HB.out.alloc HB.out.size _⟩
  ·have e2:ub=false:=by cases h:ub;rfl;exact absurd (QN.out.2 h) h2
   have hk2:(K2==1)=false:=by simp [h2]
   have H2:=aB e2
   clear h2 e2
   go_wp2
   go_ret
   exact ⟨bU (by rw [HU.out,H1.out,H2.out];simp),HB.out.alloc HB.out.size _⟩
theorem JN (x:Nd) (w:World) :
 Calls Tryz.prog 106 #[.agg #[.int .i64 x.op,.int .i64 x.d,.int .i64 x.a,.int .i64 x.b,.int .i64 x.t,.int .i64 x.e]] w fun e w' =>∃ z,e=.returned (.tuple #[.int .i64 z,.bool (wi x.op 1 9)])∧(wi x.op 1 9=true→z=x.d)∧Below w.heap.size w w' :=by
 obtain ⟨W,oG,hb0,hn⟩:=bx1 w (.cells #[.int .i64 x.op,.int .i64 x.d,.int .i64 x.a,.int .i64 x.b,.int .i64 x.t,.int .i64 x.e] 42)
 go_enter Tryz.func106,Tryz.ntmps106
 go_wp2_with fail
 rw [oG.out]
 clear oG
 refine (nE _ _).mono ?_
 rintro e w1 ⟨rfl,hb1⟩
 have hn1:=bP hb1 hn
 have c1:=aA hn1 1
 simp at c1
 have cl:=aD hn1
 have HB:=aB (bG hb0 hb1)
 clear hn hn1 hb1 hb0
 have HK:Hid (k0 x.op=if wi x.op 1 9 then 1 else 0):=rfl
 generalize k0 x.op=K at HK ⊢
 cases hw:wi x.op 1 9
 ·obtain rfl:K=0:=by rw [HK.out,hw];rfl
  have HQ:=aB hw
  clear hw
  go_wp2
  go_ret2
  exact ⟨0,by rw [HQ.out];rfl,(fun h=>by rw [HQ.out] at h;cases h),HB.out.alloc HB.out.size _⟩
 ·obtain rfl:K=1:=by rw [HK.out,hw];rfl
  have HQ:=aB hw
  clear hw
  go_wp2
  go_ret2
  exact ⟨x.d,by rw [HQ.out];rfl,(fun _=>rfl),HB.out.alloc HB.out.size _⟩
theorem NF (x:Nd) (w:World) (hd:wi x.op 1 9=true→0≤x.d∧x.d<64) :
 Calls Tryz.prog 69 #[.agg #[.int .i64 x.op,.int .i64 x.d,.int .i64 x.a,.int .i64 x.b,.int .i64 x.t,.int .i64 x.e]] w fun e w' =>e=.returned (.int .u64 ((iE x).toNat:Int))∧Below w.heap.size w w' :=by
 obtain ⟨W,yL,hb0,-⟩:=bx1 w (.cells #[.int .i64 x.op,.int .i64 x.d,.int .i64 x.a,.int .i64 x.b,.int .i64 x.t,.int .i64 x.e] 42)
 go_enter Tryz.func69,Tryz.ntmps69
 go_wp2_with fail
 rw [yL.out]
 clear yL
 refine (JN x W).mono ?_
 rintro e w1 ⟨z,rfl,hz,hb1⟩
 have HB:=aB (bG hb0 hb1)
 clear hb1 hb0
 cases hw:wi x.op 1 9
 ·have HQ:=aB hw
  clear hw hz hd
  go_wp2
  go_ret
  exact ⟨bU (by rw [iE,HQ.out];rfl),HB.out⟩
 ·have e:=hz hw
  subst e
  have r1:=hd hw
  have HQ:=aB hw
  have R1:=aB r1
  have r10:=r1.1
  have r11:x.d≤64:=by omega
  clear hw hz hd r1
  go_wp2
  go_ret
  exact ⟨bU (by rw [xQ R1.out,iE,HQ.out];rfl),HB.out⟩
end Go.Proofs.YtegloodcbfalfaaGreatDoor
namespace Go.Proofs.YtegloodcbfalfaaGreatDoor
open Go.RowKit Go.Shelf
def xR (w:World) (b:Nat) (L:List (BitVec 64)):Prop:=b<w.heap.size∧∀ (j:Nat),j<L.length→w.cell? ⟨b,j,none⟩=some (.int .u64 ((L.getD j 0#64).toNat:Int))
theorem xR.below {w w' :World} {b:Nat} {L:List (BitVec 64)} (h:xR w b L) (hb:Below w.heap.size w w'):xR w' b L :=
 ⟨Nat.lt_of_lt_of_le h.1 hb.size,fun j hj=>(hb.cell (p:=⟨b,j,none⟩) h.1).trans (h.2 j hj)⟩
theorem IA (L:List (BitVec 64)) (l:List Nat) {k m:Nat} (h:l[k]?=some m):vT L (l.take (k+1))=vT L (l.take k) ||| L.getD m 0#64:=by
 unfold vT
 rw [List.take_add_one,h,List.foldl_append];rfl
theorem IB (ns:List Nd) (L:List (BitVec 64)) (na:Option Addr) (nl nc ab n rb lb:Nat) (F:Nat→List Nat) (w:World) (hR:qC w rb ns.length F) (hL:xR w lb L) (hl:L.length=ns.length) (hn:n<ns.length) (h256:ns.length≤256) (hF:∀ m∈F n,m<ns.length) (hFl:(F n).length≤256) :
 Calls Tryz.prog 70 #[.agg #[.slice na nl nc,.slice (some ⟨rb,0,none⟩) ns.length ns.length,.slice (some ⟨ab,0,none⟩) ns.length ns.length],.int .i64 n,.slice (some ⟨lb,0,none⟩) ns.length ns.length] w fun e w' =>e=.returned (.int .u64 ((vT L (F n)).toNat:Int))∧Below w.heap.size w w' :=by
 obtain ⟨ra,rc,hrc,hI⟩:=hR.row n hn
 have hrl:=hR.lt
 have hni:(n:Int)<(ns.length:Int):=by omega
 obtain ⟨W,zW,hb0,hbx⟩:=bx1 w (.cells #[.slice na nl nc,.slice (some ⟨rb,0,none⟩) ns.length ns.length,.slice (some ⟨ab,0,none⟩) ns.length ns.length] 112)
 have bLE:=(hb0.cell (p:=⟨rb,n,none⟩) hrl).trans hrc
 have hI1:=hI.below hb0
 have hL1:=hL.below hb0
 have bLF:=Nat.lt_of_lt_of_le hrl hb0.size
 go_enter Tryz.func70,Tryz.ntmps70
 go_upto_region 1 with fail
 rw [zW.out]
 clear zW
 have q1:=aA hbx 1
 simp at q1
 have ql:=aD hbx
 have HI:=aB hI1
 have HL:=aB hL1
 have HB:=aB hb0
 have HFN:=aB hF
 have uD:=aB hl
 clear hI1 hL1 hb0 hbx hR hL hI hrc hF hl hrl
 go_wp2_with fail
 go_loopw [7,16] (fun v i wr=>∃ k:Nat,k≤(F n).length∧i=.int .i64 k∧v=.int .u64 ((vT L ((F n).take k)).toNat:Int)∧wr=W) (fun v i _=>(F n).length-(intOf i).toNat)
 case atStart=>exact ⟨0,Nat.zero_le _,rfl,rfl,rfl⟩
 case round =>
  obtain ⟨k,hk,rfl,rfl,rfl⟩:=hrel
  by_cases hlt:k<(F n).length
  ·obtain ⟨m,hm⟩:=bD hlt
   have hpos:k<(ints (F n)).length:=by rw [bX];exact hlt
   obtain ⟨ib,io,rfl,hil,hic⟩:=HI.out.at hpos
   have c1:=hic k (m:Int) (by simp [ints,hm])
   have YY:=HFN.out m (List.mem_of_getElem? hm)
   have c2:=HL.out.2 m (by rw [uD.out];exact YY)
   have c2l:=HL.out.1
   have KW:(m:Int)<(ns.length:Int):=by omega
   have hki:(k:Int)<((F n).length:Int):=by omega
   have HM:=aB (IA L (F n) hm)
   have HO:=aB (BS (vT L ((F n).take k)) (L.getD m 0#64))
   clear hic hm hpos
   generalize vT L ((F n).take k)=B at HM HO ⊢
   generalize L.getD m 0#64=D at HM HO c2
   go_wp2
   go_roundw
   case rel=>exact ⟨k+1,aF,by go_num,by rw [HM.out,← HO.out],by first | rfl | trivial⟩
   case measure=>simp [intOf];omega
  ·have hke:k=(F n).length:=by omega
   subst hke
   rw [List.take_length]
   go_wp2
   go_ret
   exact ⟨rfl,HB.out⟩
theorem YA (l:List Nat) (k:Nat):(ints (l++[k])).map (Value.int .i64)=(ints l).map (Value.int .i64)++[.int .i64 k]:=by simp [ints]
def lZ (L:List (BitVec 64)):Array Value:=(L.map fun m=>Value.int .u64 (m.toNat:Int)).toArray
def aOY:Value→BitVec 64 | .int _ v=>BitVec.ofInt 64 v | _=>0#64
def QQ (w:World) (b:Nat):List (BitVec 64):=match w.heap[b]? with | some (.cells cs _ _)=>cs.toList.map aOY | _=>[]
def NI:Value→Nat | .slice _ n _=>n | _=>0
theorem oC {w:World} {b:Nat} {L:List (BitVec 64)} {t:TypeId} {fr:Nat × Nat} (h:w.heap[b]?=some (.cells (lZ L) t fr)):QQ w b=L:=by
 simp only [QQ,h,lZ]
 rw [List.map_map]
 have:(aOY ∘ fun m:BitVec 64=>Value.int .u64 (m.toNat:Int))=id:=by
  funext m;exact nZ m
 rw [this];simp
theorem aOZ:(Tryz.prog.info? 118).map (fun i=>(i.zero,i.size,i.bytes))=some (some (.int .u64 0),1,8):=by kernel_rfl
theorem aCH (n:Nat):madeCells #[Value.int .u64 0] n=lZ (List.replicate n 0#64):=by
 apply Array.ext'
 rw [toList_madeCells_one]
 simp [lZ]
theorem NJ {L:List (BitVec 64)} {n:Nat} (h:n<L.length):(lZ L)[n]?=some (.int .u64 ((L.getD n 0#64).toNat:Int)):=by
 simp [lZ,h]
theorem aIE (L:List (BitVec 64)) (n:Nat) (m:BitVec 64):(lZ L).setIfInBounds n (.int .u64 (m.toNat:Int))=lZ (L.set n m):=by
 simp only [lZ,List.setIfInBounds_toArray,List.map_set]
theorem IC {w:World} {b:Nat} {L:List (BitVec 64)} {t:TypeId} (h:w.heap[b]?=some (.cells (lZ L) t (0,0))):xR w b L :=
 ⟨aD h,fun j hj=>by rw [aA h,NJ hj]⟩
theorem NK {w:World} {base:Nat} {e:TypeId} {g cap n:Nat} {xs:List Value} {v:Value} (h:w.ownsRow base e 1 (.slice (some ⟨g,0,none⟩) (n+1) cap) (n+1) (xs++[v])):w.ownsRow base e 1 (.slice (some ⟨g,0,none⟩) n cap) n xs:=by
 obtain ⟨hl,h⟩:=h
 simp only [List.length_append,List.length_singleton,Nat.mul_one] at hl
 refine ⟨aF,?_⟩
 rcases h with ⟨q,_⟩ | ⟨g', cap', cur,q,a1,a2,a3,a4,a5,a6⟩
 ·cases q
 ·cases q
  refine Or.inr ⟨g,cap,cur,rfl,a1,a2,aF,a4,a5,?_⟩
  simp only [Nat.mul_one] at a6 ⊢
  have h2:=congrArg (List.take n) a6
  rw [List.take_take,Nat.min_eq_left aF] at h2
  rw [h2,List.take_append_of_le_length aF,List.take_of_length_le aF]
theorem QR (w:World) (ty:TypeId) (base a:Option Addr) (sLen sCap c:Nat) (hle:sLen≤sCap) :
 (Builtin.append_ #[25,25] ty #[.slice base sLen sCap,.slice a 0 c]).run Tryz.prog w=.ok (.slice base sLen sCap) w:=by
 obtain ⟨i0,hi,hz0,hz1,hz2⟩:=info_parts fZ
 refine run_append_nothing w 25 25 ty 3 i0 Tryz.underlying25 hi base sLen sCap hle _ ⟨Or.inl ⟨_,Tryz.underlying25⟩,fun w' =>by simp [Builtin.lenOf],?_,?_,aQ,aQ⟩
 ·cases a <;> simp [Builtin.firstCells,loadCells,loadCellsFrom]
 ·cases a <;> simp [Builtin.firstCells,loadCells,loadCellsFrom]
theorem uX {w:World} {ops:Array Oper} {rest:List Oper} {o:Oper} {a:Act} {Q:Exit→Act→World→Prop} (hgd:o.guard=none) (s x:Operand)
 (ho:o.op=.call { callee:=.builtin .append,args:=#[s,x],argTypes:=#[25,25] }) (base ra:Option Addr) (sLen sCap c:Nat) (hs:a.eval s=.slice base sLen sCap) (hx:a.eval x=.slice ra 0 c) (hle:sLen≤sCap)
 (h:wpList Tryz.prog ops Q rest (a.put o.dst (.slice base sLen sCap)) w):wpList Tryz.prog ops Q (o::rest) a w:=by
 refine wpList_plain hgd fun K hK=>?_
 have hr:=QR w o.type base ra sLen sCap c hle
 unfold Oper.wp execOp
 simp only [ho,resolve,invoke,builtin,Sem.run_bind,Sem.run_pure,Result.andThen_ok,List.map_toArray,List.map_cons,List.map_nil,hs,hx,hr]
 exact hK _ _ h
theorem NL (b o j:Nat):(⟨b,o,none⟩:Addr).add j=⟨b,o+j,none⟩:=by
 cases j <;> simp [Addr.add]
theorem QS (l m:List Nat):ints (l++m)=ints l++ints m:=by simp [ints]
theorem aEU (ns:List Nd) (n:Nat):(iQ ns n).length≤ns.length:=Nat.le_trans (List.length_filter_le _ _) aQ
theorem aTJ (ns:List Nd) (n:Nat):(gJ ns n).length≤ns.length:=Nat.le_trans (List.length_filter_le _ _) aQ
theorem eO {W u:World} {g:Nat} {cs:Array Value} {t:TypeId} {v:Value} (h:W.heap[g]?=some (.cells cs t (0,0))) (hB:Below W.heap.size W u) (i:Nat) (hv:cs[i]?=some v):u.cell? ⟨g,i,none⟩=some v:=by
 rw [(hB.cell (p:=⟨g,i,none⟩) (aD h)),aA h i];exact hv
theorem aIF {r:Int} {len:Nat} {x:Nd} (hF:Full r len x) (hr:r≤64) (h:usA x=true):0≤x.a∧x.a<64:=by
 simp only [usA,Bool.or_eq_true,beq_iff_eq] at h
 have h' :x.op=2∨(3≤x.op∧x.op≤8)∨(10≤x.op∧x.op≤12):=by
  rcases h with (h | h) | h
  ·exact Or.inl h
  ·exact Or.inr (Or.inl (aY.1 h))
  ·exact Or.inr (Or.inr (aY.1 h))
 have:=hF.a aF aF aF
 omega
theorem aIG {r:Int} {len:Nat} {x:Nd} (hF:Full r len x) (hr:r≤64) (h:usB x=true):0≤x.b∧x.b<64:=by
 have h:=aY.1 h
 have:=hF.b h.1 h.2
 omega
theorem IE {r:Int} {len:Nat} {x:Nd} (hF:Full r len x) (hr:r≤64) (h:wi x.op 1 9=true):0≤x.d∧x.d<64:=by
 have h:=aY.1 h
 have:=hF.d h.1 h.2
 omega
theorem aIH {k:Nat} (hk:k≤256):(List.range k).length+left (List.replicate k 0#64)*k≤k+64*256*256:=by
 have h1:=aSP (List.replicate k 0#64)
 rw [List.length_replicate] at h1
 have h2:left (List.replicate k 0#64)*k≤64*256*256:=Nat.mul_le_mul (Nat.le_trans h1 (Nat.mul_le_mul_left _ hk)) hk
 rw [List.length_range]
 omega
theorem IG {a b k c B:Nat} (h1:a+1+b*k≤B) (h2:c+1≤b) (d:Nat) (h3:d≤k):a+d+c*k≤B:=by
 have:=Nat.mul_le_mul_right k h2
 rw [Nat.succ_mul] at this
 omega
theorem NM {a b k c:Nat} (h2:c+1≤b) (d:Nat) (h3:d≤k):a+d+c*(k+1)<a+1+b*(k+1):=by
 have:=Nat.mul_le_mul_right (k+1) h2
 rw [Nat.succ_mul] at this
 omega
theorem aPA (r:Int) (ns:List Nd) (nb no dK rb ab:Nat) (w:World) (hN:aH w nb no ns) (hc:bM r ns=0) (hR:qC w rb ns.length (iQ ns)) (hA:qC w ab ns.length (gJ ns)) :
 Calls Tryz.prog 67 #[.agg #[.slice (some ⟨nb,no,none⟩) ns.length dK,.slice (some ⟨rb,0,none⟩) ns.length ns.length,.slice (some ⟨ab,0,none⟩) ns.length ns.length]] w fun e w' =>∃ lb L,e=.returned (.slice (some ⟨lb,0,none⟩) ns.length ns.length)∧w.heap.size≤lb∧IsL ns L∧w'.heap[lb]?=some (.cells (lZ L) 118 (0,0))∧Below w.heap.size w w' :=by
 obtain ⟨i0,hi,hz0,hz1,hz2⟩:=info_parts fZ
 have hl:=(bE hc).1
 have hr:=(bE hc).2.1.2
 have hms:∀ W:World,Sem.run Tryz.prog (Instr.makeSlice 114 (.int .i64 (ns.length:Int)) (.int .i64 (ns.length:Int))) W=.ok (.slice (some ⟨W.heap.size,0,none⟩) ns.length ns.length) (W.alloc (.cells (madeCells #[.int .u64 0] ns.length) 118)):=fun W=>run_make_row' 114 118 _ 8 Tryz.underlying114 aOZ rfl .i64 .i64 ns.length aF aF W
 obtain ⟨Wq,HV5,hb0,hbx⟩:=bx1 w (.cells #[.slice (some ⟨nb,no,none⟩) ns.length dK,.slice (some ⟨rb,0,none⟩) ns.length ns.length,.slice (some ⟨ab,0,none⟩) ns.length ns.length] 112)
 have hN0:=hN.below hb0 hN.lt
 have hR0:=hR.below hb0
 have hA0:=hA.below hb0
 have HC:=aB hc
 clear hc hN hR hA
 go_enter Tryz.func67,Tryz.ntmps67
 go_upto_region 1 with fail
 rw [HV5.out]
 clear HV5
 have q0:=aA hbx 0
 simp at q0
 have ql:=aD hbx
 have HWq:=aB hb0
 have HX:=aB hbx
 have HN:=aB hN0
 have HR:=aB hR0
 have HA:=aB hA0
 clear hb0 hbx hN0 hR0 hA0
 go_upto_region 3 with fail
 have hB0:Below Wq.heap.size Wq (Wq.alloc (.cells (madeCells #[.int .u64 0] ns.length) 118)):=dY
 have hX0:(Wq.alloc (.cells (madeCells #[.int .u64 0] ns.length) 118)).heap[Wq.heap.size]?=some (.cells (lZ (List.replicate ns.length 0#64)) 118 (0,0)):=by
  rw [World.alloc_heap_new,aCH]
 have q0' :=(hB0.cell (p:=⟨w.heap.size,0,none⟩) ql).trans q0
 have ql' :=Nat.lt_of_lt_of_le ql hB0.size
 generalize (Wq.alloc (.cells (madeCells #[.int .u64 0] ns.length) 118))=W0 at hB0 hX0 q0' ql' ⊢
 have HX0:=aB hX0
 have HB0:=aB hB0
 clear hX0 hms hB0 q0 ql
 go_wp2_with fail
 go_loopw [4,16] (fun v i wr=>∃ k:Nat,k≤ns.length∧i=.int .i64 k∧wr.heap[Wq.heap.size]?=some (.cells (lZ (List.replicate ns.length 0#64)) 118 (0,0))∧wr.ownsRow (Wq.heap.size+1) 3 1 v (ints (List.range k)).length ((ints (List.range k)).map (Value.int .i64))∧Below Wq.heap.size Wq wr) (fun v i _=>ns.length-(intOf i).toNat)
 case atStart=>exact ⟨0,Nat.zero_le _,rfl,HX0.out,World.ownsRow_nil _ _ _ _,HB0.out⟩
 case round =>
  obtain ⟨k,hk,rfl,hX,hown,hb⟩:=hrel
  have hsz:=hb.size
  have hXl:=aD hX
  by_cases hlt:k<ns.length
  ·have hli:(k:Int)<(ns.length:Int):=by omega
   have yJ:=aB hX
   have HO:=aB hown
   have HLE:=aB (show (ints (List.range k)).length=k by simp [ints])
   have HB:=aB hb
   clear hX hown hb
   have HNW:=aB (World.alloc_heap_new wr (.cells #[.int .i64 k] 3))
   go_wp2_with (at_builtin;refine wpList_append_own _ rfl (.tmp 19) (.tmp 21) 25 rfl (Wq.heap.size+1) 3 i0 (.int .i64 0) 1 8 Tryz.underlying25 hi hz0 hz1 hz2 rfl aL _ _ _ rfl (HO.out.alloc _) ⟨wr.heap.size,0,none⟩ 1 1 [.int .i64 k] rfl rfl ?c1 ?c2 ?c3 ?c4 ?c5 ?_)
   case c1 =>
    intro j u hj
    match j,hj with
    | 0,hj=>simp at hj;subst hj;exact aA HNW.out 0
   case c2=>intro u hu;simp at hu;subst hu;rfl
   case c3=>rw [HLE.out];unfold maxLen;omega
   case c4=>rw [HLE.out];omega
   case c5=>simp;omega
   intro v' w3 hown3 hg3 _
   have hlt3:=HO.out.lt
   have hB3:Below Wq.heap.size Wq w3:=(HB.out.alloc hsz _).grown hg3 bF (fun k hk=>by have:=(hlt3 k hk).1;omega)
   have hX3:w3.heap[Wq.heap.size]?=some (.cells (lZ (List.replicate ns.length 0#64)) 118 (0,0)):=by
    rw [hg3.block _ bF (fun e=>by have:=(hlt3 _ e.symm).1;omega),Below.heap_alloc _ _ _ hXl];exact yJ.out
   have hown4:w3.ownsRow (Wq.heap.size+1) 3 1 v' (ints (List.range (k+1))).length ((ints (List.range (k+1))).map (Value.int .i64)):=by
    rw [List.range_succ,YA];simpa [ints] using hown3
   have H3:=aB (And.intro hX3 (And.intro hown4 hB3))
   clear hown3 hg3 hlt3 hB3 hX3 hown4 HO yJ HB
   go_wp2
   go_roundw
   case rel=>exact ⟨k+1,aF,by go_num,H3.out.1,H3.out.2.1,H3.out.2.2⟩
   case measure=>simp [intOf];omega
  ·have ek:k=ns.length:=by omega
   subst ek
   have HS:=aB (LS.start ns)
   have yJ:=aB hX
   have HO:=aB hown
   have HB:=aB hb
   clear hX hown hb q0' ql'
   go_wp2_with fail
   go_loopw [4] (fun v wr=>∃ L wk,LS ns L wk∧wk.length+left L*ns.length≤ns.length+64*256*256∧wr.heap[Wq.heap.size]?=some (.cells (lZ L) 118 (0,0))∧wr.ownsRow (Wq.heap.size+1) 3 1 v (ints wk).length ((ints wk).map (Value.int .i64))∧Below Wq.heap.size Wq wr) (fun v wr=>NI v+left (QQ wr Wq.heap.size)*(ns.length+1))
   case atStart=>exact ⟨_,_,HS.out,aIH hl.2,yJ.out,HO.out,HB.out⟩
   case round =>
    clear HS yJ HO HB hXl hsz
    obtain ⟨L,wk,hS,PZ,hX,hown,hb⟩:=hrel
    have hXl:=aD hX
    rcases List.eq_nil_or_concat wk with rfl | ⟨wk', n,rfl⟩
    ·obtain ⟨va,vc,rfl⟩:=aU hown
     have yJ:=aB hX
     have HS:=aB hS
     have HB:=aB hb
     clear hX hS hb hown
     go_wp2
     go_ret
     exact ⟨Wq.heap.size,L,rfl,HWq.out.size,HS.out.done HC.out,yJ.out,bG HWq.out HB.out⟩
    ·rw [List.concat_eq_append] at hS hown PZ
     have e:(ints (wk' ++[n])).length=wk'.length+1:=by simp [ints]
     rw [e,YA] at hown
     have hn:n<ns.length:=hS.wl n aQ
     rw [List.length_append,List.length_singleton] at PZ
     obtain ⟨g,vc,rfl,hgb,hgl,hvc⟩:∃ g vc,u4=.slice (some ⟨g,0,none⟩) (wk'.length+1) vc∧Wq.heap.size+1≤g∧g<wr.heap.size∧wk'.length+1≤vc:=by
      rcases hown.2 with ⟨_,q⟩ | ⟨g,vc,cur,rfl,q1,q2,q3,_⟩
      ·omega
      ·exact ⟨g,vc,rfl,q1,aD q2,q3⟩
     have hcell:wr.cell? ⟨g,wk'.length,none⟩=some (.int .i64 n):=by
      have h0:=hown.cells (g:=g) rfl wk'.length (.int .i64 n) (by rw [List.getElem?_append_right (by simp [ints])];simp [ints])
      rwa [NL,Nat.zero_add] at h0
     have hfw:wk'.length<4200000:=by omega
     have hwrap:IntKind.i64.wrap (((wk'.length+1:Nat):Int)-1)=(wk'.length:Int):=by
      rw [IntWalk.i64_left];unfold wrap64;omega
     have hmc:(wk'.length:Int)≤(vc:Int):=by omega
     have hni:(n:Int)<(ns.length:Int):=by omega
     have hm0:(0:Int)<((wk'.length+1:Nat):Int):=by omega
     have YB:=HN.out.below hb HN.out.lt
     have hgn:=eU hn
     have HF:=aB (dJ HC.out hn)
     generalize hxx:nd ns n=x at hgn HF
     have HXE:=aB hxx
     have d0:=YB.c0 n x hgn
     have d1:=YB.c1 n x hgn
     have d2:=YB.c2 n x hgn
     have d3:=YB.c3 n x hgn
     have d4:=YB.c4 n x hgn
     have d5:=YB.c5 n x hgn
     have dl:=YB.lt
     have ZI:=(hb.block w.heap.size (aD HX.out)).trans HX.out
     have q0:=aA ZI 0
     simp at q0
     have ql:=aD ZI
     obtain ⟨Wx,HV6,hbX,lW⟩:=bx1 wr (.cells #[.int .i64 x.op,.int .i64 x.d,.int .i64 x.a,.int .i64 x.b,.int .i64 x.t,.int .i64 x.e] 42)
     have yJ:=aB hX
     have HS:=aB hS
     have HB:=aB hb
     have HO:=aB hown
     have aPB:=aB PZ
     have HQR:=aB ZI
     clear hX hS hb hown ZI e PZ YB hgn hxx
     go_upto_region 12 with fail
     have HXW:=aB (bP hbX HQR.out)
     have aYO:=aB ((hbX.block _ hXl).trans yJ.out)
     have DV:=aB (ownsRow_below HO.out hbX dD)
     have HB2:=aB (bG HB.out hbX)
     rw [HV6.out]
     clear HV6
     have rY:=aB lW
     have rZ:=aB (fun (u:World) (hB:Below Wx.heap.size Wx u)=>(show u.cell? ⟨wr.heap.size,0,none⟩=some (.int .i64 x.op)∧u.cell? ⟨wr.heap.size,1,none⟩=some (.int .i64 x.d)∧u.cell? ⟨wr.heap.size,2,none⟩=some (.int .i64 x.a)∧u.cell? ⟨wr.heap.size,3,none⟩=some (.int .i64 x.b)∧u.cell? ⟨wr.heap.size,4,none⟩=some (.int .i64 x.t)∧u.cell? ⟨wr.heap.size,5,none⟩=some (.int .i64 x.e)∧u.cell? ⟨w.heap.size,0,none⟩=some (.slice (some ⟨nb,no,none⟩) ns.length dK)∧u.cell? ⟨w.heap.size,1,none⟩=some (.slice (some ⟨rb,0,none⟩) ns.length ns.length)∧u.cell? ⟨w.heap.size,2,none⟩=some (.slice (some ⟨ab,0,none⟩) ns.length ns.length) from ⟨eO rY.out hB 0 rfl,eO rY.out hB 1 rfl,eO rY.out hB 2 rfl,eO rY.out hB 3 rfl,eO rY.out hB 4 rfl,eO rY.out hB 5 rfl,eO HXW.out hB 0 rfl,eO HXW.out hB 1 rfl,eO HXW.out hB 2 rfl⟩))
     clear lW d0 d1 d2 d3 d4 d5 dl q0 ql hcell hbX HQR hXl
     go_cut [8] from 43 to 52 (fun v8 wx=>v8=.int .u64 ((SG ns L n).toNat:Int)∧Below Wx.heap.size Wx wx)
     case first =>
      go_region_held3 (fun u=>u.cell? ⟨wr.heap.size,0,none⟩=some (.int .i64 x.op)∧u.cell? ⟨wr.heap.size,1,none⟩=some (.int .i64 x.d)∧u.cell? ⟨wr.heap.size,2,none⟩=some (.int .i64 x.a)∧u.cell? ⟨wr.heap.size,3,none⟩=some (.int .i64 x.b)∧u.cell? ⟨wr.heap.size,4,none⟩=some (.int .i64 x.t)∧u.cell? ⟨wr.heap.size,5,none⟩=some (.int .i64 x.e)∧u.cell? ⟨w.heap.size,0,none⟩=some (.slice (some ⟨nb,no,none⟩) ns.length dK)∧u.cell? ⟨w.heap.size,1,none⟩=some (.slice (some ⟨rb,0,none⟩) ns.length ns.length)∧u.cell? ⟨w.heap.size,2,none⟩=some (.slice (some ⟨ab,0,none⟩) ns.length ns.length)) (first
       | (with_reducible exact rZ.out _ hB3)
       | (with_reducible exact rZ.out _ hB2)
       | (with_reducible exact rZ.out _ hB1)
       | exact rZ.out _ (Below.refl _ Wx).drew
       | exact rZ.out _ (Below.refl _ Wx)) (first
       | (go_at_call 69;refine (NF x _ (IE HF.out hr)).mono ?_;rintro e wcc ⟨rfl,hbc⟩;have hB3:Below Wx.heap.size Wx wcc:=bG hB2 hbc)
       | (go_at_call 70;refine (IB ns L (some ⟨nb,no,none⟩) ns.length dK ab n rb Wq.heap.size (iQ ns) _ ((HR.out.below HB2.out).below hB1) ((IC aYO.out).below hB1) HS.out.len hn hl.2 (fun m hm=>(iY.1 hm).1) (Nat.le_trans (aEU ns n) hl.2)).mono ?_;rintro e wb ⟨rfl,hbb⟩;have hB2:Below Wx.heap.size Wx wb:=bG hB1 hbb)
       | (go_at_call 105;refine (aOX x _ (aIF HF.out hr) (aIG HF.out hr)).mono ?_;rintro e wa ⟨rfl,hba⟩;have hB1:Below Wx.heap.size Wx wa:=(by first | exact (Below.refl _ Wx).drew.trans hba | exact hba)))
      all_goals go_wp2
      all_goals go_meet
      all_goals exact ⟨by rw [XZ,BS,← HXE.out];rfl,hB3⟩
     case rest =>
      obtain ⟨rfl,JM⟩:=hcut
      have hX4:=bP JM aYO.out
      have hO4:=ownsRow_below DV.out JM dD
      have hB4:=bG HB2.out JM
      have aNE:wc.cell? ⟨Wq.heap.size,n,none⟩=some (.int .u64 ((L.getD n 0#64).toNat:Int)):=by rw [aA hX4,NJ (by rw [HS.out.len];exact hn)]
      have aXM:=aC hX4 n
      have aXN:=aD hX4
      have HX4:=aB hX4
      have JH:=aB hO4
      have kP:=aB hB4
      clear hX4 hO4 hB4 JM aYO DV HB2 rZ rY HXW HXE HF
      by_cases he:SG ns L n=L.getD n 0#64
      ·rw [he]
       have HE:=aB he
       clear he
       generalize ((L.getD n 0#64).toNat:Int)=D at aNE ⊢
       go_wp2_with fail
       go_roundw
       case rel=>exact ⟨L,wk', HS.out.pop HE.out,by have:=aPB.out;omega,HX4.out,by rw [bX];exact NK JH.out,kP.out⟩
       case measure =>
        rw [oC HX4.out,oC yJ.out]
        simp [NI]
      ·have hne:(((SG ns L n).toNat:Int)==((L.getD n 0#64).toNat:Int))=false:=by
        have:(SG ns L n).toNat≠(L.getD n 0#64).toNat:=fun q=>he (BitVec.eq_of_toNat_eq q)
        rw [beq_eq_false_iff_ne]
        intro q
        exact this (Int.ofNat.inj q)
       have hne2:(((SG ns L n).toNat:Int) != ((L.getD n 0#64).toNat:Int))=true:=by rw [bne,hne];rfl
       have HE:=aB he
       have HST:=aB (aIE L n (SG ns L n))
       have HT5:=aB (HS.out.turn HC.out)
       have uD:=aB (aHU HC.out HS.out he)
       have HMW:=aB (oC yJ.out)
       clear he
       generalize hEm:SG ns L n=E at *
       clear hEm
       generalize ((L.getD n 0#64).toNat:Int)=D at aNE hne hne2
       have hni' :=hni
       go_upto_region 15 with fail
       have aBN :(wc.setCell ⟨Wq.heap.size,n,none⟩ (.int .u64 (E.toNat:Int))).heap[Wq.heap.size]?=some (.cells (lZ (L.set n E)) 118 (0,0)):=by
        rw [aG _ HX4.out,HST.out]
       have hO5:(wc.setCell ⟨Wq.heap.size,n,none⟩ (.int .u64 (E.toNat:Int))).ownsRow (Wq.heap.size+1) 3 1 (.slice (some ⟨g,0,none⟩) wk'.length vc) wk'.length ((ints wk').map (Value.int .i64)):=aI (NK JH.out) HX4.out aL
       have hB5:Below Wq.heap.size Wq (wc.setCell ⟨Wq.heap.size,n,none⟩ (.int .u64 (E.toNat:Int))):=kP.out.setCell (p:=⟨Wq.heap.size,n,none⟩) dD _
       generalize (wc.setCell ⟨Wq.heap.size,n,none⟩ (.int .u64 (E.toNat:Int)))=W5 at aBN hO5 hB5 ⊢
       clear HX4 JH kP aNE aXM aXN
       obtain ⟨ra,rc,hrc,hrI⟩:=(HA.out.below hB5).row n hn
       have hrl:=(HA.out.below hB5).lt
       have hq5:=bP hB5 HX.out
       have q2:=aA hq5 2
       simp at q2
       have ql5:=aD hq5
       have WU:=aB aBN
       have RZ:=aB hO5
       have AL:=aB hB5
       have HI:=aB hrI
       have a9P:g<W5.heap.size:=(hO5.lt g rfl).2
       have HAF:=aB (aTJ ns n)
       have aVE:wk'.length+(gJ ns n).length<4200000:=by have:=HAF.out;have:=aPB.out;have:=IG aPB.out uD.out _ HAF.out;omega
       clear aBN hO5 hB5 hrI hq5
       by_cases hz:(gJ ns n).length=0
       ·rw [hz] at hrc
        have HE0:=aB (List.eq_nil_of_length_eq_zero hz)
        clear hz
        go_wp2_with (at_builtin;refine uX rfl (.tmp 63) (.tmp 68) rfl (some ⟨g,0,none⟩) ra wk'.length vc rc rfl rfl aF ?_)
        go_roundw
        case rel=>exact ⟨L.set n E,wk' ++gJ ns n,HT5.out,by rw [List.length_append];exact IG aPB.out uD.out _ HAF.out,WU.out,by rw [HE0.out,List.append_nil,bX];exact RZ.out,AL.out⟩
        case measure =>
         rw [oC WU.out,HMW.out]
         have:=NM (a:=wk'.length) (k:=ns.length) uD.out 0 aF
         simp [NI] at this ⊢
         omega
       ·have hpos:0<(ints (gJ ns n)).length:=by rw [bX];omega
        obtain ⟨ib,io,rfl,hal,hac⟩:=HI.out.at hpos
        have HAC:=aB hac
        clear hac
        have HFI:=aB (bX (gJ ns n))
        have hS0:=AL.out.size
        go_wp2_with (at_builtin;refine wpList_append_own _ rfl (.tmp 63) (.tmp 68) 25 rfl (Wq.heap.size+1) 3 i0 (.int .i64 0) 1 8 Tryz.underlying25 hi hz0 hz1 hz2 rfl aL _ _ _ rfl RZ.out ⟨ib,io,none⟩ (gJ ns n).length rc ((ints (gJ ns n)).map (Value.int .i64)) rfl (by simp [ints]) ?c1 ?c2 ?c3 ?c4 ?c5 ?_)
        case c1 =>
         intro j u hj
         rw [List.getElem?_map] at hj
         cases hz2:(ints (gJ ns n))[j]? with
         | none=>rw [hz2] at hj;cases hj
         | some z=>rw [hz2] at hj;cases hj;rw [NL];exact HAC.out j z hz2
        case c2=>intro u hu;obtain ⟨z,_,rfl⟩:=List.mem_map.1 hu;rfl
        case c3=>unfold maxLen;omega
        case c4=>omega
        case c5=>have:=aD WU.out;omega
        intro v' w6 hown6 hg6 _
        have hlt6:=RZ.out.lt
        have hB6:Below Wq.heap.size Wq w6:=AL.out.grown hg6 aF (fun k hk=>by have:=(hlt6 k hk).1;omega)
        have hX6:=(hg6.block _ (aD WU.out) (fun e=>by have:=(hlt6 _ e.symm).1;omega)).trans WU.out
        have FN:w6.ownsRow (Wq.heap.size+1) 3 1 v' (ints (wk' ++gJ ns n)).length ((ints (wk' ++gJ ns n)).map (Value.int .i64)):=by
         rw [QS,List.map_append,List.length_append,bX,bX];exact hown6
        have hv:NI v' =(wk' ++gJ ns n).length:=by
         obtain ⟨_,_,e⟩:=aU FN
         rw [e,NI,bX]
        have H6:=aB (And.intro hX6 (And.intro FN (And.intro hB6 hv)))
        clear hown6 hg6 hlt6 hB6 hX6 FN hv
        go_wp2_with fail
        go_roundw
        case rel=>exact ⟨L.set n E,wk' ++gJ ns n,HT5.out,by rw [List.length_append];exact IG aPB.out uD.out _ HAF.out,H6.out.1,H6.out.2.1,H6.out.2.2.1⟩
        case measure =>
         rw [oC H6.out.1,HMW.out]
         have:=NM (a:=wk'.length) (k:=ns.length) uD.out _ HAF.out
         have:=H6.out.2.2.2
         simp [NI] at *
         omega
theorem aCI {w:World} {b k:Nat} (h:k≠b) (o:Nat) (v:Value):(w.setCell ⟨b,o,none⟩ v).heap[k]?=w.heap[k]? :=Below.heap_setCell _ _ _ _ h
theorem aII (b off cap:Nat) (ns:List Nd) (w:World) (hN:aH w b off ns) (hl:1≤ns.length∧ns.length≤512) :
 Calls Tryz.prog 14 #[.slice (some ⟨b,off,none⟩) ns.length cap] w fun e w' =>∃ cb cc,e=.returned (.slice (some ⟨cb,0,none⟩) ns.length cc)∧w'.ownsRow w.heap.size 42 6 (.slice (some ⟨cb,0,none⟩) ns.length cc) ns.length (ns.flatMap aP)∧Below w.heap.size w w' :=by
 refine (callsIn_wide.1 (EM 1 b off cap ns w hN hl)).mono ?_
 rintro e w' ⟨v,rfl,hv,hB⟩
 rcases hv.2 with ⟨_,q⟩ | ⟨g,vc,cur,rfl,_⟩
 ·omega
 ·exact ⟨g,vc,rfl,hv,hB⟩
theorem NP {w:World} {base cb cc:Nat} {e:TypeId} {ns:List Nd} (h:w.ownsRow base e 6 (.slice (some ⟨cb,0,none⟩) ns.length cc) ns.length (ns.flatMap aP)) (hl:1≤ns.length):aH w cb 0 ns:=by
 obtain ⟨a,c,e,hs⟩:=lI h
 cases e
 obtain ⟨b', o', e,hn⟩:=hs.some hl
 cases e
 exact hn
theorem YC (r:Int) (b off cap:Nat) (ns:List Nd) (w:World) (hN:aH w b off ns) (hc:bM r ns=0) :
 Calls Tryz.prog 66 #[.agg #[.int .i64 r,.slice (some ⟨b,off,none⟩) ns.length cap]] w fun e w' =>∃ cb cc rb ab,e=.returned (.agg #[.slice (some ⟨cb,0,none⟩) ns.length cc,.slice (some ⟨rb,0,none⟩) ns.length ns.length,.slice (some ⟨ab,0,none⟩) ns.length ns.length])∧w'.ownsRow w.heap.size 42 6 (.slice (some ⟨cb,0,none⟩) ns.length cc) ns.length (ns.flatMap aP)∧fQ w' rb ns.length (iQ ns)∧fQ w' ab ns.length (gJ ns)∧Below w.heap.size w w' :=by
 have HC:=aB hc
 have HN:=aB hN
 have hl:=(bE hc).1
 clear hc hN
 obtain ⟨W,jU,hbA,hp,hq⟩:=VP w (.cells #[.int .i64 r,.slice (some ⟨b,off,none⟩) ns.length cap] 24) (.cells #[.slice none 0 0,.slice none 0 0,.slice none 0 0] 112)
 go_enter Tryz.func66,Tryz.ntmps66
 go_upto_region 1 with fail
 rw [jU.out]
 clear jU
 have HH:Hid (∀ u:World,Below W.heap.size W u→u.heap[w.heap.size]?=some (.cells #[.int .i64 r,.slice (some ⟨b,off,none⟩) ns.length cap] 24 (0,0))∧u.heap[w.heap.size+1]?=some (.cells #[.slice none 0 0,.slice none 0 0,.slice none 0 0] 112 (0,0))):=fun u h=>⟨bP h hp,bP h hq⟩
 have HS:Hid (∀ u:World,Below W.heap.size W u→u.cell? ⟨w.heap.size,0,none⟩=some (.int .i64 r)∧u.cell? ⟨w.heap.size,1,none⟩=some (.slice (some ⟨b,off,none⟩) ns.length cap)):=fun u h=>by
  obtain ⟨k1,_⟩:=HH.out u h
  refine ⟨?_,?_⟩
  ·rw [aA k1];rfl
  ·rw [aA k1];rfl
 have HNN:Hid (∀ u:World,Below W.heap.size W u→aH u b off ns):=fun u h=>HN.out.below (bG hbA h) HN.out.lt
 have HW:=aB hbA
 have hCC:=HC.out
 clear hp hq hbA
 have XF:Hid (∀ u:World,Below W.heap.size W u→∀ k,k<3→u.cell? ⟨w.heap.size+1,k,none⟩=#[.slice none 0 0,.slice none 0 0,.slice none 0 0][k]?∧u.frozen? ⟨w.heap.size+1,k,none⟩=false):=fun u h k _=>⟨aA (HH.out u h).2 k,aC (HH.out u h).2 k⟩
 have WK:Hid (∀ (u:World) (v0 v1 v2:Value),(u.cell? ⟨w.heap.size,0,none⟩=some (.int .i64 r)∧u.cell? ⟨w.heap.size,1,none⟩=some (.slice (some ⟨b,off,none⟩) ns.length cap))→(((u.setCell ⟨w.heap.size+1,0,none⟩ v0).setCell ⟨w.heap.size+1,1,none⟩ v1).setCell ⟨w.heap.size+1,2,none⟩ v2).cell? ⟨w.heap.size,0,none⟩=some (.int .i64 r)∧(((u.setCell ⟨w.heap.size+1,0,none⟩ v0).setCell ⟨w.heap.size+1,1,none⟩ v1).setCell ⟨w.heap.size+1,2,none⟩ v2).cell? ⟨w.heap.size,1,none⟩=some (.slice (some ⟨b,off,none⟩) ns.length cap)):=fun u v0 v1 v2 h=>by
  have e:∀ (B k:Nat),B≠w.heap.size+1→(((u.setCell ⟨w.heap.size+1,0,none⟩ v0).setCell ⟨w.heap.size+1,1,none⟩ v1).setCell ⟨w.heap.size+1,2,none⟩ v2).cell? ⟨B,k,none⟩=u.cell? ⟨B,k,none⟩:=fun B k h=>World.cell?_of_block (by
   show (((u.setCell ⟨w.heap.size+1,0,none⟩ v0).setCell ⟨w.heap.size+1,1,none⟩ v1).setCell ⟨w.heap.size+1,2,none⟩ v2).heap[B]?=u.heap[B]?
   simp only [aCI h])
  simp only [e w.heap.size _ aF]
  exact h
 go_region_held3 (fun u=>u.cell? ⟨w.heap.size,0,none⟩=some (.int .i64 r)∧u.cell? ⟨w.heap.size,1,none⟩=some (.slice (some ⟨b,off,none⟩) ns.length cap)) (first
  | (with_reducible refine WK.out _ _ _ _ ?_;exact HS.out _ hB3)
  | (with_reducible refine HS.out _ ?_;first | with_reducible exact hB3 | with_reducible exact hB2 | with_reducible exact hB1 | with_reducible exact (Below.refl _ W).drew | with_reducible exact (Below.refl _ W))) (first
  | (go_at_call 14;refine (aII b off cap ns _ (by first | exact HNN.out _ (Below.refl _ W).drew | exact HNN.out _ (Below.refl _ W)) aF).mono ?_;rintro e wa ⟨cb,cc,rfl,hV1,hba⟩;have hB1:Below W.heap.size W wa:=(by first | exact (Below.refl _ W).drew.trans hba | exact hba);have hsb:W.heap.size≤wa.heap.size:=hB1.size)
  | (go_at_call 104;refine (kM r b off cap ns _ (HNN.out _ hB1) hCC).mono ?_;rintro e wb ⟨rb,rfl,hR1,hbb⟩;have hB2:Below W.heap.size W wb:=bG hB1 hbb)
  | (go_at_call 61;refine (jR r b off cap ns _ (HNN.out _ hB2) hCC).mono ?_;rintro e wcc ⟨ab,rfl,hR2,hbc⟩;have hB3:Below W.heap.size W wcc:=bG hB2 hbc;have x0:=XF.out _ hB3 0 aL;have x1:=XF.out _ hB3 1 aL;have x2:=XF.out _ hB3 2 aL;simp at x0 x1 x2;have xl:=aD (HH.out _ hB3).2;obtain ⟨x00,x01⟩:=x0;obtain ⟨x10,x11⟩:=x1;obtain ⟨x20,x21⟩:=x2))
 all_goals have HV:=aB (aK (ownsRow_below (ownsRow_below hV1 hbb dD) hbc dD) (base' :=w.heap.size) (by have:=HW.out.size;simp;omega))
 all_goals have k0:=aG (i:=0) (.slice (some ⟨cb,0,none⟩) ns.length cc) (HH.out _ hB3).2
 all_goals have k1:=aG (i:=1) (.slice (some ⟨rb,0,none⟩) ns.length ns.length) k0
 all_goals have k2:=aG (i:=2) (.slice (some ⟨ab,0,none⟩) ns.length ns.length) k1
 all_goals have T0:=aI (o:=2) (u:=.slice (some ⟨ab,0,none⟩) ns.length ns.length) (aI (o:=1) (u:=.slice (some ⟨rb,0,none⟩) ns.length ns.length) (aI (o:=0) (u:=.slice (some ⟨cb,0,none⟩) ns.length cc) HV.out (HH.out _ hB3).2 aL) k0 aL) k1 aL
 all_goals have T1:=(((hR1.below hbc).set (o:=0) (u:=.slice (some ⟨cb,0,none⟩) ns.length cc) (HH.out _ hB3).2 aL aL).set (o:=1) (u:=.slice (some ⟨rb,0,none⟩) ns.length ns.length) k0 aL aL).set (o:=2) (u:=.slice (some ⟨ab,0,none⟩) ns.length ns.length) k1 aL aL
 all_goals have T2:=((hR2.set (o:=0) (u:=.slice (some ⟨cb,0,none⟩) ns.length cc) (HH.out _ hB3).2 aL aL).set (o:=1) (u:=.slice (some ⟨rb,0,none⟩) ns.length ns.length) k0 aL aL).set (o:=2) (u:=.slice (some ⟨ab,0,none⟩) ns.length ns.length) k1 aL aL
 all_goals have nA:=(((bG HW.out hB3).setCell (p:=⟨w.heap.size+1,0,none⟩) aQ (.slice (some ⟨cb,0,none⟩) ns.length cc)).setCell (p:=⟨w.heap.size+1,1,none⟩) aQ (.slice (some ⟨rb,0,none⟩) ns.length ns.length)).setCell (p:=⟨w.heap.size+1,2,none⟩) aQ (.slice (some ⟨ab,0,none⟩) ns.length ns.length)
 all_goals clear k0 k1 hR1 hR2 hV1 x00 x01 x10 x11 x20 x21
 all_goals simp only [List.setIfInBounds_toArray,List.set_cons_zero,List.set_cons_succ] at k2
 all_goals go_wp2_with fail
 all_goals generalize (((wcc.setCell ⟨w.heap.size+1,0,none⟩ (.slice (some ⟨cb,0,none⟩) ns.length cc)).setCell ⟨w.heap.size+1,1,none⟩ (.slice (some ⟨rb,0,none⟩) ns.length ns.length)).setCell ⟨w.heap.size+1,2,none⟩ (.slice (some ⟨ab,0,none⟩) ns.length ns.length))=Wf at k2 T0 T1 T2 nA ⊢
 all_goals have y0:=aA k2 0
 all_goals have y1:=aA k2 1
 all_goals have y2:=aA k2 2
 all_goals simp at y0 y1 y2
 all_goals exact bodyPost_ret (v:=(.agg #[.slice (some ⟨cb,0,none⟩) ns.length cc,.slice (some ⟨rb,0,none⟩) ns.length ns.length,.slice (some ⟨ab,0,none⟩) ns.length ns.length])) (by simp [results,Tryz.results66,go_sem,y0,y1,y2]) rfl ⟨cb,cc,rb,ab,rfl,T0,T1,T2,nA⟩
theorem PN1 {α:Type} (l:List α) (i:Nat) (a:α):l.toArray.setIfInBounds i a=(l.set i a).toArray:=List.setIfInBounds_toArray l i a
theorem PN2 {α:Type} {x a:α} {xs:List α}:(x::xs).set 0 a=a::xs:=rfl
theorem PN3 {α:Type} {x a:α} {i:Nat} {xs:List α}:(x::xs).set (i+1) a=x::xs.set i a:=rfl
theorem aEV (L:List (BitVec 64)) (t:Nat):vT L [t]=L.getD t 0#64:=by simp [vT]
theorem aPC {ns:List Nd} {L:List (BitVec 64)} (h:IsL ns L) {x:Nd} (hd:0≤x.d∧x.d<64) (hw:wi x.op 1 9=true) {t:Nat} (ht:t<ns.length) :
 (((iE x &&& L.getD t 0#64).toNat:Int)==0)=!jE ns x.d.toNat t:=by
 have hj:x.d.toNat<64:=by omega
 have hb:=h.bit t x.d.toNat ht hj
 have hx:∀ j,j<64→(iE x &&& L.getD t 0#64).getLsbD j=(decide (j=x.d.toNat)&&jE ns x.d.toNat t):=fun j hj' =>by
  rw [BitVec.getLsbD_and,iE,hw,if_pos rfl,xL hd hj']
  by_cases e:j=x.d.toNat
  ·subst e;rw [hb];simp;omega
  ·have:(x.d==(j:Int))=false:=by simp;omega
   rw [this];simp [e]
 cases hl:jE ns x.d.toNat t
 ·have:iE x &&& L.getD t 0#64=0#64:=by
   apply BitVec.eq_of_getLsbD_eq
   intro j hj'
   rw [hx j hj', hl];simp
  rw [this];rfl
 ·have:iE x &&& L.getD t 0#64≠0#64:=fun q=>by
   have:=hx x.d.toNat hj
   rw [q,hl] at this
   simp at this
  have hn:(iE x &&& L.getD t 0#64).toNat≠0:=fun q=>this (BitVec.eq_of_toNat_eq q)
  rw [Bool.not_true,beq_eq_false_iff_ne]
  omega
def aPD (w:World) (b k:Nat):Nat:=(List.range k).countP fun i=>match w.cell? ⟨b,i*6,none⟩ with | some (.int _ v)=>v != 0 | _=>false
theorem xS {w:World} {b:Nat} {ms:List Nd} (h:aH w b 0 ms):aPD w b ms.length=vI ms:=by
 have h0:∀ i,i<ms.length→w.cell? ⟨b,i*6,none⟩=some (.int .i64 (nd ms i).op):=fun i hi=>by
  have:=h.c0 i _ (eU hi);rwa [Nat.zero_add] at this
 have key:∀ k,k≤ms.length→(List.range k).countP (fun i=>match w.cell? ⟨b,i*6,none⟩ with | some (.int _ v)=>v != 0 | _=>false)=(ms.take k).countP fun x=>x.op != 0:=by
  intro k
  induction k with
  | zero=>intro _;rfl
  | succ k ih =>
   intro hk
   rw [List.range_succ,List.countP_append,ih aF,List.take_add_one,eU (show k<ms.length by omega),List.countP_append]
   congr 1
   simp only [List.countP_singleton,Option.toList_some,h0 k aF]
 have:=key ms.length dD
 rw [List.take_length] at this
 exact this
theorem oP {w:World} {b b' :Nat} {cs cs' :Array Value} {t t' :TypeId} (h:w.heap[b]?=some (.cells cs t (0,0))) (h' :w.heap[b']?=some (.cells cs' t' (0,0))) (hne:t≠t'):b≠b' :=by
 rintro rfl
 rw [h] at h'
 cases h'
 exact hne rfl
structure DM (w:World) (r:Int) (b off cap:Nat) (ns:List Nd) (cb cc rb ab WB:Nat) (ms:List Nd) (wr:World):Prop where
 pb:wr.heap[w.heap.size]?=some (.cells #[.int .i64 r,.slice (some ⟨b,off,none⟩) ns.length cap] 24 (0,0))
 res:wr.heap[w.heap.size+1]?=some (.cells #[.int .i64 0,.slice none 0 0] 24 (0,0))
 wb:wr.heap[WB]?=some (.cells #[.slice (some ⟨cb,0,none⟩) ns.length cc,.slice (some ⟨rb,0,none⟩) ns.length ns.length,.slice (some ⟨ab,0,none⟩) ns.length ns.length] 112 (0,0))
 own:wr.ownsRow w.heap.size 42 6 (.slice (some ⟨cb,0,none⟩) ns.length cc) ns.length (ms.flatMap aP)
 rn:fQ wr rb ns.length (iQ ns)
 ra:fQ wr ab ns.length (gJ ns)
 bel:Below w.heap.size w wr
theorem DM.below {w:World} {r:Int} {b off cap:Nat} {ns:List Nd} {cb cc rb ab WB:Nat} {ms:List Nd} {wr wx:World} (h:DM w r b off cap ns cb cc rb ab WB ms wr) (hB:Below wr.heap.size wr wx):DM w r b off cap ns cb cc rb ab WB ms wx :=
 ⟨bP hB h.pb,bP hB h.res,bP hB h.wb,ownsRow_below h.own hB dD,h.rn.below hB,h.ra.below hB,bG h.bel hB⟩
theorem DM.nodes {w:World} {r:Int} {b off cap:Nat} {ns:List Nd} {cb cc rb ab WB:Nat} {ms:List Nd} {wr:World} (h:DM w r b off cap ns cb cc rb ab WB ms wr) (hl:ms.length=ns.length) (h1:1≤ns.length):aH wr cb 0 ms:=by
 have ho:=h.own
 rw [← hl] at ho
 exact NP ho aF
theorem DM.cur {w:World} {r:Int} {b off cap:Nat} {ns:List Nd} {cb cc rb ab WB:Nat} {ms:List Nd} {wr:World} (h:DM w r b off cap ns cb cc rb ab WB ms wr):∃ cur,wr.heap[cb]?=some (.cells cur 42 (0,0))∧w.heap.size≤cb:=by
 rcases h.own.2 with ⟨q,_⟩ | ⟨g,c,cur,q,a1,a2,_⟩
 ·cases q
 ·cases q;exact ⟨cur,a2,a1⟩
theorem fQ.sixN {w:World} {rb L cb k:Nat} {F:Nat→List Nat} {cur:Array Value} {y:Nd} (h:fQ w rb L F) (hb:w.heap[cb]?=some (.cells cur 42 (0,0))):fQ (sixN w cb k y) rb L F:=by
 unfold Go.Proofs.YtegloodcbfalfaaGreatDoor.sixN
 have b1:=aG (i:=k*6) (.int .i64 y.op) hb
 have b2:=aG (i:=k*6+1) (.int .i64 y.d) b1
 have b3:=aG (i:=k*6+2) (.int .i64 y.a) b2
 have b4:=aG (i:=k*6+3) (.int .i64 y.b) b3
 have b5:=aG (i:=k*6+4) (.int .i64 y.t) b4
 exact (((((h.set hb aL aL).set b1 aL aL).set b2 aL aL).set b3 aL aL).set b4 aL aL).set b5 aL aL
theorem DM.write {w:World} {r:Int} {b off cap:Nat} {ns:List Nd} {cb cc rb ab WB:Nat} {ms:List Nd} {wr:World} (h:DM w r b off cap ns cb cc rb ab WB ms wr) (hl:ms.length=ns.length) {k:Nat} (hk:k<ns.length) (y:Nd):DM w r b off cap ns cb cc rb ab WB (ms.set k y) (sixN wr cb k y):=by
 obtain ⟨cur,mR,hge⟩:=h.cur
 have n1:w.heap.size≠cb:=oP h.pb mR aL
 have n2:w.heap.size+1≠cb:=oP h.res mR aL
 have n3:WB≠cb:=oP h.wb mR aL
 have ho:=h.own
 rw [← hl] at ho
 have hw:=pX (y:=y) ho (j:=k) aF
 rw [List.length_set,hl] at hw
 exact ⟨(gQ n1).trans h.pb,(gQ n2).trans h.res,(gQ n3).trans h.wb,hw,h.rn.sixN mR,h.ra.sixN mR,h.bel.trans (pY wr k y hge)⟩
def aEW (a:Act) (w:World):Nat:=match a.tmps.getD 5 undef with
 | .pointer (some p)=>match w.cell? ⟨p.block,0,none⟩ with
  | some (.slice (some q) n _)=>aPD w q.block n
  | _=>0
 | _=>0
def AtL (w:World) (r:Int) (b off cap:Nat) (ns:List Nd) (a:Act) (wr:World):Prop :=
 ∃ (cb cc rb ab WB:Nat) (ms:List Nd) (u6 u7 u8 u9 u10 u11 u12 u13 u14 u15 u16 u17 u18 u19 u20 u21 u22 u23 u24 u25 u26 u27 u28 u29 u30 u31 u32 u33 u34 u35 u36 u37 u38 u39 u40 u41 u42 u43 u44 u45 u46 u47 u48 u49 u50 u51 u52 u53:Value),a=⟨#[.agg #[.int .i64 r,.slice (some ⟨b,off,none⟩) ns.length cap],.pointer (some ⟨w.heap.size,0,none⟩),.pointer (some ⟨w.heap.size+1,0,none⟩),.int .i64 0,.int .i64 0,.pointer (some ⟨WB,0,none⟩),u6,u7,u8,u9,u10,u11,u12,u13,u14,u15,u16,u17,u18,u19,u20,u21,u22,u23,u24,u25,u26,u27,u28,u29,u30,u31,u32,u33,u34,u35,u36,u37,u38,u39,u40,u41,u42,u43,u44,u45,u46,u47,u48,u49,u50,u51,u52,u53],[]⟩∧dC ns ms∧gT ms=gT ns∧DM w r b off cap ns cb cc rb ab WB ms wr
theorem aCJ (r:Int) (b off cap:Nat) (ns:List Nd) (w:World) (hN:aH w b off ns) (hc:bM r ns=0) :
 Calls Tryz.prog 38 #[.agg #[.int .i64 r,.slice (some ⟨b,off,none⟩) ns.length cap]] w fun e w' =>∃ cb cc,e=.returned (.tuple #[.agg #[.int .i64 r,.slice (some ⟨cb,0,none⟩) ns.length cc],.int .i64 0])∧w'.ownsRow w.heap.size 42 6 (.slice (some ⟨cb,0,none⟩) ns.length cc) ns.length ((gT ns).flatMap aP)∧Below w.heap.size w w' :=by
 have hl:=(bE hc).1
 have HN:=aB hN
 have HC:=aB hc
 have hck:=fun W (h:Below w.heap.size w W)=>fG r (some ⟨b,off,none⟩) cap ns W (Or.inr ⟨b,off,rfl,hN.below h hN.lt⟩)
 rw [hc] at hck
 have wX:=aB hck
 have HLO:=aB (fun W (h:Below w.heap.size w W)=>YC r b off cap ns W (hN.below h hN.lt) hc)
 obtain ⟨W0,HV5,hb0,hp0,hz0⟩:=VP w (.cells #[.int .i64 r,.slice (some ⟨b,off,none⟩) ns.length cap] 24) (.cells #[.int .i64 0,.slice none 0 0] 24)
 clear hN hc hck
 go_enter Tryz.func38,Tryz.ntmps38
 go_wp2_with fail
 rw [HV5.out]
 clear HV5
 have HB0:=aB hb0
 have HP0:=aB hp0
 have HZ0:=aB hz0
 clear hb0 hp0 hz0
 have key:∀ {c X:Code} {a:Act} {w0:World} {Q:Exit→Act→World→Prop},findLabel c 0=some (Code.skip.seq X)→(∀ a wr,AtL w r b off cap ns a wr→X.wp Tryz.prog (Exit.jump 0 (fun a' w' =>AtL w r b off cap ns a' w' ∧aEW a' w' <aEW a wr) Q) a wr)→((∀ a wr,AtL w r b off cap ns a wr→X.wp Tryz.prog (Exit.jump 0 (AtL w r b off cap ns) Q) a wr)→c.wp Tryz.prog (Exit.jump 0 (AtL w r b off cap ns) Q) a w0)→(Code.scope c).wp Tryz.prog Q a w0:=fun hf pass first =>
  wp_scope_jumps 0 (AtL w r b off cap ns) aEW hf (first fun a wr h=>Code.wp_mono (fun e a w' q=>by
   cases e <;> simp only [Exit.jump] at q ⊢ <;> first | exact q | exact ⟨q.1,q.2.1⟩) (pass a wr h)) (fun a wr h=>wp_seq (wp_skip (pass a wr h)))
 refine key rfl ?pass ?first
 case first =>
  intro HP
  have p0:=aA HP0.out 0
  have p1:=aA HP0.out 1
  simp at p0 p1
  have pl:=aD HP0.out
  go_upto_region 2 with (go_at_call 10;refine (wX.out _ HB0.out).mono ?_;rintro e w1 ⟨rfl,hb1⟩)
  have HB1:=aB (bG HB0.out hb1)
  have kH:=aB ((hb1.block _ pl).trans HP0.out)
  have HZ1:=aB (bP hb1 HZ0.out)
  clear p0 p1 pl hb1
  have p0:=aA kH.out 0
  have p1:=aA kH.out 1
  simp at p0 p1
  have pl:=aD kH.out
  go_upto_region 4 with fail
  go_wp2_with (go_at_call 66;refine (HLO.out _ HB1.out).mono ?_;rintro e w2 ⟨cb,cc,rb,ab,rfl,hV,hR,hA,hb2⟩)
  go_step3
  rename_i hK
  refine hK _ _ (HP _ _ ?_)
  have hx:Below w2.heap.size w2 (w2.alloc (.cells #[.slice (some ⟨cb,0,none⟩) ns.length cc,.slice (some ⟨rb,0,none⟩) ns.length ns.length,.slice (some ⟨ab,0,none⟩) ns.length ns.length] 112)):=dY
  have hB3:=bG hb2 hx
  refine ⟨cb,cc,rb,ab,w2.heap.size,ns,_,_,_,_,_,_,_,_,_,_,_,_,_,_,_,_,_,_,_,_,_,_,_,_,_,_,_,_,_,_,_,_,_,_,_,_,_,_,_,_,_,_,_,_,_,_,_,_,rfl,dC.refl ns,rfl,⟨bP hB3 kH.out,bP hB3 HZ1.out,World.alloc_heap_new w2 _,(aK hV HB1.out.size).alloc _,hR.below hx,hA.below hx,bG HB1.out hB3⟩⟩
 case pass =>
  rintro a wo ⟨cb,cc,rb,ab,WB,ms,u6,u7,u8,u9,u10,u11,u12,u13,u14,u15,u16,u17,u18,u19,u20,u21,u22,u23,u24,u25,u26,u27,u28,u29,u30,u31,u32,u33,u34,u35,u36,u37,u38,u39,u40,u41,u42,u43,u44,u45,u46,u47,u48,u49,u50,u51,u52,u53,rfl,hD,hS,hM⟩
  clear key
  have jP:=hD.len
  have hlv:=aPA r ms cb 0 cc rb ab
  have hcm:=hD.bM HC.out
  have e1:iQ ms=iQ ns:=funext hD.iQ
  have e2:gJ ms=gJ ns:=funext hD.gJ
  rw [jP,e1,e2] at hlv
  have HLV:=aB (hlv wo (hM.nodes jP hl.1) hcm hM.rn.read hM.ra.read)
  have q0:=aA hM.wb 0
  have q1:=aA hM.wb 1
  have q2:=aA hM.wb 2
  simp at q0 q1 q2
  have ql:=aD hM.wb
  have HM:=aB hM
  have HD:=aB hD
  have HS:=aB hS
  have HCM:=aB hcm
  have tK:=aB jP
  have SE:=aB e1
  clear hM hD hS hcm jP e1 e2 hlv
  go_upto_region 7 with (go_at_call 67;refine HLV.out.mono ?_;rintro e w2 ⟨lb,L,rfl,hlb,hIL,hM2,hb2⟩)
  have YZ:=aB (HM.out.below hb2)
  have HLB:=aB hM2
  have HIL:=aB hIL
  have HMU:=aB (xS (HM.out.nodes tK.out hl.1))
  clear q0 q1 q2 ql hM2 hIL hb2 hlb HLV
  have q0:=aA YZ.out.wb 0
  simp at q0
  have ql:=aD YZ.out.wb
  go_wp2_with fail
  go_loopw [6,23] (fun c i wx=>∃ k:Nat,k≤ns.length∧i=.int .i64 k∧c=.bool (nU ms k)∧DM w r b off cap ns cb cc rb ab WB (fB ms k) wx∧wx.heap[lb]?=some (.cells (lZ L) 118 (0,0))) (fun _ i _=>ns.length-(intOf i).toNat)
  case atStart=>exact ⟨0,Nat.zero_le _,rfl,rfl,by rw [zX];exact YZ.out,HLB.out⟩
  case round =>
   obtain ⟨k,hk,rfl,rfl,JC,hL3⟩:=hrel
   by_cases hlt:k<ns.length
   ·obtain ⟨cur,mR,hge⟩:=JC.cur
    have hkm:k<ms.length:=by rw [tK.out];exact hlt
    have kC:=JC.nodes (by rw [bN,tK.out]) hl.1
    have hgn:(fB ms k)[k]?=some (nd ms k):=by rw [eU (by rw [bN];exact hkm),xM hkm]
    have HF:=aB (dJ HCM.out hkm)
    have HT:=aB (zY hkm)
    have HA:=aB (GI ms k)
    have HDI:Hid (dies ms k=(wi (nd ms k).op 1 8&&!jE ms (nd ms k).d.toNat (nd ms k).t.toNat)):=rfl
    have HNX:=aB (fun h1 h2=>aSQ HCM.out hkm h1 h2)
    rw [SE.out] at HNX
    generalize hxx:nd ms k=x at hgn HF HT HDI HNX
    clear hxx
    have d0:=kC.c0 k x hgn
    have d1:=kC.c1 k x hgn
    have d2:=kC.c2 k x hgn
    have d3:=kC.c3 k x hgn
    have d4:=kC.c4 k x hgn
    have d5:=kC.c5 k x hgn
    simp only [Nat.zero_add] at d0 d1 d2 d3 d4 d5
    have dl:=kC.lt
    have hki:(k:Int)<(ns.length:Int):=by omega
    have q0:=aA JC.wb 0
    simp at q0
    have ql:=aD JC.wb
    obtain ⟨Wx,HV6,hbX,lW⟩:=bx1 wr (.cells #[.int .i64 x.op,.int .i64 x.d,.int .i64 x.a,.int .i64 x.b,.int .i64 x.t,.int .i64 x.e] 42)
    have KH:=aB JC
    have HL3:=aB hL3
    clear JC hL3 kC hgn mR
    go_upto_region 10 with fail
    have HM4:=aB (KH.out.below hbX)
    have HL4:=aB (bP hbX HL3.out)
    rw [HV6.out]
    clear HV6
    generalize wr.heap.size=X at lW ⊢
    have rY:=aB lW
    have HXW:=aB HM4.out.wb
    have rZ:=aB (fun (u:World) (hB:Below Wx.heap.size Wx u)=>(show u.cell? ⟨X,0,none⟩=some (.int .i64 x.op)∧u.cell? ⟨X,1,none⟩=some (.int .i64 x.d)∧u.cell? ⟨X,2,none⟩=some (.int .i64 x.a)∧u.cell? ⟨X,3,none⟩=some (.int .i64 x.b)∧u.cell? ⟨X,4,none⟩=some (.int .i64 x.t)∧u.cell? ⟨X,5,none⟩=some (.int .i64 x.e)∧u.cell? ⟨WB,0,none⟩=some (.slice (some ⟨cb,0,none⟩) ns.length cc)∧u.cell? ⟨WB,1,none⟩=some (.slice (some ⟨rb,0,none⟩) ns.length ns.length)∧u.cell? ⟨WB,2,none⟩=some (.slice (some ⟨ab,0,none⟩) ns.length ns.length) from ⟨eO rY.out hB 0 rfl,eO rY.out hB 1 rfl,eO rY.out hB 2 rfl,eO rY.out hB 3 rfl,eO rY.out hB 4 rfl,eO rY.out hB 5 rfl,eO HXW.out hB 0 rfl,eO HXW.out hB 1 rfl,eO HXW.out hB 2 rfl⟩))
    clear lW d0 d1 d2 d3 d4 d5 dl q0 ql hbX KH HL3
    go_cut [39] from 28 to 38 (fun v39 wy=>v39=.bool (dies ms k)∧Below Wx.heap.size Wx wy)
    case first =>
     cases hop:wi x.op 1 8
     ·have JF:=aB hop
      clear hop
      refine wp_region_held_drew (S:=(fun u=>u.cell? ⟨X,0,none⟩=some (.int .i64 x.op)∧u.cell? ⟨X,1,none⟩=some (.int .i64 x.d)∧u.cell? ⟨X,2,none⟩=some (.int .i64 x.a)∧u.cell? ⟨X,3,none⟩=some (.int .i64 x.b)∧u.cell? ⟨X,4,none⟩=some (.int .i64 x.t)∧u.cell? ⟨X,5,none⟩=some (.int .i64 x.e)∧u.cell? ⟨WB,0,none⟩=some (.slice (some ⟨cb,0,none⟩) ns.length cc)∧u.cell? ⟨WB,1,none⟩=some (.slice (some ⟨rb,0,none⟩) ns.length ns.length)∧u.cell? ⟨WB,2,none⟩=some (.slice (some ⟨ab,0,none⟩) ns.length ns.length))) kD (by (try dsimp only);first | (with_reducible exact rZ.out _ hB3) | (with_reducible exact rZ.out _ hB2) | (with_reducible exact rZ.out _ hB1) | exact rZ.out _ (Below.refl _ Wx).drew | exact rZ.out _ (Below.refl _ Wx)) (fun hHeld=>?_)
      refine wpAnyH_take (i:=0) (oi:=⟨some 28,.load 42 (.tmp 9),42, "live.go:35", #[],none⟩) (v:=?_) rfl kD kD kD (fun _ _ _ h=>h) (Or.inl ⟨by as_aux_lemma=>rfl,?_⟩) (by assumption) ?_
      rotate_left 1
      ·intro w hSw;(try dsimp only at hSw);go_simp;all_goals with_reducible rfl
      (try simp only [Act.put,PN1,PN2,PN3])
      refine wpAnyH_ready (rs:=[1]) kD aQ (AllReadyH.cons (o:=⟨some 29,.call { callee:=.value (.func 68),args:=#[.tmp 28],argTypes:=#[42] },4, "live.go:35", #[⟨0,.data⟩],none⟩) rfl (fun K hK=>?_) AllReadyH.nil)
      go_simp
      go_at_call 68;refine (GZ x _).mono ?_;rintro e wa ⟨rfl,hba⟩;have hB1:Below Wx.heap.size Wx wa:=(by first | exact (Below.refl _ Wx).drew.trans hba | exact hba);rw [JF.out];(try go_wp2_with fail)
      refine hK.out _ _ (by (try dsimp only);first | (with_reducible exact rZ.out _ hB3) | (with_reducible exact rZ.out _ hB2) | (with_reducible exact rZ.out _ hB1) | exact rZ.out _ (Below.refl _ Wx).drew | exact rZ.out _ (Below.refl _ Wx)) (fun hHeld=>?_)
      clear hK K
      (try simp only [Act.put,PN1,PN2,PN3])
      refine wpAnyH_take (i:=2) (oi:=⟨some 30,.move (.tmp 29),4, "live.go:35", #[⟨1,.data⟩,⟨1,.chain⟩],none⟩) (v:=?_) rfl kD kD kD (fun _ _ _ h=>h) (Or.inl ⟨by as_aux_lemma=>rfl,?_⟩) (by assumption) ?_
      rotate_left 1
      ·intro w hSw;(try dsimp only at hSw);go_simp;all_goals with_reducible rfl
      (try simp only [Act.put,PN1,PN2,PN3])
      refine wpAnyH_take (i:=3) (oi:=⟨some 31,.load 42 (.tmp 9),42, "live.go:35", #[⟨2,.guard⟩],some (2,true)⟩) (v:=undef) rfl kD kD kD (fun _ _ _ h=>h) (Or.inr ⟨by as_aux_lemma=>rfl,rfl⟩) (by assumption) ?_
      (try simp only [Act.put,PN1,PN2,PN3])
      refine wpAnyH_take (i:=4) (oi:=⟨some 32,.call { callee:=.value (.func 69),args:=#[.tmp 31],argTypes:=#[42] },118, "live.go:35", #[⟨3,.data⟩,⟨2,.chain⟩,⟨2,.guard⟩],some (2,true)⟩) (v:=undef) rfl kD kD kD (fun _ _ _ h=>h) (Or.inr ⟨by as_aux_lemma=>rfl,rfl⟩) (by assumption) ?_
      (try simp only [Act.put,PN1,PN2,PN3])
      refine wpAnyH_take (i:=5) (oi:=⟨some 33,.load 112 (.tmp 5),112, "live.go:35", #[⟨2,.guard⟩],some (2,true)⟩) (v:=undef) rfl kD kD kD (fun _ _ _ h=>h) (Or.inr ⟨by as_aux_lemma=>rfl,rfl⟩) (by assumption) ?_
      (try simp only [Act.put,PN1,PN2,PN3])
      refine wpAnyH_take (i:=6) (oi:=⟨some 34,.move (.tmp 8),3, "live.go:35", #[⟨2,.guard⟩],some (2,true)⟩) (v:=undef) rfl kD kD kD (fun _ _ _ h=>h) (Or.inr ⟨by as_aux_lemma=>rfl,rfl⟩) (by assumption) ?_
      (try simp only [Act.put,PN1,PN2,PN3])
      refine wpAnyH_take (i:=7) (oi:=⟨some 35,.move (.tmp 7),114, "live.go:35", #[⟨2,.guard⟩],some (2,true)⟩) (v:=undef) rfl kD kD kD (fun _ _ _ h=>h) (Or.inr ⟨by as_aux_lemma=>rfl,rfl⟩) (by assumption) ?_
      (try simp only [Act.put,PN1,PN2,PN3])
      refine wpAnyH_take (i:=8) (oi:=⟨some 36,.call { callee:=.value (.func 70),args:=#[.tmp 33,.tmp 34,.tmp 35],argTypes:=#[112,3,114] },118, "live.go:35", #[⟨5,.data⟩,⟨6,.data⟩,⟨7,.data⟩,⟨4,.chain⟩,⟨2,.guard⟩],some (2,true)⟩) (v:=undef) rfl kD kD kD (fun _ _ _ h=>h) (Or.inr ⟨by as_aux_lemma=>rfl,rfl⟩) (by assumption) ?_
      (try simp only [Act.put,PN1,PN2,PN3])
      refine wpAnyH_take (i:=9) (oi:=⟨some 37,.binOp Go.BinOp.and 118 (.tmp 32) (.tmp 36) 118,118, "live.go:35", #[⟨4,.data⟩,⟨8,.data⟩,⟨2,.guard⟩],some (2,true)⟩) (v:=undef) rfl kD kD kD (fun _ _ _ h=>h) (Or.inr ⟨by as_aux_lemma=>rfl,rfl⟩) (by assumption) ?_
      (try simp only [Act.put,PN1,PN2,PN3])
      refine wpAnyH_take (i:=10) (oi:=⟨some 38,.binOp Go.BinOp.eql 118 (.tmp 37) (.const (Go.Value.int Go.IntKind.u64 0)) 118,4, "live.go:35", #[⟨9,.data⟩,⟨2,.guard⟩],some (2,true)⟩) (v:=undef) rfl kD kD kD (fun _ _ _ h=>h) (Or.inr ⟨by as_aux_lemma=>rfl,rfl⟩) (by assumption) ?_
      (try simp only [Act.put,PN1,PN2,PN3])
      refine wpAnyH_take (i:=11) (oi:=⟨some 39,.pick (.tmp 30) (.tmp 38) (.const (Go.Value.bool false)),4, "live.go:35", #[⟨2,.data⟩,⟨10,.data⟩],none⟩) (v:=?_) rfl kD kD kD (fun _ _ _ h=>h) (Or.inl ⟨by as_aux_lemma=>rfl,?_⟩) (by assumption) ?_
      rotate_left 1
      ·intro w hSw;(try dsimp only at hSw);go_simp;all_goals with_reducible rfl
      (try simp only [Act.put,PN1,PN2,PN3])
      refine wpAnyH_done kD ?_ _
      all_goals go_wp2
      all_goals go_meet
      all_goals exact ⟨by rw [HDI.out,JF.out];rfl,hB1⟩
     ·have hop' :=aY.1 hop
      have hr:=(bE HC.out).2.1.2
      have hn1:=HNX.out aF aF
      have ht:=HF.out.t aF
      rw [tK.out] at ht
      have hdb:=aPC HIL.out (x:=x) (IE HF.out hr (aY.2 aF)) (aY.2 aF) (t:=x.t.toNat) (by rw [tK.out];omega)
      have hbb:=aOW (iE x) (vT L (iQ ns k))
      rw [hn1,aEV] at hbb
      rw [← hbb] at hdb
      have e3:(!jE ms x.d.toNat x.t.toNat)=dies ms k:=by rw [HDI.out,hop,Bool.true_and]
      rw [e3] at hdb
      have HDB:=aB hdb
      have JF:=aB hop
      have XX:=aB hn1
      have XV:=aB HIL.out.len
      rw [tK.out] at XV
      clear hop hop' hn1 ht hdb hbb e3
      go_region_held3 (fun u=>u.cell? ⟨X,0,none⟩=some (.int .i64 x.op)∧u.cell? ⟨X,1,none⟩=some (.int .i64 x.d)∧u.cell? ⟨X,2,none⟩=some (.int .i64 x.a)∧u.cell? ⟨X,3,none⟩=some (.int .i64 x.b)∧u.cell? ⟨X,4,none⟩=some (.int .i64 x.t)∧u.cell? ⟨X,5,none⟩=some (.int .i64 x.e)∧u.cell? ⟨WB,0,none⟩=some (.slice (some ⟨cb,0,none⟩) ns.length cc)∧u.cell? ⟨WB,1,none⟩=some (.slice (some ⟨rb,0,none⟩) ns.length ns.length)∧u.cell? ⟨WB,2,none⟩=some (.slice (some ⟨ab,0,none⟩) ns.length ns.length)) (first | (with_reducible exact rZ.out _ hB3) | (with_reducible exact rZ.out _ hB2) | (with_reducible exact rZ.out _ hB1) | exact rZ.out _ (Below.refl _ Wx).drew | exact rZ.out _ (Below.refl _ Wx)) (first
       | (go_at_call 70;refine (IB ns L (some ⟨cb,0,none⟩) ns.length cc ab k rb lb (iQ ns) _ ((HM4.out.rn.below hB2).read) ((IC HL4.out).below hB2) XV.out hlt hl.2 (fun m hm=>(iY.1 hm).1) (Nat.le_trans (aEU ns k) hl.2)).mono ?_;rintro e wcc ⟨rfl,hbc⟩;have hB3:Below Wx.heap.size Wx wcc:=bG hB2 hbc;rw [XX.out,aEV])
       | (go_at_call 69;refine (NF x _ (IE HF.out hr)).mono ?_;rintro e wb ⟨rfl,hbb⟩;have hB2:Below Wx.heap.size Wx wb:=bG hB1 hbb)
       | (go_at_call 68;refine (GZ x _).mono ?_;rintro e wa ⟨rfl,hba⟩;have hB1:Below Wx.heap.size Wx wa:=(by first | exact (Below.refl _ Wx).drew.trans hba | exact hba);rw [JF.out]))
      all_goals go_wp2
      all_goals go_meet
      all_goals exact ⟨by first | rw [HDB.out] | (rw [← HDB.out];rfl),hB3⟩
    case rest =>
     obtain ⟨rfl,JM⟩:=hcut
     have HM5:=aB (HM4.out.below JM)
     have HL5:=aB (bP JM HL4.out)
     have hx5:=bP JM rY.out
     clear HM4 HL4 rZ rY HXW JM
     cases hd:dies ms k
     ·rw [hd] at HT HA
      have HT' :=aB HT.out
      clear hd hx5
      go_wp2_with fail
      go_roundw
      case rel=>exact ⟨k+1,aF,by go_num,by rw [HA.out];simp,by rw [HT'.out];exact HM5.out,HL5.out⟩
      case measure=>simp [intOf];omega
     ·rw [hd] at HT HA
      have y4:=aA hx5 4
      simp at y4
      have yl:=aD hx5
      have q0:=aA HM5.out.wb 0
      simp at q0
      have ql:=aD HM5.out.wb
      obtain ⟨bBF,mD,bBG⟩:=HM5.out.cur
      have kC:=HM5.out.nodes (by rw [bN,tK.out]) hl.1
      have hgn:=eU (ns:=fB ms k) (n:=k) (by rw [bN];exact hkm)
      have d0:=kC.c0 k _ hgn
      have d1:=kC.c1 k _ hgn
      have d2:=kC.c2 k _ hgn
      have d3:=kC.c3 k _ hgn
      have d4:=kC.c4 k _ hgn
      have d5:=kC.c5 k _ hgn
      simp only [Nat.zero_add] at d0 d1 d2 d3 d4 d5
      have dl:=kC.lt
      have g0:=aC mD (k*6)
      have g1:=aC mD (k*6+1)
      have g2:=aC mD (k*6+2)
      have g3:=aC mD (k*6+3)
      have g4:=aC mD (k*6+4)
      have g5:=aC mD (k*6+5)
      generalize nd (fB ms k) k=z at d0 d1 d2 d3 d4 d5
      have HW:=aB (HM5.out.write (by rw [bN,tK.out]) hlt (gX x.t))
      have HLW:=aB ((gQ (y:=gX x.t) (j:=k) (oP HL5.out mD aL)).trans HL5.out)
      clear hd hx5 kC hgn mD
      go_wp2_with fail
      go_roundw
      case rel=>exact ⟨k+1,aF,by go_num,by rw [HA.out];simp,by rw [HT.out];exact HW.out,HLW.out⟩
      case measure=>simp [intOf];omega
   ·have ek:k=ns.length:=by omega
    subst ek
    have q0:=aA JC.wb 0
    simp at q0
    have ql:=aD JC.wb
    have p0:=aA JC.pb 0
    simp at p0
    have pl:=aD JC.pb
    have z0:=aA JC.res 0
    have z1:=aA JC.res 1
    simp at z0 z1
    have zl:=aD JC.res
    have zf0:=aC JC.res 0
    have zf1:=aC JC.res 1
    have KH:=aB JC
    clear JC hL3
    cases ha:nU ms ns.length
    ·have HAF:=aB ha
     clear ha
     go_wp2_with fail
     simp only [Exit.jump]
     have k0:=aG (i:=0) (.int .i64 r) KH.out.res
     have k1:=aG (i:=1) (.slice (some ⟨cb,0,none⟩) ns.length cc) k0
     have T0:=aI (o:=1) (u:=.slice (some ⟨cb,0,none⟩) ns.length cc) (aI (o:=0) (u:=.int .i64 r) KH.out.own KH.out.res aL) k0 aL
     have nA:=(KH.out.bel.setCell (p:=⟨w.heap.size+1,0,none⟩) aQ (.int .i64 r)).setCell (p:=⟨w.heap.size+1,1,none⟩) aQ (.slice (some ⟨cb,0,none⟩) ns.length cc)
     simp only [List.setIfInBounds_toArray,List.set_cons_zero,List.set_cons_succ] at k1
     generalize ((wr.setCell ⟨w.heap.size+1,0,none⟩ (.int .i64 r)).setCell ⟨w.heap.size+1,1,none⟩ (.slice (some ⟨cb,0,none⟩) ns.length cc))=Wf at k1 T0 nA ⊢
     have y0:=aA k1 0
     have y1:=aA k1 1
     simp at y0 y1
     have hfix:fB ms ns.length=gT ns:=by
      have h1:=HAF.out
      rw [← tK.out] at h1 ⊢
      rw [← HS.out,MQ h1]
      exact nV h1
     rw [hfix] at T0
     exact bodyPost_ret (v:=.tuple #[.agg #[.int .i64 r,.slice (some ⟨cb,0,none⟩) ns.length cc],.int .i64 0]) (by simp [results,Tryz.results38,go_sem,y0,y1]) rfl ⟨cb,cc,rfl,T0,nA⟩
    ·have HAT:=aB ha
     clear ha
     go_wp2_with fail
     go_step3
     refine ⟨rfl,⟨cb,cc,rb,ab,WB,fB ms ns.length,_,_,_,_,_,_,_,_,_,_,_,_,_,_,_,_,_,_,_,_,_,_,_,_,_,_,_,_,_,_,_,_,_,_,_,_,_,_,_,_,_,_,_,_,_,_,_,_,rfl,HD.out.trans (dC.to ms _),?_,KH.out⟩,?_⟩
     ·rw [← HS.out,← tK.out];exact zZ ms
     ·have h1:=HAT.out
      rw [← tK.out] at h1
      have hlt:=rH h1
      have e1:fB ms ns.length=qI ms:=by rw [← tK.out];rfl
      have e2:=xS (KH.out.nodes (by rw [bN,tK.out]) hl.1)
      rw [bN,tK.out,e1] at e2
      have e3:=HMU.out
      rw [tK.out] at e3
      have c1:=aA KH.out.wb 0
      have c2:=aA HM.out.wb 0
      simp at c1 c2
      simp only [aEW]
      simp [c1,c2]
      omega
def gZ (k r:Int) (ns:List Nd):Int × Int × List Nd :=
 if k=4 then (0,r,cB ns) else if k=3 then (0,r,gT ns) else if k=2 then iU r ns (mW ns ns.length) else if (splitN ns).length≤256 then (0,r,splitN ns) else (2,0,[])
def AA (k:Int):Nat:=if k=4 then 39 else if k=3 then 38 else if k=2 then 37 else 36
theorem aPE {k:Int} (h:iM k=true):vK k=fnV (AA k):=by
 unfold vK AA
 by_cases e4:k=4
 ·simp [e4]
 by_cases e3:k=3
 ·simp [e3]
 by_cases e2:k=2
 ·simp [e2]
 by_cases e1:k=1
 ·simp [e1]
 simp [iM,e4,e3,e2,e1] at h
theorem QT (k:Int):∀ args w,(callFunc (AA k) args).run Tryz.prog w=.ok (.enter (AA k) args) w:=by
 unfold AA
 split
 ·exact enters_of Tryz.func39 fJ rfl
 split
 ·exact enters_of Tryz.func38 fJ rfl
 split
 ·exact enters_of Tryz.func37 fJ rfl
 ·exact enters_of Tryz.func36 fJ rfl
def qK (x:Int × Int × List Nd) (w:World) (e:Ending) (w' :World):Prop :=
 (x.1≠0∧e=.returned (.tuple #[.agg #[.int .i64 0,.slice none 0 0],.int .i64 x.1]) ∨
  x.1=0∧∃ gb gq gc,e=.returned (.tuple #[.agg #[.int .i64 x.2.1,.slice (some ⟨gb,gq,none⟩) x.2.2.length gc],.int .i64 0])∧aH w' gb gq x.2.2∧w.heap.size≤gb)∧Below w.heap.size w w'
theorem fU {w:World} {base:Nat} {v:Value} {ms:List Nd} (h:w.ownsRow base 42 6 v ms.length (ms.flatMap aP)) (hl:1≤ms.length):∃ gb gc,v=.slice (some ⟨gb,0,none⟩) ms.length gc∧aH w gb 0 ms∧base≤gb:=by
 obtain ⟨gb,gc,rfl,hb,_⟩:=h.form aF
 exact ⟨gb,gc,rfl,jV h hl,hb⟩
theorem aPF (k r:Int) (b off cap:Nat) (ns:List Nd) (w:World) (hN:aH w b off ns) (hc:bM r ns=0) :
 Calls Tryz.prog (AA k) #[.agg #[.int .i64 r,.slice (some ⟨b,off,none⟩) ns.length cap]] w (qK (gZ k r ns) w):=by
 unfold AA gZ
 by_cases e4:k=4
 ·rw [if_pos e4,if_pos e4]
  refine (callsIn_wide.1 (aDZ r b off cap ns w hN hc)).mono ?_
  rintro e w' ⟨v,rfl,hv,hB⟩
  obtain ⟨gb,gc,rfl,hn,hb⟩:=fU hv (bB (fC hc)).1.1
  exact ⟨Or.inr ⟨rfl,gb,0,gc,rfl,hn,hb⟩,hB⟩
 rw [if_neg e4,if_neg e4]
 by_cases e3:k=3
 ·rw [if_pos e3,if_pos e3]
  refine (aCJ r b off cap ns w hN hc).mono ?_
  rintro e w' ⟨cb,cc,rfl,hv,hB⟩
  have hl:(gT ns).length=ns.length:=(dC.all ns).len
  rw [← hl] at hv
  obtain ⟨gb,gc,e,hn,hb⟩:=fU hv (by rw [hl];exact (bB hc).1.1)
  cases e
  exact ⟨Or.inr ⟨rfl,cb,0,cc,by rw [hl],hn,hb⟩,hB⟩
 rw [if_neg e3,if_neg e3]
 by_cases e2:k=2
 ·rw [if_pos e2,if_pos e2]
  refine (aID r b off cap ns w hN hc).mono ?_
  rintro e w' ⟨h,hB⟩
  rcases h with h | ⟨h0,gb,gc,rfl,hn,hb⟩
  ·exact ⟨Or.inl h,hB⟩
  ·exact ⟨Or.inr ⟨h0,gb,0,gc,rfl,hn,hb⟩,hB⟩
 rw [if_neg e2,if_neg e2]
 refine (callsIn_wide.1 (EP r b off cap ns w hN hc)).mono ?_
 rintro e w' ⟨v1,v2,er,rfl,h,hB⟩
 rcases h with ⟨hl,rfl,rfl,hv⟩ | ⟨hl,rfl,rfl,rfl⟩
 ·rw [if_pos hl]
  obtain ⟨gb,gc,rfl,hn,hb⟩:=fU hv (bB (iI hc hl)).1.1
  exact ⟨Or.inr ⟨rfl,gb,0,gc,rfl,hn,hb⟩,hB⟩
 ·rw [if_neg aF]
  exact ⟨Or.inl ⟨aL,rfl⟩,hB⟩
theorem QU:∀ (ts:List Tm) {x:Int × Int × List Nd},bM x.2.1 x.2.2=0→x.1=0→(ts.foldl jH x).1=0→bM (ts.foldl jH x).2.1 (ts.foldl jH x).2.2=0
 | [],_,h,_,_=>h
 | t::ts,x,h,h0,he=>by
  rw [List.foldl_cons] at he ⊢
  by_cases h1:gV x.2.1 x.2.2 t=0
  ·have e:jH x t=(0,kU x.2.2 t x.2.1,iG x.2.2 t x.2.1):=by unfold jH;rw [if_neg (by simp [h0]),if_pos h1]
   rw [e] at he ⊢
   exact QU ts (QO h1).next rfl he
  ·have e:jH x t=(gV x.2.1 x.2.2 t,0,[]):=by unfold jH;rw [if_neg (by simp [h0]),if_neg h1]
   rw [e,tO ts (by exact h1)] at he
   exact absurd he h1
theorem aIJ {k r:Int} {ns:List Nd} (hc:bM r ns=0) (h0:(gZ k r ns).1=0):bM (gZ k r ns).2.1 (gZ k r ns).2.2=0:=by
 unfold gZ at h0 ⊢
 by_cases e4:k=4
 ·rw [if_pos e4];exact fC hc
 rw [if_neg e4] at h0 ⊢
 by_cases e3:k=3
 ·rw [if_pos e3];exact (dC.all ns).bM hc
 rw [if_neg e3] at h0 ⊢
 by_cases e2:k=2
 ·rw [if_pos e2] at h0 ⊢
  exact QU _ (x:=(0,r,ns)) hc rfl h0
 rw [if_neg e2] at h0 ⊢
 by_cases hl:(splitN ns).length≤256
 ·rw [if_pos hl];exact iI hc hl
 ·rw [if_neg hl] at h0;exact absurd h0 aL
def gI (x:Int × Int × List Nd) (k:Int):Int × Int × List Nd:=if x.1=0 then gZ k x.2.1 x.2.2 else x
def bS (r:Int) (ns:List Nd) (l:List Int):Int × Int × List Nd:=l.foldl gI (0,r,ns)
theorem xU (r:Int) (ns:List Nd) (l:List Int) (k:Int):bS r ns (l++[k])=gI (bS r ns l) k:=by simp [bS,List.foldl_append]
theorem qL {x:Int × Int × List Nd} (h:x.1≠0):∀ l:List Int,l.foldl gI x=x
 | []=>rfl
 | k::l=>by rw [List.foldl_cons,gI,if_neg h];exact qL h l
theorem II:∀ (l:List Int) {x:Int × Int × List Nd},x.1=0→bM x.2.1 x.2.2=0→(l.foldl gI x).1=0→bM (l.foldl gI x).2.1 (l.foldl gI x).2.2=0
 | [],_,_,h,_=>h
 | k::l,x,h0,h,he=>by
  rw [List.foldl_cons] at he ⊢
  have e:gI x k=gZ k x.2.1 x.2.2:=by rw [gI,if_pos h0]
  by_cases h1:(gI x k).1=0
  ·refine II l h1 ?_ he
   rw [e] at h1 ⊢
   exact aIJ h h1
  ·rw [qL h1] at he;exact absurd he h1
theorem oQ {r:Int} {ns:List Nd} (hc:bM r ns=0) {l:List Int} (he:(bS r ns l).1=0):bM (bS r ns l).2.1 (bS r ns l).2.2=0:=II l rfl hc he
end Go.Proofs.YtegloodcbfalfaaGreatDoor
