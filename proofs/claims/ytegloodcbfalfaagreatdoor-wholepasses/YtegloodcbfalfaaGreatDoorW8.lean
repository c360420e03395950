/-
  Of the proof of WholePasses: E, MB, MD, ME, MF, MG, FD.
-/
import Derived.Test.YtegloodcbfalfaaGreatDoorW2
import Derived.Test.YtegloodcbfalfaaGreatDoorW6
import Derived.Test.YtegloodcbfalfaaGreatDoorW7
import Derived.Deep.DeepCutAuto
import Derived.Deep.Upon
set_option linter.unusedVariables false
set_option linter.unusedSimpArgs false
set_option maxHeartbeats 40000000
set_option maxRecDepth 100000
namespace Go.Proofs.YtegloodcbfalfaaGreatDoor
open Go.RowKit
def Fl (op:Int) (D A B T O E:Bool):Prop:=wi op 1 9=D∧(wi op 2 8||wi op 10 12)=A∧wi op 3 8=B∧(op != 12)=T∧(op==11)=O∧(op != 1)=E
theorem xA {op:Int} (h:kn op=true):Fl op false false false true false true∨Fl op true false false true false false∨Fl op true true false true false true∨Fl op true true true true false true ∨
 Fl op true false false true false true∨Fl op false true false true false true∨Fl op false true false true true true∨Fl op false true false false false true:=by
 rcases SK op with (rfl | rfl | rfl | rfl | rfl | rfl | rfl | rfl | rfl | rfl | rfl | rfl | rfl) | hx
 all_goals first | (rw [(uY hx).1] at h;cases h) | (simp only [Fl];decide)
theorem qD {op:Int} {D A B T O E:Bool} (h:Fl op D A B T O E) (w:World) :
 Calls Tryz.prog 40 #[.int .i64 op] w fun e w' =>e=.returned (.tuple #[.bool D,.bool A,.bool B,.bool T,.bool O])∧w' =w:=by
 obtain ⟨rfl,rfl,rfl,rfl,rfl,rfl⟩:=h
 exact qW op w
theorem aXG {x:Nd} {D A B T O E:Bool} (r:Int) (len:Nat) (hk:kn x.op=true) (h:Fl x.op D A B T O E) :
 aX (mG r len) x=((!D||wi x.d 0 (r-1))&&(!A||wi x.a 0 (r-1))&&(!B||wi x.b 0 (r-1))&&(!T||wi x.t 1 (len-1))&&(!O||wi x.e 1 (len-1))):=by
 obtain ⟨op,d,a,b,t,e⟩:=x
 obtain ⟨h1,h2,h3,h4,h5,h6⟩:=h
 simp only at *
 have e0:mG r len (k0 op) d=(!D||wi d 0 (r-1)):=by simp only [k0,h1];cases D <;> simp [mG]
 have e1:mG r len (k1 op) a=(!A||wi a 0 (r-1)):=by
  simp only [k1];by_cases ho:op=1
  ·subst ho;subst h2;simp [mG,wi]
  ·rw [if_neg ho,h2];cases A <;> simp [mG]
 have e2:mG r len (k2 op) b=(!B||wi b 0 (r-1)):=by simp only [k2,h3];cases B <;> simp [mG]
 have e3:mG r len (k3 op) t=(!T||wi t 1 (len-1)):=by
  have:wi op 0 11=T:=by
   have hk' :=aY.1 hk
   rw [← h4];by_cases ho:op=12
   ·subst ho;rfl
   ·rw [dP aF aF];simp [ho]
  simp only [k3,this];cases T <;> simp [mG]
 have e4:mG r len (k4 op) e=(!O||wi e 1 (len-1)):=by
  simp only [k4];by_cases ho:op=11
  ·subst ho;subst h5;simp [mG]
  ·rw [if_neg ho];have:O=false:=by rw [← h5];simp [ho]
   subst this;simp [mG]
 simp [aX,IX,e0,e1,e2,e3,e4,Bool.and_assoc]
theorem aXH {x:Nd} {D A B T O E:Bool} (hk:kn x.op=true) (h:Fl x.op D A B T O E) :
 aX nH x=((D||x.d==0)&&(A||!E||x.a==0)&&(B||x.b==0)&&(T||x.t==0)&&(O||x.e==0)):=by
 obtain ⟨op,d,a,b,t,e⟩:=x
 obtain ⟨h1,h2,h3,h4,h5,h6⟩:=h
 simp only at *
 have e0:nH (k0 op) d=(D||d==0):=by simp only [k0,h1];cases D <;> simp [nH]
 have e1:nH (k1 op) a=(A||!E||a==0):=by
  simp only [k1];by_cases ho:op=1
  ·subst ho;subst h2;subst h6;simp [nH]
  ·have:E=true:=by rw [← h6];simp [ho]
   subst this;rw [if_neg ho,h2];cases A <;> simp [nH]
 have e2:nH (k2 op) b=(B||b==0):=by simp only [k2,h3];cases B <;> simp [nH]
 have e3:nH (k3 op) t=(T||t==0):=by
  have:wi op 0 11=T:=by
   have hk' :=aY.1 hk
   rw [← h4];by_cases ho:op=12
   ·subst ho;rfl
   ·rw [dP aF aF];simp [ho]
  simp only [k3,this];cases T <;> simp [nH]
 have e4:nH (k4 op) e=(O||e==0):=by
  simp only [k4];by_cases ho:op=11
  ·subst ho;subst h5;simp [nH]
  ·rw [if_neg ho];have:O=false:=by rw [← h5];simp [ho]
   subst this;simp [nH]
 simp [aX,IX,e0,e1,e2,e3,e4,Bool.and_assoc]
theorem FE (r:Int) (a:Option Addr) (cap:Nat) (ns:List Nd) (w:World) (h:(wi ns.length 1 256&&wi r 1 64)=false) :
 Calls Tryz.prog 15 #[.agg #[.int .i64 r,.slice a ns.length cap]] w fun e w' =>e=.returned (.int .i64 2)∧Below w.heap.size w w' :=by
 cases h1:wi ns.length 1 256
 ·go_enter Tryz.func15,Tryz.ntmps15
  go_wp2_with (go_at_call 16;refine (dZ _ _ _ _).mono ?_;rintro e w' ⟨rfl,rfl⟩)
  go_ret
  exact ⟨rfl,dY⟩
 ·have h2:wi r 1 64=false:=by simpa [h1] using h
  clear h
  go_enter Tryz.func15,Tryz.ntmps15
  go_wp2_with (go_at_call 16;refine (dZ _ _ _ _).mono ?_;rintro e w' ⟨rfl,rfl⟩)
  go_ret
  exact ⟨rfl,dY⟩
theorem FI (r:Int) (b off cap:Nat) (ns:List Nd) (w:World) (hN:aH w b off ns) (h1:wi ns.length 1 256=true) (h2:wi r 1 64=true) :
 Calls Tryz.prog 15 #[.agg #[.int .i64 r,.slice (some ⟨b,off,none⟩) ns.length cap]] w fun e w' =>e=.returned (.int .i64 (bM r ns))∧Below w.heap.size w w' :=by
 have b1:=aY.1 h1
 have b2:=aY.1 h2
 have hblt:=hN.lt
 have hl:ns.length≤256:=by omega
 have HC:Hid (bM r ns=if ns.all (fun x=>kn x.op) then if ns.all (aX (mG r ns.length)) then if ns.all (aX nH) then 0 else 1 else 3 else 4):=by
  show _=_;simp [bM,h1,h2]
 generalize bM r ns=C at HC ⊢
 go_enter Tryz.func15,Tryz.ntmps15
 go_wp2_with (go_at_call 16;refine (dZ _ _ _ _).mono ?_;rintro e w' ⟨rfl,rfl⟩)
 clear h1 h2
 have q0:(w.alloc (.cells #[.int .i64 r,.slice (some ⟨b,off,none⟩) ns.length cap] 24)).cell? ⟨w.heap.size,0,none⟩=some (.int .i64 r):=by simp
 have q1:(w.alloc (.cells #[.int .i64 r,.slice (some ⟨b,off,none⟩) ns.length cap] 24)).cell? ⟨w.heap.size,1,none⟩=some (.slice (some ⟨b,off,none⟩) ns.length cap):=by simp
 have hN1:aH (w.alloc (.cells #[.int .i64 r,.slice (some ⟨b,off,none⟩) ns.length cap] 24)) b off ns:=hN.below ((Below.refl w.heap.size w).alloc dD _) hN.lt
 have hB1:Below w.heap.size w (w.alloc (.cells #[.int .i64 r,.slice (some ⟨b,off,none⟩) ns.length cap] 24)):=(Below.refl w.heap.size w).alloc dD _
 have hS1:(w.alloc (.cells #[.int .i64 r,.slice (some ⟨b,off,none⟩) ns.length cap] 24)).heap.size=w.heap.size+1:=by simp
 clear hN
 generalize w.alloc (.cells #[.int .i64 r,.slice (some ⟨b,off,none⟩) ns.length cap] 24)=W at q0 q1 hN1 hB1 hS1 ⊢
 go_loopw [3] (fun i wr=>∃ k:Nat,k≤ns.length∧i=.int .i64 k∧Hid ((ns.take k).all (fun x=>kn x.op)=true)∧W=wr) (fun i _=>ns.length-(intOf i).toNat)
 case atStart=>exact ⟨0,Nat.zero_le _,rfl,rfl,rfl⟩
 case round =>
  obtain ⟨k,hk,rfl,hA,rfl⟩:=hrel
  by_cases hlt:k<ns.length
  ·obtain ⟨x,hx⟩:=bD hlt
   have c0:=hN1.c0 k x hx
   have HX:Hid (ns[k]?=some x):=hx
   clear hx
   cases hkn:kn x.op
   ·have hkn' :wi x.op 0 12=false:=hkn
    go_wp2_with (go_at_call 16;refine (dZ _ _ _ _).mono ?_;rintro e w' ⟨rfl,rfl⟩)
    go_ret
    refine ⟨bU ?_,hB1⟩
    rw [HC.out,dQ (fun x:Nd=>kn x.op) HX.out hkn];rfl
   ·have hkn' :wi x.op 0 12=true:=hkn
    go_wp2_with (go_at_call 16;refine (dZ _ _ _ _).mono ?_;rintro e w' ⟨rfl,rfl⟩)
    go_roundw
    case rel=>exact ⟨k+1,aF,by go_num,(by show _=_;rw [fE _ HX.out,hA.out,hkn];rfl),by first | rfl | trivial⟩
    case measure=>simp [intOf];omega
  ·have aNA:Hid (ns.all (fun x=>kn x.op)=true):=by show _=_;rw [← hA.out,fV aF]
   clear hA
   go_wp2
   clear hlt hk
   go_loopw [4] (fun i wr=>∃ k:Nat,k≤ns.length∧i=.int .i64 k∧Hid ((ns.take k).all (aX (mG r ns.length))=true)∧Below (w.heap.size+1) W wr) (fun i _=>ns.length-(intOf i).toNat)
   case atStart=>exact ⟨0,Nat.zero_le _,rfl,rfl,Below.refl _ _⟩
   case round =>
    obtain ⟨k,hk,rfl,hA,hb⟩:=hrel
    have hsz:=hb.size
    have hB2:Below w.heap.size w wr:=hB1.trans (hb.mono aF)
    have kQ:=hN1.below hb aF
    have hlt2:=kQ.lt
    have p0:wr.cell? ⟨w.heap.size,0,none⟩=some (.int .i64 r):=by rw [hb.cell (p:=⟨w.heap.size,0,none⟩) aQ];exact q0
    have p1:wr.cell? ⟨w.heap.size,1,none⟩=some (.slice (some ⟨b,off,none⟩) ns.length cap):=by rw [hb.cell (p:=⟨w.heap.size,1,none⟩) aQ];exact q1
    have hsw:w.heap.size<wr.heap.size:=by omega
    by_cases hlt:k<ns.length
    ·obtain ⟨x,hx⟩:=bD hlt
     have c0:=kQ.c0 k x hx
     have c1:=kQ.c1 k x hx
     have c2:=kQ.c2 k x hx
     have c3:=kQ.c3 k x hx
     have c4:=kQ.c4 k x hx
     have c5:=kQ.c5 k x hx
     have HX:Hid (ns[k]?=some x):=hx
     have hkn:kn x.op=true:=by have:=aNA.out;rw [List.all_eq_true] at this;exact this x (List.mem_of_getElem? hx)
     clear hx
     rcases xA hkn with hf | hf | hf | hf | hf | hf | hf | hf
     all_goals
      have HS:Hid (_=_):=aXG r ns.length hkn hf
      have HF:=aB hf
      clear hf hkn hN1 kQ q0 q1
      as_aux_lemma =>
       go_wp2_with (first | (go_at_call 40;refine (qD HF.out _).mono ?_;rintro e w' ⟨rfl,rfl⟩) | (go_at_call 16;refine (dZ _ _ _ _).mono ?_;rintro e w' ⟨rfl,rfl⟩))
       all_goals
        first
        | (go_ret
           refine ⟨bU ?_,hB2.alloc aF _⟩
           have hff:aX (mG r ns.length) x=false:=by
            rw [HS.out]
            first
            | (simp [*];done)
            | (simp [*];simpa using ‹(!wi x.e 1 ((ns.length:Int)-1))=true›)
           rw [HC.out,aNA.out,dQ (aX (mG r ns.length)) HX.out hff];rfl)
        | (go_roundw
           case rel =>
            have hff:aX (mG r ns.length) x=true:=by
             rw [HS.out]
             first
             | (simp [*];done)
             | (simp [*];simpa using ‹(!wi x.e 1 ((ns.length:Int)-1))=false›)
            exact ⟨k+1,aF,by go_num,(by show _=_;rw [fE _ HX.out,hA.out,hff];rfl),hb.alloc aF _⟩
           case measure=>simp [intOf];omega)
    ·have aVC:Hid (ns.all (aX (mG r ns.length))=true):=by show _=_;rw [← hA.out,fV aF]
     clear hA
     go_wp2
     clear hlt hk p0 p1 kQ
     go_loopw [11] (fun i ws=>∃ k:Nat,k≤ns.length∧i=.int .i64 k∧Hid ((ns.take k).all (aX nH)=true)∧Below (w.heap.size+1) W ws) (fun i _=>ns.length-(intOf i).toNat)
     case atStart=>exact ⟨0,Nat.zero_le _,rfl,rfl,hb⟩
     case round =>
      clear hb hsz hB2 hlt2 hsw
      obtain ⟨k,hk,rfl,hA,hb⟩:=hrel
      have hsz:=hb.size
      have hB2:Below w.heap.size w wr:=hB1.trans (hb.mono aF)
      have kQ:=hN1.below hb aF
      have hlt2:=kQ.lt
      have p1:wr.cell? ⟨w.heap.size,1,none⟩=some (.slice (some ⟨b,off,none⟩) ns.length cap):=by rw [hb.cell (p:=⟨w.heap.size,1,none⟩) aQ];exact q1
      have hsw:w.heap.size<wr.heap.size:=by omega
      by_cases hlt:k<ns.length
      ·obtain ⟨x,hx⟩:=bD hlt
       have c0:=kQ.c0 k x hx
       have c1:=kQ.c1 k x hx
       have c2:=kQ.c2 k x hx
       have c3:=kQ.c3 k x hx
       have c4:=kQ.c4 k x hx
       have c5:=kQ.c5 k x hx
       have HX:Hid (ns[k]?=some x):=hx
       have hkn:kn x.op=true:=by have:=aNA.out;rw [List.all_eq_true] at this;exact this x (List.mem_of_getElem? hx)
       clear hx
       rcases xA hkn with hf | hf | hf | hf | hf | hf | hf | hf
       all_goals
        have HS:Hid (_=_):=aXH hkn hf
        have HF:=aB hf
        have hE:=hf.2.2.2.2.2
        clear hf hkn hN1 kQ q0 q1
        as_aux_lemma =>
         go_wp2_with (first | (go_at_call 40;refine (qD HF.out _).mono ?_;rintro e w' ⟨rfl,rfl⟩))
         all_goals
          first
          | (go_ret
             refine ⟨bU ?_,hB2.alloc aF _⟩
             have hff:aX nH x=false:=by
              rw [HS.out]
              first
              | (simp [*];done)
              | (simp [*];simpa using ‹(x.e != 0)=true›)
             rw [HC.out,aNA.out,aVC.out,dQ (aX nH) HX.out hff];rfl)
          | (go_roundw
             case rel =>
              have hff:aX nH x=true:=by
               rw [HS.out]
               first
               | (simp [*];done)
               | (simp [*];simpa using ‹(x.e != 0)=false›)
              exact ⟨k+1,aF,by go_num,(by show _=_;rw [fE _ HX.out,hA.out,hff];rfl),hb.alloc aF _⟩
             case measure=>simp [intOf];omega)
      ·have a2Z:Hid (ns.all (aX nH)=true):=by show _=_;rw [← hA.out,fV aF]
       clear hA
       go_wp2
       go_ret
       refine ⟨bU ?_,hB2⟩
       rw [HC.out,aNA.out,aVC.out,a2Z.out];rfl
theorem lJ (r:Int) (a:Option Addr) (cap:Nat) (ns:List Nd) (w:World) (hN:pI w a ns) :
 Calls Tryz.prog 15 #[.agg #[.int .i64 r,.slice a ns.length cap]] w fun e w' =>e=.returned (.int .i64 (bM r ns))∧Below w.heap.size w w' :=by
 cases h:(wi ns.length 1 256&&wi r 1 64)
 ·have e:bM r ns=2:=by simp [bM,h]
  rw [e];exact FE r a cap ns w h
 ·rw [Bool.and_eq_true] at h
  obtain ⟨b,off,rfl,hN'⟩:=hN.some (by have:=(aY.1 h.1).1;omega)
  exact FI r b off cap ns w hN' h.1 h.2
end Go.Proofs.YtegloodcbfalfaaGreatDoor
namespace Go.Proofs.YtegloodcbfalfaaGreatDoor
open Go.RowKit Go.Shelf
def fits (ns:List Nd) (f:BA):Bool:=f.gen.length==ns.length&&(f.pass.length==ns.length&&(f.plus.length==ns.length&&f.lets.length==ns.length))
def vQ (r:Int) (ns:List Nd) (f:BA):Int:=if bM r ns=0 then (if fits ns f then 0 else 1) else bM r ns
theorem yU {r:Int} {ns:List Nd} {f:BA} (h:vQ r ns f=0):bM r ns=0∧f.gen.length=ns.length∧f.pass.length=ns.length∧f.plus.length=ns.length∧f.lets.length=ns.length:=by
 unfold vQ at h
 split at h
 ·rename_i hc
  split at h
  ·rename_i hf
   simp only [fits,Bool.and_eq_true,beq_iff_eq] at hf
   exact ⟨hc,hf.1,hf.2.1,hf.2.2.1,hf.2.2.2⟩
  ·cases h
 ·rename_i hc;exact absurd h hc
theorem aGZ (va:Option Addr) (vn vc B:Nat) (a:Option Addr) (k cap:Nat) (w:World) (h1:w.cell? ⟨B,1,none⟩=some (.slice a k cap)) (hB:B<w.heap.size) :
 Calls Tryz.prog 238 #[.slice va vn vc,.pointer (some ⟨B,0,none⟩)] w fun e w' =>e=.returned (.bool (decide ((vn:Int)=(k:Int))))∧w' =w:=by
 go_enter Tryz.func238,Tryz.ntmps238
 go_wp2
 go_ret
 exact ⟨rfl,rfl⟩
theorem aBJ (r:Int) (a:Option Addr) (cap:Nat) (ns:List Nd) (f:BA) (a1 a2 a3 a4:Option Addr) (c1 c2 c3 c4:Nat) (w:World) (hN:pI w a ns) :
 Calls Tryz.prog 232 #[.agg #[.int .i64 r,.slice a ns.length cap],.agg #[.bool f.back,.bool f.empty,.slice a1 f.gen.length c1,.slice a2 f.pass.length c2,.slice a3 f.plus.length c3,.slice a4 f.lets.length c4]] w fun e w' =>e=.returned (.int .i64 (vQ r ns f))∧Below w.heap.size w w' :=by
 have eg1:∀ args w,(callFunc 238 args).run Tryz.prog w=.ok (.enter 238 args) w:=enters_of Tryz.func238 fJ rfl
 have HF:Hid (vQ r ns f=if bM r ns=0 then (if fits ns f then 0 else 1) else bM r ns):=rfl
 generalize vQ r ns f=C at HF ⊢
 have HN:=aB hN
 clear hN
 go_enter Tryz.func232,Tryz.ntmps232
 go_upto_region 1 with fail
 obtain ⟨W0,jU,hb0,hp0,hq0⟩:=VP w (.cells #[.int .i64 r,.slice a ns.length cap] 24) (.cells #[.bool f.back,.bool f.empty,.slice a1 f.gen.length c1,.slice a2 f.pass.length c2,.slice a3 f.plus.length c3,.slice a4 f.lets.length c4] 237)
 rw [jU.out]
 clear jU
 have p0:=aA hp0 0
 have p1:=aA hp0 1
 have pl:=aD hp0
 have ql:=aD hq0
 simp at p0 p1
 have HB0:=aB hb0
 have HQ:=aB hq0
 have HP:=aB hp0
 clear hb0 hp0 hq0
 go_upto_region 2 with (go_at_call 10;refine (fG r a cap ns _ (HN.out.below (HB0.out.mono dD))).mono ?_;rintro e w1 ⟨rfl,hb1⟩)
 have hB1:Below w.heap.size w w1:=bG HB0.out hb1
 have hp1:=(hb1.block _ pl).trans HP.out
 have hq1:=(hb1.block _ ql).trans HQ.out
 by_cases hc:bM r ns=0
 ·rw [hc]
  have z0:=aA hp1 0
  have z1:=aA hp1 1
  have y0:=aA hq1 0
  have y1:=aA hq1 1
  have y2:=aA hq1 2
  have y3:=aA hq1 3
  have y4:=aA hq1 4
  have y5:=aA hq1 5
  simp at z0 z1 y0 y1 y2 y3 y4 y5
  have pl1:=aD hp1
  have ql1:=aD hq1
  clear p0 p1 pl ql hb1 hp1 hq1
  go_wp2_with fail
  obtain ⟨W2,oG,hbA,hn⟩:=bx1 w1 (.cells #[.slice a1 f.gen.length c1,.slice a2 f.pass.length c2,.slice a3 f.plus.length c3,.slice a4 f.lets.length c4] 73)
  rw [oG.out]
  clear oG
  have hcell:=(hbA.cell (p:=⟨w.heap.size,1,none⟩) pl1).trans z1
  have aGQ:w.heap.size<W2.heap.size:=Nat.lt_of_lt_of_le pl1 hbA.size
  refine (PX (fun z=>decide (z=(ns.length:Int))) 238 #[.pointer (some ⟨w.heap.size,0,none⟩)] w1.heap.size 4 [(a1,f.gen.length,c1),(a2,f.pass.length,c2),(a3,f.plus.length,c3),(a4,f.lets.length,c4)] W2 (aD hn) ?_ aQ eg1 ?_).mono ?_
  ·intro j v hj
   rw [aA hn]
   match j,hj with
   | 0,hj | 1,hj | 2,hj | 3,hj=>simp at hj;subst hj;rfl
   | j+4,hj=>simp at hj
  ·intro v hv W hW
   refine (aGZ v.1 v.2.1 v.2.2 w.heap.size a ns.length cap W ((hW.cell (p:=⟨w.heap.size,1,none⟩) aGQ).trans hcell) (Nat.lt_of_lt_of_le aGQ hW.size)).mono ?_
   rintro e w' ⟨rfl,rfl⟩
   exact ⟨rfl,Below.refl _ _⟩
  rintro e w3 ⟨rfl,hb3⟩
  have hB3:Below w.heap.size w w3:=hB1.trans ((bG hbA hb3).mono hB1.size)
  have he:([(a1,f.gen.length,c1),(a2,f.pass.length,c2),(a3,f.plus.length,c3),(a4,f.lets.length,c4)].all fun v:Option Addr × Nat × Nat=>decide ((v.2.1:Int)=(ns.length:Int)))=fits ns f:=by
   have hd:∀ k:Nat,decide ((k:Int)=(ns.length:Int))=(k==ns.length):=fun k=>by
    by_cases q:k=ns.length
    ·simp [q]
    ·have q2:¬ ((k:Int)=(ns.length:Int)):=by omega
     simp [q,q2]
   simp only [List.all_cons,List.all_nil,Bool.and_true,hd,fits]
  rw [he]
  clear he hn hbA hb3 hcell z0 z1 y0 y1 y2 y3 y4 y5
  cases hf:fits ns f
  ·go_wp2
   go_ret
   refine ⟨bU ?_,hB3⟩
   rw [HF.out,if_pos hc,hf];rfl
  ·go_wp2
   go_ret
   refine ⟨bU ?_,hB3⟩
   rw [HF.out,if_pos hc,hf];rfl
 ·have HC:=aB hc
  clear p0 p1 pl ql hb1 hp1 hq1
  have hne:¬ (bM r ns=0):=hc
  go_wp2
  go_ret
  refine ⟨bU ?_,hB1⟩
  rw [HF.out,if_neg HC.out]
structure QM (w:World) (ns:List Nd) (f:BA) (a1 a2 a3 a4:Option Addr) (rb1 cK:Nat):Prop where
 g:aJ w a1 f.gen
 p:aJ w a2 f.pass
 q:aJ w a3 f.plus
 l:aJ w a4 f.lets
 gl:f.gen.length=ns.length
 pl:f.pass.length=ns.length
 ql:f.plus.length=ns.length
 ll:f.lets.length=ns.length
 asked:qC w rb1 ns.length (zH ns f)
 askers:qC w cK ns.length (ask ns f)
theorem QM.below {w w' :World} {ns:List Nd} {f:BA} {a1 a2 a3 a4:Option Addr} {rb1 cK:Nat} (h:QM w ns f a1 a2 a3 a4 rb1 cK) (hb:Below w.heap.size w w'):QM w' ns f a1 a2 a3 a4 rb1 cK :=
 ⟨h.g.below hb,h.p.below hb,h.q.below hb,h.l.below hb,h.gl,h.pl,h.ql,h.ll,h.asked.below hb,h.askers.below hb⟩
theorem bT {w:World} {a:Option Addr} {zs:List Bool} (h:aJ w a zs) {k:Nat} (hk:k<zs.length):∃ b off,a=some ⟨b,off,none⟩∧b<w.heap.size∧w.cell? ⟨b,off+k,none⟩=some (.bool (aM zs k)):=by
 obtain ⟨b,off,rfl,h1,h2⟩:=h.at hk
 exact ⟨b,off,rfl,h1,h2 k _ (kE hk)⟩
theorem WJ (m B X k:Nat) (pl lt x:List Bool) (a3 a4 xa:Option Addr) (c3 c4 xc:Nat) (w:World) (h4:w.cell? ⟨B,4,none⟩=some (.slice a3 pl.length c3)) (h5:w.cell? ⟨B,5,none⟩=some (.slice a4 lt.length c4)) (hX:w.cell? ⟨X,0,none⟩=some (.slice xa x.length xc))
 (hB:B<w.heap.size) (hXl:X<w.heap.size) (hp:aJ w a3 pl) (hl:aJ w a4 lt) (hx:aJ w xa x) (e1:pl.length=k) (e2:lt.length=k) (e3:x.length=k) (hm:m<k) :
 Calls Tryz.prog 242 #[.int .i64 m,.pointer (some ⟨B,0,none⟩),.pointer (some ⟨X,0,none⟩)] w fun e w' =>e=.returned (.bool (aM pl m||(aM lt m&&aM x m)))∧w' =w:=by
 obtain ⟨b3,o3,rfl,l3,v3⟩:=bT hp (k:=m) aF
 obtain ⟨b4,o4,rfl,l4,v4⟩:=bT hl (k:=m) aF
 obtain ⟨bx,ox,rfl,lx,vx⟩:=bT hx (k:=m) aF
 rw [e1] at h4
 rw [e2] at h5
 rw [e3] at hX
 have KW:(m:Int)<(k:Int):=by omega
 generalize aM pl m=P at v3 ⊢
 generalize aM lt m=L at v4 ⊢
 generalize aM x m=Z at vx ⊢
 clear hp hl hx e1 e2 e3
 cases P
 ·cases L
  ·go_enter Tryz.func242,Tryz.ntmps242
   go_wp2
   go_ret
   exact ⟨rfl,rfl⟩
  ·go_enter Tryz.func242,Tryz.ntmps242
   go_wp2
   go_ret
   exact ⟨aO aQ,rfl⟩
 ·go_enter Tryz.func242,Tryz.ntmps242
  go_wp2
  go_ret
  exact ⟨rfl,rfl⟩
theorem aBK (ns:List Nd) (f:BA) (a1 a2 a3 a4 xa:Option Addr) (c1 c2 c3 c4 xc rb1 cK n:Nat) (x:List Bool) (w:World) (hQ:QM w ns f a1 a2 a3 a4 rb1 cK) (hx:aJ w xa x) (hxl:x.length=ns.length) (hn:n<ns.length) (hl:ns.length≤256) :
 Calls Tryz.prog 240 #[.agg #[.bool f.back,.bool f.empty,.slice a1 f.gen.length c1,.slice a2 f.pass.length c2,.slice a3 f.plus.length c3,.slice a4 f.lets.length c4,.slice (some ⟨rb1,0,none⟩) ns.length ns.length,.slice (some ⟨cK,0,none⟩) ns.length ns.length],.int .i64 n,.slice xa x.length xc] w fun e w' =>e=.returned (.bool (lQ f.empty (zH ns f n) fun m=>aM f.plus m||(aM f.lets m&&aM x m)))∧Below w.heap.size w w' :=by
 have eg:∀ args w,(callFunc 242 args).run Tryz.prog w=.ok (.enter 242 args) w:=enters_of Tryz.func242 fJ rfl
 obtain ⟨ra,rc,hrc,hI⟩:=hQ.asked.row n hn
 have hrl:=hQ.asked.lt
 have hni:(n:Int)<(ns.length:Int):=by omega
 obtain ⟨W,jU,hbA,hq,hxb⟩:=VP w (.cells #[.bool f.back,.bool f.empty,.slice a1 f.gen.length c1,.slice a2 f.pass.length c2,.slice a3 f.plus.length c3,.slice a4 f.lets.length c4,.slice (some ⟨rb1,0,none⟩) ns.length ns.length,.slice (some ⟨cK,0,none⟩) ns.length ns.length] 265) (.cells #[.slice xa x.length xc] 73)
 have HQ:=aB hQ
 have HX:=aB hx
 have HXL:=aB hxl
 clear hQ hx hxl
 go_enter Tryz.func240,Tryz.ntmps240
 go_upto_region 1 with fail
 rw [jU.out]
 clear jU
 have q0:=aA hq 0
 have q1:=aA hq 1
 have q2:=aA hq 2
 have q3:=aA hq 3
 have q4:=aA hq 4
 have q5:=aA hq 5
 have q6:=aA hq 6
 have q7:=aA hq 7
 have x0:=aA hxb 0
 simp at q0 q1 q2 q3 q4 q5 q6 q7 x0
 have ql:=aD hq
 have xl:=aD hxb
 have hrW:=(hbA.cell (p:=⟨rb1,n,none⟩) hrl).trans hrc
 have bJS:=Nat.lt_of_lt_of_le hrl hbA.size
 have HW:=aB hbA
 clear hq hxb hrc hrl hbA
 by_cases hz:(zH ns f n).length=0
 ·have he:zH ns f n=[]:=List.eq_nil_of_length_eq_zero hz
  rw [hz] at hrW
  have HE:=aB he
  clear he
  go_wp2
  go_ret
  refine ⟨aO ?_,HW.out⟩
  rw [HE.out];rfl
 ·have hnz:((zH ns f n).length:Int)≠0:=by omega
  have HI:=aB hI
  clear hI
  go_wp2_with fail
  have hev:=rE (fun z=>aM f.plus z.toNat||(aM f.lets z.toNat&&aM x z.toNat)) 242 #[.pointer (some ⟨w.heap.size,0,none⟩),.pointer (some ⟨w.heap.size+1,0,none⟩)] ra rc (ints (zH ns f n)) W (HI.out.below HW.out) (by
   rw [bX]
   have:(zH ns f n).length≤ns.length:=by
    unfold zH;split
    ·exact uK ns n
    ·exact uL ns n
   omega) eg (fun z hzm U hU=>by
   obtain ⟨m,hm,rfl⟩:=List.mem_map.1 hzm
   have hmk:m<ns.length:=by
    unfold zH at hm;split at hm
    ·exact (iY.1 hm).1
    ·exact (lH.1 hm).1
   have hWU:Below w.heap.size w U:=bG HW.out hU
   have hQU:=HQ.out.below hWU
   refine (WJ m w.heap.size (w.heap.size+1) ns.length f.plus f.lets x a3 a4 xa c3 c4 xc U ((hU.cell (p:=⟨w.heap.size,4,none⟩) ql).trans q4) ((hU.cell (p:=⟨w.heap.size,5,none⟩) ql).trans q5) ((hU.cell (p:=⟨w.heap.size+1,0,none⟩) xl).trans x0) (Nat.lt_of_lt_of_le ql hU.size) (Nat.lt_of_lt_of_le xl hU.size) hQU.q hQU.l (HX.out.below hWU) hQU.ql hQU.ll HXL.out hmk).mono ?_
   rintro e w' ⟨rfl,rfl⟩
   exact ⟨aO aQ,Below.refl _ _⟩)
  rw [bX] at hev
  refine hev.mono ?_
  rintro e w1 ⟨rfl,hb1⟩
  clear hev
  have hB1:Below w.heap.size w w1:=bG HW.out hb1
  have hres:((ints (zH ns f n)).all fun z=>aM f.plus z.toNat||(aM f.lets z.toNat&&aM x z.toNat))=lQ f.empty (zH ns f n) fun m=>aM f.plus m||(aM f.lets m&&aM x m):=by
   have hne:(zH ns f n).isEmpty=false:=by
    cases hh:zH ns f n with
    | nil=>rw [hh] at hz;simp at hz
    | cons _ _=>rfl
   simp [lQ,hne,ints,List.all_map,Function.comp_def]
  rw [hres]
  clear hres
  generalize hR:(lQ f.empty (zH ns f n) fun m=>aM f.plus m||(aM f.lets m&&aM x m))=R
  have HR:=aB hR
  clear hR
  go_wp2
  go_ret
  exact ⟨aO HR.out.symm,hB1⟩
theorem aNB (ns:List Nd) (f:BA) (a1 a2 a3 a4 xa:Option Addr) (c1 c2 c3 c4 xc rb1 cK n:Nat) (x:List Bool) (w:World) (hQ:QM w ns f a1 a2 a3 a4 rb1 cK) (hx:aJ w xa x) (hxl:x.length=ns.length) (hn:n<ns.length) (hl:ns.length≤256) :
 Calls Tryz.prog 234 #[.agg #[.bool f.back,.bool f.empty,.slice a1 f.gen.length c1,.slice a2 f.pass.length c2,.slice a3 f.plus.length c3,.slice a4 f.lets.length c4,.slice (some ⟨rb1,0,none⟩) ns.length ns.length,.slice (some ⟨cK,0,none⟩) ns.length ns.length],.int .i64 n,.slice xa x.length xc] w fun e w' =>e=.returned (.bool (bZ ns f (aM x) n))∧Below w.heap.size w w' :=by
 have hni:(n:Int)<(ns.length:Int):=by omega
 obtain ⟨b1,o1,rfl,l1,v1⟩:=bT hQ.g (k:=n) (by rw [hQ.gl];exact hn)
 obtain ⟨b2,o2,rfl,l2,v2⟩:=bT hQ.p (k:=n) (by rw [hQ.pl];exact hn)
 obtain ⟨W,oG,hbA,hq⟩:=bx1 w (.cells #[.bool f.back,.bool f.empty,.slice (some ⟨b1,o1,none⟩) f.gen.length c1,.slice (some ⟨b2,o2,none⟩) f.pass.length c2,.slice a3 f.plus.length c3,.slice a4 f.lets.length c4,.slice (some ⟨rb1,0,none⟩) ns.length ns.length,.slice (some ⟨cK,0,none⟩) ns.length ns.length] 265)
 have hS:bZ ns f (aM x) n=(aM f.gen n||(aM f.pass n&&lQ f.empty (zH ns f n) fun m=>aM f.plus m||(aM f.lets m&&aM x m))):=rfl
 have har:=fun W (h:Below w.heap.size w W)=>aBK ns f (some ⟨b1,o1,none⟩) (some ⟨b2,o2,none⟩) a3 a4 xa c1 c2 c3 c4 xc rb1 cK n x W (hQ.below h) (hx.below h) hxl hn hl
 have hgi:(n:Int)<(f.gen.length:Int):=by rw [hQ.gl];exact hni
 have hpi:(n:Int)<(f.pass.length:Int):=by rw [hQ.pl];exact hni
 rw [hS]
 generalize (lQ f.empty (zH ns f n) fun m=>aM f.plus m||(aM f.lets m&&aM x m))=R at har ⊢
 have HA:=aB har
 clear har hS hQ hx hxl
 go_enter Tryz.func234,Tryz.ntmps234
 go_upto_region 1 with fail
 rw [oG.out]
 clear oG
 have q0:=aA hq 0
 have q1:=aA hq 1
 have q2:=aA hq 2
 have q3:=aA hq 3
 have q4:=aA hq 4
 have q5:=aA hq 5
 have q6:=aA hq 6
 have q7:=aA hq 7
 simp at q0 q1 q2 q3 q4 q5 q6 q7
 have ql:=aD hq
 replace v1:=(hbA.cell (p:=⟨b1,o1+n,none⟩) l1).trans v1
 replace v2:=(hbA.cell (p:=⟨b2,o2+n,none⟩) l2).trans v2
 replace l1:=Nat.lt_of_lt_of_le l1 hbA.size
 replace l2:=Nat.lt_of_lt_of_le l2 hbA.size
 have HW:=aB hbA
 clear hq hbA
 cases hg:aM f.gen n
 ·rw [hg] at v1
  cases hp:aM f.pass n
  ·rw [hp] at v2
   go_wp2
   go_ret
   exact ⟨aO (by simp [hg,hp]),HW.out⟩
  ·rw [hp] at v2
   go_wp2_with fail
   refine (HA.out W HW.out).mono ?_
   rintro e w1 ⟨rfl,hb1⟩
   go_wp2
   go_ret
   exact ⟨aO (by simp [hg,hp]),bG HW.out hb1⟩
 ·rw [hg] at v1
  go_wp2
  go_ret
  exact ⟨aO (by simp [hg]),HW.out⟩
theorem aHA {w:World} {b k:Nat} (h:k≠b) (o:Nat) (v:Value):(w.setCell ⟨b,o,none⟩ v).heap[k]?=w.heap[k]? :=Below.heap_setCell _ _ _ _ h
theorem aBL (r:Int) (b off cap:Nat) (ns:List Nd) (f:BA) (a1 a2 a3 a4:Option Addr) (c1 c2 c3 c4:Nat) (w:World) (hN:aH w b off ns) (hc:vQ r ns f=0) (h1:aJ w a1 f.gen) (h2:aJ w a2 f.pass) (h3:aJ w a3 f.plus) (h4:aJ w a4 f.lets) :
 Calls Tryz.prog 233 #[.agg #[.int .i64 r,.slice (some ⟨b,off,none⟩) ns.length cap],.agg #[.bool f.back,.bool f.empty,.slice a1 f.gen.length c1,.slice a2 f.pass.length c2,.slice a3 f.plus.length c3,.slice a4 f.lets.length c4]] w fun e w' =>∃ rb1 cK,e=.returned (.agg #[.bool f.back,.bool f.empty,.slice a1 f.gen.length c1,.slice a2 f.pass.length c2,.slice a3 f.plus.length c3,.slice a4 f.lets.length c4,.slice (some ⟨rb1,0,none⟩) ns.length ns.length,.slice (some ⟨cK,0,none⟩) ns.length ns.length])∧QM w' ns f a1 a2 a3 a4 rb1 cK∧Below w.heap.size w w' :=by
 have HC:=aB (yU hc)
 have HN:=aB hN
 have HBO:=aB (And.intro h1 (And.intro h2 (And.intro h3 h4)))
 clear hc hN h1 h2 h3 h4
 obtain ⟨W,jU,hbA,hp,hf,hq⟩:=JE w (.cells #[.int .i64 r,.slice (some ⟨b,off,none⟩) ns.length cap] 24) (.cells #[.bool f.back,.bool f.empty,.slice a1 f.gen.length c1,.slice a2 f.pass.length c2,.slice a3 f.plus.length c3,.slice a4 f.lets.length c4] 237) (.cells #[.bool false,.bool false,.slice none 0 0,.slice none 0 0,.slice none 0 0,.slice none 0 0,.slice none 0 0,.slice none 0 0] 265)
 rw [show w.heap.size+2=w.heap.size+1+1 from rfl] at hq
 go_enter Tryz.func233,Tryz.ntmps233
 go_upto_region 1 with fail
 rw [jU.out]
 clear jU
 have y0:=aA hf 0
 simp at y0
 have fl:=aD hf
 have HH:Hid (∀ u:World,Below W.heap.size W u→u.heap[w.heap.size]?=some (.cells #[.int .i64 r,.slice (some ⟨b,off,none⟩) ns.length cap] 24 (0,0))∧u.heap[w.heap.size+1]?=some (.cells #[.bool f.back,.bool f.empty,.slice a1 f.gen.length c1,.slice a2 f.pass.length c2,.slice a3 f.plus.length c3,.slice a4 f.lets.length c4] 237 (0,0))∧u.heap[w.heap.size+1+1]?=some (.cells #[.bool false,.bool false,.slice none 0 0,.slice none 0 0,.slice none 0 0,.slice none 0 0,.slice none 0 0,.slice none 0 0] 265 (0,0))):=fun u h=>⟨bP h hp,bP h hf,bP h hq⟩
 have HS:Hid (∀ u:World,Below W.heap.size W u→u.cell? ⟨w.heap.size,0,none⟩=some (.int .i64 r)∧u.cell? ⟨w.heap.size,1,none⟩=some (.slice (some ⟨b,off,none⟩) ns.length cap)∧u.cell? ⟨w.heap.size+1,0,none⟩=some (.bool f.back)∧u.cell? ⟨w.heap.size+1,1,none⟩=some (.bool f.empty)∧u.cell? ⟨w.heap.size+1,2,none⟩=some (.slice a1 f.gen.length c1)∧u.cell? ⟨w.heap.size+1,3,none⟩=some (.slice a2 f.pass.length c2)∧u.cell? ⟨w.heap.size+1,4,none⟩=some (.slice a3 f.plus.length c3)∧u.cell? ⟨w.heap.size+1,5,none⟩=some (.slice a4 f.lets.length c4)):=fun u h=>by
  obtain ⟨k1,k2,_⟩:=HH.out u h
  refine ⟨?_,?_,?_,?_,?_,?_,?_,?_⟩
  ·rw [aA k1];rfl
  ·rw [aA k1];rfl
  ·rw [aA k2];rfl
  ·rw [aA k2];rfl
  ·rw [aA k2];rfl
  ·rw [aA k2];rfl
  ·rw [aA k2];rfl
  ·rw [aA k2];rfl
 have HNN:Hid (∀ u:World,Below W.heap.size W u→aH u b off ns):=fun u h=>HN.out.below (bG hbA h) HN.out.lt
 have HW:=aB hbA
 have hCC:=HC.out.1
 clear hp hf hq hbA
 have XF:Hid (∀ u:World,Below W.heap.size W u→∀ k,k<8→u.cell? ⟨w.heap.size+1+1,k,none⟩=#[.bool false,.bool false,.slice none 0 0,.slice none 0 0,.slice none 0 0,.slice none 0 0,.slice none 0 0,.slice none 0 0][k]?∧u.frozen? ⟨w.heap.size+1+1,k,none⟩=false):=fun u h k _=>⟨aA (HH.out u h).2.2 k,aC (HH.out u h).2.2 k⟩
 have WK:Hid (∀ (u:World) (v0 v1 v2 v3 v4 v5 v6 v7:Value),(u.cell? ⟨w.heap.size,0,none⟩=some (.int .i64 r)∧u.cell? ⟨w.heap.size,1,none⟩=some (.slice (some ⟨b,off,none⟩) ns.length cap)∧u.cell? ⟨w.heap.size+1,0,none⟩=some (.bool f.back)∧u.cell? ⟨w.heap.size+1,1,none⟩=some (.bool f.empty)∧u.cell? ⟨w.heap.size+1,2,none⟩=some (.slice a1 f.gen.length c1)∧u.cell? ⟨w.heap.size+1,3,none⟩=some (.slice a2 f.pass.length c2)∧u.cell? ⟨w.heap.size+1,4,none⟩=some (.slice a3 f.plus.length c3)∧u.cell? ⟨w.heap.size+1,5,none⟩=some (.slice a4 f.lets.length c4))→(((((((((u).setCell ⟨w.heap.size+1+1,0,none⟩ v0).setCell ⟨w.heap.size+1+1,1,none⟩ v1).setCell ⟨w.heap.size+1+1,2,none⟩ v2).setCell ⟨w.heap.size+1+1,3,none⟩ v3).setCell ⟨w.heap.size+1+1,4,none⟩ v4).setCell ⟨w.heap.size+1+1,5,none⟩ v5).setCell ⟨w.heap.size+1+1,6,none⟩ v6).setCell ⟨w.heap.size+1+1,7,none⟩ v7).cell? ⟨w.heap.size,0,none⟩=some (.int .i64 r)∧(((((((((u).setCell ⟨w.heap.size+1+1,0,none⟩ v0).setCell ⟨w.heap.size+1+1,1,none⟩ v1).setCell ⟨w.heap.size+1+1,2,none⟩ v2).setCell ⟨w.heap.size+1+1,3,none⟩ v3).setCell ⟨w.heap.size+1+1,4,none⟩ v4).setCell ⟨w.heap.size+1+1,5,none⟩ v5).setCell ⟨w.heap.size+1+1,6,none⟩ v6).setCell ⟨w.heap.size+1+1,7,none⟩ v7).cell? ⟨w.heap.size,1,none⟩=some (.slice (some ⟨b,off,none⟩) ns.length cap)∧(((((((((u).setCell ⟨w.heap.size+1+1,0,none⟩ v0).setCell ⟨w.heap.size+1+1,1,none⟩ v1).setCell ⟨w.heap.size+1+1,2,none⟩ v2).setCell ⟨w.heap.size+1+1,3,none⟩ v3).setCell ⟨w.heap.size+1+1,4,none⟩ v4).setCell ⟨w.heap.size+1+1,5,none⟩ v5).setCell ⟨w.heap.size+1+1,6,none⟩ v6).setCell ⟨w.heap.size+1+1,7,none⟩ v7).cell? ⟨w.heap.size+1,0,none⟩=some (.bool f.back)∧(((((((((u).setCell ⟨w.heap.size+1+1,0,none⟩ v0).setCell ⟨w.heap.size+1+1,1,none⟩ v1).setCell ⟨w.heap.size+1+1,2,none⟩ v2).setCell ⟨w.heap.size+1+1,3,none⟩ v3).setCell ⟨w.heap.size+1+1,4,none⟩ v4).setCell ⟨w.heap.size+1+1,5,none⟩ v5).setCell ⟨w.heap.size+1+1,6,none⟩ v6).setCell ⟨w.heap.size+1+1,7,none⟩ v7).cell? ⟨w.heap.size+1,1,none⟩=some (.bool f.empty)∧(((((((((u).setCell ⟨w.heap.size+1+1,0,none⟩ v0).setCell ⟨w.heap.size+1+1,1,none⟩ v1).setCell ⟨w.heap.size+1+1,2,none⟩ v2).setCell ⟨w.heap.size+1+1,3,none⟩ v3).setCell ⟨w.heap.size+1+1,4,none⟩ v4).setCell ⟨w.heap.size+1+1,5,none⟩ v5).setCell ⟨w.heap.size+1+1,6,none⟩ v6).setCell ⟨w.heap.size+1+1,7,none⟩ v7).cell? ⟨w.heap.size+1,2,none⟩=some (.slice a1 f.gen.length c1)∧(((((((((u).setCell ⟨w.heap.size+1+1,0,none⟩ v0).setCell ⟨w.heap.size+1+1,1,none⟩ v1).setCell ⟨w.heap.size+1+1,2,none⟩ v2).setCell ⟨w.heap.size+1+1,3,none⟩ v3).setCell ⟨w.heap.size+1+1,4,none⟩ v4).setCell ⟨w.heap.size+1+1,5,none⟩ v5).setCell ⟨w.heap.size+1+1,6,none⟩ v6).setCell ⟨w.heap.size+1+1,7,none⟩ v7).cell? ⟨w.heap.size+1,3,none⟩=some (.slice a2 f.pass.length c2)∧(((((((((u).setCell ⟨w.heap.size+1+1,0,none⟩ v0).setCell ⟨w.heap.size+1+1,1,none⟩ v1).setCell ⟨w.heap.size+1+1,2,none⟩ v2).setCell ⟨w.heap.size+1+1,3,none⟩ v3).setCell ⟨w.heap.size+1+1,4,none⟩ v4).setCell ⟨w.heap.size+1+1,5,none⟩ v5).setCell ⟨w.heap.size+1+1,6,none⟩ v6).setCell ⟨w.heap.size+1+1,7,none⟩ v7).cell? ⟨w.heap.size+1,4,none⟩=some (.slice a3 f.plus.length c3)∧(((((((((u).setCell ⟨w.heap.size+1+1,0,none⟩ v0).setCell ⟨w.heap.size+1+1,1,none⟩ v1).setCell ⟨w.heap.size+1+1,2,none⟩ v2).setCell ⟨w.heap.size+1+1,3,none⟩ v3).setCell ⟨w.heap.size+1+1,4,none⟩ v4).setCell ⟨w.heap.size+1+1,5,none⟩ v5).setCell ⟨w.heap.size+1+1,6,none⟩ v6).setCell ⟨w.heap.size+1+1,7,none⟩ v7).cell? ⟨w.heap.size+1,5,none⟩=some (.slice a4 f.lets.length c4)):=fun u v0 v1 v2 v3 v4 v5 v6 v7 h=>by
  have e:∀ (B k:Nat),B≠w.heap.size+1+1→(((((((((u).setCell ⟨w.heap.size+1+1,0,none⟩ v0).setCell ⟨w.heap.size+1+1,1,none⟩ v1).setCell ⟨w.heap.size+1+1,2,none⟩ v2).setCell ⟨w.heap.size+1+1,3,none⟩ v3).setCell ⟨w.heap.size+1+1,4,none⟩ v4).setCell ⟨w.heap.size+1+1,5,none⟩ v5).setCell ⟨w.heap.size+1+1,6,none⟩ v6).setCell ⟨w.heap.size+1+1,7,none⟩ v7).cell? ⟨B,k,none⟩=u.cell? ⟨B,k,none⟩:=fun B k h=>World.cell?_of_block (by
   show (((((((((u).setCell ⟨w.heap.size+1+1,0,none⟩ v0).setCell ⟨w.heap.size+1+1,1,none⟩ v1).setCell ⟨w.heap.size+1+1,2,none⟩ v2).setCell ⟨w.heap.size+1+1,3,none⟩ v3).setCell ⟨w.heap.size+1+1,4,none⟩ v4).setCell ⟨w.heap.size+1+1,5,none⟩ v5).setCell ⟨w.heap.size+1+1,6,none⟩ v6).setCell ⟨w.heap.size+1+1,7,none⟩ v7).heap[B]?=u.heap[B]?
   simp only [aHA h])
  simp only [e w.heap.size _ aF,e (w.heap.size+1) _ aF]
  exact h
 have hor:f.back=false∨f.back=true:=by cases f.back <;> simp
 rcases hor with hback | hback
 ·rw [hback] at y0
  have HK:=aB hback
  clear hback
  go_upto_region 3 with fail
  go_region_held3 (fun u=>u.cell? ⟨w.heap.size,0,none⟩=some (.int .i64 r)∧u.cell? ⟨w.heap.size,1,none⟩=some (.slice (some ⟨b,off,none⟩) ns.length cap)∧u.cell? ⟨w.heap.size+1,0,none⟩=some (.bool f.back)∧u.cell? ⟨w.heap.size+1,1,none⟩=some (.bool f.empty)∧u.cell? ⟨w.heap.size+1,2,none⟩=some (.slice a1 f.gen.length c1)∧u.cell? ⟨w.heap.size+1,3,none⟩=some (.slice a2 f.pass.length c2)∧u.cell? ⟨w.heap.size+1,4,none⟩=some (.slice a3 f.plus.length c3)∧u.cell? ⟨w.heap.size+1,5,none⟩=some (.slice a4 f.lets.length c4)) (first
   | (with_reducible refine WK.out _ _ _ _ _ _ _ _ _ ?_;exact HS.out _ hB2)
   | (with_reducible refine HS.out _ ?_;first | with_reducible exact hB2 | with_reducible exact hB1 | with_reducible exact (Below.refl _ W).drew | with_reducible exact (Below.refl _ W))) (first
   | (go_at_call 61;refine (jR r b off cap ns _ (by first | exact HNN.out _ (Below.refl _ W).drew | exact HNN.out _ (Below.refl _ W)) hCC).mono ?_;rintro e wa ⟨rb1,rfl,hR1,hba⟩;have hB1:Below W.heap.size W wa:=(by first | exact (Below.refl _ W).drew.trans hba | exact hba))
   | (go_at_call 104;refine (kM r b off cap ns _ (HNN.out _ hB1) hCC).mono ?_;rintro e wb ⟨cK,rfl,hR2,hbb⟩;have hB2:Below W.heap.size W wb:=bG hB1 hbb;have x0:=XF.out _ hB2 0 aL;have x1:=XF.out _ hB2 1 aL;have x2:=XF.out _ hB2 2 aL;have x3:=XF.out _ hB2 3 aL;have x4:=XF.out _ hB2 4 aL;have x5:=XF.out _ hB2 5 aL;have x6:=XF.out _ hB2 6 aL;have x7:=XF.out _ hB2 7 aL;simp at x0 x1 x2 x3 x4 x5 x6 x7;have xl:=aD (HH.out _ hB2).2.2))
  have k0:=aG (i:=0) (.bool f.back) (HH.out _ hB2).2.2
  have k1:=aG (i:=1) (.bool f.empty) k0
  have k2:=aG (i:=2) (.slice a1 f.gen.length c1) k1
  have k3:=aG (i:=3) (.slice a2 f.pass.length c2) k2
  have k4:=aG (i:=4) (.slice a3 f.plus.length c3) k3
  have k5:=aG (i:=5) (.slice a4 f.lets.length c4) k4
  have k6:=aG (i:=6) (.slice (some ⟨rb1,0,none⟩) ns.length ns.length) k5
  have k7:=aG (i:=7) (.slice (some ⟨cK,0,none⟩) ns.length ns.length) k6
  have T1:=(((((((((hR1.below hbb).set (o:=0) (u:=.bool f.back) (HH.out _ hB2).2.2 aL aL).set (o:=1) (u:=.bool f.empty) k0 aL aL).set (o:=2) (u:=.slice a1 f.gen.length c1) k1 aL aL).set (o:=3) (u:=.slice a2 f.pass.length c2) k2 aL aL).set (o:=4) (u:=.slice a3 f.plus.length c3) k3 aL aL).set (o:=5) (u:=.slice a4 f.lets.length c4) k4 aL aL).set (o:=6) (u:=.slice (some ⟨rb1,0,none⟩) ns.length ns.length) k5 aL aL).set (o:=7) (u:=.slice (some ⟨cK,0,none⟩) ns.length ns.length) k6 aL aL)
  have T2:=((((((((hR2.set (o:=0) (u:=.bool f.back) (HH.out _ hB2).2.2 aL aL).set (o:=1) (u:=.bool f.empty) k0 aL aL).set (o:=2) (u:=.slice a1 f.gen.length c1) k1 aL aL).set (o:=3) (u:=.slice a2 f.pass.length c2) k2 aL aL).set (o:=4) (u:=.slice a3 f.plus.length c3) k3 aL aL).set (o:=5) (u:=.slice a4 f.lets.length c4) k4 aL aL).set (o:=6) (u:=.slice (some ⟨rb1,0,none⟩) ns.length ns.length) k5 aL aL).set (o:=7) (u:=.slice (some ⟨cK,0,none⟩) ns.length ns.length) k6 aL aL)
  have nA:=((((((((bG HW.out hB2).setCell (p:=⟨w.heap.size+1+1,0,none⟩) bF (.bool f.back)).setCell (p:=⟨w.heap.size+1+1,1,none⟩) bF (.bool f.empty)).setCell (p:=⟨w.heap.size+1+1,2,none⟩) bF (.slice a1 f.gen.length c1)).setCell (p:=⟨w.heap.size+1+1,3,none⟩) bF (.slice a2 f.pass.length c2)).setCell (p:=⟨w.heap.size+1+1,4,none⟩) bF (.slice a3 f.plus.length c3)).setCell (p:=⟨w.heap.size+1+1,5,none⟩) bF (.slice a4 f.lets.length c4)).setCell (p:=⟨w.heap.size+1+1,6,none⟩) bF (.slice (some ⟨rb1,0,none⟩) ns.length ns.length)).setCell (p:=⟨w.heap.size+1+1,7,none⟩) bF (.slice (some ⟨cK,0,none⟩) ns.length ns.length)
  clear k0 k1 k2 k3 k4 k5 k6 x0 x1 x2 x3 x4 x5 x6 x7 hR1 hR2
  simp only [List.setIfInBounds_toArray,List.set_cons_zero,List.set_cons_succ] at k7
  go_wp2_with fail
  generalize (((((((((wb).setCell ⟨w.heap.size+1+1,0,none⟩ (.bool f.back)).setCell ⟨w.heap.size+1+1,1,none⟩ (.bool f.empty)).setCell ⟨w.heap.size+1+1,2,none⟩ (.slice a1 f.gen.length c1)).setCell ⟨w.heap.size+1+1,3,none⟩ (.slice a2 f.pass.length c2)).setCell ⟨w.heap.size+1+1,4,none⟩ (.slice a3 f.plus.length c3)).setCell ⟨w.heap.size+1+1,5,none⟩ (.slice a4 f.lets.length c4)).setCell ⟨w.heap.size+1+1,6,none⟩ (.slice (some ⟨rb1,0,none⟩) ns.length ns.length)).setCell ⟨w.heap.size+1+1,7,none⟩ (.slice (some ⟨cK,0,none⟩) ns.length ns.length))=Wf at k7 T1 T2 nA ⊢
  have y0:=aA k7 0
  have y1:=aA k7 1
  have y2:=aA k7 2
  have y3:=aA k7 3
  have y4:=aA k7 4
  have y5:=aA k7 5
  have y6:=aA k7 6
  have y7:=aA k7 7
  simp at y0 y1 y2 y3 y4 y5 y6 y7
  obtain ⟨h1,h2,h3,h4⟩:=HBO.out
  have hw:∀ u,Below w.heap.size w u→aJ u a1 f.gen∧aJ u a2 f.pass∧aJ u a3 f.plus∧aJ u a4 f.lets:=fun u h=>⟨h1.below h,h2.below h,h3.below h,h4.below h⟩
  obtain ⟨g1,g2,g3,g4⟩:=hw _ nA
  refine bodyPost_ret (v:=(.agg #[.bool f.back,.bool f.empty,.slice a1 f.gen.length c1,.slice a2 f.pass.length c2,.slice a3 f.plus.length c3,.slice a4 f.lets.length c4,.slice (some ⟨rb1,0,none⟩) ns.length ns.length,.slice (some ⟨cK,0,none⟩) ns.length ns.length])) (by simp [results,Tryz.results233,go_sem,y0,y1,y2,y3,y4,y5,y6,y7]) rfl ⟨rb1,cK,rfl,⟨g1,g2,g3,g4,HC.out.2.1,HC.out.2.2.1,HC.out.2.2.2.1,HC.out.2.2.2.2,?_,?_⟩,nA⟩
  ·have e:zH ns f=gJ ns:=by funext n;simp [zH,HK.out]
   rw [e];exact T1.read
  ·have e:ask ns f=iQ ns:=by funext n;simp [ask,HK.out]
   rw [e];exact T2.read
 ·rw [hback] at y0
  have HK:=aB hback
  clear hback
  go_upto_region 2 with fail
  go_region_held3 (fun u=>u.cell? ⟨w.heap.size,0,none⟩=some (.int .i64 r)∧u.cell? ⟨w.heap.size,1,none⟩=some (.slice (some ⟨b,off,none⟩) ns.length cap)∧u.cell? ⟨w.heap.size+1,0,none⟩=some (.bool f.back)∧u.cell? ⟨w.heap.size+1,1,none⟩=some (.bool f.empty)∧u.cell? ⟨w.heap.size+1,2,none⟩=some (.slice a1 f.gen.length c1)∧u.cell? ⟨w.heap.size+1,3,none⟩=some (.slice a2 f.pass.length c2)∧u.cell? ⟨w.heap.size+1,4,none⟩=some (.slice a3 f.plus.length c3)∧u.cell? ⟨w.heap.size+1,5,none⟩=some (.slice a4 f.lets.length c4)) (first
   | (with_reducible refine WK.out _ _ _ _ _ _ _ _ _ ?_;exact HS.out _ hB2)
   | (with_reducible refine HS.out _ ?_;first | with_reducible exact hB2 | with_reducible exact hB1 | with_reducible exact (Below.refl _ W).drew | with_reducible exact (Below.refl _ W))) (first
   | (go_at_call 104;refine (kM r b off cap ns _ (by first | exact HNN.out _ (Below.refl _ W).drew | exact HNN.out _ (Below.refl _ W)) hCC).mono ?_;rintro e wa ⟨rb1,rfl,hR1,hba⟩;have hB1:Below W.heap.size W wa:=(by first | exact (Below.refl _ W).drew.trans hba | exact hba))
   | (go_at_call 61;refine (jR r b off cap ns _ (HNN.out _ hB1) hCC).mono ?_;rintro e wb ⟨cK,rfl,hR2,hbb⟩;have hB2:Below W.heap.size W wb:=bG hB1 hbb;have x0:=XF.out _ hB2 0 aL;have x1:=XF.out _ hB2 1 aL;have x2:=XF.out _ hB2 2 aL;have x3:=XF.out _ hB2 3 aL;have x4:=XF.out _ hB2 4 aL;have x5:=XF.out _ hB2 5 aL;have x6:=XF.out _ hB2 6 aL;have x7:=XF.out _ hB2 7 aL;simp at x0 x1 x2 x3 x4 x5 x6 x7;have xl:=aD (HH.out _ hB2).2.2))
  have k0:=aG (i:=0) (.bool f.back) (HH.out _ hB2).2.2
  have k1:=aG (i:=1) (.bool f.empty) k0
  have k2:=aG (i:=2) (.slice a1 f.gen.length c1) k1
  have k3:=aG (i:=3) (.slice a2 f.pass.length c2) k2
  have k4:=aG (i:=4) (.slice a3 f.plus.length c3) k3
  have k5:=aG (i:=5) (.slice a4 f.lets.length c4) k4
  have k6:=aG (i:=6) (.slice (some ⟨rb1,0,none⟩) ns.length ns.length) k5
  have k7:=aG (i:=7) (.slice (some ⟨cK,0,none⟩) ns.length ns.length) k6
  have T1:=(((((((((hR1.below hbb).set (o:=0) (u:=.bool f.back) (HH.out _ hB2).2.2 aL aL).set (o:=1) (u:=.bool f.empty) k0 aL aL).set (o:=2) (u:=.slice a1 f.gen.length c1) k1 aL aL).set (o:=3) (u:=.slice a2 f.pass.length c2) k2 aL aL).set (o:=4) (u:=.slice a3 f.plus.length c3) k3 aL aL).set (o:=5) (u:=.slice a4 f.lets.length c4) k4 aL aL).set (o:=6) (u:=.slice (some ⟨rb1,0,none⟩) ns.length ns.length) k5 aL aL).set (o:=7) (u:=.slice (some ⟨cK,0,none⟩) ns.length ns.length) k6 aL aL)
  have T2:=((((((((hR2.set (o:=0) (u:=.bool f.back) (HH.out _ hB2).2.2 aL aL).set (o:=1) (u:=.bool f.empty) k0 aL aL).set (o:=2) (u:=.slice a1 f.gen.length c1) k1 aL aL).set (o:=3) (u:=.slice a2 f.pass.length c2) k2 aL aL).set (o:=4) (u:=.slice a3 f.plus.length c3) k3 aL aL).set (o:=5) (u:=.slice a4 f.lets.length c4) k4 aL aL).set (o:=6) (u:=.slice (some ⟨rb1,0,none⟩) ns.length ns.length) k5 aL aL).set (o:=7) (u:=.slice (some ⟨cK,0,none⟩) ns.length ns.length) k6 aL aL)
  have nA:=((((((((bG HW.out hB2).setCell (p:=⟨w.heap.size+1+1,0,none⟩) bF (.bool f.back)).setCell (p:=⟨w.heap.size+1+1,1,none⟩) bF (.bool f.empty)).setCell (p:=⟨w.heap.size+1+1,2,none⟩) bF (.slice a1 f.gen.length c1)).setCell (p:=⟨w.heap.size+1+1,3,none⟩) bF (.slice a2 f.pass.length c2)).setCell (p:=⟨w.heap.size+1+1,4,none⟩) bF (.slice a3 f.plus.length c3)).setCell (p:=⟨w.heap.size+1+1,5,none⟩) bF (.slice a4 f.lets.length c4)).setCell (p:=⟨w.heap.size+1+1,6,none⟩) bF (.slice (some ⟨rb1,0,none⟩) ns.length ns.length)).setCell (p:=⟨w.heap.size+1+1,7,none⟩) bF (.slice (some ⟨cK,0,none⟩) ns.length ns.length)
  clear k0 k1 k2 k3 k4 k5 k6 x0 x1 x2 x3 x4 x5 x6 x7 hR1 hR2
  simp only [List.setIfInBounds_toArray,List.set_cons_zero,List.set_cons_succ] at k7
  go_wp2_with fail
  generalize (((((((((wb).setCell ⟨w.heap.size+1+1,0,none⟩ (.bool f.back)).setCell ⟨w.heap.size+1+1,1,none⟩ (.bool f.empty)).setCell ⟨w.heap.size+1+1,2,none⟩ (.slice a1 f.gen.length c1)).setCell ⟨w.heap.size+1+1,3,none⟩ (.slice a2 f.pass.length c2)).setCell ⟨w.heap.size+1+1,4,none⟩ (.slice a3 f.plus.length c3)).setCell ⟨w.heap.size+1+1,5,none⟩ (.slice a4 f.lets.length c4)).setCell ⟨w.heap.size+1+1,6,none⟩ (.slice (some ⟨rb1,0,none⟩) ns.length ns.length)).setCell ⟨w.heap.size+1+1,7,none⟩ (.slice (some ⟨cK,0,none⟩) ns.length ns.length))=Wf at k7 T1 T2 nA ⊢
  have y0:=aA k7 0
  have y1:=aA k7 1
  have y2:=aA k7 2
  have y3:=aA k7 3
  have y4:=aA k7 4
  have y5:=aA k7 5
  have y6:=aA k7 6
  have y7:=aA k7 7
  simp at y0 y1 y2 y3 y4 y5 y6 y7
  obtain ⟨h1,h2,h3,h4⟩:=HBO.out
  have hw:∀ u,Below w.heap.size w u→aJ u a1 f.gen∧aJ u a2 f.pass∧aJ u a3 f.plus∧aJ u a4 f.lets:=fun u h=>⟨h1.below h,h2.below h,h3.below h,h4.below h⟩
  obtain ⟨g1,g2,g3,g4⟩:=hw _ nA
  refine bodyPost_ret (v:=(.agg #[.bool f.back,.bool f.empty,.slice a1 f.gen.length c1,.slice a2 f.pass.length c2,.slice a3 f.plus.length c3,.slice a4 f.lets.length c4,.slice (some ⟨rb1,0,none⟩) ns.length ns.length,.slice (some ⟨cK,0,none⟩) ns.length ns.length])) (by simp [results,Tryz.results233,go_sem,y0,y1,y2,y3,y4,y5,y6,y7]) rfl ⟨rb1,cK,rfl,⟨g1,g2,g3,g4,HC.out.2.1,HC.out.2.2.1,HC.out.2.2.2.1,HC.out.2.2.2.2,?_,?_⟩,nA⟩
  ·have e:zH ns f=iQ ns:=by funext n;simp [zH,HK.out]
   rw [e];exact T1.read
  ·have e:ask ns f=gJ ns:=by funext n;simp [ask,HK.out]
   rw [e];exact T2.read
theorem nQ:(Tryz.prog.info? 4).map (fun i=>(i.zero,i.size,i.bytes))=some (some (.bool false),1,1):=by kernel_rfl
theorem oL (n:Nat):madeCells #[Value.bool false] n=((List.replicate n false).map Value.bool).toArray:=by
 apply Array.ext'
 rw [toList_madeCells_one]
 simp
def aND (cs:Array Value):Nat:=(cs.toList.filter fun v=>match v with | .bool true=>true | _=>false).length
def PY (w:World) (b:Nat):Nat:=match w.heap[b]? with | some (.cells cs _ _)=>aND cs | _=>0
def aBM:Value→Nat | .slice _ n _=>n | _=>0
theorem aHB (x:List Bool):aND (x.map Value.bool).toArray=dU x:=by
 simp only [aND,dU]
 induction x with
 | nil=>rfl
 | cons a l ih =>
  cases a
  ·simpa using ih
  ·simpa using ih
theorem nR {w:World} {b:Nat} {x:List Bool} {t:TypeId} {fr:Nat × Nat} (h:w.heap[b]?=some (.cells (x.map Value.bool).toArray t fr)):PY w b=dU x:=by
 simp only [PY,h];exact aHB x
theorem WM {k L:Nat} (h:k<L):(List.replicate k true++List.replicate (L-k) false).set k true=List.replicate (k+1) true++List.replicate (L-(k+1)) false:=by
 obtain ⟨d,hd⟩:∃ d,L-k=d+1:=⟨L-k-1,aF⟩
 have e:L-(k+1)=d:=by omega
 rw [hd,e,List.replicate_succ,List.set_append_right _ _ aQ]
 simp [List.replicate_succ']
theorem WP {k L:Nat} (h:k<L):((List.replicate k true++List.replicate (L-k) false).map Value.bool).toArray[k]?=some (.bool false):=by
 obtain ⟨d,hd⟩:∃ d,L-k=d+1:=⟨L-k-1,aF⟩
 rw [hd,List.getElem?_toArray,List.getElem?_map,List.getElem?_append_right aQ]
 simp
theorem LU (l:List Nat) (k:Nat):ints (l++[k])=ints l++[(k:Int)]:=by simp [ints]
theorem WQ (l m:List Nat):ints (l++m)=ints l++ints m:=by simp [ints]
theorem FJ {w:World} {base:Nat} {e:TypeId} {g cap n:Nat} {xs:List Value} {v:Value} (h:w.ownsRow base e 1 (.slice (some ⟨g,0,none⟩) (n+1) cap) (n+1) (xs++[v])):w.ownsRow base e 1 (.slice (some ⟨g,0,none⟩) n cap) n xs:=by
 obtain ⟨hl,h⟩:=h
 simp only [List.length_append,List.length_singleton,Nat.mul_one] at hl
 refine ⟨aF,?_⟩
 rcases h with ⟨q,_⟩ | ⟨g', cap', cur,q,a1,a2,a3,a4,a5,a6⟩
 ·cases q
 ·cases q
  refine Or.inr ⟨g,cap,cur,rfl,a1,a2,aF,a4,a5,?_⟩
  simp only [Nat.mul_one] at a6 ⊢
  have h2:=congrArg (List.take n) a6
  rw [List.take_take,Nat.min_eq_left aF] at h2
  rw [h2,List.take_append_of_le_length aF,List.take_of_length_le aF]
theorem WR (w:World) (ty:TypeId) (base a:Option Addr) (sLen sCap c:Nat) (hle:sLen≤sCap) :
 (Builtin.append_ #[25,25] ty #[.slice base sLen sCap,.slice a 0 c]).run Tryz.prog w=.ok (.slice base sLen sCap) w:=by
 obtain ⟨i0,hi,hz0,hz1,hz2⟩:=info_parts fZ
 refine run_append_nothing w 25 25 ty 3 i0 Tryz.underlying25 hi base sLen sCap hle _ ⟨Or.inl ⟨_,Tryz.underlying25⟩,fun w' =>by simp [Builtin.lenOf],?_,?_,aQ,aQ⟩
 ·cases a <;> simp [Builtin.firstCells,loadCells,loadCellsFrom]
 ·cases a <;> simp [Builtin.firstCells,loadCells,loadCellsFrom]
theorem vR {w:World} {ops:Array Oper} {rest:List Oper} {o:Oper} {a:Act} {Q:Exit→Act→World→Prop} (hgd:o.guard=none) (s x:Operand)
 (ho:o.op=.call { callee:=.builtin .append,args:=#[s,x],argTypes:=#[25,25] }) (base ra:Option Addr) (sLen sCap c:Nat) (hs:a.eval s=.slice base sLen sCap) (hx:a.eval x=.slice ra 0 c) (hle:sLen≤sCap)
 (h:wpList Tryz.prog ops Q rest (a.put o.dst (.slice base sLen sCap)) w):wpList Tryz.prog ops Q (o::rest) a w:=by
 refine wpList_plain hgd fun K hK=>?_
 have hr:=WR w o.type base ra sLen sCap c hle
 unfold Oper.wp execOp
 simp only [ho,resolve,invoke,builtin,Sem.run_bind,Sem.run_pure,Result.andThen_ok,List.map_toArray,List.map_cons,List.map_nil,hs,hx,hr]
 exact hK _ _ h
theorem addr_add (b o j:Nat):(⟨b,o,none⟩:Addr).add j=⟨b,o+j,none⟩:=by
 cases j <;> simp [Addr.add]
theorem WT (r:Int) (b off cap:Nat) (ns:List Nd) (f:BA) (a1 a2 a3 a4:Option Addr) (c1 c2 c3 c4:Nat) (w:World) (hN:aH w b off ns) (hc:vQ r ns f=0) (h1:aJ w a1 f.gen) (h2:aJ w a2 f.pass) (h3:aJ w a3 f.plus) (h4:aJ w a4 f.lets) :
 Calls Tryz.prog 217 #[.agg #[.int .i64 r,.slice (some ⟨b,off,none⟩) ns.length cap],.agg #[.bool f.back,.bool f.empty,.slice a1 f.gen.length c1,.slice a2 f.pass.length c2,.slice a3 f.plus.length c3,.slice a4 f.lets.length c4]] w fun e w' =>∃ v,e=.returned (.tuple #[v,.int .i64 0])∧w'.ownsRow w.heap.size 4 1 v ns.length ((wG ns f).map Value.bool)∧Below w.heap.size w w' :=by
 obtain ⟨i0,hi,hz0,hz1,hz2⟩:=info_parts fZ
 have hbA:Below w.heap.size w ((w.alloc (.cells #[.int .i64 r,.slice (some ⟨b,off,none⟩) ns.length cap] 24)).alloc (.cells #[.bool f.back,.bool f.empty,.slice a1 f.gen.length c1,.slice a2 f.pass.length c2,.slice a3 f.plus.length c3,.slice a4 f.lets.length c4] 237)):=(dY).alloc aQ _
 have hck:=fun W (h:Below w.heap.size w W)=>aBJ r (some ⟨b,off,none⟩) cap ns f a1 a2 a3 a4 c1 c2 c3 c4 W (Or.inr ⟨b,off,rfl,hN.below h hN.lt⟩)
 have hlo:=fun W (h:Below w.heap.size w W)=>aBL r b off cap ns f a1 a2 a3 a4 c1 c2 c3 c4 W (hN.below h hN.lt) hc (h1.below h) (h2.below h) (h3.below h) (h4.below h)
 rw [hc] at hck
 have hl:=(bB (yU hc).1).1
 have wX:=aB hck
 have HLO:=aB hlo
 clear hck hlo hc h1 h2 h3 h4 hN
 go_enter Tryz.func217,Tryz.ntmps217
 go_upto_region 1 with fail
 generalize HG:((w.alloc (.cells #[.int .i64 r,.slice (some ⟨b,off,none⟩) ns.length cap] 24)).alloc (.cells #[.bool f.back,.bool f.empty,.slice a1 f.gen.length c1,.slice a2 f.pass.length c2,.slice a3 f.plus.length c3,.slice a4 f.lets.length c4] 237))=W
 have hp:W.heap[w.heap.size]?=some (.cells #[.int .i64 r,.slice (some ⟨b,off,none⟩) ns.length cap] 24 (0,0)):=by rw [← HG];exact (Below.heap_alloc _ _ _ aQ).trans (World.alloc_heap_new w _)
 have hf:W.heap[w.heap.size+1]?=some (.cells #[.bool f.back,.bool f.empty,.slice a1 f.gen.length c1,.slice a2 f.pass.length c2,.slice a3 f.plus.length c3,.slice a4 f.lets.length c4] 237 (0,0)):=by
  rw [← HG]
  have:=World.alloc_heap_new (w.alloc (.cells #[.int .i64 r,.slice (some ⟨b,off,none⟩) ns.length cap] 24)) (.cells #[.bool f.back,.bool f.empty,.slice a1 f.gen.length c1,.slice a2 f.pass.length c2,.slice a3 f.plus.length c3,.slice a4 f.lets.length c4] 237)
  rwa [World.size_alloc] at this
 rw [HG] at hbA
 clear HG
 have p0:=aA hp 0
 have p1:=aA hp 1
 have q0:=aA hf 0
 have q1:=aA hf 1
 have q2:=aA hf 2
 have q3:=aA hf 3
 have q4:=aA hf 4
 have q5:=aA hf 5
 simp at p0 p1 q0 q1 q2 q3 q4 q5
 have pl:=aD hp
 have ql:=aD hf
 have HW:=aB hbA
 have HP:=aB hp
 have HF:=aB hf
 clear hp hf hbA
 go_wp2_with fail
 refine (wX.out _ HW.out).mono ?_
 rintro e w1 ⟨rfl,hb1⟩
 have HW1:=aB (bG HW.out hb1)
 have hp1:=(hb1.block _ pl).trans HP.out
 have hf1:=(hb1.block _ ql).trans HF.out
 clear p0 p1 q0 q1 q2 q3 q4 q5 pl ql hb1 HP HF HW wX
 have p0:=aA hp1 0
 have p1:=aA hp1 1
 have q0:=aA hf1 0
 have q1:=aA hf1 1
 have q2:=aA hf1 2
 have q3:=aA hf1 3
 have q4:=aA hf1 4
 have q5:=aA hf1 5
 simp at p0 p1 q0 q1 q2 q3 q4 q5
 have pl:=aD hp1
 have ql:=aD hf1
 have HP:=aB hp1
 clear hp1 hf1
 have hms:∀ W:World,Sem.run Tryz.prog (Instr.makeSlice 73 (.int .i64 (ns.length:Int)) (.int .i64 (ns.length:Int))) W=.ok (.slice (some ⟨W.heap.size,0,none⟩) ns.length ns.length) (W.alloc (.cells (madeCells #[.bool false] ns.length) 4)):=fun W=>run_make_row' 73 4 _ 1 Tryz.underlying73 nQ rfl .i64 .i64 ns.length aF aF W
 go_upto_region 5 with (go_at_call 233;refine (HLO.out _ HW1.out).mono ?_;rintro e w2 ⟨rb1,cK,rfl,hQ,hb2⟩)
 obtain ⟨Wq,jU,hbQ,hq⟩:=bx1 w2 (.cells #[.bool f.back,.bool f.empty,.slice a1 f.gen.length c1,.slice a2 f.pass.length c2,.slice a3 f.plus.length c3,.slice a4 f.lets.length c4,.slice (some ⟨rb1,0,none⟩) ns.length ns.length,.slice (some ⟨cK,0,none⟩) ns.length ns.length] 265)
 rw [jU.out]
 clear jU
 have hp2:=(hbQ.block _ (Nat.lt_of_lt_of_le pl hb2.size)).trans ((hb2.block _ pl).trans HP.out)
 have HQ:=aB (hQ.below hbQ)
 have HWq:=aB (HW1.out.trans ((bG hb2 hbQ).mono HW1.out.size))
 clear p0 p1 q0 q1 q2 q3 q4 q5 pl ql hQ HP hb2 hbQ HW1 HLO
 have p1:=aA hp2 1
 simp at p1
 have pl:=aD hp2
 have HQB:=aB hq
 clear hq hp2
 generalize w2.heap.size=QB at HQB ⊢
 go_wp2_with fail
 have hB0:Below Wq.heap.size Wq (Wq.alloc (.cells (madeCells #[.bool false] ns.length) 4)):=dY
 have hX0:(Wq.alloc (.cells (madeCells #[.bool false] ns.length) 4)).heap[Wq.heap.size]?=some (.cells ((List.replicate 0 true++List.replicate (ns.length-0) false).map Value.bool).toArray 4 (0,0)):=by
  rw [World.alloc_heap_new,oL];simp
 generalize (Wq.alloc (.cells (madeCells #[.bool false] ns.length) 4))=W0 at hB0 hX0 ⊢
 have HX0:=aB hX0
 clear hX0 hms p1 pl
 go_loopw [9,27] (fun v i wr=>∃ k:Nat,k≤ns.length∧i=.int .i64 k∧wr.heap[Wq.heap.size]?=some (.cells ((List.replicate k true++List.replicate (ns.length-k) false).map Value.bool).toArray 4 (0,0))∧wr.ownsRow (Wq.heap.size+1) 3 1 v (ints (List.range k)).length ((ints (List.range k)).map (Value.int .i64))∧Below Wq.heap.size Wq wr) (fun _ i _=>ns.length-(intOf i).toNat)
 case atStart=>exact ⟨0,Nat.zero_le _,rfl,HX0.out,World.ownsRow_nil _ _ _ _,hB0⟩
 case round =>
  obtain ⟨k,hk,rfl,hX,hown,hb⟩:=hrel
  have hsz:=hb.size
  have hXl:=aD hX
  by_cases hlt:k<ns.length
  ·have hxc:=aA hX k
   rw [WP hlt] at hxc
   have hxf:=aC hX k
   have hli:(k:Int)<(ns.length:Int):=by omega
   have HX:=aB hX
   have HO:=aB hown
   have hlen:(ints (List.range k)).length=k:=by simp [ints]
   have HB:=aB hb
   clear hX hown hb
   have hown2:(wr.setCell ⟨Wq.heap.size,k,none⟩ (.bool true)).ownsRow (Wq.heap.size+1) 3 1 u9 (ints (List.range k)).length ((ints (List.range k)).map (Value.int .i64)):=aI HO.out HX.out aL
   have DV:=aB hown2
   have HLE:=aB hlen
   have hnew:=World.alloc_heap_new (wr.setCell ⟨Wq.heap.size,k,none⟩ (.bool true)) (.cells #[.int .i64 k] 3)
   rw [show (wr.setCell ⟨Wq.heap.size,k,none⟩ (.bool true)).heap.size=wr.heap.size by simp] at hnew
   have HNW:=aB hnew
   clear hnew
   clear hown2 hlen
   go_wp2_with (at_builtin;refine wpList_append_own _ rfl (.tmp 33) (.tmp 35) 25 rfl (Wq.heap.size+1) 3 i0 (.int .i64 0) 1 8 Tryz.underlying25 hi hz0 hz1 hz2 rfl aL _ _ _ rfl (DV.out.alloc _) ⟨wr.heap.size,0,none⟩ 1 1 [.int .i64 k] rfl rfl ?c1 ?c2 ?c3 ?c4 ?c5 ?_)
   case c1 =>
    intro j u hj
    match j,hj with
    | 0,hj=>simp at hj;subst hj;exact aA HNW.out 0
   case c2=>intro u hu;simp at hu;subst hu;rfl
   case c3=>rw [HLE.out];unfold maxLen;omega
   case c4=>rw [HLE.out];omega
   case c5=>simp;omega
   intro v' w3 hown3 hg3 _
   have hlt3:=DV.out.lt
   have hbS:Below Wq.heap.size Wq (wr.setCell ⟨Wq.heap.size,k,none⟩ (.bool true)):=HB.out.setCell (p:=⟨Wq.heap.size,k,none⟩) aQ _
   have hB3:Below Wq.heap.size Wq w3:=(hbS.alloc (by simpa using hsz) _).grown hg3 bF (fun k hk=>by have:=(hlt3 k hk).1;omega)
   have hX3:w3.heap[Wq.heap.size]?=some (.cells ((List.replicate (k+1) true++List.replicate (ns.length-(k+1)) false).map Value.bool).toArray 4 (0,0)):=by
    rw [hg3.block _ bF (fun e=>by have:=(hlt3 _ e.symm).1;omega),Below.heap_alloc _ _ _ (by simpa using hXl),aG _ HX.out,← WM hlt]
    simp only [List.map_set,List.setIfInBounds_toArray]
   have hown4:w3.ownsRow (Wq.heap.size+1) 3 1 v' (ints (List.range (k+1))).length ((ints (List.range (k+1))).map (Value.int .i64)):=by
    rw [List.range_succ,LU];simpa using hown3
   have H3:=aB (And.intro hX3 (And.intro hown4 hB3))
   clear hown3 hg3 hlt3 hbS hB3 hX3 hown4 HO DV HX HB
   go_wp2
   go_roundw
   case rel=>exact ⟨k+1,aF,by go_num,H3.out.1,H3.out.2.1,H3.out.2.2⟩
   case measure=>simp [intOf];omega
  ·have ek:k=ns.length:=by omega
   subst ek
   have hS:=Stk.start (bZ ns f) ns.length
   have hX' :wr.heap[Wq.heap.size]?=some (.cells ((List.replicate ns.length true).map Value.bool).toArray 4 (0,0)):=by rw [hX];simp
   have HX:=aB hX'
   have HO:=aB hown
   have HB:=aB hb
   clear hX hX' hown hb
   go_wp2_with fail
   go_loopw [9] (fun v wr=>∃ x wk,Stk (bZ ns f) ns.length x wk∧wr.heap[Wq.heap.size]?=some (.cells (x.map Value.bool).toArray 4 (0,0))∧wr.ownsRow (Wq.heap.size+1) 3 1 v (ints wk).length ((ints wk).map (Value.int .i64))∧Below Wq.heap.size Wq wr) (fun v wr=>aBM v+PY wr Wq.heap.size*(ns.length+1))
   case atStart=>exact ⟨_,_,hS,HX.out,HO.out,HB.out⟩
   case round =>
    clear hS HX HO HB hXl hsz
    obtain ⟨x,wk,hS,hX,hown,hb⟩:=hrel
    have hXl:=aD hX
    have hxl:=hS.on.len
    rcases List.eq_nil_or_concat wk with rfl | ⟨wk', n,rfl⟩
    ·obtain ⟨va,vc,rfl⟩:=aU hown
     have HX:=aB hX
     have HS:=aB hS
     have HB:=aB hb
     clear hX hS hb hown
     go_wp2
     go_ret2
     have hG:=HS.out.done.aCX (pO ns f)
     refine ⟨_,rfl,?_,bG HWq.out HB.out⟩
     rw [show wG ns f=x from hG.symm]
     exact ⟨by simp [hxl],Or.inr ⟨Wq.heap.size,ns.length,_,rfl,HWq.out.size,HX.out,Nat.le_refl _,by unfold maxLen;omega,by simp [hxl],by simp [List.take_of_length_le,hxl]⟩⟩
    ·rw [List.concat_eq_append] at hS hown
     have e:(ints (wk' ++[n])).length=wk'.length+1:=by simp [ints]
     rw [e,LU,List.map_append] at hown
     have hn:n<ns.length:=hS.lt n aQ
     obtain ⟨g,vc,rfl,hgb,hgl,hvc⟩:∃ g vc,u9=.slice (some ⟨g,0,none⟩) (wk'.length+1) vc∧Wq.heap.size+1≤g∧g<wr.heap.size∧wk'.length+1≤vc:=by
      rcases hown.2 with ⟨_,q⟩ | ⟨g,vc,cur,rfl,q1,q2,q3,_⟩
      ·omega
      ·exact ⟨g,vc,rfl,q1,aD q2,q3⟩
     have hcell:wr.cell? ⟨g,wk'.length,none⟩=some (.int .i64 n):=by
      have h0:=hown.cells (g:=g) rfl wk'.length (.int .i64 n) (by rw [List.getElem?_append_right (by simp [ints])];simp [ints])
      rwa [addr_add,Nat.zero_add] at h0
     have PZ:wk'.length<70000:=by
      have h0:=hS.few
      have h5:ns.length*(ns.length+1)≤256*257:=Nat.mul_le_mul aF aF
      simp at h0
      omega
     have hwrap:IntKind.i64.wrap (((wk'.length+1:Nat):Int)-1)=(wk'.length:Int):=by
      rw [IntWalk.i64_left];unfold wrap64;omega
     have hmc:(wk'.length:Int)≤(vc:Int):=by omega
     have hni:(n:Int)<(ns.length:Int):=by omega
     have hxc:wr.cell? ⟨Wq.heap.size,n,none⟩=some (.bool (aM x n)):=by
      rw [aA hX,List.getElem?_toArray,List.getElem?_map,kE aF];rfl
     have ZI:=(hb.block QB (aD HQB.out)).trans HQB.out
     have IU:=aD ZI
     have q0:=aA ZI 0
     have q1:=aA ZI 1
     have q2:=aA ZI 2
     have q3:=aA ZI 3
     have q4:=aA ZI 4
     have q5:=aA ZI 5
     have q6:=aA ZI 6
     have q7:=aA ZI 7
     simp at q0 q1 q2 q3 q4 q5 q6 q7
     have hbx:aJ wr (some ⟨Wq.heap.size,0,none⟩) x:=Or.inr ⟨Wq.heap.size,0,rfl,hXl,fun j z hz=>by rw [Nat.zero_add,aA hX,List.getElem?_toArray,List.getElem?_map,hz];rfl⟩
     have hsy:=aNB ns f a1 a2 a3 a4 (some ⟨Wq.heap.size,0,none⟩) c1 c2 c3 c4 ns.length rb1 cK n x wr (HQ.out.below hb) hbx hxl hn hl.2
     rw [hxl] at hsy
     have HSY:=aB hsy
     have HX:=aB hX
     have HS:=aB hS
     have HB:=aB hb
     have HO:=aB hown
     have HQR:=aB ZI
     have hm0:(0:Int)<((wk'.length+1:Nat):Int):=by omega
     clear hsy hX hS hb hown ZI hbx e hxl
     cases lW:aM x n
     ·rw [lW] at hxc
      have EQ:=aB lW
      clear lW
      go_wp2_with fail
      go_roundw
      case rel=>exact ⟨x,wk', HS.out.pop (Or.inl EQ.out),HX.out,by rw [bX];exact FJ HO.out,HB.out⟩
      case measure=>simp [aBM]
     ·rw [lW] at hxc
      have EQ:=aB lW
      clear lW
      go_wp2_with fail
      refine HSY.out.mono ?_
      rintro e w4 ⟨rfl,hb4⟩
      have hX4:=(hb4.block _ hXl).trans HX.out
      have hO4:=ownsRow_below HO.out hb4 dD
      have hB4:=bG HB.out hb4
      cases hsay:bZ ns f (aM x) n
      ·have aNE:=(hb4.cell (p:=⟨Wq.heap.size,n,none⟩) hXl).trans hxc
       have aXM:=aC hX4 n
       have aXN:=aD hX4
       have HX4:=aB hX4
       have JH:=aB hO4
       have kP:=aB hB4
       have HSA:=aB hsay
       clear hX4 hO4 hB4 hsay q0 q1 q2 q3 q4 q5 q6 q7 hxc hcell hb4
       go_upto_region 18 with fail
       have hX5:=aG (i:=n) (.bool false) HX4.out
       have aBN :(w4.setCell ⟨Wq.heap.size,n,none⟩ (.bool false)).heap[Wq.heap.size]?=some (.cells ((x.set n false).map Value.bool).toArray 4 (0,0)):=by
        rw [hX5];simp only [List.map_set,List.setIfInBounds_toArray]
       have hO5:(w4.setCell ⟨Wq.heap.size,n,none⟩ (.bool false)).ownsRow (Wq.heap.size+1) 3 1 (.slice (some ⟨g,0,none⟩) wk'.length vc) wk'.length ((ints wk').map (Value.int .i64)):=aI (FJ JH.out) HX4.out aL
       have hB5:Below Wq.heap.size Wq (w4.setCell ⟨Wq.heap.size,n,none⟩ (.bool false)):=kP.out.setCell (p:=⟨Wq.heap.size,n,none⟩) dD _
       generalize (w4.setCell ⟨Wq.heap.size,n,none⟩ (.bool false))=W5 at aBN hO5 hB5 ⊢
       clear hX5 HX4 JH kP aNE aXM aXN HSY HQR
       have hS5:=HS.out.turn (pO ns f) (aED ns f) EQ.out HSA.out
       have hless:=HS.out.less (aED ns f) EQ.out
       have aVE:(wk' ++ask ns f n).length<70000:=by
        have h0:=hS5.few
        have h5:ns.length*(ns.length+1)≤256*257:=Nat.mul_le_mul aF aF
        omega
       have yM:=HQ.out.below hB5
       obtain ⟨ra,rc,hrc,hrI⟩:=yM.askers.row n hn
       have hrl:=yM.askers.lt
       have hq5:=(hB5.block QB (aD HQB.out)).trans HQB.out
       have q7:=aA hq5 7
       simp at q7
       have ql5:=aD hq5
       have WU:=aB aBN
       have RZ:=aB hO5
       have AL:=aB hB5
       have HS5:=aB hS5
       have HL:=aB hless
       have HI:=aB hrI
       have a9P:g<W5.heap.size:=(hO5.lt g rfl).2
       have HT:=aB (nR HX.out)
       clear aBN hO5 hB5 hS5 hless hrI yM hq5
       simp only [List.length_append] at aVE
       by_cases hz:(ask ns f n).length=0
       ·rw [hz] at hrc
        have he:ask ns f n=[]:=List.eq_nil_of_length_eq_zero hz
        have HE:=aB he
        clear he hz
        go_wp2_with (at_builtin;refine vR rfl (.tmp 66) (.tmp 71) rfl (some ⟨g,0,none⟩) ra wk'.length vc rc rfl rfl aF ?_)
        go_roundw
        case rel=>exact ⟨x.set n false,wk' ++ask ns f n,HS5.out,WU.out,by rw [HE.out,List.append_nil,bX];exact RZ.out,AL.out⟩
        case measure =>
         rw [nR WU.out,HT.out]
         have:=HL.out
         rw [HE.out] at this
         simp [aBM] at this ⊢
         omega
       ·have hpos:0<(ints (ask ns f n)).length:=by rw [bX];omega
        obtain ⟨ab,ao,rfl,hal,hac⟩:=HI.out.at hpos
        have HAC:=aB hac
        clear hac
        have hfi:(ints (ask ns f n)).length=(ask ns f n).length:=bX _
        have HFI:=aB hfi
        clear hfi
        have hS0:=AL.out.size
        go_wp2_with (at_builtin;refine wpList_append_own _ rfl (.tmp 66) (.tmp 71) 25 rfl (Wq.heap.size+1) 3 i0 (.int .i64 0) 1 8 Tryz.underlying25 hi hz0 hz1 hz2 rfl aL _ _ _ rfl RZ.out ⟨ab,ao,none⟩ (ask ns f n).length rc ((ints (ask ns f n)).map (Value.int .i64)) rfl (by simp [ints]) ?c1 ?c2 ?c3 ?c4 ?c5 ?_)
        case c1 =>
         intro j u hj
         rw [List.getElem?_map] at hj
         cases hz2:(ints (ask ns f n))[j]? with
         | none=>rw [hz2] at hj;cases hj
         | some z=>rw [hz2] at hj;cases hj;rw [addr_add];exact HAC.out j z hz2
        case c2=>intro u hu;obtain ⟨z,_,rfl⟩:=List.mem_map.1 hu;rfl
        case c3=>unfold maxLen;omega
        case c4=>omega
        case c5=>have:=aD WU.out;omega
        intro v' w6 hown6 hg6 _
        have hlt6:=RZ.out.lt
        have hB6:Below Wq.heap.size Wq w6:=AL.out.grown hg6 aF (fun k hk=>by have:=(hlt6 k hk).1;omega)
        have hX6:=(hg6.block _ (aD WU.out) (fun e=>by have:=(hlt6 _ e.symm).1;omega)).trans WU.out
        have FN:w6.ownsRow (Wq.heap.size+1) 3 1 v' (ints (wk' ++ask ns f n)).length ((ints (wk' ++ask ns f n)).map (Value.int .i64)):=by
         rw [WQ,List.map_append,List.length_append,bX,bX];exact hown6
        have hv:aBM v' =(wk' ++ask ns f n).length:=by
         obtain ⟨_,_,e⟩:=aU FN
         rw [e,aBM,bX]
        have H6:=aB (And.intro hX6 (And.intro FN (And.intro hB6 hv)))
        clear hown6 hg6 hlt6 hB6 hX6 FN hv
        go_wp2_with fail
        go_roundw
        case rel=>exact ⟨x.set n false,wk' ++ask ns f n,HS5.out,H6.out.1,H6.out.2.1,H6.out.2.2.1⟩
        case measure =>
         rw [nR H6.out.1,HT.out]
         have:=HL.out
         have:=H6.out.2.2.2
         simp [aBM] at *
         omega
      ·have HX4:=aB hX4
       have JH:=aB hO4
       have kP:=aB hB4
       have HSA:=aB hsay
       clear hX4 hO4 hB4 hsay q0 q1 q2 q3 q4 q5 q6 q7 hxc hcell
       go_wp2_with fail
       go_roundw
       case rel=>exact ⟨x,wk', HS.out.pop (Or.inr HSA.out),HX4.out,by rw [bX];exact FJ JH.out,kP.out⟩
       case measure =>
        rw [nR HX4.out,nR HX.out]
        simp [aBM]
theorem aNF (R:Nat→Bool) {k n:Nat} (h:k<n):((List.range k).map R++List.replicate (n-k) false).set k (R k)=(List.range (k+1)).map R++List.replicate (n-(k+1)) false:=by
 obtain ⟨d,hd⟩:∃ d,n-k=d+1:=⟨n-k-1,aF⟩
 have e:n-(k+1)=d:=by omega
 rw [hd,e,List.replicate_succ,List.set_append_right _ _ aQ]
 simp [List.range_succ]
theorem aNG (R:Nat→Bool) {k n:Nat} (h:k<n):(((List.range k).map R++List.replicate (n-k) false).map Value.bool).toArray[k]?=some (.bool false):=by
 obtain ⟨d,hd⟩:∃ d,n-k=d+1:=⟨n-k-1,aF⟩
 rw [hd,List.getElem?_toArray,List.getElem?_map,List.getElem?_append_right aQ]
 simp
theorem sW (R:Nat→Bool) (g:Nat) (cb:Array Value) (n:Nat) (w:World) (hn:n≤256)
 (eg:∀ args w,(callFunc g args).run Tryz.prog w=.ok (.enter g args) w)
 (hg:∀ i,i<n→∀ W:World,Below w.heap.size w W→Calls Tryz.prog g (#[.int .i64 (i:Int)]++cb) W fun e w' =>e=.returned (.bool (R i))∧Below W.heap.size W w') :
 Calls Tryz.prog 171 #[.int .i64 (n:Int),.func (.func g) #[] cb] w fun e w' =>∃ v,e=.returned v∧w'.ownsRow w.heap.size 4 1 v n (((List.range n).map R).map Value.bool)∧Below w.heap.size w w' :=by
 have hms:∀ W:World,Sem.run Tryz.prog (Instr.makeSlice 73 (.int .i64 (n:Int)) (.int .i64 (n:Int))) W=.ok (.slice (some ⟨W.heap.size,0,none⟩) n n) (W.alloc (.cells (madeCells #[.bool false] n) 4)):=fun W=>run_make_row' 73 4 _ 1 Tryz.underlying73 nQ rfl .i64 .i64 n aF aF W
 have HG:=aB hg
 clear hg
 go_enter Tryz.func171,Tryz.ntmps171
 go_wp2
 have hB0:Below w.heap.size w (w.alloc (.cells (madeCells #[.bool false] n) 4)):=dY
 have hX0:(w.alloc (.cells (madeCells #[.bool false] n) 4)).heap[w.heap.size]?=some (.cells (((List.range 0).map R++List.replicate (n-0) false).map Value.bool).toArray 4 (0,0)):=by
  rw [World.alloc_heap_new,oL];simp
 generalize (w.alloc (.cells (madeCells #[.bool false] n) 4))=W0 at hB0 hX0 ⊢
 have HX0:=aB hX0
 clear hX0 hms
 go_loopw [11] (fun i wr=>∃ k:Nat,k≤n∧i=.int .i64 k∧wr.heap[w.heap.size]?=some (.cells (((List.range k).map R++List.replicate (n-k) false).map Value.bool).toArray 4 (0,0))∧Below w.heap.size w wr) (fun i _=>n-(intOf i).toNat)
 case atStart=>exact ⟨0,Nat.zero_le _,rfl,HX0.out,hB0⟩
 case round =>
  obtain ⟨k,hk,rfl,hX,hb⟩:=hrel
  have hXl:=aD hX
  by_cases hlt:k<n
  ·have hki:(k:Int)<(n:Int):=by omega
   have HX:=aB hX
   have HB:=aB hb
   clear hX hb
   go_wp2_with fail
   refine (HG.out k hlt _ HB.out).mono ?_
   rintro e w1 ⟨rfl,hb1⟩
   have hX1:=(hb1.block _ hXl).trans HX.out
   have hxc:=aA hX1 k
   rw [aNG R hlt] at hxc
   have hxf:=aC hX1 k
   have bJV:=aD hX1
   have HX1:=aB hX1
   have HB1:=aB (bG HB.out hb1)
   clear hX1 hb1
   go_wp2
   go_roundw
   case rel =>
    refine ⟨k+1,aF,by go_num,?_,HB1.out.setCell (p:=⟨w.heap.size,k,none⟩) dD _⟩
    rw [aG _ HX1.out,← aNF R hlt]
    simp only [List.map_set,List.setIfInBounds_toArray]
   case measure=>simp [intOf];omega
  ·have ek:k=n:=by omega
   subst ek
   have HX:=aB hX
   have HB:=aB hb
   clear hX hb
   go_wp2
   go_ret
   refine ⟨_,rfl,⟨aQ,Or.inr ⟨w.heap.size,k,_,rfl,Nat.le_refl _,HX.out,Nat.le_refl _,by unfold maxLen;omega,aQ,?_⟩⟩,HB.out⟩
   rw [Nat.mul_one,List.toList_toArray,List.take_of_length_le aQ];simp
theorem lX (R:Nat→Bool) (g:Nat) (cb:Array Value) (r:Int) (a:Option Addr) (L cap:Nat) (v2 v3 v4 v5:Value) (w:World) (hn:L≤256)
 (eg:∀ args w,(callFunc g args).run Tryz.prog w=.ok (.enter g args) w)
 (hg:∀ i,i<L→∀ W:World,Below w.heap.size w W→Calls Tryz.prog g (#[.int .i64 (i:Int)]++cb) W fun e w' =>e=.returned (.bool (R i))∧Below W.heap.size W w') :
 Calls Tryz.prog 192 #[.agg #[.int .i64 r,.slice a L cap,v2,v3,v4,v5],.func (.func g) #[] cb] w fun e w' =>∃ v,e=.returned v∧w'.ownsRow w.heap.size 4 1 v L (((List.range L).map R).map Value.bool)∧Below w.heap.size w w' :=by
 have hb0:Below w.heap.size w (w.alloc (.cells #[.int .i64 r,.slice a L cap,v2,v3,v4,v5] 208)):=dY
 have hae:=sW R g cb L (w.alloc (.cells #[.int .i64 r,.slice a L cap,v2,v3,v4,v5] 208)) hn eg (fun i hi W hW=>hg i hi W (bG hb0 hW))
 have HAE:=aB hae
 clear hae hg
 go_enter Tryz.func192,Tryz.ntmps192
 go_wp2_with fail
 refine HAE.out.mono ?_
 rintro e w1 ⟨v,rfl,hv,hb1⟩
 have HV:=aB hv
 clear hv
 go_wp2
 go_ret
 exact ⟨_,rfl,aK HV.out hb0.size,bG hb0 hb1⟩
theorem aHD (i:Int) (w:World):Calls Tryz.prog 218 #[.int .i64 i] w fun e w' =>e=.returned (.bool false)∧w' =w:=by
 go_enter Tryz.func218,Tryz.ntmps218
 go_wp2
 go_ret
 exact ⟨rfl,rfl⟩
theorem aNI (i:Int) (w:World):Calls Tryz.prog 219 #[.int .i64 i] w fun e w' =>e=.returned (.bool true)∧w' =w:=by
 go_enter Tryz.func219,Tryz.ntmps219
 go_wp2
 go_ret
 exact ⟨rfl,rfl⟩
theorem LV (b:Bool) (L:Nat):(List.range L).map (fun _=>b)=List.replicate L b:=by
 induction L with
 | zero=>rfl
 | succ n ih=>rw [List.range_succ,List.map_append,ih,List.replicate_succ'];rfl
theorem xB (r:Int) (a:Option Addr) (L cap:Nat) (v2 v3 v4 v5:Value) (w:World) (hn:L≤256) :
 Calls Tryz.prog 197 #[.agg #[.int .i64 r,.slice a L cap,v2,v3,v4,v5]] w fun e w' =>∃ v,e=.returned v∧w'.ownsRow w.heap.size 4 1 v L ((EZ L).map Value.bool)∧Below w.heap.size w w' :=by
 have eg:∀ args w,(callFunc 218 args).run Tryz.prog w=.ok (.enter 218 args) w:=enters_of Tryz.func218 fJ rfl
 have hb0:Below w.heap.size w (w.alloc (.cells #[.int .i64 r,.slice a L cap,v2,v3,v4,v5] 208)):=dY
 have hea:=lX (fun _=>false) 218 #[] r a L cap v2 v3 v4 v5 (w.alloc (.cells #[.int .i64 r,.slice a L cap,v2,v3,v4,v5] 208)) hn eg (fun i hi W hW=>(aHD i W).mono (by rintro e w' ⟨rfl,rfl⟩;exact ⟨rfl,Below.refl _ _⟩))
 rw [LV] at hea
 have HEA:=aB hea
 clear hea
 go_enter Tryz.func197,Tryz.ntmps197
 go_wp2_with fail
 refine HEA.out.mono ?_
 rintro e w1 ⟨v,rfl,hv,hb1⟩
 have HV:=aB hv
 clear hv
 go_wp2
 go_ret
 exact ⟨_,rfl,aK HV.out hb0.size,bG hb0 hb1⟩
theorem BJ (r:Int) (a:Option Addr) (L cap:Nat) (v2 v3 v4 v5:Value) (w:World) (hn:L≤256) :
 Calls Tryz.prog 198 #[.agg #[.int .i64 r,.slice a L cap,v2,v3,v4,v5]] w fun e w' =>∃ v,e=.returned v∧w'.ownsRow w.heap.size 4 1 v L ((sU L).map Value.bool)∧Below w.heap.size w w' :=by
 have eg:∀ args w,(callFunc 219 args).run Tryz.prog w=.ok (.enter 219 args) w:=enters_of Tryz.func219 fJ rfl
 have hb0:Below w.heap.size w (w.alloc (.cells #[.int .i64 r,.slice a L cap,v2,v3,v4,v5] 208)):=dY
 have hea:=lX (fun _=>true) 219 #[] r a L cap v2 v3 v4 v5 (w.alloc (.cells #[.int .i64 r,.slice a L cap,v2,v3,v4,v5] 208)) hn eg (fun i hi W hW=>(aNI i W).mono (by rintro e w' ⟨rfl,rfl⟩;exact ⟨rfl,Below.refl _ _⟩))
 rw [LV] at hea
 have HEA:=aB hea
 clear hea
 go_enter Tryz.func198,Tryz.ntmps198
 go_wp2_with fail
 refine HEA.out.mono ?_
 rintro e w1 ⟨v,rfl,hv,hb1⟩
 have HV:=aB hv
 clear hv
 go_wp2
 go_ret
 exact ⟨_,rfl,aK HV.out hb0.size,bG hb0 hb1⟩
theorem aNJ (x:Nd) (w:World) :
 Calls Tryz.prog 106 #[.agg #[.int .i64 x.op,.int .i64 x.d,.int .i64 x.a,.int .i64 x.b,.int .i64 x.t,.int .i64 x.e]] w fun e w' =>∃ z,e=.returned (.tuple #[.int .i64 z,.bool (wi x.op 1 9)])∧(wi x.op 1 9=true→z=x.d)∧Below w.heap.size w w' :=by
 obtain ⟨W,jU,hb0,hn⟩:=bx1 w (.cells #[.int .i64 x.op,.int .i64 x.d,.int .i64 x.a,.int .i64 x.b,.int .i64 x.t,.int .i64 x.e] 42)
 go_enter Tryz.func106,Tryz.ntmps106
 go_wp2_with fail
 rw [jU.out]
 clear jU
 refine (nE _ _).mono ?_
 rintro e w1 ⟨rfl,hb1⟩
 have hn1:=bP hb1 hn
 have c1:=aA hn1 1
 simp at c1
 have cl:=aD hn1
 have HB:=aB (bG hb0 hb1)
 clear hn hn1 hb1 hb0
 have HK:Hid (k0 x.op=if wi x.op 1 9 then 1 else 0):=rfl
 generalize k0 x.op=K at HK ⊢
 cases hw:wi x.op 1 9
 ·obtain rfl:K=0:=by rw [HK.out,hw];rfl
  have HQ:=aB hw
  clear hw
  go_wp2
  go_ret2
  exact ⟨0,by rw [HQ.out];rfl,(fun h=>by rw [HQ.out] at h;cases h),HB.out.alloc HB.out.size _⟩
 ·obtain rfl:K=1:=by rw [HK.out,hw];rfl
  have HQ:=aB hw
  clear hw
  go_wp2
  go_ret2
  exact ⟨x.d,by rw [HQ.out];rfl,(fun _=>rfl),HB.out.alloc HB.out.size _⟩
theorem aHE (x:Nd) (t:Tm) (w:World) :
 Calls Tryz.prog 195 #[.agg #[.int .i64 x.op,.int .i64 x.d,.int .i64 x.a,.int .i64 x.b,.int .i64 x.t,.int .i64 x.e],.agg #[.int .i64 t.op,.int .i64 t.a,.int .i64 t.b]] w fun e w' =>e=.returned (.bool (vE t x))∧Below w.heap.size w w' :=by
 obtain ⟨W,oG,hb0,-,hn⟩:=VP w (.cells #[.int .i64 x.op,.int .i64 x.d,.int .i64 x.a,.int .i64 x.b,.int .i64 x.t,.int .i64 x.e] 42) (.cells #[.int .i64 t.op,.int .i64 t.a,.int .i64 t.b] 59)
 go_enter Tryz.func195,Tryz.ntmps195
 go_wp2_with fail
 rw [oG.out]
 clear oG
 refine (aNJ x _).mono ?_
 rintro e w1 ⟨z,rfl,hz,hb1⟩
 have hn1:=bP hb1 hn
 have c1:=aA hn1 1
 have c2:=aA hn1 2
 simp at c1 c2
 have cl:=aD hn1
 have HB:=aB (bG hb0 hb1)
 clear hn hn1 hb1 hb0
 have HK:Hid (vE t x=(!wi x.op 1 9||(x.d != t.a&&x.d != t.b))):=rfl
 generalize wi x.op 1 9=Q at HK hz ⊢
 cases Q
 ·go_wp2
  go_ret
  exact ⟨aO (by rw [HK.out];rfl),HB.out⟩
 ·obtain rfl:=hz rfl
  by_cases h1:x.d=t.a
  ·go_wp2
   go_ret
   exact ⟨aO (by rw [HK.out];simp [h1]),HB.out⟩
  ·by_cases h2:x.d=t.b
   ·go_wp2
    go_ret
    exact ⟨aO (by rw [HK.out];simp [h2]),HB.out⟩
   ·go_wp2
    go_ret
    exact ⟨aO (by rw [HK.out];simp [h1,h2]),HB.out⟩
theorem kN (x:Nd) (t:Tm) (w:World) (ht:3≤t.op∧t.op≤8) :
 Calls Tryz.prog 128 #[.agg #[.int .i64 x.op,.int .i64 x.d,.int .i64 x.a,.int .i64 x.b,.int .i64 x.t,.int .i64 x.e],.agg #[.int .i64 t.op,.int .i64 t.a,.int .i64 t.b]] w fun e w' =>e=.returned (.bool (nP t x))∧Below w.heap.size w w' :=by
 obtain ⟨W,yL,hb0,-,hn⟩:=VP w (.cells #[.int .i64 x.op,.int .i64 x.d,.int .i64 x.a,.int .i64 x.b,.int .i64 x.t,.int .i64 x.e] 42) (.cells #[.int .i64 t.op,.int .i64 t.a,.int .i64 t.b] 59)
 have HR:Hid (nP t x=(x.op==t.op&&x.a==t.a&&x.b==t.b)):=rfl
 have HT:=aB ht
 clear ht
 go_enter Tryz.func128,Tryz.ntmps128
 go_wp2_with fail
 rw [yL.out]
 clear yL
 by_cases hq:3≤x.op∧x.op≤8
 ·refine (CG _ _ _ _ _ _ _ hq.1 hq.2).mono ?_
  rintro e w1 ⟨rfl,hb1⟩
  have hn1:=bP hb1 hn
  have c0:=aA hn1 0
  have c1:=aA hn1 1
  have c2:=aA hn1 2
  simp at c0 c1 c2
  have cl:=aD hn1
  have HB:=aB (bG hb0 hb1)
  clear hn hn1 hb1 hb0 hq
  by_cases h1:x.op=t.op
  ·by_cases h2:x.a=t.a
   ·by_cases h3:x.b=t.b
    ·go_wp2
     go_ret
     exact ⟨aO (by rw [HR.out];simp [h1,h2,h3]),HB.out.alloc HB.out.size _⟩
    ·go_wp2
     go_ret
     exact ⟨aO (by rw [HR.out];simp [h3]),HB.out.alloc HB.out.size _⟩
   ·go_wp2
    go_ret
    exact ⟨aO (by rw [HR.out];simp [h2]),HB.out.alloc HB.out.size _⟩
  ·go_wp2
   go_ret
   exact ⟨aO (by rw [HR.out];simp [h1]),HB.out.alloc HB.out.size _⟩
 ·refine (aCW _ _ _ _ _ _ _ aF).mono ?_
  rintro e w1 ⟨rfl,hb1⟩
  have HB:=aB (bG hb0 hb1)
  have hne:(x.op==t.op)=false:=by have:=HT.out;rw [beq_eq_false_iff_ne];omega
  have HN:=aB hne
  clear hn hb1 hb0 hq hne
  go_wp2
  go_ret
  exact ⟨aO (by rw [HR.out,HN.out];rfl),HB.out.alloc HB.out.size _⟩
theorem fF (x:Nd) (t:Tm) (w:World) :
 Calls Tryz.prog 108 #[.agg #[.int .i64 x.op,.int .i64 x.d,.int .i64 x.a,.int .i64 x.b,.int .i64 x.t,.int .i64 x.e],.agg #[.int .i64 t.op,.int .i64 t.a,.int .i64 t.b]] w fun e w' =>e=.returned (.bool (nP t x))∧Below w.heap.size w w' :=by
 have hb0:Below w.heap.size w ((w.alloc (.cells #[.int .i64 x.op,.int .i64 x.d,.int .i64 x.a,.int .i64 x.b,.int .i64 x.t,.int .i64 x.e] 42)).alloc (.cells #[.int .i64 t.op,.int .i64 t.a,.int .i64 t.b] 59)):=(dY).alloc aQ _
 have HR:Hid (nP t x=(x.op==t.op&&x.a==t.a&&x.b==t.b)):=rfl
 by_cases h1:x.op=t.op
 ·by_cases h2:x.a=t.a
  ·have h3:x.b=t.b∨¬ x.b=t.b:=Classical.em _
   rcases h3 with h3 | h3
   ·go_enter Tryz.func108,Tryz.ntmps108
    go_wp2
    go_ret
    exact ⟨aO (by rw [HR.out];simp [h1,h2,h3]),by simpa [h1,h2,h3] using hb0⟩
   ·go_enter Tryz.func108,Tryz.ntmps108
    go_wp2
    go_ret
    exact ⟨aO (by rw [HR.out];simp [h3]),by simpa [h1,h2] using hb0⟩
  ·go_enter Tryz.func108,Tryz.ntmps108
   go_wp2
   go_ret
   exact ⟨aO (by rw [HR.out];simp [h2]),by simpa [h1] using hb0⟩
 ·go_enter Tryz.func108,Tryz.ntmps108
  go_wp2
  go_ret
  exact ⟨aO (by rw [HR.out];simp [h1]),hb0⟩
theorem jX (x:Nd) (t:Tm) (w:World) :
 Calls Tryz.prog 137 #[.agg #[.int .i64 x.op,.int .i64 x.d,.int .i64 x.a,.int .i64 x.b,.int .i64 x.t,.int .i64 x.e],.agg #[.int .i64 t.op,.int .i64 t.a,.int .i64 t.b]] w fun e w' =>e=.returned (.bool (vE t x))∧Below w.heap.size w w' :=by
 obtain ⟨W,zW,hb0,hm,hn⟩:=VP w (.cells #[.int .i64 x.op,.int .i64 x.d,.int .i64 x.a,.int .i64 x.b,.int .i64 x.t,.int .i64 x.e] 42) (.cells #[.int .i64 t.op,.int .i64 t.a,.int .i64 t.b] 59)
 go_enter Tryz.func137,Tryz.ntmps137
 go_wp2_with fail
 rw [zW.out]
 clear zW
 refine (qW _ _).mono ?_
 rintro e w1 ⟨rfl,rfl⟩
 have c1:=aA hn 1
 have c2:=aA hn 2
 have d1:=aA hm 1
 simp at c1 c2 d1
 have cl:=aD hn
 have dl:=aD hm
 have HB:=aB hb0
 clear hn hm hb0
 have HK:Hid (vE t x=(!wi x.op 1 9||(x.d != t.a&&x.d != t.b))):=rfl
 generalize wi x.op 1 9=Q at HK ⊢
 cases Q
 ·go_wp2
  go_ret
  exact ⟨aO (by rw [HK.out];rfl),HB.out⟩
 ·by_cases h1:x.d=t.a
  ·go_wp2
   go_ret
   exact ⟨aO (by rw [HK.out];simp [h1]),HB.out⟩
  ·by_cases h2:x.d=t.b
   ·go_wp2
    go_ret
    exact ⟨aO (by rw [HK.out];simp [h2]),HB.out⟩
   ·go_wp2
    go_ret
    exact ⟨aO (by rw [HK.out];simp [h1,h2]),HB.out⟩
theorem aBP (r:Int) (b off cap:Nat) (ns:List Nd) (f:BA) (a1 a2 a3 a4:Option Addr) (c1 c2 c3 c4:Nat) (v2 v3 v4 v5:Value) (w:World) (hN:aH w b off ns) (hc:vQ r ns f=0) (h1:aJ w a1 f.gen) (h2:aJ w a2 f.pass) (h3:aJ w a3 f.plus) (h4:aJ w a4 f.lets) :
 Calls Tryz.prog 196 #[.agg #[.int .i64 r,.slice (some ⟨b,off,none⟩) ns.length cap,v2,v3,v4,v5],.agg #[.bool f.back,.bool f.empty,.slice a1 f.gen.length c1,.slice a2 f.pass.length c2,.slice a3 f.plus.length c3,.slice a4 f.lets.length c4]] w fun e w' =>∃ v,e=.returned v∧w'.ownsRow w.heap.size 4 1 v ns.length ((wG ns f).map Value.bool)∧Below w.heap.size w w' :=by
 have hb0:Below w.heap.size w ((w.alloc (.cells #[.int .i64 r,.slice (some ⟨b,off,none⟩) ns.length cap,v2,v3,v4,v5] 208)).alloc (.cells #[.bool f.back,.bool f.empty,.slice a1 f.gen.length c1,.slice a2 f.pass.length c2,.slice a3 f.plus.length c3,.slice a4 f.lets.length c4] 237)):=(dY).alloc aQ _
 have hsv:=WT r b off cap ns f a1 a2 a3 a4 c1 c2 c3 c4 _ (hN.below hb0 hN.lt) hc (h1.below hb0) (h2.below hb0) (h3.below hb0) (h4.below hb0)
 have HSV:=aB hsv
 clear hsv hN hc h1 h2 h3 h4
 go_enter Tryz.func196,Tryz.ntmps196
 go_wp2_with fail
 refine HSV.out.mono ?_
 rintro e w1 ⟨v,rfl,hv,hb1⟩
 have HV:=aB hv
 clear hv
 go_wp2
 go_ret
 exact ⟨_,rfl,aK HV.out hb0.size,bG hb0 hb1⟩
theorem aHF (m B k:Nat) (rk:List Bool) (ka:Option Addr) (kc:Nat) (w:World) (h4:w.cell? ⟨B,4,none⟩=some (.slice ka k kc)) (hB:B<w.heap.size) (hk:aJ w ka rk) (e1:rk.length=k) (hm:m<k) :
 Calls Tryz.prog 220 #[.int .i64 m,.pointer (some ⟨B,0,none⟩)] w fun e w' =>e=.returned (.bool (!aM rk m))∧w' =w:=by
 obtain ⟨b3,o3,rfl,l3,v3⟩:=bT hk (k:=m) aF
 have KW:(m:Int)<(k:Int):=by omega
 generalize aM rk m=P at v3 ⊢
 clear hk e1
 go_enter Tryz.func220,Tryz.ntmps220
 go_wp2
 go_ret
 exact ⟨rfl,rfl⟩
theorem qE (r:Int) (b off cap:Nat) (ns:List Nd) (rk:List Bool) (ka:Option Addr) (kc:Nat) (v2 v3 v5:Value) (w:World) (hk:aJ w ka rk) (e1:rk.length=ns.length) (hn:ns.length≤256) :
 Calls Tryz.prog 202 #[.agg #[.int .i64 r,.slice (some ⟨b,off,none⟩) ns.length cap,v2,v3,.slice ka ns.length kc,v5]] w fun e w' =>∃ v,e=.returned v∧w'.ownsRow w.heap.size 4 1 v ns.length (((List.range ns.length).map fun n=>!aM rk n).map Value.bool)∧Below w.heap.size w w' :=by
 have eg:∀ args w,(callFunc 220 args).run Tryz.prog w=.ok (.enter 220 args) w:=enters_of Tryz.func220 fJ rfl
 have hb0:Below w.heap.size w (w.alloc (.cells #[.int .i64 r,.slice (some ⟨b,off,none⟩) ns.length cap,v2,v3,.slice ka ns.length kc,v5] 208)):=dY
 have hs:(w.alloc (.cells #[.int .i64 r,.slice (some ⟨b,off,none⟩) ns.length cap,v2,v3,.slice ka ns.length kc,v5] 208)).heap[w.heap.size]?=some (.cells #[.int .i64 r,.slice (some ⟨b,off,none⟩) ns.length cap,v2,v3,.slice ka ns.length kc,v5] 208 (0,0)):=World.alloc_heap_new w _
 have hea:=lX (fun n=>!aM rk n) 220 #[.pointer (some ⟨w.heap.size,0,none⟩)] r (some ⟨b,off,none⟩) ns.length cap v2 v3 (.slice ka ns.length kc) v5 (w.alloc (.cells #[.int .i64 r,.slice (some ⟨b,off,none⟩) ns.length cap,v2,v3,.slice ka ns.length kc,v5] 208)) hn eg (fun i hi W hW=>by
  have hs1:=bP hW hs
  refine (aHF i w.heap.size ns.length rk ka kc W (by rw [aA hs1];rfl) (aD hs1) (hk.below (bG hb0 hW)) e1 hi).mono ?_
  rintro e w' ⟨rfl,rfl⟩
  exact ⟨rfl,Below.refl _ _⟩)
 have HEA:=aB hea
 clear hea hs
 go_enter Tryz.func202,Tryz.ntmps202
 go_wp2_with fail
 refine HEA.out.mono ?_
 rintro e w1 ⟨v,rfl,hv,hb1⟩
 have HV:=aB hv
 clear hv
 go_wp2
 go_ret
 exact ⟨_,rfl,aK HV.out hb0.size,bG hb0 hb1⟩
theorem aHG (i P T:Nat) (r:Int) (b off cap:Nat) (ns:List Nd) (t:Tm) (w:World) (hN:aH w b off ns) (hi:i<ns.length) (hP:w.heap[P]?=some (.cells #[.int .i64 r,.slice (some ⟨b,off,none⟩) ns.length cap] 24 (0,0))) (hT:w.heap[T]?=some (.cells #[.int .i64 t.op,.int .i64 t.a,.int .i64 t.b] 59 (0,0))) (ht:3≤t.op∧t.op≤8) :
 Calls Tryz.prog 193 #[.int .i64 i,.pointer (some ⟨P,0,none⟩),.pointer (some ⟨T,0,none⟩)] w fun e w' =>e=.returned (.bool (aM (ns.map (nP t)) i))∧Below w.heap.size w w' :=by
 obtain ⟨x,hx⟩:=bD hi
 have hb:aM (ns.map (nP t)) i=nP t x:=cZ hx
 have hii:(i:Int)<(ns.length:Int):=by omega
 have HS:Hid (∀ u:World,Below w.heap.size w u→u.cell? ⟨P,0,none⟩=some (.int .i64 r)∧u.cell? ⟨P,1,none⟩=some (.slice (some ⟨b,off,none⟩) ns.length cap)∧u.cell? ⟨T,0,none⟩=some (.int .i64 t.op)∧u.cell? ⟨T,1,none⟩=some (.int .i64 t.a)∧u.cell? ⟨T,2,none⟩=some (.int .i64 t.b)∧u.cell? ⟨b,off+i*6,none⟩=some (.int .i64 x.op)∧u.cell? ⟨b,off+i*6+1,none⟩=some (.int .i64 x.d)∧u.cell? ⟨b,off+i*6+2,none⟩=some (.int .i64 x.a)∧u.cell? ⟨b,off+i*6+3,none⟩=some (.int .i64 x.b)∧u.cell? ⟨b,off+i*6+4,none⟩=some (.int .i64 x.t)∧u.cell? ⟨b,off+i*6+5,none⟩=some (.int .i64 x.e)):=fun u h=>by
  have k1:=bP h hP
  have k2:=bP h hT
  have k3:=hN.below h hN.lt
  refine ⟨?_,?_,?_,?_,?_,k3.c0 i x hx,k3.c1 i x hx,k3.c2 i x hx,k3.c3 i x hx,k3.c4 i x hx,k3.c5 i x hx⟩
  ·rw [aA k1];rfl
  ·rw [aA k1];rfl
  ·rw [aA k2];rfl
  ·rw [aA k2];rfl
  ·rw [aA k2];rfl
 have pl:=aD hP
 have tl:=aD hT
 have bl:=hN.lt
 have HBI:=aB hb
 have HT:=aB ht
 clear hP hT hN hx hb ht
 go_enter Tryz.func193,Tryz.ntmps193
 go_upto_region 1 with fail
 go_region_held3 (fun u=>u.cell? ⟨P,0,none⟩=some (.int .i64 r)∧u.cell? ⟨P,1,none⟩=some (.slice (some ⟨b,off,none⟩) ns.length cap)∧u.cell? ⟨T,0,none⟩=some (.int .i64 t.op)∧u.cell? ⟨T,1,none⟩=some (.int .i64 t.a)∧u.cell? ⟨T,2,none⟩=some (.int .i64 t.b)∧u.cell? ⟨b,off+i*6,none⟩=some (.int .i64 x.op)∧u.cell? ⟨b,off+i*6+1,none⟩=some (.int .i64 x.d)∧u.cell? ⟨b,off+i*6+2,none⟩=some (.int .i64 x.a)∧u.cell? ⟨b,off+i*6+3,none⟩=some (.int .i64 x.b)∧u.cell? ⟨b,off+i*6+4,none⟩=some (.int .i64 x.t)∧u.cell? ⟨b,off+i*6+5,none⟩=some (.int .i64 x.e)) (first
  | (with_reducible refine HS.out _ ?_;first | with_reducible exact hB2 | with_reducible exact (Below.refl _ w).drew | with_reducible exact (Below.refl _ w))) (first
  | (go_at_call 128;refine (kN x t _ HT.out).mono ?_;rintro e wa ⟨rfl,hba⟩;have hB2:Below w.heap.size w wa:=(by first | exact (Below.refl _ w).drew.trans hba | exact hba)))
 go_wp2
 go_ret
 exact ⟨aO HBI.out.symm,hB2⟩
theorem aHH (i P T:Nat) (r:Int) (b off cap:Nat) (ns:List Nd) (t:Tm) (w:World) (hN:aH w b off ns) (hi:i<ns.length) (hP:w.heap[P]?=some (.cells #[.int .i64 r,.slice (some ⟨b,off,none⟩) ns.length cap] 24 (0,0))) (hT:w.heap[T]?=some (.cells #[.int .i64 t.op,.int .i64 t.a,.int .i64 t.b] 59 (0,0))) (ht:3≤t.op∧t.op≤8) :
 Calls Tryz.prog 194 #[.int .i64 i,.pointer (some ⟨P,0,none⟩),.pointer (some ⟨T,0,none⟩)] w fun e w' =>e=.returned (.bool (aM (ns.map (vE t)) i))∧Below w.heap.size w w' :=by
 obtain ⟨x,hx⟩:=bD hi
 have hb:aM (ns.map (vE t)) i=vE t x:=cZ hx
 have hii:(i:Int)<(ns.length:Int):=by omega
 have HS:Hid (∀ u:World,Below w.heap.size w u→u.cell? ⟨P,0,none⟩=some (.int .i64 r)∧u.cell? ⟨P,1,none⟩=some (.slice (some ⟨b,off,none⟩) ns.length cap)∧u.cell? ⟨T,0,none⟩=some (.int .i64 t.op)∧u.cell? ⟨T,1,none⟩=some (.int .i64 t.a)∧u.cell? ⟨T,2,none⟩=some (.int .i64 t.b)∧u.cell? ⟨b,off+i*6,none⟩=some (.int .i64 x.op)∧u.cell? ⟨b,off+i*6+1,none⟩=some (.int .i64 x.d)∧u.cell? ⟨b,off+i*6+2,none⟩=some (.int .i64 x.a)∧u.cell? ⟨b,off+i*6+3,none⟩=some (.int .i64 x.b)∧u.cell? ⟨b,off+i*6+4,none⟩=some (.int .i64 x.t)∧u.cell? ⟨b,off+i*6+5,none⟩=some (.int .i64 x.e)):=fun u h=>by
  have k1:=bP h hP
  have k2:=bP h hT
  have k3:=hN.below h hN.lt
  refine ⟨?_,?_,?_,?_,?_,k3.c0 i x hx,k3.c1 i x hx,k3.c2 i x hx,k3.c3 i x hx,k3.c4 i x hx,k3.c5 i x hx⟩
  ·rw [aA k1];rfl
  ·rw [aA k1];rfl
  ·rw [aA k2];rfl
  ·rw [aA k2];rfl
  ·rw [aA k2];rfl
 have pl:=aD hP
 have tl:=aD hT
 have bl:=hN.lt
 have HBI:=aB hb
 have HT:=aB ht
 clear hP hT hN hx hb ht
 go_enter Tryz.func194,Tryz.ntmps194
 go_upto_region 1 with fail
 go_region_held3 (fun u=>u.cell? ⟨P,0,none⟩=some (.int .i64 r)∧u.cell? ⟨P,1,none⟩=some (.slice (some ⟨b,off,none⟩) ns.length cap)∧u.cell? ⟨T,0,none⟩=some (.int .i64 t.op)∧u.cell? ⟨T,1,none⟩=some (.int .i64 t.a)∧u.cell? ⟨T,2,none⟩=some (.int .i64 t.b)∧u.cell? ⟨b,off+i*6,none⟩=some (.int .i64 x.op)∧u.cell? ⟨b,off+i*6+1,none⟩=some (.int .i64 x.d)∧u.cell? ⟨b,off+i*6+2,none⟩=some (.int .i64 x.a)∧u.cell? ⟨b,off+i*6+3,none⟩=some (.int .i64 x.b)∧u.cell? ⟨b,off+i*6+4,none⟩=some (.int .i64 x.t)∧u.cell? ⟨b,off+i*6+5,none⟩=some (.int .i64 x.e)) (first
  | (with_reducible refine HS.out _ ?_;first | with_reducible exact hB2 | with_reducible exact (Below.refl _ w).drew | with_reducible exact (Below.refl _ w))) (first
  | (go_at_call 195;refine (aHE x t _).mono ?_;rintro e wa ⟨rfl,hba⟩;have hB2:Below w.heap.size w wa:=(by first | exact (Below.refl _ w).drew.trans hba | exact hba)))
 go_wp2
 go_ret
 exact ⟨aO HBI.out.symm,hB2⟩
structure SM (w:World) (ns:List Nd) (t:Tm) (rb1 cK:Nat) (ka pa:Option Addr):Prop where
 nx:qC w rb1 ns.length (iQ ns)
 ah:qC w cK ns.length (gJ ns)
 rk:aJ w ka (nC ns t)
 kp:aJ w pa (yS ns t)
theorem SM.below {w w' :World} {ns:List Nd} {t:Tm} {rb1 cK:Nat} {ka pa:Option Addr} (h:SM w ns t rb1 cK ka pa) (hb:Below w.heap.size w w'):SM w' ns t rb1 cK ka pa :=
 ⟨h.nx.below hb,h.ah.below hb,h.rk.below hb,h.kp.below hb⟩
theorem BK {r:Int} {ns:List Nd} {f:BA} (hc:bM r ns=0) (h1:f.gen.length=ns.length) (h2:f.pass.length=ns.length) (h3:f.plus.length=ns.length) (h4:f.lets.length=ns.length):vQ r ns f=0:=by
 simp [vQ,hc,fits,h1,h2,h3,h4]
theorem uM (ns:List Nd) (t:Tm):(nC ns t).length=ns.length:=by simp [nC]
theorem xC (ns:List Nd) (t:Tm):(yS ns t).length=ns.length:=by simp [yS]
theorem oM (k:Nat):(EZ k).length=k:=by simp [EZ]
theorem lY (k:Nat):(sU k).length=k:=by simp [sU]
theorem xD (ns:List Nd) (t:Tm):(yT ns t).length=ns.length:=by simp [yT]
theorem LW (ns:List Nd) (t:Tm):(wZ ns t).length=ns.length:=by simp [wZ]
theorem aEF (ns:List Nd) (t:Tm):((List.range ns.length).map fun n=>!aM (nC ns t) n)=yT ns t:=by
 refine mK (by simp [yT]) fun n hn=>?_
 have hn' :n<ns.length:=by simpa using hn
 obtain ⟨x,hx⟩:=bD hn'
 rw [mM _ hn', nC,yT,cZ hx,cZ hx]
theorem bC {w:World} {base n:Nat} {a:Option Addr} {c:Nat} {zs:List Bool} (h:w.ownsRow base 4 1 (.slice a n c) n (zs.map Value.bool)) (hl:zs.length=n):aJ w a zs:=by
 subst hl
 obtain ⟨_,_,e,hb⟩:=pF h
 cases e
 exact hb
theorem oN (r:Int) (b off cap:Nat) (ns:List Nd) (f:BA) (a1 a2 a3 a4:Option Addr) (c1 c2 c3 c4:Nat) (v2 v3 v4 v5:Value) (w:World) (hN:aH w b off ns) (hc:vQ r ns f=0) (h1:aJ w a1 f.gen) (h2:aJ w a2 f.pass) (h3:aJ w a3 f.plus) (h4:aJ w a4 f.lets) :
 Calls Tryz.prog 196 #[.agg #[.int .i64 r,.slice (some ⟨b,off,none⟩) ns.length cap,v2,v3,v4,v5],.agg #[.bool f.back,.bool f.empty,.slice a1 ns.length c1,.slice a2 ns.length c2,.slice a3 ns.length c3,.slice a4 ns.length c4]] w fun e w' =>∃ v,e=.returned v∧w'.ownsRow w.heap.size 4 1 v ns.length ((wG ns f).map Value.bool)∧Below w.heap.size w w' :=by
 have h:=aBP r b off cap ns f a1 a2 a3 a4 c1 c2 c3 c4 v2 v3 v4 v5 w hN hc h1 h2 h3 h4
 obtain ⟨_,e1,e2,e3,e4⟩:=yU hc
 rw [e1,e2,e3,e4] at h
 exact h
theorem aNK (r:Int) (b off cap:Nat) (ns:List Nd) (t:Tm) (rb1 cK:Nat) (ka pa:Option Addr) (kc pc:Nat) (w:World) (hN:aH w b off ns) (hc:bM r ns=0) (hM:SM w ns t rb1 cK ka pa) :
 Calls Tryz.prog 165 #[.agg #[.int .i64 r,.slice (some ⟨b,off,none⟩) ns.length cap,.slice (some ⟨rb1,0,none⟩) ns.length ns.length,.slice (some ⟨cK,0,none⟩) ns.length ns.length,.slice ka ns.length kc,.slice pa ns.length pc]] w fun e w' =>∃ v,e=.returned v∧w'.ownsRow w.heap.size 4 1 v ns.length ((dG ns t).map Value.bool)∧Below w.heap.size w w' :=by
 have hl:=(bB hc).1
 have hfc:vQ r ns (jN ns t)=0:=BK hc (uM ns t) (xC ns t) (oM _) (lY _)
 obtain ⟨W,HV5,hbA,hs⟩:=bx1 w (.cells #[.int .i64 r,.slice (some ⟨b,off,none⟩) ns.length cap,.slice (some ⟨rb1,0,none⟩) ns.length ns.length,.slice (some ⟨cK,0,none⟩) ns.length ns.length,.slice ka ns.length kc,.slice pa ns.length pc] 208)
 go_enter Tryz.func165,Tryz.ntmps165
 go_upto_region 1 with fail
 rw [HV5.out]
 clear HV5
 have HS:Hid (∀ u:World,Below W.heap.size W u→u.cell? ⟨w.heap.size,0,none⟩=some (.int .i64 r)∧u.cell? ⟨w.heap.size,1,none⟩=some (.slice (some ⟨b,off,none⟩) ns.length cap)∧u.cell? ⟨w.heap.size,2,none⟩=some (.slice (some ⟨rb1,0,none⟩) ns.length ns.length)∧u.cell? ⟨w.heap.size,3,none⟩=some (.slice (some ⟨cK,0,none⟩) ns.length ns.length)∧u.cell? ⟨w.heap.size,4,none⟩=some (.slice ka ns.length kc)∧u.cell? ⟨w.heap.size,5,none⟩=some (.slice pa ns.length pc)):=fun u h=>by
  have k1:=bP h hs
  refine ⟨?_,?_,?_,?_,?_,?_⟩
  ·rw [aA k1];rfl
  ·rw [aA k1];rfl
  ·rw [aA k1];rfl
  ·rw [aA k1];rfl
  ·rw [aA k1];rfl
  ·rw [aA k1];rfl
 have HSV:Hid (∀ (u:World),Below W.heap.size W u→∀ (na ya:Option Addr) (nc yc:Nat),aJ u na (EZ ns.length)→aJ u ya (sU ns.length)→Calls Tryz.prog 196 #[.agg #[.int .i64 r,.slice (some ⟨b,off,none⟩) ns.length cap,.slice (some ⟨rb1,0,none⟩) ns.length ns.length,.slice (some ⟨cK,0,none⟩) ns.length ns.length,.slice ka ns.length kc,.slice pa ns.length pc],.agg #[.bool true,.bool false,.slice ka ns.length kc,.slice pa ns.length pc,.slice na ns.length nc,.slice ya ns.length yc]] u fun e w' =>∃ v,e=.returned v∧w'.ownsRow u.heap.size 4 1 v ns.length ((dG ns t).map Value.bool)∧Below u.heap.size u w'):=fun u h na ya nc yc h3 h4=>by
  have hu:=bG hbA h
  have hm:=hM.below hu
  exact oN r b off cap ns (jN ns t) ka pa na ya kc pc nc yc _ _ _ _ u (hN.below hu hN.lt) hfc hm.rk hm.kp h3 h4
 have HW:=aB hbA
 have sl:=aD hs
 clear hs hbA hM hN hc hfc
 go_region_held3 (fun u=>u.cell? ⟨w.heap.size,0,none⟩=some (.int .i64 r)∧u.cell? ⟨w.heap.size,1,none⟩=some (.slice (some ⟨b,off,none⟩) ns.length cap)∧u.cell? ⟨w.heap.size,2,none⟩=some (.slice (some ⟨rb1,0,none⟩) ns.length ns.length)∧u.cell? ⟨w.heap.size,3,none⟩=some (.slice (some ⟨cK,0,none⟩) ns.length ns.length)∧u.cell? ⟨w.heap.size,4,none⟩=some (.slice ka ns.length kc)∧u.cell? ⟨w.heap.size,5,none⟩=some (.slice pa ns.length pc)) (first
  | (with_reducible refine HS.out _ ?_;first | with_reducible exact hB3 | with_reducible exact hB2 | with_reducible exact hB1 | with_reducible exact (Below.refl _ W).drew | with_reducible exact (Below.refl _ W))) (first
  | (go_at_call 197;refine (xB r _ ns.length cap _ _ _ _ _ hl.2).mono ?_;rintro e wa ⟨va,rfl,hva,hba⟩;obtain ⟨na,nc,rfl⟩:=aU hva;have hB1:Below W.heap.size W wa:=(by first | exact (Below.refl _ W).drew.trans hba | exact hba))
  | (go_at_call 198;refine (BJ r _ ns.length cap _ _ _ _ _ hl.2).mono ?_;rintro e wb ⟨vb,rfl,hvb,hbb⟩;obtain ⟨ya,yc,rfl⟩:=aU hvb;have hB2:Below W.heap.size W wb:=bG hB1 hbb)
  | (go_at_call 196;refine (HSV.out _ hB2 na ya nc yc (bC (ownsRow_below hva hbb dD) (oM _)) (bC hvb (lY _))).mono ?_;rintro e wd ⟨vd,rfl,hvd,hbd⟩;have hB3:Below W.heap.size W wd:=bG hB2 hbd))
 have HVD:=aB hvd
 have HB3:=aB hB3
 have hle:w.heap.size≤wb.heap.size:=Nat.le_trans HW.out.size hB2.size
 clear hvd hva hvb hba hbb hbd hB1 hB2 hB3
 go_wp2
 go_ret
 exact ⟨_,rfl,aK HVD.out hle,bG HW.out HB3.out⟩
end Go.Proofs.YtegloodcbfalfaaGreatDoor
