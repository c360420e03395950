/-
  Of the proof of WholePasses: XB, NG, NH, ZN, T, ZO.
-/
import Derived.Test.YtegloodcbfalfaaGreatDoorW3
import Derived.Test.YtegloodcbfalfaaGreatDoorW6
import Derived.Test.YtegloodcbfalfaaGreatDoorW7
import Derived.Test.YtegloodcbfalfaaGreatDoorW8
import Derived.Test.YtegloodcbfalfaaGreatDoorW10
import Derived.Test.YtegloodcbfalfaaGreatDoorW11
import Derived.Test.YtegloodcbfalfaaGreatDoorW12
import Derived.Test.YtegloodcbfalfaaGreatDoorW13
import Derived.Test.YtegloodcbfalfaaGreatDoorW14
import Derived.Maps.AppendAt
import Derived.BigQuiet
set_option linter.unusedVariables false
set_option linter.unusedSimpArgs false
set_option maxHeartbeats 40000000
set_option maxRecDepth 100000
namespace Go.Proofs.YtegloodcbfalfaaGreatDoor
open Go.RowKit Go.Shelf
theorem aCL (r:Int) (b off cap:Nat) (ns:List Nd) (t:Tm) (w:World) (hN:aH w b off ns) (hc:bM r ns=0) :
 Calls Tryz.prog 75 #[.agg #[.int .i64 r,.slice (some ⟨b,off,none⟩) ns.length cap],.agg #[.int .i64 t.op,.int .i64 t.a,.int .i64 t.b]] w fun e w' =>∃ v1 v2,e=.returned (.agg #[v1,v2])∧w'.ownsRow w.heap.size 4 1 v1 ns.length ((bK ns t).map Value.bool)∧w'.ownsRow w.heap.size 4 1 v2 ns.length ((aZ ns t).map Value.bool)∧Below w.heap.size w w' :=by
 have hl:=(bB hc).1
 obtain ⟨W,HW,hbA,p0,p1,p2⟩:=bAK w (.cells #[.int .i64 r,.slice (some ⟨b,off,none⟩) ns.length cap] 24) (.cells #[.int .i64 t.op,.int .i64 t.a,.int .i64 t.b] 59) (.cells #[.slice none 0 0,.slice none 0 0] 126)
 have HF:=aB (YE r b off cap ns t W (hN.below hbA hN.lt) hc)
 go_enter Tryz.func75,Tryz.ntmps75
 go_upto_region 1 with fail
 rw [HW.out]
 have q0:=aA p0 0
 have q1:=aA p0 1
 have t0:=aA p1 0
 have t1:=aA p1 1
 have t2:=aA p1 2
 simp at q0 q1 t0 t1 t2
 have pl:=aD p0
 have tl:=aD p1
 have HB:=aB hbA
 have HP:=aB p0
 have HT:=aB p1
 have HR:=aB p2
 clear hbA p0 p1 p2 HW
 go_wp2_with fail
 refine HF.out.mono ?_
 rintro e w1 ⟨X,rfl,hX,hb1⟩
 obtain ⟨V1,HV⟩:∃ V1,Hid (w1.alloc (.cells #[.slice (some ⟨X 0,0,none⟩) ns.length ns.length,.slice (some ⟨X 1,0,none⟩) ns.length ns.length,.slice (some ⟨X 4,0,none⟩) ns.length ns.length,.slice (some ⟨X 2,0,none⟩) ns.length ns.length,.slice (some ⟨X 5,0,none⟩) ns.length ns.length,.slice (some ⟨X 3,0,none⟩) ns.length ns.length] 159)=V1):=⟨_,rfl⟩
 have hF:=World.alloc_heap_new w1 (.cells #[.slice (some ⟨X 0,0,none⟩) ns.length ns.length,.slice (some ⟨X 1,0,none⟩) ns.length ns.length,.slice (some ⟨X 4,0,none⟩) ns.length ns.length,.slice (some ⟨X 2,0,none⟩) ns.length ns.length,.slice (some ⟨X 5,0,none⟩) ns.length ns.length,.slice (some ⟨X 3,0,none⟩) ns.length ns.length] 159)
 have hbV:Below W.heap.size W V1:=by rw [← HV.out];exact hb1.alloc hb1.size _
 have y5:V1.heap[X 5]?=some (.cells ((dI ns t).map Value.bool).toArray 4 (0,0)):=by rw [← HV.out];exact (Below.heap_alloc _ _ _ (aD (hX 5 aL))).trans (hX 5 aL)
 have y3:V1.heap[X 3]?=some (.cells ((fA ns t).map Value.bool).toArray 4 (0,0)):=by rw [← HV.out];exact (Below.heap_alloc _ _ _ (aD (hX 3 aL))).trans (hX 3 aL)
 rw [HV.out] at hF
 go_upto_region 2 with fail
 rw [HV.out]
 generalize X 5=x5 at *
 generalize X 3=x3 at *
 generalize w1.heap.size=fb at *
 have ZT:=aB (bG HB.out hbV)
 replace q1:=(hbV.cell (p:=⟨w.heap.size,1,none⟩) pl).trans q1
 replace t0:=(hbV.cell (p:=⟨w.heap.size+1,0,none⟩) tl).trans t0
 replace t1:=(hbV.cell (p:=⟨w.heap.size+1,1,none⟩) tl).trans t1
 replace t2:=(hbV.cell (p:=⟨w.heap.size+1,2,none⟩) tl).trans t2
 have hR:=bP hbV HR.out
 have f4:=aA hF 4
 have f5:=aA hF 5
 simp at f4 f5
 have HN:=aB (hN.below ZT.out hN.lt)
 have n0:=aD hR
 have n1:=aD hF
 have n2:=aD y5
 have n3:=aD y3
 have HR2:=aB hR
 have Y5:=aB (fun k (h:k<ns.length)=>MJ y5 (k:=k) (by simp [dI];exact h))
 have Y3:=aB (fun k (h:k<ns.length)=>MJ y3 (k:=k) (by rw [show (fA ns t).length=ns.length from fI ns _];exact h))
 have e0:w.heap.size<V1.heap.size:=by omega
 have e1:w.heap.size+1<V1.heap.size:=by omega
 have HC:Hid (∀ u:World,Below V1.heap.size V1 u→u.cell? ⟨w.heap.size,1,none⟩=some (.slice (some ⟨b,off,none⟩) ns.length cap)∧u.cell? ⟨w.heap.size+1,0,none⟩=some (.int .i64 t.op)∧u.cell? ⟨w.heap.size+1,1,none⟩=some (.int .i64 t.a)∧u.cell? ⟨w.heap.size+1,2,none⟩=some (.int .i64 t.b)∧u.cell? ⟨fb,4,none⟩=some (.slice (some ⟨x5,0,none⟩) ns.length ns.length)∧u.cell? ⟨fb,5,none⟩=some (.slice (some ⟨x3,0,none⟩) ns.length ns.length)):=fun u hu =>
  ⟨(hu.cell (p:=⟨w.heap.size,1,none⟩) e0).trans q1,(hu.cell (p:=⟨w.heap.size+1,0,none⟩) e1).trans t0,(hu.cell (p:=⟨w.heap.size+1,1,none⟩) e1).trans t1,(hu.cell (p:=⟨w.heap.size+1,2,none⟩) e1).trans t2,(hu.cell (p:=⟨fb,4,none⟩) n1).trans f4,(hu.cell (p:=⟨fb,5,none⟩) n1).trans f5⟩
 have hZ:LZ V1 (V1.alloc (.cells #[.slice none 0 0,.slice none 0 0] 126)) (.slice none 0 0) (.slice none 0 0) (upTo (fun n=>aM (dI ns t) n&&!aM (fA ns t) n) 0) (upTo (fun n=>aM (nC ns t) n&&!(aM (dI ns t) n&&aM (fA ns t) n)) 0):=LZ.new V1
 have d0:=Nat.le_of_lt e0
 have d1:=Nat.le_of_lt e1
 have d2:=Nat.le_of_lt n1
 have d3:=Nat.le_of_lt n2
 have d4:=Nat.le_of_lt n3
 have d5:=Nat.le_of_lt HN.out.lt
 clear hN hc hX hb1 HV HF hbV hR q0 q1 t0 t1 t2 f4 f5 pl tl HB HP HT HR hF y5 y3
 go_upto_region 3 with fail
 generalize V1.alloc (.cells #[.slice none 0 0,.slice none 0 0] 126)=V2 at hZ ⊢
 go_wp2
 go_loopw [7] (fun i wr=>∃ (k:Nat) (v1 v2:Value),k≤ns.length∧i=.int .i64 k∧LZ V1 wr v1 v2 (upTo (fun n=>aM (dI ns t) n&&!aM (fA ns t) n) k) (upTo (fun n=>aM (nC ns t) n&&!(aM (dI ns t) n&&aM (fA ns t) n)) k)) (fun i _=>ns.length-(intOf i).toNat)
 case atStart=>exact ⟨0,_,_,Nat.zero_le _,rfl,hZ⟩
 case round =>
  obtain ⟨k,v1,v2,hk,rfl,hz⟩:=hrel
  have hbw:=hz.bel
  have hs:=hbw.size
  have hlb:=aD hz.box
  have m0:w.heap.size<wr.heap.size:=by omega
  have HZ:=aB hz
  by_cases hlt:k<ns.length
  ·have hki:(k:Int)<(ns.length:Int):=by omega
   obtain ⟨x,hx⟩:=bD hlt
   obtain ⟨q1,-,-,-,f4,f5⟩:=HC.out wr hbw
   have c5:=(hbw.cell (p:=⟨x5,k,none⟩) n2).trans (Y5.out k hlt)
   have c3:=(hbw.cell (p:=⟨x3,k,none⟩) n3).trans (Y3.out k hlt)
   have l0:=aA hz.box 0
   simp at l0
   have HU1:=aB (MK (fun n=>aM (dI ns t) n&&!aM (fA ns t) n) k)
   have HU2:=aB (MK (fun n=>aM (nC ns t) n&&!(aM (dI ns t) n&&aM (fA ns t) n)) k)
   have vG:=aB (show aM (nC ns t) k=nP t x by simp [nC,aM,hx])
   have HX:=aB hx
   clear hx hz
   generalize hL:aM (dI ns t) k=L at c5
   generalize hA:aM (fA ns t) k=A at c3
   rw [hL,hA] at HU1
   have HL:=aB hL
   have HA:=aB hA
   clear hL hA
   go_upto_region 6 with fail
   have hd:=HZ.out.drew
   obtain ⟨va,vc,w', hrun,hB', hz'⟩:=hd.app1 73 k (tF _ _) aF (L&&!A)
   have HZ2:=aB hz'
   have aPH:=aB hrun
   have bx:=(hB'.block _ (Nat.lt_succ_self _)).trans hd.box
   have bc:=aA bx 0
   have bf:=aC bx 0
   simp at bc
   have HB' :=aB hB'
   clear hrun hz' hB' bx hd
   have hss:Hid (V1.heap.size+1≤wr.drew.heap.size):=hlb
   cases L
   all_goals
    refine gY 18 (S:=fun u=>∀ p:Addr,p.block≤V1.heap.size→u.cell? p=wr.cell? p) fJ (fun p hp=>rfl) (fun hHeld=>?_)
    refine tlw 0 ?_
    iterate 14 (first | refine tlv ?_ | refine tlu ?_)
    refine tlr 15 (fun K hK=>?_)
    go_simp
    refine hK.out _ _ (fun p hp=>((Below.refl _ _).alloc hss.out _).cell (Nat.lt_succ_of_le hp)) (fun hHeld=>?_)
    clear hK K
    refine tla 16 (.tmp 19) (.tmp 33) 73 aPH.out (fun p hp=>HB'.out.cell (Nat.lt_succ_of_le hp)) (fun hHeld=>?_)
    refine tlv ?_
    refine tls 18 (fun K hK=>?_)
    go_simp
    refine hK.out _ _ ?_
    refine gB fJ ?_ _
    clear hK K hHeld bc bf aPH HB' hss c5 c3 l0 q1 f4 f5 HZ hbw hs
    generalize w'.setCell ⟨V1.heap.size,0,none⟩ (.slice va (k+1) vc)=wr2 at HZ2 ⊢
    have hb2:=HZ2.out.bel
    have hl2:=aD HZ2.out.box
    have l1:=aA HZ2.out.box 1
    simp at l1
    have g5:=(hb2.cell (p:=⟨x5,k,none⟩) n2).trans (Y5.out k hlt)
    have g3:=(hb2.cell (p:=⟨x3,k,none⟩) n3).trans (Y3.out k hlt)
    rw [HL.out] at g5
    rw [HA.out] at g3
    have RX:=HN.out.below hb2 HN.out.lt
    have i0:=RX.c0 k x HX.out
    have i1:=RX.c1 k x HX.out
    have i2:=RX.c2 k x HX.out
    have i3:=RX.c3 k x HX.out
    have i4:=RX.c4 k x HX.out
    have i5:=RX.c5 k x HX.out
    obtain ⟨q1,t0,t1,t2,f4,f5⟩:=HC.out wr2 hb2
    clear RX
    go_upto_region 7 with fail
    have HK:=aB (fun U=>fF x t U)
    have bBI:k≤256:=by omega
    generalize nP t x=R at vG HK
    cases R
    all_goals
     refine gY 27 (S:=fun u=>∀ p:Addr,p.block≤V1.heap.size→u.cell? p=wr2.cell? p) fJ (fun p hp=>rfl) (fun hHeld=>?_)
     refine tlw 0 ?_
     iterate 7 (refine tlv ?_)
     refine tlr 8 (fun K hK=>?_)
     go_simp
     go_at_call 108
     refine (HK.out _).mono ?_
     rintro e w3 ⟨rfl,hb3⟩
     refine hK.out _ _ (fun p hp=>hb3.cell (Nat.lt_of_le_of_lt hp hl2)) (fun hHeld=>?_)
     clear hK K
     iterate 15 (first | refine tlv ?_ | refine tlu ?_)
     have hd:=HZ2.out.drew.below hb3
     have qq:=hd.bAL 73 k (tF _ _) bBI (aM (nC ns t) k&&!(aM (dI ns t) k&&aM (fA ns t) k))
     obtain ⟨vb,vd,w4,qq⟩:=qq
     have hrun:=qq.1
     have hB' :=qq.2.1
     have HZ3:=aB qq.2.2
     have bx:=(hB'.block _ (Nat.lt_succ_self _)).trans hd.box
     have bc:=aA bx 1
     have bf:=aC bx 1
     simp at bc
     have HB' :=aB hB'
     have hss:Hid (V1.heap.size+1≤w3.heap.size):=aD hd.box
     have hh:=hb3
     rw [HL.out,HA.out,vG.out] at hrun
     have aPH:=aB hrun
     clear hrun hB' bx hd hb3 qq
     refine tlr 24 (fun K hK=>?_)
     go_simp
     refine hK.out _ _ (fun p hp=>(((Below.refl _ _).alloc hss.out _).cell (Nat.lt_succ_of_le hp)).trans (hh.cell (Nat.lt_of_le_of_lt hp hl2))) (fun hHeld=>?_)
     clear hK K
     refine tla 25 (.tmp 37) (.tmp 60) 73 aPH.out (fun p hp=>(HB'.out.cell (Nat.lt_succ_of_le hp)).trans (hh.cell (Nat.lt_of_le_of_lt hp hl2))) (fun hHeld=>?_)
     refine tlv ?_
     refine tls 27 (fun K hK=>?_)
     go_simp
     refine hK.out _ _ ?_
     refine gB fJ ?_ _
     clear hK K hHeld bc bf aPH HB' hss hh g5 g3 i0 i1 i2 i3 i4 i5 q1 t0 t1 t2 f4 f5 l1 hb2
     rw [← HU1.out,← HU2.out] at HZ3
     generalize w4.setCell ⟨V1.heap.size,1,none⟩ (.slice vb (k+1) vd)=wr3 at HZ3 ⊢
     go_wp2
     go_roundw
     case rel=>exact ⟨k+1,_,_,aF,by go_num,HZ3.out⟩
     case measure=>simp [intOf];omega
  ·have ek:k=ns.length:=by omega
   subst ek
   obtain ⟨q1,-,-,-,-,-⟩:=HC.out wr hbw
   have hR:=(hbw.block _ n0).trans HR2.out
   have y0:=aA hR 0
   have y1:=aA hR 1
   have z0:=aC hR 0
   have z1:=aC hR 1
   have l0:=aA hz.box 0
   have l1:=aA hz.box 1
   simp at y0 y1 l0 l1
   obtain ⟨va,vc,e1⟩:=aU hz.r1
   obtain ⟨vb,vd,e2⟩:=aU hz.r2
   rw [tF] at e1 e2
   subst e1 e2
   have r0:=aD hR
   have HRR:=aB hR
   clear hR hz
   go_wp2
   have hk:=bQ (v0:=.slice va ns.length vc) (v1:=.slice vb ns.length vd) HRR.out
   have T1:=aNR HZ.out.r1 HRR.out n0 (tF _ _) (.slice va ns.length vc) (.slice vb ns.length vd)
   have T2:=aNR HZ.out.r2 HRR.out n0 (tF _ _) (.slice va ns.length vc) (.slice vb ns.length vd)
   have k0:=aA hk 0
   have k1:=aA hk 1
   simp at k0 k1
   exact bodyPost_ret (v:=.agg #[.slice va ns.length vc,.slice vb ns.length vd]) (by simp [results,Tryz.results75,go_sem,k0,k1]) rfl ⟨_,_,rfl,T1,T2,aW (bG ZT.out hbw) aF⟩
theorem aTM (x:Nd):usA x=(wi x.op 2 8||wi x.op 10 12):=by
 unfold usA
 congr 1
 by_cases h2:x.op=2
 ·simp [h2,wi]
 ·have:(x.op==2)=false:=by simp [h2]
  rw [this,Bool.false_or]
  simp only [wi]
  congr 1
  simp;omega
theorem aIK (x:Nd) (j:Nat) (w:World) :
 Calls Tryz.prog 109 #[.agg #[.int .i64 x.op,.int .i64 x.d,.int .i64 x.a,.int .i64 x.b,.int .i64 x.t,.int .i64 x.e],.int .i64 j] w fun e w' =>e=.returned (.bool (XG x j))∧Below w.heap.size w w' :=by
 obtain ⟨W,jU,hb0,hn⟩:=bx1 w (.cells #[.int .i64 x.op,.int .i64 x.d,.int .i64 x.a,.int .i64 x.b,.int .i64 x.t,.int .i64 x.e] 42)
 go_enter Tryz.func109,Tryz.ntmps109
 go_wp2_with fail
 rw [jU.out]
 clear jU
 refine (qW _ _).mono ?_
 rintro e w1 ⟨rfl,rfl⟩
 have c2:=aA hn 2
 have c3:=aA hn 3
 simp at c2 c3
 have cl:=aD hn
 have HB:=aB hb0
 have HA:=aB (aTM x)
 have QN:Hid (usB x=wi x.op 3 8):=rfl
 have HU:Hid (XG x j=((usA x&&x.a==(j:Int))||(usB x&&x.b==(j:Int)))):=rfl
 clear hb0 hn
 generalize (wi x.op 2 8||wi x.op 10 12)=A at HA ⊢
 generalize wi x.op 3 8=B at QN ⊢
 generalize wi x.op 1 9=D
 generalize (x.op != 12)=T
 generalize (x.op==11)=O
 rw [HA.out,QN.out] at HU
 cases A <;> cases B <;> cases ha:(x.a==(j:Int)) <;> cases hb:(x.b==(j:Int))
 all_goals (rw [ha,hb] at HU)
 all_goals go_wp2
 all_goals go_ret
 all_goals exact ⟨aO (by rw [HU.out];first | rfl | (simp [ha,hb];done) | (simp_all;done)),HB.out⟩
theorem aIL (x:Nd) (j:Nat) (w:World) :
 Calls Tryz.prog 110 #[.agg #[.int .i64 x.op,.int .i64 x.d,.int .i64 x.a,.int .i64 x.b,.int .i64 x.t,.int .i64 x.e],.int .i64 j] w fun e w' =>e=.returned (.bool (XH x j))∧Below w.heap.size w w' :=by
 obtain ⟨W,oG,hb0,hn⟩:=bx1 w (.cells #[.int .i64 x.op,.int .i64 x.d,.int .i64 x.a,.int .i64 x.b,.int .i64 x.t,.int .i64 x.e] 42)
 go_enter Tryz.func110,Tryz.ntmps110
 go_wp2_with fail
 rw [oG.out]
 clear oG
 refine (qW _ _).mono ?_
 rintro e w1 ⟨rfl,rfl⟩
 have c1:=aA hn 1
 simp at c1
 have cl:=aD hn
 have HB:=aB hb0
 have HU:Hid (XH x j=(wi x.op 1 9&&x.d==(j:Int))):=rfl
 clear hb0 hn
 generalize (wi x.op 2 8||wi x.op 10 12)=A
 generalize wi x.op 3 8=B
 generalize wi x.op 1 9=D at HU ⊢
 generalize (x.op != 12)=T
 generalize (x.op==11)=O
 cases D <;> cases ha:(x.d==(j:Int))
 all_goals (rw [ha] at HU)
 all_goals go_wp2
 all_goals go_ret
 all_goals exact ⟨aO (by rw [HU.out];first | rfl | (simp [ha];done) | (simp_all;done)),HB.out⟩
theorem aCM:(Tryz.prog.info? 4).map (fun i=>(i.zero,i.size,i.bytes))=some (some (.bool false),1,1):=by kernel_rfl
theorem YG (n:Nat):madeCells #[Value.bool false] n=((List.replicate n false).map Value.bool).toArray:=by
 apply Array.ext'
 rw [toList_madeCells_one]
 simp
def rV (x:List Bool):Array Value:=(x.map Value.bool).toArray
theorem uQ {x:List Bool} {n:Nat} (h:n<x.length):(rV x)[n]?=some (.bool (aM x n)):=by
 simp [rV,aM,h]
theorem aIM (x:List Bool) (n:Nat) (v:Bool):(rV x).setIfInBounds n (.bool v)=rV (x.set n v):=by
 simp only [rV,List.setIfInBounds_toArray,List.map_set]
theorem aCN (r:Int) (b off cap:Nat) (ns:List Nd) (j:Nat) (w:World) (hN:aH w b off ns) (hc:bM r ns=0) :
 Calls Tryz.prog 79 #[.agg #[.int .i64 r,.slice (some ⟨b,off,none⟩) ns.length cap],.int .i64 j] w fun e w' =>∃ xb,e=.returned (.slice (some ⟨xb,0,none⟩) ns.length ns.length)∧w'.heap[xb]?=some (.cells (rV (lvR ns j)) 4 (0,0))∧Below w.heap.size w w' :=by
 have hl:=(bE hc).1
 have hms:∀ W:World,Sem.run Tryz.prog (Instr.makeSlice 73 (.int .i64 (ns.length:Int)) (.int .i64 (ns.length:Int))) W=.ok (.slice (some ⟨W.heap.size,0,none⟩) ns.length ns.length) (W.alloc (.cells (madeCells #[.bool false] ns.length) 4)):=fun W=>run_make_row' 73 4 _ 1 Tryz.underlying73 aCM rfl .i64 .i64 ns.length aF aF W
 obtain ⟨W,yL,hb0,hp0⟩:=bx1 w (.cells #[.int .i64 r,.slice (some ⟨b,off,none⟩) ns.length cap] 24)
 have HN:=aB hN
 have HC:=aB hc
 clear hN hc
 go_enter Tryz.func79,Tryz.ntmps79
 go_upto_region 1 with fail
 rw [yL.out]
 clear yL
 have p1:=aA hp0 1
 simp at p1
 have pl:=aD hp0
 go_upto_region 2 with fail
 have hB1:Below W.heap.size W (W.alloc (.cells (madeCells #[.bool false] ns.length) 4)):=dY
 have hX1:(W.alloc (.cells (madeCells #[.bool false] ns.length) 4)).heap[W.heap.size]?=some (.cells (rV ((tJ (xK ns j) ns.length 0).map not)) 4 (0,0)):=by
  rw [World.alloc_heap_new,YG];simp [rV,tJ]
 have hp1:=(hB1.block _ pl).trans hp0
 have hwx:w.heap.size<W.heap.size:=pl
 have QD :=bG hb0 hB1
 generalize (W.alloc (.cells (madeCells #[.bool false] ns.length) 4))=W1 at hB1 hX1 hp1 QD ⊢
 generalize W.heap.size=XB at hX1 hwx ⊢
 have HX1:=aB hX1
 have kH:=aB hp1
 have HB1:=aB QD
 clear hms hb0 hp0 p1 pl hB1 hX1 hp1 QD
 go_wp2_with fail
 go_loopw [6] (fun i wr=>∃ t:Nat,t≤ns.length+1∧i=.int .i64 t∧wr.heap[XB]?=some (.cells (rV ((tJ (xK ns j) ns.length t).map not)) 4 (0,0))∧wr.heap[w.heap.size]?=some (.cells #[.int .i64 r,.slice (some ⟨b,off,none⟩) ns.length cap] 24 (0,0))∧Below w.heap.size w wr) (fun i _=>ns.length+1-(intOf i).toNat)
 case atStart=>exact ⟨0,aF,rfl,HX1.out,kH.out,HB1.out⟩
 case round =>
  clear HX1 kH HB1
  obtain ⟨t,ht,rfl,hX,hP,hB⟩:=hrel
  by_cases htl:t≤ns.length
  ·have hti:(t:Int)≤(ns.length:Int):=by omega
   have HX:=aB hX
   have HP:=aB hP
   have HB:=aB hB
   have HT:Hid (tJ (xK ns j) ns.length (t+1)=XM (xK ns j) ns.length (tJ (xK ns j) ns.length t) ns.length):=rfl
   have HO:=aB (nW (qH ns j) ns.length t)
   clear hX hP hB
   generalize tJ (xK ns j) ns.length t=y0 at HX HT HO
   have HWR:=aB (show IntKind.i64.wrap ((ns.length:Int)-1)=(ns.length:Int)-1 by rw [IntWalk.i64_left];unfold wrap64;omega)
   go_wp2_with fail
   go_loopw [7] (fun i wr=>∃ q:Nat,q≤ns.length∧i=.int .i64 ((ns.length:Int)-1-q)∧wr.heap[XB]?=some (.cells (rV ((XM (xK ns j) ns.length y0 q).map not)) 4 (0,0))∧wr.heap[w.heap.size]?=some (.cells #[.int .i64 r,.slice (some ⟨b,off,none⟩) ns.length cap] 24 (0,0))∧Below w.heap.size w wr) (fun i _=>(intOf i+1).toNat)
   case atStart=>exact ⟨0,aF,by first | (simp;done) | (rw [HWR.out];simp;done) | (unfold wrap64;congr 1;omega),HX.out,HP.out,HB.out⟩
   case round =>
    clear HX HP HB
    obtain ⟨q,hq,rfl,hX,hP,hB⟩:=hrel
    by_cases IU:q<ns.length
    ·obtain ⟨n,hn,ei⟩:∃ n:Nat,n=ns.length-1-q∧(ns.length:Int)-1-q=(n:Int):=⟨ns.length-1-q,rfl,aF⟩
     have hnl:n<ns.length:=by omega
     have HEI:=aB ei
     have HTQ:Hid (XM (xK ns j) ns.length y0 (q+1)=(XM (xK ns j) ns.length y0 q).set (ns.length-1-q) (xK ns j (aM (XM (xK ns j) ns.length y0 q)) (ns.length-1-q))):=rfl
     rw [← hn] at HTQ
     have HNL:=aB (aST HC.out hnl j (aM (XM (xK ns j) ns.length y0 q)))
     have XV:=aB (uP (qH ns j) HO.out q hq).len
     rw [ei]
     generalize XM (xK ns j) ns.length y0 q=y at hX HTQ HNL XV
     have YB:=HN.out.below hB HN.out.lt
     have hgn:=eU hnl
     have hfb:=iR (dJ HC.out hnl) hl.1
     generalize hxx:nd ns n=x at hgn HNL hfb
     clear hxx
     obtain ⟨f1,f2,f3,f4⟩:=hfb
     have d0:=YB.c0 n x hgn
     have d1:=YB.c1 n x hgn
     have d2:=YB.c2 n x hgn
     have d3:=YB.c3 n x hgn
     have d4:=YB.c4 n x hgn
     have d5:=YB.c5 n x hgn
     have dl:=YB.lt
     have p1:=aA hP 1
     simp at p1
     have pl:=aD hP
     have hni:(n:Int)<(ns.length:Int):=by omega
     have hn0:(0:Int)≤(n:Int):=by omega
     obtain ⟨Wx,zW,hbX,lW⟩:=bx1 wr (.cells #[.int .i64 x.op,.int .i64 x.d,.int .i64 x.a,.int .i64 x.b,.int .i64 x.t,.int .i64 x.e] 42)
     have HX:=aB hX
     have HP:=aB hP
     have HB:=aB hB
     have HHN:=aB hn
     clear hX hP hB YB hgn hn ei
     go_upto_region 9 with fail
     have HX2:=aB (bP hbX HX.out)
     have rT:=aB (bP hbX HP.out)
     have HB2:=aB (bG HB.out hbX)
     rw [zW.out]
     clear zW
     generalize wr.heap.size=X at lW ⊢
     have ct:Wx.cell? ⟨XB,x.t.toNat,none⟩=some (.bool (!aM y x.t.toNat)):=by
      rw [aA HX2.out,uQ (by rw [List.length_map,XV.out];omega),wH (by rw [XV.out];omega)]
     have ce:Wx.cell? ⟨XB,x.e.toNat,none⟩=some (.bool (!aM y x.e.toNat)):=by
      rw [aA HX2.out,uQ (by rw [List.length_map,XV.out];omega),wH (by rw [XV.out];omega)]
     have xl:=aD HX2.out
     have y0' :=aA lW 0
     have y4:=aA lW 4
     have y5:=aA lW 5
     simp at y0' y4 y5
     have yl:=aD lW
     have rY:=aB lW
     clear lW d0 d1 d2 d3 d4 d5 dl p1 pl hbX HX HP HB
     generalize (!aM y x.t.toNat)=bt at ct HNL
     generalize (!aM y x.e.toNat)=be at ce HNL
     go_cut [9] from 32 to 53 (fun v9 wy=>v9=.bool ((x.op != 12&&bt)||(x.op==11&&be))∧wy=Wx)
     case first =>
      by_cases h12:x.op=12
      ·have k1:(x.op != 12)=false:=by simp [h12]
       have k2:(x.op==11)=false:=by rw [h12];rfl
       have K1:=aB k1
       have K2:=aB k2
       clear h12
       go_wp2_with fail
       go_meet
       exact ⟨by rw [K1.out,K2.out];rfl,rfl⟩
      ·have k1:(x.op != 12)=true:=by simp [h12]
       have k1' :(x.op==12)=false:=by simp [h12]
       have K1:=aB k1
       clear h12
       cases bt
       ·by_cases h11:x.op=11
        ·have k2:(x.op==11)=true:=by simp [h11]
         have K2:=aB k2
         clear h11
         go_wp2_with fail
         go_meet
         exact ⟨by rw [K1.out,K2.out];rfl,rfl⟩
        ·have k2:(x.op==11)=false:=by simp [h11]
         have K2:=aB k2
         clear h11
         go_wp2_with fail
         go_meet
         exact ⟨by rw [K1.out,K2.out];rfl,rfl⟩
       ·go_wp2_with fail
        go_meet
        exact ⟨by rw [K1.out];rfl,rfl⟩
     case rest =>
      obtain ⟨rfl,rfl⟩:=hcut
      generalize ((x.op != 12&&bt)||(x.op==11&&be))=BH at HNL
      clear ct ce y0' y4 y5 xl yl
      have z0:=aA rY.out 0
      have z1:=aA rY.out 1
      have z2:=aA rY.out 2
      have z3:=aA rY.out 3
      have z4:=aA rY.out 4
      have z5:=aA rY.out 5
      simp at z0 z1 z2 z3 z4 z5
      have zl:=aD rY.out
      have HST:=aB (fun v=>aIM (y.map not) n v)
      have fin:∀ (u:World) (v:Bool),v=(!xK ns j (aM y) n)→Below wc.heap.size wc u→(u.setCell ⟨XB,n,none⟩ (.bool v)).heap[XB]?=some (.cells (rV ((XM (xK ns j) ns.length y0 (q+1)).map not)) 4 (0,0))∧(u.setCell ⟨XB,n,none⟩ (.bool v)).heap[w.heap.size]?=some (.cells #[.int .i64 r,.slice (some ⟨b,off,none⟩) ns.length cap] 24 (0,0))∧Below w.heap.size w (u.setCell ⟨XB,n,none⟩ (.bool v)):=fun u v hv hBu=>by
       have hXu:=bP hBu HX2.out
       refine ⟨?_,?_,?_⟩
       ·rw [aG _ hXu,HST.out,HTQ.out,List.map_set,← hv]
       ·exact (Below.heap_setCell _ _ _ _ (show w.heap.size≠XB by omega)).trans (bP hBu rT.out)
       ·exact (bG HB2.out hBu).setCell (p:=⟨XB,n,none⟩) bF _
      have HFN:=aB fin
      have xcf:∀ u:World,Below wc.heap.size wc u→u.cell? ⟨XB,n,none⟩=some (.bool (!aM y n))∧u.frozen? ⟨XB,n,none⟩=false∧XB<u.heap.size:=fun u hBu=>by
       have hXu:=bP hBu HX2.out
       exact ⟨by rw [aA hXu,uQ (by rw [List.length_map,XV.out];omega),wH (by rw [XV.out];omega)],aC hXu n,aD hXu⟩
      have XCF:=aB xcf
      clear fin xcf
      have HRU:=aB (fun u=>aIK x j u)
      have HRS:=aB (fun u=>aIL x j u)
      have HXC:=aB (fun (u:World) (hB:Below wc.heap.size wc u)=>(show u.cell? ⟨X,0,none⟩=some (.int .i64 x.op)∧u.cell? ⟨X,1,none⟩=some (.int .i64 x.d)∧u.cell? ⟨X,2,none⟩=some (.int .i64 x.a)∧u.cell? ⟨X,3,none⟩=some (.int .i64 x.b)∧u.cell? ⟨X,4,none⟩=some (.int .i64 x.t)∧u.cell? ⟨X,5,none⟩=some (.int .i64 x.e)∧X<u.heap.size from ⟨(hB.cell (p:=⟨X,0,none⟩) zl).trans z0,(hB.cell (p:=⟨X,1,none⟩) zl).trans z1,(hB.cell (p:=⟨X,2,none⟩) zl).trans z2,(hB.cell (p:=⟨X,3,none⟩) zl).trans z3,(hB.cell (p:=⟨X,4,none⟩) zl).trans z4,(hB.cell (p:=⟨X,5,none⟩) zl).trans z5,Nat.lt_of_lt_of_le zl hB.size⟩))
      generalize XG x j=U at HNL HRU
      generalize XH x j=S at HNL HRS
      have hwn:IntKind.i64.wrap ((n:Int)-1)=(n:Int)-1:=by rw [IntWalk.i64_left];unfold wrap64;omega
      have HW1:=aB (show wrap64 ((n:Int)-1)=(ns.length:Int)-1-((q+1:Nat):Int) by have:=HEI.out;unfold wrap64;omega)
      go_wp2_with fail
      refine (HRU.out _).mono ?_
      rintro e w3 ⟨rfl,hb3⟩
      obtain ⟨g0,g1,g2,g3,g4,g5,gl⟩:=HXC.out _ hb3
      obtain ⟨e0,e1,e2⟩:=XCF.out _ hb3
      clear z0 z1 z2 z3 z4 z5 zl
      cases U
      ·go_wp2_with fail
       refine (HRS.out _).mono ?_
       rintro e w4 ⟨rfl,hb4⟩
       have hB4:=bG hb3 hb4
       obtain ⟨e0,e1,e2⟩:=XCF.out _ hB4
       clear g0 g1 g2 g3 g4 g5 gl
       cases S
       ·have H:=aB (HFN.out w4 BH (by rw [HNL.out];simp) hB4)
        clear hb3 hb4
        go_wp2_with fail
        go_roundw
        case rel=>exact ⟨q+1,aF,by first | (rw [HW1.out];done) | (rw [← HW1.out];rfl) | (congr 1;have:=HEI.out;omega),H.out.1,H.out.2.1,H.out.2.2⟩
        case measure=>first | (simp [intOf];done) | (simp [intOf];omega)
       ·have H:=aB (HFN.out w4 false (by rw [HNL.out];simp) hB4)
        clear hb3 hb4
        go_wp2_with fail
        go_roundw
        case rel=>exact ⟨q+1,aF,by first | (rw [HW1.out];done) | (rw [← HW1.out];rfl) | (congr 1;have:=HEI.out;omega),H.out.1,H.out.2.1,H.out.2.2⟩
        case measure=>first | (simp [intOf];done) | (simp [intOf];omega)
      ·have H:=aB (HFN.out w3 true (by rw [HNL.out];simp) hb3)
       clear hb3 g0 g1 g2 g3 g4 g5 gl
       go_wp2_with fail
       go_roundw
       case rel=>exact ⟨q+1,aF,by first | (rw [HW1.out];done) | (rw [← HW1.out];rfl) | (congr 1;have:=HEI.out;omega),H.out.1,H.out.2.1,H.out.2.2⟩
       case measure=>first | (simp [intOf];done) | (simp [intOf];omega)
    ·have eq:q=ns.length:=by omega
     subst eq
     have HX:=aB hX
     have HP:=aB hP
     have HB:=aB hB
     clear hX hP hB
     have h0:¬ (0:Int)≤(ns.length:Int)-1-(ns.length:Int):=by omega
     go_wp2_with fail
     go_roundw
     case rel=>exact ⟨t+1,aF,by go_num,by rw [HT.out];exact HX.out,HP.out,HB.out⟩
     case measure=>simp [intOf];omega
  ·have et:t=ns.length+1:=by omega
   subst et
   rw [aYA] at hX
   have hti:¬ ((ns.length+1:Nat):Int)≤(ns.length:Int):=by omega
   have HX:=aB hX
   have HB:=aB hB
   clear hX hP hB
   go_wp2
   go_ret
   exact ⟨XB,rfl,HX.out,HB.out⟩
theorem dS.congr {w:World} {base rb L:Nat} {vs:List Value} {f g:Nat→List Int} (h:dS w base rb L vs f) (e:∀ m,m<L→f m=g m):dS w base rb L vs g :=
 ⟨h.blk,h.len,fun m v hv=>by
  rw [← e m (by rw [← h.len];exact (List.getElem?_eq_some_iff.1 hv).1)];exact h.own m v hv,h.apart⟩
theorem aIN {w:World} {base rb L:Nat} {f:Nat→List Int} (h:w.heap[rb]?=some (.cells (madeCells #[Value.slice none 0 0] L) 25 (0,0))) (hf:∀ m,f m=[]):dS w base rb L (List.replicate L (.slice none 0 0)) f:=by
 refine ⟨by rw [h,uI],aQ,fun m v hv=>?_,fun m1 m2 v1 v2 g h1 h2 e1 e2=>?_⟩
 ·obtain rfl:=List.eq_of_mem_replicate (List.mem_of_getElem? hv)
  rw [hf];exact World.ownsRow_nil _ _ _ _
 ·obtain rfl:=List.eq_of_mem_replicate (List.mem_of_getElem? h1)
  simp [Value.ownBlock] at e1
def qN (ns:List Nd) (g m:Nat):Nat→List Int:=fun n=>ints (pJ ns (if n<m then g+1 else g) n)
theorem NQ (ns:List Nd) (g:Nat):qN ns g 0=fun n=>ints (pJ ns g n):=by funext n;simp [qN]
theorem aPI (ns:List Nd) (g:Nat) {n:Nat} (h:n<ns.length):qN ns g ns.length n=ints (pJ ns (g+1) n):=by simp [qN,h]
theorem NR (ns:List Nd) (g m:Nat) {n:Nat} (h:n≠m):qN ns g (m+1) n=qN ns g m n:=by
 unfold qN
 by_cases q:n<m
 ·simp [q,show n<m+1 by omega]
 ·simp [q,show ¬ n<m+1 by omega]
theorem aTN (ns:List Nd) (g m:Nat) (h:jE ns g m=false) (n:Nat):qN ns g m n=qN ns g (m+1) n:=by
 by_cases e:n=m
 ·subst e
  simp only [qN,Nat.lt_irrefl,if_false,show n<n+1 by omega,if_true]
  rw [XL,h];simp
 ·exact (NR ns g m e).symm
theorem aPJ (ns:List Nd) (g m:Nat) (h:jE ns g m=true):qN ns g (m+1) m=ints (pJ ns g m)++[(g:Int)]∧qN ns g m m=ints (pJ ns g m):=by
 constructor
 ·simp only [qN,show m<m+1 by omega,if_true]
  rw [XL,h];simp [ints]
 ·simp [qN]
theorem aEY (ns:List Nd) (g n:Nat):(pJ ns g n).length≤g:=Nat.le_trans (List.length_filter_le _ _) aQ
theorem aCO (r:Int) (b off cap:Nat) (ns:List Nd) (w:World) (hN:aH w b off ns) (hc:bM r ns=0) :
 Calls Tryz.prog 44 #[.agg #[.int .i64 r,.slice (some ⟨b,off,none⟩) ns.length cap]] w fun e w' =>∃ rb,e=.returned (.slice (some ⟨rb,0,none⟩) ns.length ns.length)∧fQ w' rb ns.length (pJ ns r.toNat)∧Below w.heap.size w w' :=by
 obtain ⟨i0,hi,hz0,hz1,hz2⟩:=info_parts fZ
 have hl:=(bE hc).1
 have hr:=(bE hc).2.1
 have hms:∀ W:World,Sem.run Tryz.prog (Instr.makeSlice 71 (.int .i64 (ns.length:Int)) (.int .i64 (ns.length:Int))) W=.ok (.slice (some ⟨W.heap.size,0,none⟩) ns.length ns.length) (W.alloc (.cells (madeCells #[.slice none 0 0] ns.length) 25)):=fun W=>run_make_row' 71 25 _ 24 Tryz.underlying71 uH rfl .i64 .i64 ns.length aF aF W
 obtain ⟨W,HV5,hb0,hp0⟩:=bx1 w (.cells #[.int .i64 r,.slice (some ⟨b,off,none⟩) ns.length cap] 24)
 have HN:=aB hN
 have HC:=aB hc
 clear hN hc
 go_enter Tryz.func44,Tryz.ntmps44
 go_upto_region 1 with fail
 rw [HV5.out]
 clear HV5
 have p1:=aA hp0 1
 simp at p1
 have pl:=aD hp0
 go_upto_region 2 with fail
 have hB1:Below W.heap.size W (W.alloc (.cells (madeCells #[.slice none 0 0] ns.length) 25)):=dY
 have hR1:dS (W.alloc (.cells (madeCells #[.slice none 0 0] ns.length) 25)) w.heap.size W.heap.size ns.length (List.replicate ns.length (.slice none 0 0)) (qN ns 0 0):=aIN (World.alloc_heap_new W _) (fun m=>by simp [qN,pJ,ints])
 have hp1:=(hB1.block _ pl).trans hp0
 have hwx:w.heap.size<W.heap.size:=pl
 have QD :=bG hb0 hB1
 generalize (W.alloc (.cells (madeCells #[.slice none 0 0] ns.length) 25))=W1 at hB1 hR1 hp1 QD ⊢
 generalize W.heap.size=RB at hR1 hwx ⊢
 have HR1:=aB hR1
 have kH:=aB hp1
 have HB1:=aB QD
 clear hms hb0 hp0 p1 pl hB1 hR1 hp1 QD
 go_wp2_with fail
 go_loopw [4] (fun i wr=>∃ g:Nat,(g:Int)≤r∧i=.int .i64 g∧(∃ vs,dS wr w.heap.size RB ns.length vs (qN ns g 0))∧wr.heap[w.heap.size]?=some (.cells #[.int .i64 r,.slice (some ⟨b,off,none⟩) ns.length cap] 24 (0,0))∧Below w.heap.size w wr) (fun i _=>r.toNat-(intOf i).toNat)
 case atStart=>exact ⟨0,aF,rfl,⟨_,HR1.out⟩,kH.out,HB1.out⟩
 case round =>
  clear HR1 kH HB1
  obtain ⟨g,hg,rfl,⟨vs,hR⟩,hP,hB⟩:=hrel
  have p0:=aA hP 0
  have p1:=aA hP 1
  simp at p0 p1
  have pl:=aD hP
  by_cases hgl:(g:Int)<r
  ·have HR:=aB hR
   have HP:=aB hP
   have HB:=aB hB
   have HLA:=aB (aCN r b off cap ns g wr (HN.out.below hB HN.out.lt) HC.out)
   clear hR hP hB
   go_upto_region 6 with (go_at_call 79;refine HLA.out.mono ?_;rintro e w2 ⟨xb,rfl,hX2,hb2⟩)
   have HR2:=aB (HR.out.below hb2)
   have rT:=aB (bP hb2 HP.out)
   have HB2:=aB (bG HB.out hb2)
   have HX2:=aB hX2
   clear HR HP HB hX2 hb2 p0 p1 pl HLA
   go_wp2_with fail
   go_loopw [6] (fun i wr=>∃ m:Nat,m≤ns.length∧i=.int .i64 m∧(∃ vs,dS wr w.heap.size RB ns.length vs (qN ns g m))∧wr.heap[xb]?=some (.cells (rV (lvR ns g)) 4 (0,0))∧wr.heap[w.heap.size]?=some (.cells #[.int .i64 r,.slice (some ⟨b,off,none⟩) ns.length cap] 24 (0,0))∧Below w.heap.size w wr) (fun i _=>ns.length-(intOf i).toNat)
   case atStart=>exact ⟨0,aF,rfl,⟨_,HR2.out⟩,HX2.out,rT.out,HB2.out⟩
   case round =>
    clear HR2 rT HB2 HX2
    obtain ⟨m,hm,rfl,⟨vs,hR⟩,hX,hP,hB⟩:=hrel
    by_cases jP:m<ns.length
    ·have KW:(m:Int)<(ns.length:Int):=by omega
     have xc:wr.cell? ⟨xb,m,none⟩=some (.bool (jE ns g m)):=by rw [aA hX,uQ (by rw [aSR];exact jP),aEO jP]
     have xl:=aD hX
     have HR:=aB hR
     have HX:=aB hX
     have HP:=aB hP
     have HB:=aB hB
     cases hlv:jE ns g m
     ·rw [hlv] at xc
      have HNO:=aB (aTN ns g m hlv)
      clear hR hX hP hB hlv
      go_wp2_with fail
      go_roundw
      case rel=>exact ⟨m+1,aF,by go_num,⟨vs,HR.out.congr fun n _=>HNO.out n⟩,HX.out,HP.out,HB.out⟩
      case measure=>simp [intOf];omega
     ·rw [hlv] at xc
      have aYU:=aPJ ns g m hlv
      obtain ⟨v,hv⟩:∃ v,vs[m]?=some v:=⟨_,List.getElem?_eq_getElem (by rw [hR.len];exact jP)⟩
      have hown:=hR.own m v hv
      rw [aYU.2] at hown
      obtain ⟨va,vc,rfl⟩:=aU hown
      have rc:wr.cell? ⟨RB,m,none⟩=some (.slice va (ints (pJ ns g m)).length vc):=by rw [aA hR.blk,List.getElem?_toArray];exact hv
      have rf:=aC hR.blk m
      have rl:=aD hR.blk
      have PZ:(pJ ns g m).length≤64:=Nat.le_trans (aEY ns g m) aF
      have HLE:=aB (show (ints (pJ ns g m)).length≤64 by rw [bX];exact PZ)
      have HO:=aB hown
      have HV:=aB hv
      have HY:=aB aYU.1
      have hsz:=hB.size
      have HNW:=aB (World.alloc_heap_new wr (.cells #[.int .i64 g] 3))
      have hbA:Below wr.heap.size wr (wr.alloc (.cells #[.int .i64 g] 3)):=dY
      have HRA:=aB (hR.below hbA)
      have HXA:=aB ((hbA.block _ xl).trans hX)
      have HPA:=aB (bP hbA hP)
      have HBA:=aB (hB.trans (hbA.mono hsz))
      have bLR:RB<wr.heap.size:=rl
      clear hR hX hP hB hlv aYU hown hv PZ HR HX HP HB
      go_wp2_with (at_builtin;refine wpList_append_own_at _ rfl (.tmp 35) (.tmp 37) 25 rfl w.heap.size 3 i0 (.int .i64 0) 1 8 Tryz.underlying25 hi hz0 hz1 hz2 rfl aL _ _ _ rfl (HO.out.alloc _) ⟨wr.heap.size,0,none⟩ 1 1 [.int .i64 g] rfl rfl ?c1 ?c2 ?c3 ?c4 ?c5 ?_)
      case c1 =>
       intro j u hj
       match j,hj with
       | 0,hj=>simp at hj;subst hj;exact aA HNW.out 0
      case c2=>intro u hu;simp at hu;subst hu;rfl
      case c3=>have:=HLE.out;unfold maxLen;omega
      case c4=>have:=HLE.out;omega
      case c5=>simp;omega
      intro v' w3 hown3 hg3 _ a4V
      obtain ⟨g', cap', rfl⟩:∃ g' cap', v' =.slice (some ⟨g', 0,none⟩) ((ints (pJ ns g m)).length+1) cap' :=by
       rcases hown3.2 with ⟨_,q⟩ | ⟨g', cap', cur,rfl,_⟩
       ·omega
       ·exact ⟨g', cap', rfl⟩
      have hlt3:=(HO.out.alloc (.cells #[.int .i64 g] 3)).lt
      have hB3:Below w.heap.size w w3:=HBA.out.grown hg3 HBA.out.size (fun k hk=>(hlt3 k hk).1)
      have neX:=dF (HO.out.alloc (.cells #[.int .i64 g] 3)) HXA.out aL
      have neP:=dF (HO.out.alloc (.cells #[.int .i64 g] 3)) HPA.out aL
      have neR:=dF (HO.out.alloc (.cells #[.int .i64 g] 3)) HRA.out.blk aL
      have hX3:=(hg3.block _ (aD HXA.out) neX).trans HXA.out
      have hP3:=(hg3.block _ (aD HPA.out) neP).trans HPA.out
      have aIO:=(hg3.block _ (aD HRA.out.blk) neR).trans HRA.out.blk
      have rc3:w3.cell? ⟨RB,m,none⟩=some (.slice va (ints (pJ ns g m)).length vc):=by rw [aA aIO,List.getElem?_toArray];exact HV.out
      have rf3:=aC aIO m
      have rl3:=aD aIO
      have hrw:dS (w3.setCell ⟨RB,m,none⟩ (.slice (some ⟨g', 0,none⟩) ((ints (pJ ns g m)).length+1) cap')) w.heap.size RB ns.length (vs.set m (.slice (some ⟨g', 0,none⟩) ((ints (pJ ns g m)).length+1) cap')) (qN ns g (m+1)):=by
       have e2:(qN ns g (m+1) m).length=(ints (pJ ns g m)).length+1:=by rw [HY.out];simp
       rw [← e2]
       refine dS.grow HRA.out HV.out hg3 ?_ ?_ fun j hj=>NR ns g m hj
       ·rcases a4V with h | h
        ·left;rw [← h];rfl
        ·right
         simp only [Value.ownBlock,Option.some.injEq] at h
         rw [h];simp
       ·rw [e2,HY.out,List.map_append];exact hown3
      have H3:=aB (And.intro hrw (And.intro ((Below.heap_setCell w3 ⟨RB,m,none⟩ (.slice (some ⟨g', 0,none⟩) ((ints (pJ ns g m)).length+1) cap') xb (oP hX3 aIO aL)).trans hX3) (And.intro ((Below.heap_setCell w3 ⟨RB,m,none⟩ (.slice (some ⟨g', 0,none⟩) ((ints (pJ ns g m)).length+1) cap') w.heap.size (oP hP3 aIO aL)).trans hP3) (hB3.setCell (p:=⟨RB,m,none⟩) (Nat.le_of_lt hwx) (.slice (some ⟨g', 0,none⟩) ((ints (pJ ns g m)).length+1) cap')))))
      clear hown3 hg3 a4V hlt3 hB3 neX neP neR hX3 hP3 aIO hrw HRA HXA HPA HBA HO
      go_wp2_with fail
      go_roundw
      case rel=>exact ⟨m+1,aF,by go_num,⟨_,H3.out.1⟩,H3.out.2.1,H3.out.2.2.1,H3.out.2.2.2⟩
      case measure=>simp [intOf];omega
    ·have em:m=ns.length:=by omega
     subst em
     have HR:=aB hR
     have HP:=aB hP
     have HB:=aB hB
     clear hR hX hP hB
     go_wp2_with fail
     go_roundw
     case rel=>exact ⟨g+1,aF,by go_num,⟨vs,HR.out.congr fun n hn=>by rw [aPI ns g hn,NQ]⟩,HP.out,HB.out⟩
     case measure=>simp [intOf];omega
  ·have eg:(g:Int)=r:=by omega
   have hgn:g=r.toNat:=by omega
   have HR:=aB hR
   have HB:=aB hB
   have HGN:=aB hgn
   clear hR hP hB eg hgn
   go_wp2
   go_ret
   refine ⟨RB,rfl,⟨vs,HR.out.blk,HR.out.len,fun n v hv=>?_⟩,HB.out⟩
   have:=HR.out.own n v hv
   rw [NQ] at this
   rw [← HGN.out]
   exact aK this (Nat.zero_le _)
theorem oU (r:Int) (b off cap:Nat) (ns:List Nd) (w:World) (hN:aH w b off ns) (hl:1≤ns.length∧ns.length≤256) :
 Calls Tryz.prog 17 #[.agg #[.int .i64 r,.slice (some ⟨b,off,none⟩) ns.length cap]] w fun e w' =>∃ cb cc,e=.returned (.agg #[.int .i64 r,.slice (some ⟨cb,0,none⟩) ns.length cc])∧w'.ownsRow w.heap.size 42 6 (.slice (some ⟨cb,0,none⟩) ns.length cc) ns.length (ns.flatMap aP)∧Below w.heap.size w w' :=by
 refine (callsIn_wide.1 (ER r b off cap ns w hN aF)).mono ?_
 rintro e w' ⟨v,rfl,hv,hB⟩
 rcases hv.2 with ⟨_,q⟩ | ⟨g,vc,cur,rfl,_⟩
 ·omega
 ·exact ⟨g,vc,rfl,hv,hB⟩
structure DQ (w:World) (r:Int) (ns:List Nd) (cb cc QB:Nat) (ms:List Nd) (wr:World):Prop where
 res:wr.heap[w.heap.size+1]?=some (.cells #[.int .i64 0,.slice none 0 0] 24 (0,0))
 qb:wr.heap[QB]?=some (.cells #[.int .i64 r,.slice (some ⟨cb,0,none⟩) ns.length cc] 24 (0,0))
 own:wr.ownsRow w.heap.size 42 6 (.slice (some ⟨cb,0,none⟩) ns.length cc) ns.length (ms.flatMap aP)
 bel:Below w.heap.size w wr
theorem DQ.below {w:World} {r:Int} {ns:List Nd} {cb cc QB:Nat} {ms:List Nd} {wr wx:World} (h:DQ w r ns cb cc QB ms wr) (hB:Below wr.heap.size wr wx):DQ w r ns cb cc QB ms wx :=
 ⟨bP hB h.res,bP hB h.qb,ownsRow_below h.own hB dD,bG h.bel hB⟩
theorem DQ.nodes {w:World} {r:Int} {ns:List Nd} {cb cc QB:Nat} {ms:List Nd} {wr:World} (h:DQ w r ns cb cc QB ms wr) (hl:ms.length=ns.length) (h1:1≤ns.length):aH wr cb 0 ms:=by
 have ho:=h.own
 rw [← hl] at ho
 exact NP ho aF
theorem DQ.cur {w:World} {r:Int} {ns:List Nd} {cb cc QB:Nat} {ms:List Nd} {wr:World} (h:DQ w r ns cb cc QB ms wr):∃ cur,wr.heap[cb]?=some (.cells cur 42 (0,0))∧w.heap.size≤cb:=by
 rcases h.own.2 with ⟨q,_⟩ | ⟨g,c,cur,q,a1,a2,_⟩
 ·cases q
 ·cases q;exact ⟨cur,a2,a1⟩
theorem DQ.write {w:World} {r:Int} {ns:List Nd} {cb cc QB:Nat} {ms:List Nd} {wr:World} (h:DQ w r ns cb cc QB ms wr) (hl:ms.length=ns.length) {k:Nat} (hk:k<ns.length) (y:Nd):DQ w r ns cb cc QB (ms.set k y) (sixN wr cb k y):=by
 obtain ⟨cur,mR,hge⟩:=h.cur
 have n2:w.heap.size+1≠cb:=oP h.res mR aL
 have n3:QB≠cb:=oP h.qb mR aL
 have ho:=h.own
 rw [← hl] at ho
 have hw:=pX (y:=y) ho (j:=k) aF
 rw [List.length_set,hl] at hw
 exact ⟨(gQ n2).trans h.res,(gQ n3).trans h.qb,hw,h.bel.trans (pY wr k y hge)⟩
def aPK:Value→Bool | .bool b=>b | _=>false
theorem any_take_succ {l:List Int} {q:Nat} {z d:Int} (h:l[q]?=some z):(l.take (q+1)).any (fun y=>y==d)=((l.take q).any (fun y=>y==d)||z==d):=by
 rw [List.take_add_one,h,List.any_append];simp
theorem aTO {r:Int} {ms:List Nd} {d:Int} (h0:0≤d∧d<r) (t:Nat):(ints (pJ ms r.toNat t)).any (fun y=>y==d)=jE ms d.toNat t:=by
 have key:(ints (pJ ms r.toNat t)).any (fun y=>y==d)=true↔jE ms d.toNat t=true:=by
  simp only [List.any_eq_true,ints,List.mem_map,beq_iff_eq]
  constructor
  ·rintro ⟨y,⟨j,hj,rfl⟩,e⟩
   have:=(aEN.1 hj).2
   rw [← e];simpa using this
  ·intro h
   exact ⟨d,⟨d.toNat,aEN.2 ⟨aF,h⟩,aF⟩,rfl⟩
 cases a:(ints (pJ ms r.toNat t)).any (fun y=>y==d) <;> cases b:jE ms d.toNat t
 ·rfl
 ·rw [key.2 b] at a;cases a
 ·rw [key.1 a] at b;cases b
 ·rfl
theorem aCP (r:Int) (b off cap:Nat) (ns:List Nd) (w:World) (hN:aH w b off ns) (hc:bM r ns=0) :
 Calls Tryz.prog 20 #[.agg #[.int .i64 r,.slice (some ⟨b,off,none⟩) ns.length cap]] w fun e w' =>∃ cb cc,e=.returned (.agg #[.int .i64 r,.slice (some ⟨cb,0,none⟩) ns.length cc])∧w'.ownsRow w.heap.size 42 6 (.slice (some ⟨cb,0,none⟩) ns.length cc) ns.length ((gT ns).flatMap aP)∧Below w.heap.size w w' :=by
 have hl:=(bE hc).1
 have JF:=aB (fun W (h:Below w.heap.size w W)=>oU r b off cap ns W (hN.below h hN.lt) hl)
 obtain ⟨W0,jU,hb0,hp0,hz0⟩:=VP w (.cells #[.int .i64 r,.slice (some ⟨b,off,none⟩) ns.length cap] 24) (.cells #[.int .i64 0,.slice none 0 0] 24)
 have HC:=aB hc
 clear hN hc
 go_enter Tryz.func20,Tryz.ntmps20
 go_upto_region 1 with fail
 rw [jU.out]
 clear jU
 have p0:=aA hp0 0
 have p1:=aA hp0 1
 simp at p0 p1
 have pl:=aD hp0
 have HB0:=aB hb0
 have HZ0:=aB hz0
 clear hb0 hp0 hz0
 go_upto_region 2 with (go_at_call 17;refine (JF.out _ HB0.out).mono ?_;rintro e w1 ⟨cb,cc,rfl,hV,hb1⟩)
 have hx:Below w1.heap.size w1 (w1.alloc (.cells #[.int .i64 r,.slice (some ⟨cb,0,none⟩) ns.length cc] 24)):=dY
 have hB1:=bG hb1 hx
 have HQ0:Hid (DQ w r ns cb cc w1.heap.size ns (w1.alloc (.cells #[.int .i64 r,.slice (some ⟨cb,0,none⟩) ns.length cc] 24))):=⟨bP hB1 HZ0.out,World.alloc_heap_new w1 _,(aK hV HB0.out.size).alloc _,bG HB0.out hB1⟩
 generalize (w1.alloc (.cells #[.int .i64 r,.slice (some ⟨cb,0,none⟩) ns.length cc] 24))=W1 at HQ0 ⊢
 generalize w1.heap.size=QB at HQ0 ⊢
 clear p0 p1 pl hV hb1 hx hB1 HB0 HZ0 JF
 go_wp2_with fail
 go_loopw [4] (fun c wr=>∃ ms d,c=.bool d∧dC ns ms∧gT ms=gT ns∧(d=false→nU ms ns.length=false)∧DQ w r ns cb cc QB ms wr) (fun c wr=>if aPK c then aPD wr cb ns.length+1 else 0)
 case atStart=>exact ⟨ns,true,rfl,dC.refl ns,rfl,(fun h=>by cases h),HQ0.out⟩
 case round =>
  clear HQ0
  obtain ⟨ms,d,rfl,hD,hS,hda,hQ⟩:=hrel
  have q0:=aA hQ.qb 0
  have q1:=aA hQ.qb 1
  simp at q0 q1
  have ql:=aD hQ.qb
  have tK:=aB hD.len
  have HD:=aB hD
  have HS:=aB hS
  have HDA:=aB hda
  have HQ:=aB hQ
  clear hD hS hda hQ
  cases d
  ·have z0:=aA HQ.out.res 0
   have z1:=aA HQ.out.res 1
   simp at z0 z1
   have zl:=aD HQ.out.res
   have zf0:=aC HQ.out.res 0
   have zf1:=aC HQ.out.res 1
   go_wp2_with fail
   have k0:=aG (i:=0) (.int .i64 r) HQ.out.res
   have k1:=aG (i:=1) (.slice (some ⟨cb,0,none⟩) ns.length cc) k0
   have T0:=aI (o:=1) (u:=.slice (some ⟨cb,0,none⟩) ns.length cc) (aI (o:=0) (u:=.int .i64 r) HQ.out.own HQ.out.res aL) k0 aL
   have nA:=(HQ.out.bel.setCell (p:=⟨w.heap.size+1,0,none⟩) aQ (.int .i64 r)).setCell (p:=⟨w.heap.size+1,1,none⟩) aQ (.slice (some ⟨cb,0,none⟩) ns.length cc)
   simp only [List.setIfInBounds_toArray,List.set_cons_zero,List.set_cons_succ] at k1
   generalize ((wr.setCell ⟨w.heap.size+1,0,none⟩ (.int .i64 r)).setCell ⟨w.heap.size+1,1,none⟩ (.slice (some ⟨cb,0,none⟩) ns.length cc))=Wf at k1 T0 nA ⊢
   have y0:=aA k1 0
   have y1:=aA k1 1
   simp at y0 y1
   have hfix:ms=gT ns:=by
    have h1:=HDA.out (by first | rfl | trivial)
    rw [← tK.out] at h1
    rw [← HS.out,MQ h1]
   rw [hfix] at T0
   exact bodyPost_ret (v:=.agg #[.int .i64 r,.slice (some ⟨cb,0,none⟩) ns.length cc]) (by simp [results,Tryz.results20,go_sem,y0,y1]) rfl ⟨cb,cc,rfl,T0,nA⟩
  ·have hcm:=HD.out.bM HC.out
   have hlo:=aCO r cb 0 cc ms wr (HQ.out.nodes tK.out hl.1) hcm
   rw [tK.out] at hlo
   have HLO:=aB hlo
   have HCM:=aB hcm
   have HMU:=aB (xS (HQ.out.nodes tK.out hl.1))
   rw [tK.out] at HMU
   clear hcm hlo
   go_upto_region 6 with (go_at_call 44;refine HLO.out.mono ?_;rintro e w2 ⟨rb,rfl,hR2,hb2⟩)
   have HQ2:=aB (HQ.out.below hb2)
   have HR2:=aB hR2
   clear q0 q1 ql hR2 hb2 HLO
   go_wp2_with fail
   go_loopw [4,6] (fun c i wr=>∃ k:Nat,k≤ns.length∧i=.int .i64 k∧c=.bool (nU ms k)∧DQ w r ns cb cc QB (fB ms k) wr∧fQ wr rb ns.length (pJ ms r.toNat)) (fun _ i _=>ns.length-(intOf i).toNat)
   case atStart=>exact ⟨0,aF,rfl,rfl,by rw [zX];exact HQ2.out,HR2.out⟩
   case round =>
    clear HQ2 HR2
    obtain ⟨k,hk,rfl,rfl,hQ3,hR3⟩:=hrel
    have q1:=aA hQ3.qb 1
    simp at q1
    have ql:=aD hQ3.qb
    by_cases hlt:k<ns.length
    ·obtain ⟨cur,mR,hge⟩:=hQ3.cur
     have hkm:k<ms.length:=by rw [tK.out];exact hlt
     have kC:=hQ3.nodes (by rw [bN,tK.out]) hl.1
     have hgn:(fB ms k)[k]?=some (nd ms k):=by rw [eU (by rw [bN];exact hkm),xM hkm]
     have HF:=aB (dJ HCM.out hkm)
     have HT:=aB (zY hkm)
     have HA:=aB (GI ms k)
     have HDI:Hid (dies ms k=(wi (nd ms k).op 1 8&&!jE ms (nd ms k).d.toNat (nd ms k).t.toNat)):=rfl
     generalize hxx:nd ms k=x at hgn HF HT HDI
     clear hxx
     have d0:=kC.c0 k x hgn
     have d1:=kC.c1 k x hgn
     have d2:=kC.c2 k x hgn
     have d3:=kC.c3 k x hgn
     have d4:=kC.c4 k x hgn
     have d5:=kC.c5 k x hgn
     simp only [Nat.zero_add] at d0 d1 d2 d3 d4 d5
     have dl:=kC.lt
     have hki:(k:Int)<(ns.length:Int):=by omega
     obtain ⟨Wx,oG,hbX,lW⟩:=bx1 wr (.cells #[.int .i64 x.op,.int .i64 x.d,.int .i64 x.a,.int .i64 x.b,.int .i64 x.t,.int .i64 x.e] 42)
     have HQ3:=aB hQ3
     have HR3:=aB hR3
     clear hQ3 hR3 kC hgn mR
     go_upto_region 10 with fail
     have HQ4:=aB (HQ3.out.below hbX)
     have HR4:=aB (HR3.out.below hbX)
     rw [oG.out]
     clear oG
     generalize wr.heap.size=X at lW ⊢
     clear d0 d1 d2 d3 d4 d5 dl q1 ql hbX HQ3 HR3
     have y0:=aA lW 0
     have y1:=aA lW 1
     have y4:=aA lW 4
     simp at y0 y1 y4
     have yl:=aD lW
     have EQ:=aB lW
     clear lW
     have HWI:=aB (dZ x.op 1 8 Wx)
     cases hop:wi x.op 1 8
     ·rw [hop] at HWI HDI
      have HDF:=aB (show dies ms k=false by rw [HDI.out];rfl)
      rw [HDF.out] at HT HA
      clear hop
      go_wp2_with fail
      refine HWI.out.mono ?_
      rintro e wz ⟨rfl,hwz⟩
      subst wz
      go_wp2_with fail
      go_roundw
      case rel=>exact ⟨k+1,aF,by go_num,by rw [HA.out];simp,by rw [HT.out];exact HQ4.out,HR4.out⟩
      case measure=>simp [intOf];omega
     ·have hop' :=aY.1 hop
      have ht:=HF.out.t aF
      rw [tK.out] at ht
      have hd:=HF.out.d aF aF
      obtain ⟨ra,rc,hrc,hI⟩:=HR4.out.read.row x.t.toNat aF
      have hrl:=HR4.out.read.lt
      have t0:0≤x.t:=by omega
      have t1:x.t<(ns.length:Int):=by omega
      have PZ:(pJ ms r.toNat x.t.toNat).length≤64:=Nat.le_trans (aEY _ _ _) (by have:=(bE HC.out).2.1;omega)
      have VX:=aB (aTO hd x.t.toNat (ms:=ms))
      rw [hop] at HWI HDI
      have HI:=aB hI
      have HIL:=aB (bX (pJ ms r.toNat x.t.toNat))
      clear hop hop' ht hd hI
      go_wp2_with fail
      refine HWI.out.mono ?_
      rintro e wz ⟨rfl,hwz⟩
      subst wz
      go_wp2_with fail
      go_loopw [9,10] (fun c i wr=>∃ q:Nat,q≤(pJ ms r.toNat x.t.toNat).length∧i=.int .i64 q∧c=.bool (((ints (pJ ms r.toNat x.t.toNat)).take q).any fun y=>y==x.d)∧∃ n,wr=Wx.drewN n) (fun _ i _=>(pJ ms r.toNat x.t.toNat).length-(intOf i).toNat)
      case atStart=>exact ⟨0,aF,rfl,rfl,0,rfl⟩
      case round =>
       obtain ⟨q,hq,rfl,rfl,n,rfl⟩:=hrel
       by_cases IU:q<(pJ ms r.toNat x.t.toNat).length
       ·have hpos:q<(ints (pJ ms r.toNat x.t.toNat)).length:=by rw [HIL.out];exact IU
        obtain ⟨z,hz⟩:=bD hpos
        obtain ⟨ib,io,rfl,hil,hic⟩:=HI.out.at hpos
        have c1:=hic q z hz
        have vJ:=aB (any_take_succ (d:=x.d) hz)
        have hqi:(q:Int)<((pJ ms r.toNat x.t.toNat).length:Int):=by omega
        clear hic hz hpos
        cases hsf:((ints (pJ ms r.toNat x.t.toNat)).take q).any fun y=>y==x.d
        ·rw [hsf] at vJ
         clear hsf
         go_wp2
         go_quiet (fail)
         go_wp2
         go_roundw
         case rel=>exact ⟨q+1,aF,by go_num,by rw [vJ.out];simp,n+nq,by first | rfl | (simp only [World.drewN_drewN])⟩
         case measure=>simp [intOf];omega
        ·rw [hsf] at vJ
         clear hsf
         go_wp2
         go_quiet (fail)
         go_wp2
         go_roundw
         case rel=>exact ⟨q+1,aF,by go_num,by rw [vJ.out];simp,n+nq,by first | rfl | (simp only [World.drewN_drewN])⟩
         case measure=>simp [intOf];omega
       ·have eq:q=(pJ ms r.toNat x.t.toNat).length:=by omega
        subst eq
        have e1:(ints (pJ ms r.toNat x.t.toNat)).take (pJ ms r.toNat x.t.toNat).length=ints (pJ ms r.toNat x.t.toNat):=List.take_of_length_le (by rw [HIL.out];exact Nat.le_refl _)
        rw [e1,VX.out]
        have hBd:=below_drewN (Below.refl Wx.heap.size Wx) n
        have HQ5:=aB (HQ4.out.below hBd)
        have HR5:=aB (HR4.out.below hBd)
        have WU:=aB ((hBd.block _ yl).trans EQ.out)
        clear e1 y0 y1 y4 yl hrc hrl HQ4 HR4 EQ HI hBd
        generalize Wx.drewN n=Wd at HQ5 HR5 WU ⊢
        cases hlv:jE ms x.d.toNat x.t.toNat
        ·rw [hlv] at HDI
         have HDT:=aB (show dies ms k=true by rw [HDI.out];rfl)
         rw [HDT.out] at HT HA
         have y4:=aA WU.out 4
         simp at y4
         have yl:=aD WU.out
         have q1:=aA HQ5.out.qb 1
         simp at q1
         have ql:=aD HQ5.out.qb
         obtain ⟨bBF,mD,bBG⟩:=HQ5.out.cur
         have kC:=HQ5.out.nodes (by rw [bN,tK.out]) hl.1
         have hgn:=eU (ns:=fB ms k) (n:=k) (by rw [bN];exact hkm)
         have d0:=kC.c0 k _ hgn
         have d1:=kC.c1 k _ hgn
         have d2:=kC.c2 k _ hgn
         have d3:=kC.c3 k _ hgn
         have d4:=kC.c4 k _ hgn
         have d5:=kC.c5 k _ hgn
         simp only [Nat.zero_add] at d0 d1 d2 d3 d4 d5
         have dl:=kC.lt
         have g0:=aC mD (k*6)
         have g1:=aC mD (k*6+1)
         have g2:=aC mD (k*6+2)
         have g3:=aC mD (k*6+3)
         have g4:=aC mD (k*6+4)
         have g5:=aC mD (k*6+5)
         generalize nd (fB ms k) k=z at d0 d1 d2 d3 d4 d5
         have HW:=aB (HQ5.out.write (by rw [bN,tK.out]) hlt (gX x.t))
         have HRW:=aB (HR5.out.sixN mD (k:=k) (y:=gX x.t))
         clear hlv kC hgn mD
         go_wp2_with fail
         go_roundw
         case rel=>exact ⟨k+1,aF,by go_num,by rw [HA.out];simp,by rw [HT.out];exact HW.out,HRW.out⟩
         case measure=>simp [intOf];omega
        ·rw [hlv] at HDI
         have HDF:=aB (show dies ms k=false by rw [HDI.out];rfl)
         rw [HDF.out] at HT HA
         clear hlv
         go_wp2_with fail
         go_roundw
         case rel=>exact ⟨k+1,aF,by go_num,by rw [HA.out];simp,by rw [HT.out];exact HQ5.out,HR5.out⟩
         case measure=>simp [intOf];omega
    ·have ek:k=ns.length:=by omega
     subst ek
     have HQ3:=aB hQ3
     clear hQ3 hR3
     go_wp2_with fail
     go_roundw
     case rel=>exact ⟨fB ms ns.length,nU ms ns.length,rfl,HD.out.trans (dC.to ms _),by rw [← HS.out,← tK.out];exact zZ ms,(fun h=>by
      have e:fB ms ns.length=ms:=by rw [← tK.out] at h ⊢;exact nV h
      rw [e];exact h),HQ3.out⟩
     case measure =>
      have e2:=xS (HQ3.out.nodes (by rw [bN,tK.out]) hl.1)
      rw [bN,tK.out] at e2
      simp only [aPK]
      cases ha:nU ms ns.length
      ·simp
      ·have h1:=ha
       rw [← tK.out] at h1
       have:=rH h1
       have e1:fB ms ns.length=qI ms:=by rw [← tK.out];rfl
       rw [e1] at e2
       have:=HMU.out
       simp;omega
structure OB (w:World) (r:Int) (b off cap:Nat) (ns:List Nd) (t:Tm) (u:World):Prop where
 p:u.heap[w.heap.size]?=some (.cells #[.int .i64 r,.slice (some ⟨b,off,none⟩) ns.length cap] 24 (0,0))
 q:u.heap[w.heap.size+1]?=some (.cells #[.int .i64 t.op,.int .i64 t.a,.int .i64 t.b] 59 (0,0))
 z:u.heap[w.heap.size+1+1]?=some (.cells #[.int .i64 0,.slice none 0 0] 24 (0,0))
 bel:Below w.heap.size w u
section
variable {w u u' :World} {r:Int} {b off cap:Nat} {ns:List Nd} {t:Tm}
theorem OB.below (h:OB w r b off cap ns t u) (hb:Below u.heap.size u u'):OB w r b off cap ns t u' :=⟨bP hb h.p,bP hb h.q,bP hb h.z,bG h.bel hb⟩
theorem OB.cells (h:OB w r b off cap ns t u):u.cell? ⟨w.heap.size,0,none⟩=some (.int .i64 r)∧u.cell? ⟨w.heap.size,1,none⟩=some (.slice (some ⟨b,off,none⟩) ns.length cap)∧u.cell? ⟨w.heap.size+1,0,none⟩=some (.int .i64 t.op)∧u.cell? ⟨w.heap.size+1,1,none⟩=some (.int .i64 t.a)∧u.cell? ⟨w.heap.size+1,2,none⟩=some (.int .i64 t.b)∧w.heap.size<u.heap.size∧w.heap.size+1<u.heap.size :=
 ⟨by rw [aA h.p];rfl,by rw [aA h.p];rfl,by rw [aA h.q];rfl,by rw [aA h.q];rfl,by rw [aA h.q];rfl,aD h.p,aD h.q⟩
end
theorem AV {w u:World} {B:Nat} (h:u.heap[B]?=some (.cells #[.int .i64 0,.slice none 0 0] 24 (0,0))) (hB:Below w.heap.size w u) (hl:w.heap.size≤B) (v0 v1:Value) :
 (u.cell? ⟨B,0,none⟩=some (.int .i64 0)∧u.cell? ⟨B,1,none⟩=some (.slice none 0 0)∧u.frozen? ⟨B,0,none⟩=false∧u.frozen? ⟨B,1,none⟩=false∧B<u.heap.size)∧Hid (((u.setCell ⟨B,0,none⟩ v0).setCell ⟨B,1,none⟩ v1).cell? ⟨B,0,none⟩=some v0∧((u.setCell ⟨B,0,none⟩ v0).setCell ⟨B,1,none⟩ v1).cell? ⟨B,1,none⟩=some v1∧Below w.heap.size w ((u.setCell ⟨B,0,none⟩ v0).setCell ⟨B,1,none⟩ v1)):=by
 have hk:=bQ (v0:=v0) (v1:=v1) h
 exact ⟨⟨by rw [aA h];rfl,by rw [aA h];rfl,aC h 0,aC h 1,aD h⟩,by rw [aA hk];rfl,by rw [aA hk];rfl,aW hB hl⟩
theorem xV {u:World} {B gb gq:Nat} {ms:List Nd} {v0 v1:Value} (h:aH u gb gq ms) (hne:gb≠B):aH ((u.setCell ⟨B,0,none⟩ v0).setCell ⟨B,1,none⟩ v1) gb gq ms:=(h.iE hne).iE hne
theorem xW {X:Int × Int × List Nd} {k q:Int} {l:List Nd} {w w' :World} (h:X=(k,q,l)) (hk:k≠0) (hB:Below w.heap.size w w'):qK X w (.returned (.tuple #[.agg #[.int .i64 0,.slice none 0 0],.int .i64 k])) w' :=by
 subst h
 exact ⟨Or.inl ⟨hk,rfl⟩,hB⟩
theorem BU {X:Int × Int × List Nd} {q:Int} {ms:List Nd} {w w' :World} {gb gq gc:Nat} (h:X=(0,q,ms)) (hn:aH w' gb gq ms) (hg:w.heap.size≤gb) (hB:Below w.heap.size w w'):qK X w (.returned (.tuple #[.agg #[.int .i64 q,.slice (some ⟨gb,gq,none⟩) ms.length gc],.int .i64 0])) w' :=by
 subst h
 exact ⟨Or.inr ⟨rfl,gb,gq,gc,rfl,hn,hg⟩,hB⟩
theorem aIP (r:Int) (b off cap:Nat) (ns:List Nd) (t:Tm) (w:World) (hN:aH w b off ns) (hc:bM r ns=0) (ht:tmE r t=0) :
 Calls Tryz.prog 43 #[.agg #[.int .i64 r,.slice (some ⟨b,off,none⟩) ns.length cap],.agg #[.int .i64 t.op,.int .i64 t.a,.int .i64 t.b]] w (qK (jH (0,r,ns) t) w):=by
 have hl:=(bE hc).1
 have htc:iP r ns t=0:=(GQ hc t).trans ht
 obtain ⟨X,HX⟩:∃ X,Hid (jH (0,r,ns) t=X):=⟨_,rfl⟩
 rw [HX.out]
 have hX:X=if gV r ns t=0 then (0,kU ns t r,iG ns t r) else (gV r ns t,0,[]):=by rw [← HX.out];unfold jH;rfl
 have hE:gV r ns t=if 256<(aS ns).length then 2 else if rW ns t=true∧(256<(iG ns t r).length∨63<r) then 2 else 0:=by unfold gV;rw [if_neg (by simp [hc]),if_neg (c:=tmE r t≠0) (by simp [ht])]
 obtain ⟨W,HW,hbA,p0,p1,p2⟩:=JE w (.cells #[.int .i64 r,.slice (some ⟨b,off,none⟩) ns.length cap] 24) (.cells #[.int .i64 t.op,.int .i64 t.a,.int .i64 t.b] 59) (.cells #[.int .i64 0,.slice none 0 0] 24)
 have HO:Hid (OB w r b off cap ns t W):=⟨p0,p1,p2,hbA⟩
 have XN:=aB (tC r (some ⟨b,off,none⟩) cap ns t W (Or.inr ⟨b,off,rfl,hN.below hbA hN.lt⟩))
 rw [htc] at XN
 have IW:=aB (fun (u:World) (h:Below w.heap.size w u)=>callsIn_wide.1 (KY r b off cap ns u (hN.below h hN.lt) hc))
 have rU:=aB (fun (u:World) (sb sc:Nat) (h:aH u sb 0 (cB ns))=>zV r sb 0 sc (cB ns) u h (fC hc))
 have JF:=aB (fun (u:World) (h:Below w.heap.size w u)=>oU r b off cap ns u (hN.below h hN.lt) hl)
 have HTL:=aB (bB (fC hc)).1.1
 have HEQ:=aB (And.intro hX hE)
 have HC:=aB (And.intro hc ht)
 clear hN hc ht htc hX hE hbA p0 p1 p2 HX
 go_enter Tryz.func43,Tryz.ntmps43
 go_upto_region 1 with fail
 rw [HW.out]
 clear HW
 obtain ⟨q0,q1,t0,t1,t2,pl,tl⟩:=HO.out.cells
 go_wp2_with fail
 refine XN.out.mono ?_
 rintro e w1 ⟨rfl,hb1⟩
 have BF:=aB (HO.out.below hb1)
 clear q0 q1 t0 t1 t2 pl tl XN HO hb1
 obtain ⟨q0,q1,t0,t1,t2,pl,tl⟩:=BF.out.cells
 go_wp2_with fail
 refine (IW.out _ BF.out.bel).mono ?_
 rintro e w2 ⟨v,rfl,hv,hb2⟩
 obtain ⟨tb,tc,rfl,hn2,htb⟩:=fU hv HTL.out
 have DV:=aB (BF.out.below hb2)
 have ZU:=aB hn2
 clear q0 q1 t0 t1 t2 pl tl BF hb2 hv hn2 IW
 go_wp2_with fail
 refine (rU.out _ tb tc ZU.out).mono ?_
 rintro e w3 ⟨v1,v2,er,rfl,h3,hb3⟩
 have HO3:=aB (DV.out.below hb3)
 clear ZU rU DV
 rcases h3 with ⟨hs,e1,rfl,hv3⟩ | ⟨hs,rfl,rfl,rfl⟩
 ·obtain rfl:=e1.symm
  have hs' :(aS ns).length≤256:=hs
  have hcq:bM r (aS ns)=0:=iI (fC HC.out.1) hs
  change w3.ownsRow w2.heap.size 42 6 v2 (aS ns).length ((aS ns).flatMap aP) at hv3
  have IU:=(bE hcq).1
  obtain ⟨sb,sc,rfl,hn3,hsb⟩:=fU hv3 IU.1
  obtain ⟨V,HV,hbV,x0⟩:=bx1 w3 (.cells #[.int .i64 r,.slice (some ⟨sb,0,none⟩) (aS ns).length sc] 24)
  have JH:=aB (HO3.out.below hbV)
  have HN4:=aB (hn3.below hbV hn3.lt)
  have HLZ:=aB (aCL r sb 0 sc (aS ns) t V HN4.out hcq)
  have HQT:=aB ((GQ hcq t).trans HC.out.2)
  have HQR:=aB (bE hcq).2.1
  go_upto_region 5 with fail
  rw [HV.out]
  obtain ⟨q0,q1,t0,t1,t2,pl,tl⟩:=JH.out.cells
  have y0:=aA x0 0
  have y1:=aA x0 1
  simp at y0 y1
  have yl:=aD x0
  have HX0:=aB x0
  clear HV hbV hb3 HO3 hv3 hn3 x0 HC hcq
  generalize w3.heap.size=QB at y0 y1 yl HX0 ⊢
  go_wp2_with fail
  refine HLZ.out.mono ?_
  rintro e w4 ⟨v1,v2,rfl,o1,o2,hb4⟩
  have hlp:(bK (aS ns) t).length=(aS ns).length:=by simp [bK]
  have hlt:(aZ (aS ns) t).length=(aS ns).length:=by simp [aZ]
  rw [← hlp] at o1
  rw [← hlt] at o2
  obtain ⟨a1,c1,rfl,b1⟩:=pF o1
  obtain ⟨a2,c2,rfl,b2⟩:=pF o2
  rw [hlp,hlt]
  obtain ⟨V5,HV5,hb5,l5⟩:=bx1 w4 (.cells #[.slice a1 (aS ns).length c1,.slice a2 (aS ns).length c2] 126)
  have hb45:=bG hb4 hb5
  have RZ:=aB (JH.out.below hb45)
  have HN5:=aB (HN4.out.below hb45 HN4.out.lt)
  have HB1:=aB (b1.below hb5)
  have HB2:=aB (b2.below hb5)
  have WU:=aB ((hb45.block _ yl).trans HX0.out)
  have HA1:=aB (fun (u:World) (h:aJ u a1 (bK (aS ns) t))=>MU a1 c1 _ _ hlp u h IU.2)
  have HA2:=aB (fun (u:World) (h:aJ u a2 (aZ (aS ns) t))=>MU a2 c2 _ _ hlt u h IU.2)
  have HLP:=aB (And.intro hlp hlt)
  have HQL:=aB IU
  clear q0 q1 t0 t1 t2 pl tl y0 y1 yl o1 o2 b1 b2 hb4 hb45 HN4 HX0 HLZ hlp hlt
  go_upto_region 8 with fail
  rw [HV5.out]
  clear HV5 hb5 JH
  have l0:=aA l5 0
  have l1:=aA l5 1
  simp at l0 l1
  have ll:=aD l5
  have HL5:=aB l5
  clear l5
  generalize w4.heap.size=LB at l0 l1 ll HL5 ⊢
  obtain ⟨BP,hBP⟩:∃ BP,Hid ((bK (aS ns) t).any id=BP):=⟨_,rfl⟩
  obtain ⟨BT,hBT⟩:∃ BT,Hid ((aZ (aS ns) t).any id=BT):=⟨_,rfl⟩
  rw [hBP.out] at HA1
  rw [hBT.out] at HA2
  have HOB:Hid (rW ns t=(BP||BT)):=by show _=_;unfold rW;rw [hBP.out,hBT.out]
  obtain ⟨q0,q1,t0,t1,t2,pl,tl⟩:=RZ.out.cells
  go_cut [40] from 31 to 40 (fun v wx=>v=.bool (!(BP||BT))∧wx=V5)
  case first =>
   cases BP <;> cases BT
   all_goals
    go_wp2_with (go_at_call 76;(first | with_reducible refine (HA1.out _ HB1.out).mono ?_ | with_reducible refine (HA2.out _ HB2.out).mono ?_);rintro e w' ⟨rfl,rfl⟩)
    go_meet
    exact ⟨rfl,rfl⟩
  case rest =>
   obtain ⟨rfl,e5⟩:=hcut
   obtain rfl:=e5.symm
   generalize (BP||BT)=O at HOB ⊢
   cases O
   ·have e1:X=(0,r,ns):=by
     have h0:gV r ns t=0:=by rw [HEQ.out.2,if_neg aF,if_neg (by rw [HOB.out];simp)]
     rw [HEQ.out.1,if_pos h0]
     unfold kU iG
     rw [HOB.out];rfl
    have HE:=aB e1
    clear e1
    go_wp2_with fail
    refine (JF.out _ RZ.out.bel).mono ?_
    rintro e w6 ⟨cb,cc,rfl,hv6,hb6⟩
    obtain ⟨cb', cc', e6,hn6,hg6⟩:=fU hv6 hl.1
    cases e6
    have HO6:=aB (RZ.out.below hb6)
    obtain ⟨⟨z0,z1,zf0,zf1,zl⟩,HZ⟩:=AV HO6.out.z HO6.out.bel aF (.int .i64 r) (.slice (some ⟨cb,0,none⟩) ns.length cc)
    have HN6:=aB hn6
    have hne:cb≠w.heap.size+1+1:=by have:=aD RZ.out.z;omega
    have hcb:w.heap.size≤cb:=by have:=RZ.out.bel.size;omega
    clear q0 q1 t0 t1 t2 pl tl l0 l1 ll hv6 hn6
    go_wp2
    obtain ⟨k0,k1,hB⟩:=HZ.out
    exact bodyPost_ret (v:=.tuple #[.agg #[.int .i64 r,.slice (some ⟨cb,0,none⟩) ns.length cc],.int .i64 0]) (by simp [results,Tryz.results43,go_sem,k0,k1]) rfl (BU HE.out (xV HN6.out hne) hcb hB)
   ·have hok:vU (aS ns) t (aZ (aS ns) t):=tN (aS ns) t
    have HAE:=aB (GK r sb 0 sc (aS ns) t a1 a2 c1 c2 _ _ V5 HN5.out HQT.out HB1.out HB2.out HLP.out.1 HLP.out.2 hok)
    have HAO:=aB (fun (u:World) (h:Below V5.heap.size V5 u)=>XQ r sb 0 sc (aS ns) t a1 a2 c1 c2 _ _ u (HN5.out.below h HN5.out.lt) HQL.out HQR.out (HB1.out.below h) (HB2.out.below h) HLP.out.1 HLP.out.2)
    have x5:=WU.out
    have y0:=aA x5 0
    have y1:=aA x5 1
    simp at y0 y1
    have yl:=aD x5
    have YH:Hid (iG ns t r=qJ (aS ns) t (bK (aS ns) t) (aZ (aS ns) t) r):=by show _=_;unfold iG;rw [HOB.out];rfl
    have XV:Hid ((qJ (aS ns) t (bK (aS ns) t) (aZ (aS ns) t) r).length=(aS ns).length+(bI (bK (aS ns) t) (aS ns).length).length):=fM ..
    clear x5 hok
    go_wp2_with fail
    refine HAE.out.mono ?_
    rintro e w6 ⟨rfl,hb6⟩
    have HO6:=aB (RZ.out.below hb6)
    by_cases hm:256<(aS ns).length+(bI (bK (aS ns) t) (aS ns).length).length∨r=64
    ·rw [if_pos hm]
     have e1:X=(2,0,[]):=by
      have hh:256<(iG ns t r).length∨63<r:=by
       rw [YH.out,XV.out]
       exact hm.imp id (fun h=>by omega)
      have h2:gV r ns t=2:=by rw [HEQ.out.2,if_neg aF,if_pos ⟨HOB.out,hh⟩]
      rw [HEQ.out.1,if_neg (by rw [h2];decide),h2]
     have HE:=aB e1
     obtain ⟨⟨z0,z1,zf0,zf1,zl⟩,HZ⟩:=AV HO6.out.z HO6.out.bel aF (.int .i64 0) (.slice none 0 0)
     clear q0 q1 t0 t1 t2 pl tl l0 l1 ll y0 y1 yl e1 hm
     go_wp2
     obtain ⟨k0,k1,hB⟩:=HZ.out
     exact bodyPost_ret (v:=.tuple #[.agg #[.int .i64 0,.slice none 0 0],.int .i64 2]) (by simp [results,Tryz.results43,go_sem,k0,k1]) rfl (xW HE.out aL hB)
    ·rw [if_neg hm]
     have e1:X=(0,r+1,qJ (aS ns) t (bK (aS ns) t) (aZ (aS ns) t) r):=by
      have h0:gV r ns t=0:=by
       rw [HEQ.out.2,if_neg aF,if_neg]
       rintro ⟨-,h⟩
       rw [YH.out,XV.out] at h
       have:=HQR.out
       exact hm (h.imp id (fun h=>by omega))
      rw [HEQ.out.1,if_pos h0,YH.out]
      unfold kU
      rw [HOB.out];rfl
     have HE:=aB e1
     have kH:=aB (And.intro (hb6.cell (p:=⟨QB,0,none⟩) yl) (hb6.cell (p:=⟨QB,1,none⟩) yl))
     obtain ⟨u0,u1,s0,s1,s2,ul,sl⟩:=HO6.out.cells
     have m0:=kH.out.1.trans y0
     have m1:=kH.out.2.trans y1
     have n0:=(hb6.cell (p:=⟨LB,0,none⟩) ll).trans l0
     have n1:=(hb6.cell (p:=⟨LB,1,none⟩) ll).trans l1
     have ml:=Nat.lt_of_lt_of_le yl hb6.size
     have nl:=Nat.lt_of_lt_of_le ll hb6.size
     have hAO:=aB (HAO.out _ hb6)
     have hs6:=hb6.size
     clear q0 q1 t0 t1 t2 pl tl l0 l1 ll y0 y1 yl e1 hm hb6 HAE HAO
     have hA1:1≤(qJ (aS ns) t (bK (aS ns) t) (aZ (aS ns) t) r).length:=by rw [XV.out];have:=HQL.out.1;omega
     have a4W :=aB hA1
     clear hA1 XV YH
     generalize (qJ (aS ns) t (bK (aS ns) t) (aZ (aS ns) t) r)=A at HE hAO a4W
     go_wp2_with fail
     refine hAO.out.mono ?_
     rintro e w7 ⟨gb,gc,rfl,hv7,hb7⟩
     have HO7:=aB (HO6.out.below hb7)
     obtain ⟨⟨z0,z1,zf0,zf1,zl⟩,HZ⟩:=AV HO7.out.z HO7.out.bel aF (.int .i64 (r+1)) (.slice (some ⟨gb,0,none⟩) A.length gc)
     obtain ⟨gb', gc', e7,hn7,hg7⟩:=fU hv7 a4W.out
     cases e7
     have HN7:=aB hn7
     have hne:gb≠w.heap.size+1+1:=by have:=aD HO6.out.z;omega
     have hgb:w.heap.size≤gb:=by have:=HO6.out.bel.size;omega
     clear u0 u1 s0 s1 s2 ul sl m0 m1 n0 n1 ml nl hv7 hn7
     go_wp2
     obtain ⟨k0,k1,hB⟩:=HZ.out
     exact bodyPost_ret (v:=.tuple #[.agg #[.int .i64 (r+1),.slice (some ⟨gb,0,none⟩) A.length gc],.int .i64 0]) (by simp [results,Tryz.results43,go_sem,k0,k1]) rfl (BU HE.out (xV HN7.out hne) hgb hB)
 ·obtain ⟨V,HV,hbV,x0⟩:=bx1 w3 (.cells #[.int .i64 0,.slice none 0 0] 24)
  have JH:=aB (HO3.out.below hbV)
  have e1:X=(2,0,[]):=by
   have h2:gV r ns t=2:=by rw [HEQ.out.2,if_pos (show 256<(aS ns).length from hs)]
   rw [HEQ.out.1,if_neg (by rw [h2];decide),h2]
  obtain ⟨⟨z0,z1,zf0,zf1,zl⟩,HZ⟩:=AV JH.out.z JH.out.bel aF (.int .i64 0) (.slice none 0 0)
  have HE:=aB e1
  clear e1
  go_upto_region 5 with fail
  rw [HV.out]
  clear HV x0 hbV hb3
  go_wp2
  obtain ⟨k0,k1,hB⟩:=HZ.out
  exact bodyPost_ret (v:=.tuple #[.agg #[.int .i64 0,.slice none 0 0],.int .i64 2]) (by simp [results,Tryz.results43,go_sem,k0,k1]) rfl (xW HE.out aL hB)
end Go.Proofs.YtegloodcbfalfaaGreatDoor
namespace Go.Proofs.YtegloodcbfalfaaGreatDoor
open Go.RowKit
theorem IJ {α:Type} {l:List α} {k:Nat} {x:α} (p:α→Bool) (h:l[k]?=some x):(l.take (k+1)).any p=((l.take k).any p||p x):=by
 rw [iH h,List.any_append];simp
theorem aPL (l:List Tm) (t:Tm):(l.any fun y=>decide (y=t))=l.any fun y=>decide (t=y):=by
 congr 1;funext y;exact decide_eq_decide.2 ⟨Eq.symm,Eq.symm⟩
theorem lL.at {w:World} {a:Option Addr} {ts:List Tm} (h:lL w a ts) {k:Nat} (hk:k<ts.length):∃ b off,a=some ⟨b,off,none⟩∧b<w.heap.size∧∀ (j:Nat) (t:Tm),ts[j]?=some t→w.cell? ⟨b,off+j*3,none⟩=some (.int .i64 t.op)∧w.cell? ⟨b,off+j*3+1,none⟩=some (.int .i64 t.a)∧w.cell? ⟨b,off+j*3+2,none⟩=some (.int .i64 t.b):=by
 rcases h with rfl | h
 ·simp at hk
 ·exact h
theorem aPM (acc:List Tm) (x:Nd):rQ acc x=if !(!(wi x.op 3 8)||acc.any fun y=>decide (y=gG x)) then acc++[gG x] else acc:=by
 rw [aPL];simp [rQ]
theorem YI (r:Int) (b off cap:Nat) (ns:List Nd) (w:World) (hN:aH w b off ns) (hl:ns.length≤256) :
 Calls Tryz.prog 42 #[.agg #[.int .i64 r,.slice (some ⟨b,off,none⟩) ns.length cap]] w fun e w' =>∃ a' cap', e=.returned (.slice a' (mW ns ns.length).length cap')∧lL w' a' (mW ns ns.length)∧Below w.heap.size w w' :=by
 obtain ⟨i0,hi,hz0,hz1,hz2⟩:=info_parts MX
 go_enter Tryz.func42,Tryz.ntmps42
 go_wp2
 have q0:(w.alloc (.cells #[.int .i64 r,.slice (some ⟨b,off,none⟩) ns.length cap] 24)).cell? ⟨w.heap.size,0,none⟩=some (.int .i64 r):=by simp
 have q1:(w.alloc (.cells #[.int .i64 r,.slice (some ⟨b,off,none⟩) ns.length cap] 24)).cell? ⟨w.heap.size,1,none⟩=some (.slice (some ⟨b,off,none⟩) ns.length cap):=by simp
 have hN1:aH (w.alloc (.cells #[.int .i64 r,.slice (some ⟨b,off,none⟩) ns.length cap] 24)) b off ns:=hN.below ((Below.refl w.heap.size w).alloc dD _) hN.lt
 have hB1:Below w.heap.size w (w.alloc (.cells #[.int .i64 r,.slice (some ⟨b,off,none⟩) ns.length cap] 24)):=(Below.refl w.heap.size w).alloc dD _
 have hS1:(w.alloc (.cells #[.int .i64 r,.slice (some ⟨b,off,none⟩) ns.length cap] 24)).heap.size=w.heap.size+1:=by simp
 have hblt:=hN.lt
 clear hN
 generalize w.alloc (.cells #[.int .i64 r,.slice (some ⟨b,off,none⟩) ns.length cap] 24)=W at q0 q1 hN1 hB1 hS1 ⊢
 go_loopw [3,4] (fun v i wv=>∃ k:Nat,k≤ns.length∧i=.int .i64 k∧wv.ownsRow (w.heap.size+1) 59 3 v (mW ns k).length ((mW ns k).flatMap kW)∧Below (w.heap.size+1) W wv) (fun _ i _=>ns.length-(intOf i).toNat)
 case atStart=>exact ⟨0,Nat.zero_le _,rfl,World.ownsRow_nil _ _ _ _,Below.refl _ _⟩
 case round =>
  obtain ⟨k,hk,rfl,hown,hb⟩:=hrel
  have hsz:=hb.size
  have kQ:=hN1.below hb aF
  have hlt2:=kQ.lt
  have p0:wr.cell? ⟨w.heap.size,0,none⟩=some (.int .i64 r):=by rw [hb.cell (p:=⟨w.heap.size,0,none⟩) aQ];exact q0
  have p1:wr.cell? ⟨w.heap.size,1,none⟩=some (.slice (some ⟨b,off,none⟩) ns.length cap):=by rw [hb.cell (p:=⟨w.heap.size,1,none⟩) aQ];exact q1
  have hsw:w.heap.size<wr.heap.size:=by omega
  by_cases hlt:k<ns.length
  ·obtain ⟨x,hx⟩:=bD hlt
   have c0:=kQ.c0 k x hx
   have c1:=kQ.c1 k x hx
   have c2:=kQ.c2 k x hx
   have c3:=kQ.c3 k x hx
   have c4:=kQ.c4 k x hx
   have c5:=kQ.c5 k x hx
   have HT:=aB (CJ hx)
   have HS:=aB (aPM (mW ns k) x)
   have htl:=tZ ns k
   clear hx kQ
   have hown2:=(hown.alloc (.cells #[.int .i64 x.op,.int .i64 x.d,.int .i64 x.a,.int .i64 x.b,.int .i64 x.t,.int .i64 x.e] 42)).alloc (.cells #[.int .i64 x.op,.int .i64 x.a,.int .i64 x.b] 59)
   obtain ⟨a3,a3W,hv3,hT3⟩:=lM hown2
   rw [hv3] at hown2 ⊢
   have hB2:Below (w.heap.size+1) W ((wr.alloc (.cells #[.int .i64 x.op,.int .i64 x.d,.int .i64 x.a,.int .i64 x.b,.int .i64 x.t,.int .i64 x.e] 42)).alloc (.cells #[.int .i64 x.op,.int .i64 x.a,.int .i64 x.b] 59)):=(hb.alloc aF _).alloc bF _
   have t0:((wr.alloc (.cells #[.int .i64 x.op,.int .i64 x.d,.int .i64 x.a,.int .i64 x.b,.int .i64 x.t,.int .i64 x.e] 42)).alloc (.cells #[.int .i64 x.op,.int .i64 x.a,.int .i64 x.b] 59)).cell? ⟨wr.heap.size+1,0,none⟩=some (.int .i64 x.op):=by rw [World.cell?_alloc_at _ _ _ _ aQ];rfl
   have t1:((wr.alloc (.cells #[.int .i64 x.op,.int .i64 x.d,.int .i64 x.a,.int .i64 x.b,.int .i64 x.t,.int .i64 x.e] 42)).alloc (.cells #[.int .i64 x.op,.int .i64 x.a,.int .i64 x.b] 59)).cell? ⟨wr.heap.size+1,1,none⟩=some (.int .i64 x.a):=by rw [World.cell?_alloc_at _ _ _ _ aQ];rfl
   have t2:((wr.alloc (.cells #[.int .i64 x.op,.int .i64 x.d,.int .i64 x.a,.int .i64 x.b,.int .i64 x.t,.int .i64 x.e] 42)).alloc (.cells #[.int .i64 x.op,.int .i64 x.a,.int .i64 x.b] 59)).cell? ⟨wr.heap.size+1,2,none⟩=some (.int .i64 x.b):=by rw [World.cell?_alloc_at _ _ _ _ aQ];rfl
   have hS2:((wr.alloc (.cells #[.int .i64 x.op,.int .i64 x.d,.int .i64 x.a,.int .i64 x.b,.int .i64 x.t,.int .i64 x.e] 42)).alloc (.cells #[.int .i64 x.op,.int .i64 x.a,.int .i64 x.b] 59)).heap.size=wr.heap.size+2:=by simp
   clear hown hv3
   go_wp2_with (go_at_call 73;refine (zF _ _).mono ?_;rintro e w' ⟨rfl,rfl⟩)
   generalize (wr.alloc (.cells #[.int .i64 x.op,.int .i64 x.d,.int .i64 x.a,.int .i64 x.b,.int .i64 x.t,.int .i64 x.e] 42)).alloc (.cells #[.int .i64 x.op,.int .i64 x.a,.int .i64 x.b] 59)=W2 at hown2 hT3 hB2 t0 t1 t2 hS2 ⊢
   clear c0 c1 c2 c3 c4 c5 p0 p1
   generalize (!(wi x.op 3 8))=is0 at HS ⊢
   go_loopw [7,8] (fun s j wv=>∃ m:Nat,m≤(mW ns k).length∧j=.int .i64 m∧s=.bool (is0||((mW ns k).take m).any fun y=>decide (y=gG x))∧∃ n,wv=W2.drewN n) (fun _ j _=>(mW ns k).length-(intOf j).toNat)
   case atStart=>exact ⟨0,Nat.zero_le _,rfl,aQ,0,rfl⟩
   case round =>
    obtain ⟨m,hm,rfl,rfl,n,rfl⟩:=hrel
    by_cases hmt:m<(mW ns k).length
    ·obtain ⟨y,hy⟩:=bD hmt
     obtain ⟨b4,o4,rfl,hb4,hc4⟩:=hT3.at hmt
     obtain ⟨y0,y1,y2⟩:=hc4 m y hy
     have HY:=aB (IJ (fun y=>decide (y=gG x)) hy)
     have heq:∀ w,Sem.run Tryz.prog (binOp .eql 59 (.agg #[.int .i64 y.op,.int .i64 y.a,.int .i64 y.b]) (.agg #[.int .i64 x.op,.int .i64 x.a,.int .i64 x.b])) w=.ok (.bool (decide (y=gG x))) w:=fun w=>a3V.1 y (gG x) w
     clear hy hc4
     generalize (decide (y=gG x))=bq at heq HY
     generalize hq:(is0||((mW ns k).take m).any fun y=>decide (y=gG x))=q
     have HQ:=aB hq
     clear hq
     cases q
     ·go_wp2
      go_quiet (fail)
      go_wp2
      go_roundw
      case rel=>exact ⟨m+1,aF,by go_num,(by rw [HY.out,← Bool.or_assoc,HQ.out];first | rfl | simp),n+nq,by first | rfl | (simp only [World.drewN_drewN])⟩
      case measure=>simp [intOf];omega
     ·go_wp2
      go_quiet (fail)
      go_wp2
      go_roundw
      case rel=>exact ⟨m+1,aF,by go_num,(by rw [HY.out,← Bool.or_assoc,HQ.out];first | rfl | simp),n+nq,by first | rfl | (simp only [World.drewN_drewN])⟩
      case measure=>simp [intOf];omega
    ·have htk:(mW ns k).take m=mW ns k:=List.take_of_length_le aF
     rw [htk]
     clear htk
     generalize (is0||(mW ns k).any fun y=>decide (y=gG x))=q at HS ⊢
     have hownD:=ownsRow_below hown2 (below_drewN (Below.refl W2.heap.size W2) n) dD
     have hBD:Below (w.heap.size+1) W (W2.drewN n):=below_drewN hB2 n
     have hSD:W2.heap.size≤(W2.drewN n).heap.size:=Nat.le_refl _
     rw [hS2] at hSD
     have t0D:(W2.drewN n).cell? _=_:=t0
     have t1D:(W2.drewN n).cell? _=_:=t1
     have t2D:(W2.drewN n).cell? _=_:=t2
     clear hown2 hB2 t0 t1 t2 hT3 hS2
     generalize W2.drewN n=W3 at hownD hBD hSD t0D t1D t2D ⊢
     cases q
     ·go_wp2_with (at_builtin;refine wpList_append_own _ rfl (.tmp 49) (.tmp 51) 68 rfl (w.heap.size+1) 59 i0 _ 3 24 Tryz.underlying68 hi hz0 hz1 hz2 rfl aL _ _ _ rfl (hownD.alloc _) ⟨W3.heap.size,0,none⟩ 1 1 [.int .i64 x.op,.int .i64 x.a,.int .i64 x.b] rfl rfl ?c1 ?c2 ?c3 ?c4 ?c5 ?_)
      case c1 =>
       intro j u hj
       match j,hj with
       | 0,hj=>simp at hj;subst hj;simp [Addr.add]
       | 1,hj=>simp at hj;subst hj;simp [Addr.add]
       | 2,hj=>simp at hj;subst hj;simp [Addr.add]
       | j+3,hj=>simp at hj
      case c2=>intro u hu;simp at hu;rcases hu with rfl | rfl | rfl <;> rfl
      case c3=>unfold maxLen;omega
      case c4=>omega
      case c5=>simp;omega
      intro v' w4 hown5 hg4 _
      have hlt1:=hownD.lt
      have hB4:Below (w.heap.size+1) W w4:=(hBD.alloc aF _).grown hg4 bF (fun k hk=>(hlt1 k hk).1)
      have hown6:w4.ownsRow (w.heap.size+1) 59 3 v' (mW ns (k+1)).length ((mW ns (k+1)).flatMap kW):=by
       rw [HT.out,HS.out];simpa [kW,gG] using hown5
      clear hown5 hg4 hlt1 hownD t0D t1D t2D
      go_wp2
      go_roundw
      case rel=>exact ⟨k+1,aF,by go_num,hown6,hB4⟩
      case measure=>simp [intOf];omega
     ·go_wp2
      go_roundw
      case rel=>exact ⟨k+1,aF,by go_num,by rw [HT.out,HS.out];simpa using hownD,hBD⟩
      case measure=>simp [intOf];omega
  ·have ek:k=ns.length:=by omega
   have HK:=aB ek
   clear ek
   go_wp2
   go_ret
   rw [HK.out] at hown
   obtain ⟨a2,cap2,hv,hI⟩:=lM hown
   refine ⟨a2,cap2,?_,hI,hB1.trans (hb.mono aF)⟩
   rw [← hv];rfl
end Go.Proofs.YtegloodcbfalfaaGreatDoor
namespace Go.Proofs.YtegloodcbfalfaaGreatDoor
open Go.RowKit Go.Shelf
theorem tlz {P:Program} {ops:Array Oper} {Q:Exit→Act→World→Prop} {md:Region.Mode} {S:World→Prop} {s fuel:Nat} {listed:Array Bool} {a:Act} {w:World} {oi:Oper} (i:Nat) (h:∀ K' :Act→World→Prop,Go.Shut (∀ a w,wpAnyL P md ops Q S s fuel (listed.setIfInBounds i true) a w→K' a w)→if Region.wanted oi (yielded ops a.tmps)=true then Oper.wp P oi a w K' Q else K' (a.put oi.dst undef) w) (hi:ops[i]?=some oi:=by rfl) (hr:Region.ready md ops listed=[i]:=by as_aux_lemma=>kernel_rfl) (hs:(listed.setIfInBounds i true).getD s true=true:=by as_aux_lemma=>kernel_rfl):wpAnyL P md ops Q S s (fuel+1) listed a w:=by
 refine ⟨fun h0=>(by rw [hr] at h0;cases h0),fun j hj=>?_⟩
 rw [hr,List.mem_singleton] at hj
 subst hj
 exact wpOp_step hi (fun K' hK=>h K' (fun a w hW=>hK a w ⟨fun h0=>(by rw [hs] at h0;cases h0),hW⟩))
section
variable {P:Program} {ops:Array Oper} {Q:Exit→Act→World→Prop} {md:Region.Mode} {S:World→Prop} {s:Nat}
theorem YJ {i:Nat} {oi:Oper} {v:Value} (hi:ops[i]?=some oi) (hsel:∀ (j:Nat) (o:Oper) cs b,ops[j]?=some o→o.op≠ .select cs b)
 (hQ:∀ c a w,Q (.panic c) (a.put oi.dst v) w→Q (.panic c) a w) (hsi:s≠i) :
 ∀ (fuel:Nat) (listed:Array Bool) (a:Act) (w:World),
  (∀ j oj,ops[j]?=some oj→j≠i→listed.getD j true=false→(∀ e∈oj.after,Region.binds md e=true→e.on≠i)→oi.apart ops oj=true) →
  i∈Region.ready md ops listed→YieldsIf P ops (fun _=>True) oi v a→(listed.getD s true=false→S w) →
  wpAnyL P md ops Q S s fuel (listed.setIfInBounds i true) (a.put oi.dst v) w→wpAnyL P md ops Q S s (fuel+1) listed a w:=by
 have hne:∀ l:Array Bool,(l.setIfInBounds i true).getD s true=l.getD s true:=fun l=>getD_set_ne true (Ne.symm hsi)
 intro fuel
 induction fuel with
 | zero =>
  intro listed a w _ hr hy hS H
  refine ⟨fun h=>(by rw [h] at hr;cases hr),fun j hj=>?_⟩
  by_cases hji:j=i
  ·subst hji;exact hy.wpOp hi trivial ⟨fun h=>hS (by rwa [hne] at h),H⟩
  ·have:=ready_mono hj hji
   rw [H.1] at this
   cases this
 | succ fuel ih =>
  intro listed a w hfree hr hy hS H
  refine ⟨fun h=>(by rw [h] at hr;cases hr),fun j hj=>?_⟩
  by_cases hji:j=i
  ·subst hji;exact hy.wpOp hi trivial ⟨fun h=>hS (by rwa [hne] at h),H⟩
  ·have h1:=H.2 j (ready_mono hj hji)
   obtain ⟨hjun,oj,hoj,hall⟩:=mem_ready.1 hj
   have hnot:∀ e∈oj.after,Region.binds md e=true→e.on≠i:=fun e he hb heq=>by
    have h1:=hall e he hb
    have h0:=(mem_ready.1 hr).1
    rw [heq] at h1
    rcases Nat.lt_or_ge i listed.size with h' | h'
    ·simp [h'] at h0 h1;rw [h0] at h1;cases h1
    ·simp [Array.getElem?_eq_none h'] at h1
   have h2:=wpOp_putIf hoj (hfree j oj hoj hji hjun hnot) (fun cs b=>hsel i oi cs b hi) (fun cs b=>hsel j oj cs b hoj) hQ hy h1
   have hfree' :∀ k ok,ops[k]?=some ok→k≠i→(listed.setIfInBounds j true).getD k true=false→(∀ e∈ok.after,Region.binds md e=true→e.on≠i)→oi.apart ops ok=true:=fun k ok hk hki hun hno=>by
    refine hfree k ok hk hki ?_ hno
    by_cases hjk:j=k
    ·subst hjk;exact hjun
    ·rw [getD_set_ne true hjk] at hun;exact hun
   have hc:(listed.setIfInBounds i true).setIfInBounds j true=(listed.setIfInBounds j true).setIfInBounds i true:=Array.setIfInBounds_comm _ _ (Ne.symm hji)
   refine wpOp_mono (fun a' w' h3=>?_) h2
   rw [hc] at h3
   have h4:(listed.setIfInBounds j true).getD s true=false→S w' :=fun h=>h3.2.1 (by rw [hne];exact h)
   exact ⟨h4,ih (listed.setIfInBounds j true) a' w' hfree' (ready_mono hr (Ne.symm hji)) h3.1 h4 h3.2.2⟩
theorem tlp {fuel k:Nat} {listed:Array Bool} {a a' :Act} {w:World} {oi:Oper} {v:Value} (h:wpAnyL P md ops Q S s fuel ((listed.setIfInBounds k true).setIfInBounds (k+1) true) a' w) (hi:ops[k+1]?=some oi:=by rfl) (hw:Region.wanted oi (yielded ops a.tmps)=true:=by as_aux_lemma=>kernel_rfl)
 (hv:∀ w,True→(execOp a.eval oi).run P w=.ok (.value v) w:=by intro w _;go_simp;all_goals with_reducible rfl) (ha:a.put oi.dst v=a' :=by (try simp only [Act.put,EH,EI,EJ]);rfl)
 (hQ:∀ c a w,Q (.panic c) (a.put oi.dst v) w→Q (.panic c) a w:=by first | exact hQp _ _ | exact fun _ _ _ h=>h) (hs:(Region.noSelect ops&&Region.free md ops (listed.setIfInBounds k true) (k+1)&&(Region.ready md ops (listed.setIfInBounds k true)).contains (k+1)&&s != k+1)=true:=by as_aux_lemma=>kernel_rfl) (hS:S w:=by assumption):wpAnyL P md ops Q S s (fuel+1) (listed.setIfInBounds k true) a w:=by
 simp only [Bool.and_eq_true,bne_iff_ne] at hs
 obtain ⟨⟨⟨h1,h2⟩,h3⟩,h4⟩:=hs
 exact YJ hi (Region.noSelect_spec h1) hQ h4 fuel _ a w (Region.free_spec hi h2) (by simpa using h3) (Or.inl ⟨hw,hv⟩) (fun _=>hS) (by rw [ha];exact h)
end
theorem AB {P:Tm→Prop}:∀ (xs:List Nd) (acc:List Tm),(∀ x∈xs,wi x.op 3 8=true→P (gG x))→(∀ t∈acc,P t)→∀ t∈xs.foldl rQ acc,P t
 | [],_,_,h=>h
 | x::xs,acc,hx,h=>by
  rw [List.foldl_cons]
  refine AB xs _ (fun y hy=>hx y (List.mem_cons_of_mem _ hy)) ?_
  intro t ht
  unfold rQ at ht
  split at ht
  ·rename_i h1
   rcases List.mem_append.1 ht with h2 | h2
   ·exact h t h2
   ·simp at h2
    subst h2
    exact hx x (List.mem_cons_self ..) (by simp only [Bool.and_eq_true] at h1;exact h1.1)
  ·exact h t ht
theorem aYX {r:Int} {ns:List Nd} (hc:bM r ns=0) (k:Nat):∀ t∈mW ns k,JJ r t:=by
 refine AB _ _ (fun x hx h=>?_) aQ
 have hF:=(bE hc).2.2 x (List.mem_of_mem_take hx)
 have h38:3≤x.op∧x.op≤8:=by simpa [wi] using h
 exact ⟨h38,hF.a aF aF aF,hF.b h38.1 h38.2⟩
theorem aPN:∀ (ts:List Tm) {x:Int × Int × List Nd} {r:Int},r≤x.2.1→x.1=0→(ts.foldl jH x).1=0→r≤(ts.foldl jH x).2.1
 | [],_,_,h,_,_=>h
 | t::ts,x,r,h,h0,he=>by
  rw [List.foldl_cons] at he ⊢
  by_cases h1:gV x.2.1 x.2.2 t=0
  ·have e:jH x t=(0,kU x.2.2 t x.2.1,iG x.2.2 t x.2.1):=by unfold jH;rw [if_neg (by simp [h0]),if_pos h1]
   rw [e] at he ⊢
   exact aPN ts (Int.le_trans h (aTF _ _ _)) rfl he
  ·have e:jH x t=(gV x.2.1 x.2.2 t,0,[]):=by unfold jH;rw [if_neg (by simp [h0]),if_neg h1]
   rw [e,tO ts (by exact h1)] at he
   exact absurd he h1
theorem aTR {r q:Int} {t:Tm} (h:JJ r t) (hq:r≤q):JJ q t:=by
 have:=h.a
 have:=h.b
 exact ⟨h.op,aF,aF⟩
structure PB (V:World) (QB:Nat) (x:Int × Int × List Nd) (gb gq gc:Nat) (u:World):Prop where
 box:u.heap[QB]?=some (.cells #[.int .i64 x.2.1,.slice (some ⟨gb,gq,none⟩) x.2.2.length gc] 24 (0,0))
 nd:aH u gb gq x.2.2
 ne:gb≠QB
 low:V.heap.size≤gb
 bel:Below V.heap.size V u
theorem PB.set {V u u' :World} {QB gb gq gc nb nq nc:Nat} {x y:Int × Int × List Nd} (h:PB V QB x gb gq gc u) (hb:Below u.heap.size u u') (hn:aH u' nb nq y.2.2) (hl:u.heap.size≤nb) (hq:V.heap.size≤QB):PB V QB y nb nq nc ((u'.setCell ⟨QB,0,none⟩ (.int .i64 y.2.1)).setCell ⟨QB,1,none⟩ (.slice (some ⟨nb,nq,none⟩) y.2.2.length nc)):=by
 have hk:=bP hb h.box
 have hne:nb≠QB:=Ne.symm (Nat.ne_of_lt (Nat.lt_of_lt_of_le (aD h.box) hl))
 exact ⟨bQ hk,(hn.iE hne).iE hne,hne,Nat.le_trans h.bel.size hl,aW (bG h.bel hb) hq⟩
theorem aIQ (r:Int) (b off cap:Nat) (ns:List Nd) (w:World) (hN:aH w b off ns) (hc:bM r ns=0) :
 Calls Tryz.prog 19 #[.agg #[.int .i64 r,.slice (some ⟨b,off,none⟩) ns.length cap]] w (qK (iU r ns (mW ns ns.length)) w):=by
 have hl:=(bE hc).1
 obtain ⟨L,HL⟩:∃ L,Hid (mW ns ns.length=L):=⟨_,rfl⟩
 obtain ⟨W,HW,hbA,p0,p1⟩:=VP w (.cells #[.int .i64 r,.slice (some ⟨b,off,none⟩) ns.length cap] 24) (.cells #[.int .i64 0,.slice none 0 0] 24)
 have wX:=aB (lJ r (some ⟨b,off,none⟩) cap ns W (Or.inr ⟨b,off,rfl,hN.below hbA hN.lt⟩))
 rw [hc] at wX
 have HTM:=aB (fun (u:World) (h:Below w.heap.size w u)=>YI r b off cap ns u (hN.below h hN.lt) hl.2)
 rw [HL.out] at HTM ⊢
 have JF:=aB (fun (u:World) (h:Below w.heap.size w u)=>oU r b off cap ns u (hN.below h hN.lt) hl)
 have hLl:L.length≤256:=by rw [← HL.out];exact Nat.le_trans (tZ ns _) hl.2
 have HTO:Hid (∀ t∈L,JJ r t):=by rw [← HL.out];exact aYX hc _
 have HC:=aB hc
 have HB:=aB hbA
 have HP:=aB p0
 have HR:=aB p1
 clear hN hc hbA p0 p1 HL
 go_enter Tryz.func19,Tryz.ntmps19
 go_upto_region 1 with fail
 rw [HW.out]
 clear HW
 have q0:=aA HP.out 0
 have q1:=aA HP.out 1
 simp at q0 q1
 have pl:=aD HP.out
 go_wp2_with fail
 refine wX.out.mono ?_
 rintro e w1 ⟨rfl,hb1⟩
 have HB1:=aB (bG HB.out hb1)
 have kH:=aB ((hb1.block _ pl).trans HP.out)
 have HR1:=aB (bP hb1 HR.out)
 clear q0 q1 pl HP HR HB wX hb1
 have q0:=aA kH.out 0
 have q1:=aA kH.out 1
 simp at q0 q1
 have pl:=aD kH.out
 go_wp2_with fail
 refine (HTM.out _ HB1.out).mono ?_
 rintro e w2 ⟨ta,tc,rfl,hT2,hb2⟩
 have HB2:=aB (bG HB1.out hb2)
 have rT:=aB ((hb2.block _ pl).trans kH.out)
 have HR2:=aB (bP hb2 HR1.out)
 clear q0 q1 pl kH HR1 HB1 HTM hb2
 have q0:=aA rT.out 0
 have q1:=aA rT.out 1
 simp at q0 q1
 have pl:=aD rT.out
 go_wp2_with fail
 refine (JF.out _ HB2.out).mono ?_
 rintro e w3 ⟨cb,cc,rfl,hv3,hb3⟩
 obtain ⟨cb', cc', e3,hn3,hg3⟩:=fU hv3 hl.1
 cases e3
 obtain ⟨V,HV,hbV,x0⟩:=bx1 w3 (.cells #[.int .i64 r,.slice (some ⟨cb,0,none⟩) ns.length cc] 24)
 have YK:=bG hb3 hbV
 have ZT:=aB (bG HB2.out YK)
 have HRV:=aB (bP YK HR2.out)
 have HTV:=aB (hT2.below YK)
 have HPB:Hid (PB w2 w3.heap.size (iU r ns (L.take 0)) cb 0 cc V):=⟨x0,hn3.below hbV hn3.lt,Nat.ne_of_lt hn3.lt,hg3,YK⟩
 have HQB:=aB hb3.size
 have HT2:=aB hT2
 go_upto_region 6 with fail
 rw [HV.out]
 clear HV hbV x0 YK hb3 hv3 hn3 q0 q1 pl hT2 JF rT
 generalize w3.heap.size=QB at HPB HQB ⊢
 go_wp2_with fail
 go_loopw [7,8] (fun i _ u=>∃ (k gb gq gc:Nat),k≤L.length∧i=.int .i64 k∧(iU r ns (L.take k)).1=0∧PB w2 QB (iU r ns (L.take k)) gb gq gc u) (fun i _ _=>L.length-(intOf i).toNat)
 case atStart=>exact ⟨0,_,_,_,Nat.zero_le _,rfl,rfl,HPB.out⟩
 case round =>
  obtain ⟨k,gb,gq,gc,hk,rfl,h0,hp⟩:=hrel
  have hR:=bP hp.bel HR2.out
  have HBR:=aB (bG HB2.out hp.bel)
  by_cases hlt:k<L.length
  ·obtain ⟨t,ht⟩:=bD hlt
   obtain ⟨xb,xo,rfl,xl,hx⟩:=MZ (HT2.out.below hp.bel) hlt
   obtain ⟨c0,c1,c2⟩:=hx k t ht
   have hki:(k:Int)<(L.length:Int):=by omega
   have vJ:=aB (show L.take (k+1)=L.take k++[t] by rw [List.take_add_one,ht];rfl)
   have htm:=HTO.out t (List.mem_of_getElem? ht)
   have hck:=QU (L.take k) (x:=(0,r,ns)) HC.out rfl h0
   have hle:=aPN (L.take k) (x:=(0,r,ns)) (r:=r) (Int.le_refl _) rfl h0
   have AP:=aB (yZ r ns (L.take k) t)
   change bM (iU r ns (L.take k)).2.1 (iU r ns (L.take k)).2.2=0 at hck
   change r≤(iU r ns (L.take k)).2.1 at hle
   obtain ⟨⟨e0,q,ms⟩,hX⟩:∃ X,iU r ns (L.take k)=X:=⟨_,rfl⟩
   rw [hX] at h0 hp hck hle AP
   simp only at h0 hck hle
   subst h0
   have YH:=aB (fun (u:World) (h:aH u gb gq ms)=>aIP q gb gq gc ms t u h hck (aYK (aTR htm hle)))
   have XN:Hid (∀ C q' l', jH (0,q,ms) t=(C,q', l')→C≠0→iU r ns L=(C,q', l')):=fun C q' l' h hC=>by
    have e2:L=L.take (k+1)++L.drop (k+1):=(List.take_append_drop _ _).symm
    have e3:iU r ns (L.take (k+1))=(C,q', l'):=by rw [vJ.out,AP.out,h]
    rw [e2,XY (by rw [e3];exact hC),e3]
   have hpx:=hp.box
   have JO:=aB hp
   have b0:=aA hpx 0
   have b1:=aA hpx 1
   simp at b0 b1
   have bl:=aD hpx
   have hRl:=aD hR
   have HRR:=aB hR
   clear hx ht htm hck hle hX hp hpx hR
   go_upto_region 10 with fail
   obtain ⟨⟨C,q', l'⟩,hS⟩:∃ X,jH (0,q,ms) t=X:=⟨_,rfl⟩
   rw [hS] at YH AP
   have aPO :=aB (XN.out C q' l' hS)
   have hRq:w.heap.size+1≠QB:=by have:=aD HR2.out;have:=HQB.out;omega
   have rX:w2.heap.size≤QB:=HQB.out
   clear XN hS
   refine gY 9 (S:=fun u=>∀ p:Addr,p.block<wr.heap.size→u.cell? p=wr.cell? p) fJ (fun p hp=>rfl) (fun hHeld=>?_)
   refine tlw 0 ?_
   iterate 4 refine tlv ?_
   refine tlr 5 (fun K hK=>?_)
   go_simp
   go_at_call 43
   refine (YH.out _ (JO.out.nd.below (Below.refl _ wr).drew JO.out.nd.lt)).mono ?_
   rintro e w5 ⟨h,hb5⟩
   have hB5:Below wr.heap.size wr w5:=(Below.refl _ wr).drew.trans hb5
   have d0:=(hB5.cell (p:=⟨QB,0,none⟩) bl).trans b0
   have d1:=(hB5.cell (p:=⟨QB,1,none⟩) bl).trans b1
   have lF:=(hB5.block _ bl).trans JO.out.box
   have f0:=aC lF 0
   have f1:=aC lF 1
   have bl5:=aD lF
   rcases h with ⟨hne0,rfl⟩ | ⟨hz,nb,nq,nc,rfl,hV,hnb⟩
   ·simp only at hne0
    have HN0:=aB hne0
    have hCb:(C==0)=false:=by simp [hne0]
    have hCn:(C != 0)=true:=by simp [hne0]
    have BQ:Hid (((w5.setCell ⟨QB,0,none⟩ (.int .i64 0)).setCell ⟨QB,1,none⟩ (.slice none 0 0)).heap[w.heap.size+1]?=some (.cells #[.int .i64 0,.slice none 0 0] 24 (0,0))):=(Below.heap_setCell _ _ _ _ hRq).trans ((Below.heap_setCell _ _ _ _ hRq).trans ((hB5.block _ hRl).trans HRR.out))
    have hBR:=aB (aW (v0:=.int .i64 0) (v1:=.slice none 0 0) (B:=QB) (bG HBR.out hB5) (by have:=HB2.out.size;omega))
    refine hK.out _ _ (fun p hp=>hB5.cell hp) (fun hHeld=>?_)
    clear hK K hne0
    iterate 2 refine tlv ?_
    refine tlp ?_
    refine tls 9 (fun K hK=>?_)
    go_simp
    refine hK.out _ _ ?_
    clear hK K
    refine tlz 10 (fun K hK=>?_)
    go_simp
    refine hK.out _ _ ?_
    clear hK K hHeld d0 d1 f0 f1 bl5 lF
    refine gB fJ ?_ _
    generalize ((w5.setCell ⟨QB,0,none⟩ (.int .i64 0)).setCell ⟨QB,1,none⟩ (.slice none 0 0))=U at BQ hBR ⊢
    obtain ⟨⟨z0,z1,zf0,zf1,zl⟩,HZ⟩:=AV BQ.out hBR.out aF (.int .i64 0) (.slice none 0 0)
    go_wp2
    obtain ⟨k0,k1,hB⟩:=HZ.out
    exact bodyPost_ret (v:=.tuple #[.agg #[.int .i64 0,.slice none 0 0],.int .i64 C]) (by simp [results,Tryz.results19,go_sem,k0,k1]) rfl (xW (aPO.out HN0.out) HN0.out hB)
   ·simp only at hz hV
    subst hz
    have BD:=aB (JO.out.set (y:=(0,q', l')) (nc:=nc) hB5 hV hnb rX)
    refine hK.out _ _ (fun p hp=>hB5.cell hp) (fun hHeld=>?_)
    clear hK K hV
    iterate 2 refine tlv ?_
    refine tlp ?_
    refine tls 9 (fun K hK=>?_)
    go_simp
    refine hK.out _ _ ?_
    clear hK K
    refine tlz 10 (fun K hK=>?_)
    go_simp
    refine hK.out _ _ ?_
    clear hK K hHeld d0 d1 f0 f1 bl5 lF
    refine gB fJ ?_ _
    simp only at BD
    generalize ((w5.setCell ⟨QB,0,none⟩ (.int .i64 q')).setCell ⟨QB,1,none⟩ (.slice (some ⟨nb,nq,none⟩) l'.length nc))=U at BD ⊢
    go_wp2
    go_roundw
    case rel=>exact ⟨k+1,nb,nq,nc,aF,by go_num,by rw [vJ.out,AP.out],by rw [vJ.out,AP.out];exact BD.out⟩
    case measure=>simp [intOf];omega
  ·have ek:L.take k=L:=List.take_of_length_le aF
   rw [ek] at hp h0
   have hki:¬ (k:Int)<(L.length:Int):=by omega
   obtain ⟨⟨e0,q,ms⟩,HX⟩:∃ X,Hid (iU r ns L=X):=⟨_,rfl⟩
   rw [HX.out] at hp h0
   simp only at h0
   subst h0
   have b0:=aA hp.box 0
   have b1:=aA hp.box 1
   simp at b0 b1
   have bl:=aD hp.box
   obtain ⟨⟨z0,z1,zf0,zf1,zl⟩,HZ⟩:=AV hR HBR.out aF (.int .i64 q) (.slice (some ⟨gb,gq,none⟩) ms.length gc)
   have hne:gb≠w.heap.size+1:=by have:=aD HR2.out;have:=hp.low;omega
   have hgb:w.heap.size≤gb:=by have:=HB2.out.size;have:=hp.low;omega
   have JO:=aB hp
   clear hp hR
   go_wp2
   obtain ⟨k0,k1,hB⟩:=HZ.out
   exact bodyPost_ret (v:=.tuple #[.agg #[.int .i64 q,.slice (some ⟨gb,gq,none⟩) ms.length gc],.int .i64 0]) (by simp [results,Tryz.results19,go_sem,k0,k1]) rfl (BU HX.out (xV JO.out.nd hne) hgb hB)
end Go.Proofs.YtegloodcbfalfaaGreatDoor
