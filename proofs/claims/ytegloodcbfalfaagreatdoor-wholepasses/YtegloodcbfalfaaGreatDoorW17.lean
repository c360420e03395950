/-
  Of the proof of WholePasses: UH, UI, PL, ZF, ZG, ZH, ZQ, ZR.
-/
import Derived.Test.YtegloodcbfalfaaGreatDoorW3
import Derived.Test.YtegloodcbfalfaaGreatDoorW5
import Derived.Test.YtegloodcbfalfaaGreatDoorW12
import Derived.Test.YtegloodcbfalfaaGreatDoorW16
import Derived.Deep.DeepCutAuto
set_option linter.unusedVariables false
set_option linter.unusedSimpArgs false
set_option maxHeartbeats 40000000
set_option maxRecDepth 100000
namespace Go.Proofs.YtegloodcbfalfaaGreatDoor
open Go.RowKit Go.Maps Go.ChangeMaps
def pfK (ls:List (List UInt8)) (i:Nat):List Nd:=((ls.take i).drop 1).map gL
theorem aUC {ls:List (List UInt8)} {i:Nat} (h:i≤ls.length):(pfK ls i).length=i-1:=by
 unfold pfK
 rw [List.length_map,List.length_drop,List.length_take,Nat.min_eq_left h]
theorem aQE {ls:List (List UInt8)} {i:Nat} {y:List UInt8} (h1:1≤i) (h:ls[i]?=some y):pfK ls (i+1)=pfK ls i++[gL y]:=by
 unfold pfK
 rw [List.take_add_one,h,List.drop_append_of_le_length,List.map_append]
 ·rfl
 ·rw [List.length_take];have:=(List.getElem?_eq_some_iff.1 h).1;omega
theorem aUD {ls:List (List UInt8)} {i:Nat} (h0:ls≠[]) (h1:1≤i) (h2:i=1∨i+1≤ls.length) (h3:¬ i+1<ls.length):pfK ls i=(ls.dropLast.drop 1).map gL:=by
 unfold pfK
 have hl:0<ls.length:=List.length_pos_iff.2 h0
 rw [List.dropLast_eq_take]
 by_cases q:i+1=ls.length
 ·rw [show ls.length-1=i by omega]
 ·have e1:i=1:=by omega
  have e2:ls.length=1:=by omega
  subst e1
  rw [e2]
  cases ls with
  | nil=>rfl
  | cons a t=>rfl
theorem aUE (x:Nd):∀ u∈jT x,u.oneCell' =true:=by simp [jT,Value.oneCell']
theorem aUF (V:World) (x:Nd):∀ (j:Nat) (u:Value),(jT x)[j]?=some u→(V.alloc (.cells #[.int .i64 x.op,.int .i64 x.d,.int .i64 x.a,.int .i64 x.b,.int .i64 x.t,.int .i64 x.e] 42)).cell? (Addr.add ⟨V.heap.size,0,none⟩ j)=some u:=by
 intro j u hj
 match j,hj with
 | 0,hj=>simp [jT] at hj;subst hj;simp [Addr.add]
 | 1,hj=>simp [jT] at hj;subst hj;simp [Addr.add]
 | 2,hj=>simp [jT] at hj;subst hj;simp [Addr.add]
 | 3,hj=>simp [jT] at hj;subst hj;simp [Addr.add]
 | 4,hj=>simp [jT] at hj;subst hj;simp [Addr.add]
 | 5,hj=>simp [jT] at hj;subst hj;simp [Addr.add]
 | j+6,hj=>simp [jT] at hj
theorem RH (l:List UInt8) (w:World) (hl:l.length≤140737488355328) :
 Calls Tryz.prog 24 #[.string (ba l)] w fun e w' =>wP (pfB l) w.heap.size e w' ∧Below w.heap.size w w' :=by
 obtain ⟨i0,hi0,hz0,hz1,hz2⟩:=info_parts DT
 have hct:=QZ 10 259 aF l (w.alloc (.cells z2 24)) hl
 rw [show (dB 10 l).take 259=pfL l from rfl] at hct
 have hwl:∀ y∈pfL l,y.length≤140737488355328:=fun y hy=>Nat.le_trans (qU l y (List.mem_of_mem_take hy)) hl
 have hwn:pfL l≠[]:=tT (c:=10) (l:=l) (m:=259) aF
 have bGV:(pfL l).length≤259:=by unfold pfL;rw [List.length_take];omega
 have HB:=aB (show pfB l=if bM (pfR l) (pfN l)=0∧eX (pfR l) (pfN l)=l then some (pfR l,pfN l) else none from rfl)
 have HN:=aB (show pfN l=((pfL l).dropLast.drop 1).map gL from rfl)
 have HR:=aB (show pfR l=if (pfW l).length=2 then NS ((pfW l).getD 1 []) else 0 from rfl)
 have HW:=aB (show pfW l=(dB 32 ((pfL l).headD [])).take 3 from rfl)
 generalize pfL l=ls at *
 obtain ⟨y0,hy0,hh0⟩:∃ y,ls[0]?=some y∧ls.headD []=y:=by
  cases ls with
  | nil=>exact absurd rfl hwn
  | cons y r=>exact ⟨y,rfl,rfl⟩
 rw [hh0] at HW
 have hc2:=fun u=>QZ 32 3 aF y0 u (hwl y0 (List.mem_of_getElem? hy0))
 rw [← HW.out] at hc2
 have hwn2:pfW l≠[]:=by rw [HW.out];exact tT aF
 have a5B:∀ y∈pfW l,y.length≤140737488355328:=by rw [HW.out];exact fun y hy=>Nat.le_trans (qU y0 y (List.mem_of_mem_take hy)) (hwl y0 (List.mem_of_getElem? hy0))
 clear HW hh0
 generalize pfW l=ws at *
 generalize hS:ba l=S at hct ⊢
 have HS:=aB hS
 clear hS
 go_enter Tryz.func24,Tryz.ntmps24
 go_wp2_with fail
 refine hct.mono ?_
 rintro e w1 ⟨⟨a,cap,rfl,ho⟩,hb1⟩
 obtain ⟨sb,cs,rfl,hsb,hsc,hcs⟩:=RF ho hwn hwl
 have hs1:=hb1.size
 simp only [World.size_alloc] at hs1 hb1 hsb
 have a4Z:=aD hsc
 have hP0:PS w.heap.size w1.heap.size sb cs 0 (.slice none 0 0) [] w (w1.alloc (.cells #[.int .i64 0,.slice none 0 0] 24)) :=
  ⟨aF,aT _ ((hb1.block w.heap.size aF).trans (jA rfl)),aT _ hsc,jA rfl,World.ownsRow_nil _ _ _ _,((dY).trans (hb1.mono aF)).alloc aF _⟩
 have HP0:=aB hP0
 have c0:=(aA hP0.sc 0).trans (hcs 0 y0 hy0).1
 have hlen:(0:Int)<ls.length:=by have:=(List.getElem?_eq_some_iff.1 hy0).1;omega
 have HCS:=aB hcs
 clear ho hb1 hct hcs hP0 hsc
 go_wp2_with fail
 refine (hc2 _).mono ?_
 rintro e w2 ⟨⟨a2,cap2,rfl,ho2⟩,hb2⟩
 obtain ⟨sb2,cs2,rfl,bMF,hsc2,hcs2⟩:=RF ho2 hwn2 a5B
 have rT:=aB (HP0.out.grow hb2)
 generalize hpb:w1.heap.size=pb at *
 clear hb2 HP0 hc2 c0 ho2
 go_upto_if 17 with fail
 go_cut [17] from 17 to 25 (fun _ wx=>Hid (PS w.heap.size pb sb cs (pfR l) (.slice none 0 0) [] w wx))
 case first =>
  by_cases h2:ws.length=2
  ·obtain ⟨y1,hy1⟩:∃ y,ws[1]?=some y:=⟨_,List.getElem?_eq_getElem aF⟩
   have HRR:=aB (show pfR l=NS y1 by rw [HR.out,if_pos h2,List.getD_eq_getElem?_getD,hy1];rfl)
   obtain ⟨hc1,bBU⟩:=hcs2 1 y1 hy1
   have c1:=(aA hsc2 1).trans hc1
   have hsd:=YO y1 w2 bBU
   have hl2:(1:Int)<ws.length:=by omega
   have bMG :1<ws.length:=by omega
   have bBV:((ws.length:Int)==2)=true:=by rw [beq_iff_eq];omega
   generalize ba y1=Y1 at c1 hsd hc1
   generalize NS y1=V1 at hsd HRR
   clear hsc2 hcs2 hc1 hy1 HR h2
   go_wp2_with fail
   refine hsd.mono ?_
   rintro e w3 ⟨⟨ok,rfl⟩,hb3⟩
   have vB:=aB (rT.out.grow hb3)
   obtain ⟨f0,f1,z0,z1,s0,s1⟩:=vB.out.facts
   clear hb3 c1 hsd rT
   go_wp2_with fail
   go_meet
   case rel=>exact (by rw [HRR.out];exact vB.out.regs _)
  ·have HRR:=aB (show pfR l=0 by rw [HR.out,if_neg h2])
   have bBV:((ws.length:Int)==2)=false:=by rw [beq_eq_false_iff_ne];omega
   clear hsc2 hcs2 HR
   go_wp2_with fail
   go_meet
   case rel=>exact (by rw [HRR.out];exact rT.out)
 case rest =>
  clear rT hsc2 hcs2 HR hwn2 a5B
  have vB:=aB hcut.out
  clear hcut
  generalize pfR l=R at *
  generalize pfN l=N at *
  go_wp2_with fail
  go_loopw [7] (fun v7 wr=>∃ (i:Nat) (sv:Value),1≤i∧(i=1∨i+1≤ls.length)∧v7=.int .i64 i∧Hid (PS w.heap.size pb sb cs R sv (pfK ls i) w wr)) (fun i _=>ls.length-(intOf i).toNat)
  case atStart=>exact ⟨1,_,aF,Or.inl rfl,rfl,(by
   have e:pfK ls 1=[]:=by unfold pfK;cases ls <;> rfl
   rw [e];exact vB.out)⟩
  case round =>
   obtain ⟨i,sv,hi1,hi2,rfl,HP⟩:=hrel
   clear vB
   by_cases hlt:i+1<ls.length
   ·obtain ⟨y,hy⟩:∃ y,ls[i]?=some y:=⟨_,List.getElem?_eq_getElem aF⟩
    have hyl:=hwl y (List.mem_of_getElem? hy)
    have HSU:=aB (aQE hi1 hy)
    have hkl:=aUC (ls:=ls) (i:=i) aF
    obtain ⟨sa,bBW,rfl⟩:=tV HP.out.ow
    have HKL:=aB hkl
    have aRJ:(i:Int)+1<ls.length:=by omega
    have bGW:(i:Int)<ls.length:=by omega
    have c1:=(aA HP.out.sc i).trans (HCS.out i y hy).1
    obtain ⟨f0,f1,z0,z1,s0,s1⟩:=HP.out.facts
    have hgs:∀ u,Calls Tryz.prog 54 #[.string (ba y)] u fun e w' =>e=.returned (.agg #[.int .i64 (gL y).op,.int .i64 (gL y).d,.int .i64 (gL y).a,.int .i64 (gL y).b,.int .i64 (gL y).t,.int .i64 (gL y).e])∧Below u.heap.size u w' :=fun u=>aIW y u hyl
    generalize gL y=x at *
    generalize ba y=Y at c1 hgs
    generalize pfK ls i=K at *
    have hil:K.length≤259:=by omega
    clear hy hkl
    go_upto_region 9 with fail
    go_region_with (go_at_call 54;refine (hgs _).mono ?_;rintro e V ⟨rfl,hb⟩;have HV:=aB (HP.out.drew.grow hb);obtain ⟨f0,f1,z0,z1,s0,s1⟩:=HV.out.facts;obtain ⟨g,jM,w1,hrun,hown1,hgrow,hat,hgl⟩:=run_append_lies (P:=Tryz.prog) (V.alloc (.cells #[.int .i64 x.op,.int .i64 x.d,.int .i64 x.a,.int .i64 x.b,.int .i64 x.t,.int .i64 x.e] 42)) 22 22 (pb+1) 42 i0 _ 6 48 Tryz.underlying22 hi0 hz0 hz1 hz2 rfl aL (.slice sa K.length bBW) K.length (K.flatMap jT) (HV.out.ow.alloc _) ⟨V.heap.size,0,none⟩ 1 1 (jT x) rfl (aUF V x) (aUE x) aL (by unfold maxLen;omega) aF bF _ rfl;simp [go_sem] at hrun;have HO:=aB hown1;have HGR:=aB hgrow;have hw1:=HV.out.more _ hgrow;have k1:=aA hw1 1;have kf:=aC hw1 1;have ks:=aD hw1;simp at k1;clear hb hown1 hgrow hat hgl hw1)
    all_goals
     have HX:=aB (HV.out.step _ HO.out HGR.out)
     clear HO HGR HP HV
     go_wp2_with fail
     go_roundw
     case rel=>exact ⟨i+1,_,aF,Or.inr aF,by go_num,(by rw [HSU.out];exact HX.out)⟩
     case measure=>simp [intOf];omega
   ·have hKN:pfK ls i=N:=by rw [HN.out];exact aUD hwn hi1 hi2 hlt
    rw [hKN] at HP
    have hfit:∀ x∈N,-9223372036854775808≤x.a∧x.a≤9223372036854775807:=by
     rw [HN.out]
     intro x hx
     obtain ⟨z,_,rfl⟩:=List.mem_map.1 hx
     exact aPR _
    clear hKN HN HCS
    obtain ⟨a,ca,rfl⟩:=tV HP.out.ow
    obtain ⟨f0,f1,z0,z1,s0,s1⟩:=HP.out.facts
    have sK:¬ ((i:Int)+1<ls.length):=by omega
    have hSl:=uE HP.out.ow
    have hcp:=lJ R a ca N wr hSl
    by_cases hc:bM R N=0
    ·rw [hc] at hcp
     have hpt:=fun (u:World) (hb:Below wr.heap.size wr u)=>xY R a ca N u (hSl.below hb) hfit hc
     by_cases hsh:eX R N=l
     ·rw [hsh,HS.out] at hpt
      have QN:=aB (show pfB l=some (R,N) by rw [HB.out,if_pos ⟨hc,hsh⟩])
      clear hsh hc HB
      go_wp2_with fail
      refine hcp.mono ?_
      rintro e w3 ⟨rfl,hb3⟩
      have vB:=aB (HP.out.grow hb3)
      obtain ⟨f0,f1,z0,z1,s0,s1⟩:=vB.out.facts
      go_wp2_with fail
      refine (hpt _ hb3).mono ?_
      rintro e w4 ⟨rfl,hb4⟩
      have AQ:=aB (vB.out.grow hb4)
      obtain ⟨f0,f1,z0,z1,s0,s1⟩:=AQ.out.facts
      clear hb3 hb4 hcp hpt hSl HP vB
      go_wp2_with (refine wpList_plain rfl fun _ hK=>wp_store_row _ _ _ rfl _ #[.int .i64 R,.slice a N.length ca] rfl rfl _ _ AQ.out.rb dL rfl (by simp [Value.oneCell']) (hK _ _ ?_))
      refine bodyPost_ret (bV Tryz.results24 _ _ _ _ _ _ _ (.bool true) rfl (setRow_heap _ _ _ #[.int .i64 R,.slice a N.length ca] _ _ AQ.out.rb) Tryz.underlying24 rfl dL rfl) rfl ⟨?_,AQ.out.bl.trans ⟨rfl,rfl,rfl,aQ,fun k hk=>setRow_other _ _ _ _ aF⟩⟩
      rw [QN.out]
      have ho:=AQ.out.ord
      exact ⟨a,ca,rfl,aK (sJ AQ.out.ow aF _) aF⟩
     ·have QN:=aB (show pfB l=none by rw [HB.out,if_neg (fun h=>hsh h.2)])
      have hne:((ba (eX R N)).toList==S.toList)=false:=by
       rw [← HS.out,ByteArray.toList_eq,ByteArray.toList_eq,jB,jB]
       simpa using hsh
      generalize ba (eX R N)=A at hne hpt
      clear hsh hc HB
      go_wp2_with fail
      refine hcp.mono ?_
      rintro e w3 ⟨rfl,hb3⟩
      have vB:=aB (HP.out.grow hb3)
      obtain ⟨f0,f1,z0,z1,s0,s1⟩:=vB.out.facts
      go_wp2_with fail
      refine (hpt _ hb3).mono ?_
      rintro e w4 ⟨rfl,hb4⟩
      have AQ:=aB (vB.out.grow hb4)
      obtain ⟨f0,f1,z0,z1,s0,s1⟩:=AQ.out.facts
      clear hb3 hb4 hcp hpt hSl HP vB
      go_wp2_with (refine wpList_plain rfl fun _ hK=>wp_store_row _ _ _ rfl _ z2 rfl rfl _ _ AQ.out.rb dL rfl rC (hK _ _ ?_))
      refine bodyPost_ret (bV Tryz.results24 _ _ _ _ _ _ _ (.bool false) rfl (setRow_heap _ _ _ z2 _ _ AQ.out.rb) Tryz.underlying24 rfl dL rfl) rfl ⟨?_,AQ.out.bl.trans ⟨rfl,rfl,rfl,aQ,fun k hk=>setRow_other _ _ _ _ aF⟩⟩
      rw [QN.out];rfl
    ·have QN:=aB (show pfB l=none by rw [HB.out,if_neg (fun h=>hc h.1)])
     have hcb:(bM R N==0)=false:=by rw [beq_eq_false_iff_ne];exact hc
     clear HB hfit
     generalize bM R N=C at hc hcb hcp
     go_wp2_with fail
     refine hcp.mono ?_
     rintro e w3 ⟨rfl,hb3⟩
     have vB:=aB (HP.out.grow hb3)
     obtain ⟨f0,f1,z0,z1,s0,s1⟩:=vB.out.facts
     clear hb3 hcp hSl HP
     go_wp2_with (refine wpList_plain rfl fun _ hK=>wp_store_row _ _ _ rfl _ z2 rfl rfl _ _ vB.out.rb dL rfl rC (hK _ _ ?_))
     refine bodyPost_ret (bV Tryz.results24 _ _ _ _ _ _ _ (.bool false) rfl (setRow_heap _ _ _ z2 _ _ vB.out.rb) Tryz.underlying24 rfl dL rfl) rfl ⟨?_,vB.out.bl.trans ⟨rfl,rfl,rfl,aQ,fun k hk=>setRow_other _ _ _ _ aF⟩⟩
     rw [QN.out];rfl
theorem aUG (l:List UInt8):pfB l=lT l:=by
 cases h:lT l with
 | some p =>
  obtain ⟨r,ns⟩:=p
  obtain ⟨hc,hs,ha⟩:=KO h
  obtain ⟨h1,h2⟩:=aTV hc ha
  rw [hs] at h1 h2
  unfold pfB
  rw [h1,h2,if_pos ⟨hc,hs⟩]
 | none =>
  unfold pfB
  rw [if_neg]
  rintro ⟨hc,hs⟩
  have ha:∀ x∈pfN l,-9223372036854775808≤x.a∧x.a≤9223372036854775807:=by
   intro x hx
   unfold pfN at hx
   obtain ⟨z,_,rfl⟩:=List.mem_map.1 hx
   exact aPR _
  have:=vO hc ha
  rw [hs,h] at this
  cases this
end Go.Proofs.YtegloodcbfalfaaGreatDoor
namespace Go.Proofs.YtegloodcbfalfaaGreatDoor
open Go.RowKit Go.Shelf
def smT:Tm:=⟨3,0,1⟩
def smQ:List Nd:=[⟨9,0,0,0,1,0⟩,⟨9,1,0,0,2,0⟩,⟨11,0,0,0,3,7⟩,⟨3,2,0,1,4,0⟩,⟨10,0,2,0,8,0⟩,⟨3,2,0,1,6,0⟩,⟨12,0,2,0,0,0⟩,⟨0,0,0,0,5,0⟩,⟨0,0,0,0,5,0⟩]
def wC:List Nd:=[⟨9,0,0,0,1,0⟩,⟨9,1,0,0,2,0⟩,⟨11,0,0,0,3,7⟩,⟨3,3,0,1,9,0⟩,⟨10,0,2,0,8,0⟩,⟨2,2,3,0,6,0⟩,⟨12,0,2,0,0,0⟩,⟨3,3,0,1,10,0⟩,⟨0,0,0,0,5,0⟩,⟨2,2,3,0,4,0⟩,⟨0,0,0,0,5,0⟩]
theorem aUH:cB cO=cO:=by kernel_rfl
theorem aQF:splitN cO=smQ:=by kernel_rfl
theorem aCT:aS cO=smQ:=by unfold aS;rw [aUH,aQF]
theorem aUI:dG smQ smT=[false,false,true,true,true,true,false,true,true]:=by kernel_rfl
theorem a5C:sV smQ smT=[false,false,false,false,true,false,true,false,true]:=by kernel_rfl
theorem aQG:dA smQ smT=[false,false,true,false,false,false,false,false,false]:=by unfold dA;rw [aUI,a5C];kernel_rfl
theorem aQH:dH smQ smT=[false,false,true,true,false,false,false,true,false]:=by unfold dH eZ;rw [aQG];kernel_rfl
theorem RL:dI smQ smT=[false,false,false,true,false,false,false,true,false]:=by unfold dI;rw [aQH];kernel_rfl
theorem YS:fA smQ smT=[true,true,true,false,false,true,true,false,false]:=by unfold fA fT;rw [RL];kernel_rfl
theorem aQI:bK smQ smT=[false,false,false,true,false,false,false,true,false]:=by unfold bK;rw [RL,YS];kernel_rfl
theorem aUJ:aZ smQ smT=[false,false,false,true,false,true,false,false,false]:=by unfold aZ;rw [RL,YS];kernel_rfl
theorem aZI:rW cO smT=true:=by unfold rW;rw [aCT,aQI];rfl
theorem a5D:iG cO smT 3=wC:=by unfold iG;rw [aZI,if_pos rfl,aCT,aQI,aUJ];kernel_rfl
theorem bBX:kU cO smT 3=4:=by unfold kU;rw [aZI];rfl
theorem RN:bM 3 cO=0:=by kernel_rfl
theorem bBY:gV 3 cO smT=0:=by
 unfold gV
 rw [RN,aCT,aZI,a5D]
 rfl
theorem aVN:(fin 4 wC [4,5] 99).out=[9]:=by kernel_rfl
theorem a5E:(fin 4 wC [4,5] 99).ret=9:=by kernel_rfl
theorem a5F:(fin 4 wC [4,5] 99).ended=true:=by kernel_rfl
theorem a5G:(fin 4 wC [4,5] 99).steps=9:=by kernel_rfl
theorem aVO:(fin 4 wC [4,5] 99).cts=[⟨⟨3,0,1⟩,1⟩]:=by kernel_rfl
theorem a5H:uT 4 wC 2 99=0:=by kernel_rfl
theorem aZJ:mW cO cO.length=[smT]:=by kernel_rfl
theorem aZK:iU 3 cO (mW cO cO.length)=(0,4,wC):=by
 rw [aZJ]
 show jH (0,3,cO) smT=_
 unfold jH
 rw [if_neg aQ,bBY,if_pos rfl,bBX,a5D]
theorem aUK:gT wC=wC:=by kernel_rfl
theorem aZL:cB wC=wC:=by kernel_rfl
theorem NZ:bS 3 cO [2,3,4]=(0,4,wC):=by
 have e2:gI (0,3,cO) 2=(0,4,wC):=by
  unfold gI gZ
  rw [if_pos rfl,if_neg aL,if_neg aL,if_pos rfl]
  exact aZK
 have e3:gI (0,4,wC) 3=(0,4,wC):=by
  unfold gI gZ
  rw [if_pos rfl,if_neg aL,if_pos rfl,aUK]
 have e4:gI (0,4,wC) 4=(0,4,wC):=by
  unfold gI gZ
  rw [if_pos rfl,if_pos rfl,aZL]
 show gI (gI (gI (0,3,cO) 2) 3) 4=_
 rw [e2,e3,e4]
theorem aQJ:dX 3 cO [2,3,4]=0:=by
 unfold dX
 rw [RN,if_pos rfl,if_pos aL,if_pos aL,NZ]
theorem RQ (b off c lb:Nat) (w:World) (hN:aH w b off cO) (hI:dW w (some ⟨lb,0,none⟩) [2,3,4]) :
 Calls Tryz.prog 4 #[.agg #[.int .i64 3,.slice (some ⟨b,off,none⟩) 7 c],.slice (some ⟨lb,0,none⟩) 3 3] w fun e w' =>∃ gb gq gc,e=.returned (.tuple #[.agg #[.int .i64 4,.slice (some ⟨gb,gq,none⟩) 11 gc],.int .i64 0])∧aH w' gb gq wC∧w.heap.size≤gb∧Below w.heap.size w w' :=by
 refine (vX 3 (some ⟨b,off,none⟩) c cO (some ⟨lb,0,none⟩) 3 [2,3,4] w (Or.inr ⟨b,off,rfl,hN⟩) hI aL).mono ?_
 rintro e w' ⟨h,hB⟩
 rw [aQJ,NZ] at h
 rcases h with ⟨q,_⟩ | ⟨_,gb,gq,gc,rfl,hn,hg⟩
 ·exact absurd rfl q
 ·exact ⟨gb,gq,gc,rfl,hn,hg,hB⟩
def smS:List UInt8:=eX 3 cO
def YT:List UInt8:=eX 4 wC
theorem aUL:smS.length≤140737488355328:=of_decide_eq_true fJ
theorem aQK:YT.length≤140737488355328:=of_decide_eq_true fJ
theorem aVQ:∀ x∈cO,-9223372036854775808≤x.a∧x.a≤9223372036854775807:=by decide
theorem aQL:∀ x∈wC,-9223372036854775808≤x.a∧x.a≤9223372036854775807:=by decide
theorem aFE:bM 4 wC=0:=by kernel_rfl
theorem aQM:lT smS=some (3,cO):=vO RN aVQ
theorem aIX:lT YT=some (4,wC):=vO aFE aQL
theorem aQN (w:World) (hE:Env w):Calls Tryz.prog 22 #[.string (ba smS)] w fun e w' =>∃ b off c,e=.returned (.tuple #[.agg #[.int .i64 3,.slice (some ⟨b,off,none⟩) 7 c],.int .i64 0])∧aH w' b off cO∧Below w.heap.size w w' :=by
 refine (DU smS w hE aUL).mono ?_
 rintro e w' ⟨h,hB⟩
 rw [aQM] at h
 obtain ⟨a,c,rfl,hs⟩:=h
 obtain ⟨b,off,rfl,hn⟩:=hs.some aL
 exact ⟨b,off,c,rfl,hn,hB⟩
theorem aIY (w:World) (hE:Env w):Calls Tryz.prog 22 #[.string (ba YT)] w fun e w' =>∃ b off c,e=.returned (.tuple #[.agg #[.int .i64 4,.slice (some ⟨b,off,none⟩) 11 c],.int .i64 0])∧aH w' b off wC∧Below w.heap.size w w' :=by
 refine (DU YT w hE aQK).mono ?_
 rintro e w' ⟨h,hB⟩
 rw [aIX] at h
 obtain ⟨a,c,rfl,hs⟩:=h
 obtain ⟨b,off,rfl,hn⟩:=hs.some aL
 exact ⟨b,off,c,rfl,hn,hB⟩
theorem aQO (b c:Nat) (w:World) (hN:aH w b 0 cO) (hE:Env w):Calls Tryz.prog 23 #[.agg #[.int .i64 3,.slice (some ⟨b,0,none⟩) 7 c]] w fun e w' =>e=.returned (.tuple #[.string (ba smS),.int .i64 0])∧Below w.heap.size w w' :=
 wN 3 (some ⟨b,0,none⟩) c cO w (Or.inr ⟨b,0,rfl,hN⟩) hE aVQ RN
theorem aIZ (b off c:Nat) (w:World) (hN:aH w b off wC) (hE:Env w):Calls Tryz.prog 23 #[.agg #[.int .i64 4,.slice (some ⟨b,off,none⟩) 11 c]] w fun e w' =>e=.returned (.tuple #[.string (ba YT),.int .i64 0])∧Below w.heap.size w w' :=
 wN 4 (some ⟨b,off,none⟩) c wC w (Or.inr ⟨b,off,rfl,hN⟩) hE aQL aFE
theorem IP (lb:Nat) (w:World) (hE:Env w) (hI:dW w (some ⟨lb,0,none⟩) [2,3,4]) :
 Calls Tryz.prog 6 #[.string (ba smS),.slice (some ⟨lb,0,none⟩) 3 3] w fun e w' =>e=.returned (.tuple #[.string (ba YT),.int .i64 0])∧Below w.heap.size w w' :=by
 have HRD:=aB (aQN w hE)
 have HSH:=aB (fun (W:World) (b off c:Nat) (hN:aH W b off wC) (hB:Below w.heap.size w W)=>aIZ b off c W hN (hE.below hB))
 have rZ:=aB (fun (W:World) (b off c:Nat) (hN:aH W b off cO) (hB:Below w.heap.size w W)=>RQ b off c lb W hN (hI.below hB))
 clear hE hI
 generalize ba smS=S1 at *
 generalize ba YT=S2 at *
 go_enter Tryz.func6,Tryz.ntmps6
 go_wp2_with fail
 refine HRD.out.mono ?_
 rintro e w1 ⟨b,off,c,rfl,hN1,hb1⟩
 obtain ⟨w2,hw2⟩:∃ w2,Hid (w1.alloc (.cells #[.int .i64 3,.slice (some ⟨b,off,none⟩) 7 c] 24)=w2):=⟨_,rfl⟩
 have hx:Below w1.heap.size w1 w2:=by rw [← hw2.out];exact dY
 have hk:w2.heap[w1.heap.size]?=some (.cells #[.int .i64 3,.slice (some ⟨b,off,none⟩) 7 c] 24 (0,0)):=by rw [← hw2.out];exact World.alloc_heap_new w1 _
 have HB2:=aB (bG hb1 hx)
 have ZU:=aB (hN1.below hx hN1.lt)
 go_upto_region 2 with fail
 rw [hw2.out]
 have a5I:w.heap.size≤w1.heap.size:=hb1.size
 generalize w1.heap.size=PB at hk a5I ⊢
 have p0:=aA hk 0
 have p1:=aA hk 1
 simp at p0 p1
 have pl:=aD hk
 have HK:=aB hk
 clear hk hx hw2 hb1 hN1
 go_wp2_with fail
 refine (rZ.out _ b off c ZU.out HB2.out).mono ?_
 rintro e w3 ⟨gb,gq,gc,rfl,hN3,hg3,hb3⟩
 have hk3:=(hb3.block _ pl).trans HK.out
 have r0:=aA hk3 0
 have r1:=aA hk3 1
 simp at r0 r1
 have f0:=aC hk3 0
 have f1:=aC hk3 1
 have rl:=aD hk3
 have hne:gb≠PB:=Ne.symm (Nat.ne_of_lt (Nat.lt_of_lt_of_le pl hg3))
 have hPB:w.heap.size≤PB:=a5I
 have k4:=bQ (v0:=.int .i64 4) (v1:=.slice (some ⟨gb,gq,none⟩) 11 gc) hk3
 have HN4:Hid (aH ((w3.setCell ⟨PB,0,none⟩ (.int .i64 4)).setCell ⟨PB,1,none⟩ (.slice (some ⟨gb,gq,none⟩) 11 gc)) gb gq wC):=(hN3.iE hne).iE hne
 have kP:=aB (aW (v0:=.int .i64 4) (v1:=.slice (some ⟨gb,gq,none⟩) 11 gc) (bG HB2.out hb3) (B:=PB) hPB)
 clear p0 p1 hN3 hb3 hk3 rZ HRD HK pl
 go_upto_region 5 with fail
 generalize ((w3.setCell ⟨PB,0,none⟩ (.int .i64 4)).setCell ⟨PB,1,none⟩ (.slice (some ⟨gb,gq,none⟩) 11 gc))=w4 at k4 HN4 kP ⊢
 clear r0 r1 f0 f1 rl
 have r0:=aA k4 0
 have r1:=aA k4 1
 simp at r0 r1
 have rl:=aD k4
 clear k4
 go_wp2_with fail
 refine (HSH.out _ gb gq gc HN4.out kP.out).mono ?_
 rintro e w5 ⟨rfl,hb5⟩
 go_wp2
 exact bodyPost_ret (v:=.tuple #[.string S2,.int .i64 0]) (by simp [results,Tryz.results6,go_sem]) rfl ⟨rfl,bG kP.out hb5⟩
theorem aUM (b off c bi:Nat) (w:World) (hN:aH w b off wC) (hb:bi<w.heap.size) (h0:w.cell? ⟨bi,0,none⟩=some (.int .i64 4)) (h1:w.cell? ⟨bi,1,none⟩=some (.int .i64 5)) :
 Calls Tryz.prog 27 #[.agg #[.int .i64 4,.slice (some ⟨b,off,none⟩) 11 c],.slice (some ⟨bi,0,none⟩) 2 2,.int .i64 99] w fun e w' =>∃ ao co ac cc,e=.returned (.tuple #[.agg #[.slice ao 1 co,.int .i64 9,.bool true,.int .i64 9,.slice ac 1 cc],.int .i64 0])∧dW w' ao [9]∧sQ w' ac [⟨⟨3,0,1⟩,1⟩]∧Below w.heap.size w w' :=by
 refine (aRX 4 b off c wC _ 2 [4,5] 99 w hN (aWQ hb h0 h1) aQ a5H).mono ?_
 rintro e w' ⟨ao,co,ac,cc,rfl,hI,hC,hb', _,_⟩
 rw [aVO] at hC
 rw [aVN] at hI
 exact ⟨ao,co,ac,cc,by rw [aVN,a5E,a5F,a5G,aVO];rfl,hI,hC,hb'⟩
theorem aCU (w:World):dW (w.alloc (.cells #[.int .i64 2,.int .i64 3,.int .i64 4] 3)) (some ⟨w.heap.size,0,none⟩) [2,3,4]:=by
 have h:=World.alloc_heap_new w (.cells #[.int .i64 2,.int .i64 3,.int .i64 4] 3)
 refine Or.inr ⟨_,_,rfl,aD h,?_⟩
 intro j z hz
 rw [aA h]
 match j,hz with
 | 0,hz=>simp at hz;subst hz;rfl
 | 1,hz=>simp at hz;subst hz;rfl
 | 2,hz=>simp at hz;subst hz;rfl
 | j+3,hz=>simp at hz
theorem IQ (w:World) (hE:Env w) :
 Calls Tryz.prog 8 #[] w fun e w' =>e=.returned (.bool true)∧Below w.heap.size w w' :=by
 have HE:=aB hE
 clear hE
 go_enter Tryz.func8,Tryz.ntmps8
 go_wp2_with fail
 refine (aFG _).mono ?_
 rintro e w1 ⟨rfl,hN1,hb1⟩
 have HSH:=aB (aQO (w.heap.size+1) 7 w1 hN1 (HE.out.below hb1))
 have JF:=aB (fun (W:World) (h:Below w.heap.size w W)=>IP W.heap.size (W.alloc (.cells #[.int .i64 2,.int .i64 3,.int .i64 4] 3)) (HE.out.below (h.alloc h.size _)) (aCU W))
 have HRD:=aB (fun (W:World) (h:Below w.heap.size w W)=>aIY W (HE.out.below h))
 generalize ba smS=S1 at *
 generalize ba YT=S2 at *
 clear hN1
 go_wp2_with fail
 refine HSH.out.mono ?_
 rintro e w2 ⟨rfl,hb2⟩
 have hB2:=bG hb1 hb2
 clear hb1 hb2 HSH
 go_wp2_with fail
 refine (JF.out _ hB2).mono ?_
 rintro e w3 ⟨rfl,hb3⟩
 have hB3:=(hB2.alloc hB2.size (.cells #[.int .i64 2,.int .i64 3,.int .i64 4] 3)).trans (hb3.mono (by have:=hB2.size;simp;omega))
 clear hB2 hb3 JF
 go_wp2_with fail
 refine (HRD.out _ hB3).mono ?_
 rintro e w4 ⟨b,off,c,rfl,hN4,hb4⟩
 obtain ⟨w5,hw5⟩:∃ w5,Hid (w4.alloc (.cells #[.int .i64 4,.slice (some ⟨b,off,none⟩) 11 c] 24)=w5):=⟨_,rfl⟩
 have hx:Below w4.heap.size w4 w5:=by rw [← hw5.out];exact dY
 have hk:w5.heap[w4.heap.size]?=some (.cells #[.int .i64 4,.slice (some ⟨b,off,none⟩) 11 c] 24 (0,0)):=by rw [← hw5.out];exact World.alloc_heap_new w4 _
 have hB4:=bG hB3 hb4
 have AL:=aB (bG hB4 hx)
 have HN5:=aB (hN4.below hx hN4.lt)
 go_upto_region 4 with fail
 rw [hw5.out]
 generalize w4.heap.size=PB at hk ⊢
 have p0:=aA hk 0
 have p1:=aA hk 1
 simp at p0 p1
 have pl:=aD hk
 clear hk hx hw5 hb4 hN4 hB3 hB4 HRD HE
 have hba:Below w5.heap.size w5 (w5.alloc (.cells #[.int .i64 4,.int .i64 5] 3)):=dY
 go_wp2_with fail
 refine (aUM b off c _ _ (HN5.out.below hba HN5.out.lt) aQ aQ aQ).mono ?_
 rintro e w6 ⟨ao,co,ac,cc,rfl,hI6,hC6,hb6⟩
 obtain ⟨w7,hw7⟩:∃ w7,Hid (w6.alloc (.cells #[.slice ao 1 co,.int .i64 9,.bool true,.int .i64 9,.slice ac 1 cc] 53)=w7):=⟨_,rfl⟩
 have hx:Below w6.heap.size w6 w7:=by rw [← hw7.out];exact dY
 have hk:w7.heap[w6.heap.size]?=some (.cells #[.slice ao 1 co,.int .i64 9,.bool true,.int .i64 9,.slice ac 1 cc] 53 (0,0)):=by rw [← hw7.out];exact World.alloc_heap_new w6 _
 have a5J :=bG hba hb6
 have hb7:=bG a5J hx
 have HB7:=aB (bG AL.out hb7)
 have HI7:=aB (hI6.below hx)
 have HC7:=aB (hC6.below hx)
 go_upto_region 5 with fail
 rw [hw7.out]
 generalize w6.heap.size=RB at hk ⊢
 have r0:=aA hk 0
 have r1:=aA hk 1
 have r2:=aA hk 2
 have r3:=aA hk 3
 have r4:=aA hk 4
 simp at r0 r1 r2 r3 r4
 have rl:=aD hk
 clear hk hx hw7 hb6 a5J hb7 hI6 hC6 hba HN5 AL p0 p1 pl
 refine gY 35 (S:=fun u=>∀ p:Addr,p.block<w7.heap.size→u.cell? p=w7.cell? p) fJ (fun p hp=>rfl) (fun hHeld=>?_)
 refine tlw 0 ?_
 iterate 25 (refine tlv ?_)
 refine tlr 26 (fun K hK=>?_)
 go_simp
 refine hK.out _ _ (fun p hp=>((Below.refl w7.heap.size w7.drew).alloc dD _).cell hp) (fun hHeld=>?_)
 clear hK K
 refine tlr 27 (fun K hK=>?_)
 go_simp
 refine (aMH ao co 9 w7.drew HI7.out (Below.refl w7.heap.size w7).drew).mono ?_
 rintro e w8 ⟨rfl,hb8⟩
 refine hK.out _ _ (fun p hp=>hb8.cell hp) (fun hHeld=>?_)
 clear hK K
 iterate 3 (refine tlv ?_)
 refine tlr 31 (fun K hK=>?_)
 go_simp
 refine (aRC _).mono ?_
 rintro e w9 ⟨rfl,hb9⟩
 have hb9' :=bG hb8 hb9
 refine hK.out _ _ (fun p hp=>hb9'.cell hp) (fun hHeld=>?_)
 clear hK K
 refine tlr 32 (fun K hK=>?_)
 go_simp
 refine (aGP _ _ _ _ ac cc 1 w9 HC7.out hb9').mono ?_
 rintro e w10 ⟨rfl,hb10⟩
 refine hK.out _ _ (fun p hp=>hb10.cell hp) (fun hHeld=>?_)
 clear hK K
 iterate 2 (refine tlv ?_)
 refine tls 35 (fun K hK=>?_)
 go_simp
 refine hK.out _ _ ?_
 refine gB fJ ?_ _
 clear hK K hHeld
 go_wp2
 go_ret
 exact ⟨rfl,bG HB7.out hb10⟩
abbrev aJA (z:Int):Prop:= -9223372036854775808≤z∧z≤9223372036854775807
abbrev mV (ns:List Nd):Prop:=∀ x∈ns,-9223372036854775808≤x.a∧x.a≤9223372036854775807
theorem RU {ns:List Nd} (h:mV ns) (n:Nat):aJA (nd ns n).a:=by
 by_cases hn:n<ns.length
 ·obtain ⟨x,hx⟩:=bD hn
  rw [jF hx];exact h x (List.mem_of_getElem? hx)
 ·have:nd ns n=⟨0,0,0,0,0,0⟩:=by simp [nd,List.getD_eq_getElem?_getD,List.getElem?_eq_none (Nat.le_of_not_lt hn)]
  rw [this];decide
theorem OA {ns:List Nd} (h:mV ns):mV (cB ns):=fun y hy=>by
 obtain ⟨n,_,_,rfl⟩:=JV hy
 exact RU h n
theorem aJB {ns:List Nd} {n:Nat} {out:List Nd} (m:Int) (h:mV out):mV (eB ns n out m):=by
 unfold eB
 split
 ·intro x hx
  rcases List.mem_append.1 hx with hx | hx
  ·rcases List.mem_or_eq_of_mem_set hx with hx | rfl
   ·exact h x hx
   ·exact RU h n
  ·simp at hx;subst hx;exact (by decide:aJA 0)
 ·exact h
theorem vZ {α:Type} {f:List Nd→α→List Nd} (hf:∀ a out,mV out→mV (f out a)):∀ (l:List α) {out:List Nd},mV out→mV (l.foldl f out)
 | [],_,h=>h
 | a::l,_,h=>vZ hf l (hf a _ h)
theorem IR {ns:List Nd} (h:mV ns):mV (splitN ns):=vZ (fun n out ho=>by
 unfold IY
 split
 ·exact ho
 ·exact vZ (fun m o ho=>aJB m ho) _ ho) _ h
theorem aJC {ns:List Nd} (h:mV ns):mV (gT ns):=fun y hy=>by
 obtain ⟨n,hn⟩:=List.getElem?_of_mem hy
 have hl:n<ns.length:=by have:=(List.getElem?_eq_some_iff.1 hn).1;rwa [(dC.all ns).len] at this
 rw [← jF hn]
 rcases (dC.all ns).at_ n hl with e | ⟨_,_,e⟩ <;> rw [e]
 ·exact RU h n
 ·exact (by decide:aJA 0)
theorem aQP {r:Int} {ns:List Nd} {t:Tm} (h:mV ns) (ho:gV r ns t=0):mV (iG ns t r):=by
 have hok:=QO ho
 have hr:=(bE hok.ck).2.1
 have ha:=hok.tm.a
 have hq:mV (aS ns):=IR (OA h)
 have htk:∀ n,aJA (uW (aS ns) (aZ (aS ns) t) r n).a:=fun n=>by
  unfold uW
  split
  ·show aJA r;omega
  ·exact RU hq n
 unfold iG
 split
 ·rw [aOF]
  intro x hx
  rcases List.mem_append.1 hx with hx | hx
  ·obtain ⟨n,_,rfl⟩:=List.mem_map.1 hx
   unfold aoN
   split
   ·show aJA t.a;omega
   ·exact htk n
  ·obtain ⟨n,_,rfl⟩:=List.mem_map.1 hx
   exact htk n
 ·exact h
theorem YU:∀ (ts:List Tm) {x:Int × Int × List Nd},mV x.2.2→x.1=0→(ts.foldl jH x).1=0→mV (ts.foldl jH x).2.2
 | [],_,h,_,_=>h
 | t::ts,x,h,h0,he=>by
  rw [List.foldl_cons] at he ⊢
  by_cases h1:gV x.2.1 x.2.2 t=0
  ·have e:jH x t=(0,kU x.2.2 t x.2.1,iG x.2.2 t x.2.1):=by unfold jH;rw [if_neg (by simp [h0]),if_pos h1]
   rw [e] at he ⊢
   exact YU ts (aQP h h1) rfl he
  ·have e:jH x t=(gV x.2.1 x.2.2 t,0,[]):=by unfold jH;rw [if_neg (by simp [h0]),if_neg h1]
   rw [e,tO ts (by exact h1)] at he
   exact absurd he h1
theorem aCV {k r:Int} {ns:List Nd} (h:mV ns) (h0:(gZ k r ns).1=0):mV (gZ k r ns).2.2:=by
 unfold gZ at h0 ⊢
 split at h0 <;> rename_i e4
 ·rw [if_pos e4];exact OA h
 rw [if_neg e4]
 split at h0 <;> rename_i e3
 ·rw [if_pos e3];exact aJC h
 rw [if_neg e3]
 split at h0 <;> rename_i e2
 ·rw [if_pos e2];exact YU _ (x:=(0,r,ns)) h rfl h0
 rw [if_neg e2]
 split at h0 <;> rename_i hl
 ·rw [if_pos hl];exact IR h
 ·exact absurd h0 aL
theorem AC:∀ (l:List Int) {x:Int × Int × List Nd},x.1=0→mV x.2.2→(l.foldl gI x).1=0→mV (l.foldl gI x).2.2
 | [],_,_,h,_=>h
 | k::l,x,h0,h,he=>by
  rw [List.foldl_cons] at he ⊢
  have e:gI x k=gZ k x.2.1 x.2.2:=by rw [gI,if_pos h0]
  by_cases h1:(gI x k).1=0
  ·refine AC l h1 ?_ he
   rw [e] at h1 ⊢
   exact aCV h h1
  ·rw [qL h1] at he;exact absurd he h1
def xZ (s:List UInt8) (m:List Int):Int × List UInt8:=match lT s with
 | none=>(1,[])
 | some (r,ns)=>if dX r ns m=0 then (0,eX (bS r ns m).2.1 (bS r ns m).2.2) else (dX r ns m,[])
theorem OC {s:List UInt8} {m:List Int} (h:lT s=none):xZ s m=(1,[]):=by unfold xZ;rw [h]
theorem YV {s:List UInt8} {m:List Int} {r:Int} {ns:List Nd} (h:lT s=some (r,ns)) (he:dX r ns m≠0):xZ s m=(dX r ns m,[]):=by unfold xZ;rw [h];simp only;rw [if_neg he]
theorem aFF {s:List UInt8} {m:List Int} {r q:Int} {ns ms:List Nd} (h:lT s=some (r,ns)) (he:dX r ns m=0) (hx:bS r ns m=(0,q,ms)):xZ s m=(0,eX q ms):=by unfold xZ;rw [h];simp only;rw [if_pos he,hx]
theorem YW {s:List UInt8} {m:List Int} {r:Int} {ns:List Nd} (h:lT s=some (r,ns)) (he:dX r ns m=0):∃ q ms,bS r ns m=(0,q,ms)∧bM q ms=0∧mV ms:=by
 obtain ⟨hc,-,ha⟩:=KO h
 have h1:(bS r ns m).1=0:=by
  unfold dX at he
  rw [if_pos hc] at he
  split at he
  ·split at he
   ·exact he
   ·cases he
  ·cases he
 obtain ⟨⟨e0,q,ms⟩,hX⟩:∃ X,bS r ns m=X:=⟨_,rfl⟩
 have h2:=oQ hc h1
 have h3:=AC m (x:=(0,r,ns)) rfl ha h1
 change mV (bS r ns m).2.2 at h3
 rw [hX] at h1 h2 h3 ⊢
 simp only at h1
 subst h1
 exact ⟨q,ms,rfl,h2,h3⟩
def AY (r:Int) (ns:List Nd) (l:List Int):Int × List Nd:=if dX r ns l=0 then (bS r ns l).2 else (0,[])
theorem rP {r:Int} {ns:List Nd} {l:List Int} {w w' :World} {e:Ending} (h:lG r ns l w e w'):∃ a gc,e=.returned (.tuple #[.agg #[.int .i64 (AY r ns l).1,.slice a (AY r ns l).2.length gc],.int .i64 (dX r ns l)])∧pI w' a (AY r ns l).2∧(∀ p,a=some p→w.heap.size≤p.block)∧Below w.heap.size w w' :=by
 obtain ⟨h,hB⟩:=h
 rcases h with ⟨he,rfl⟩ | ⟨he,gb,gq,gc,rfl,hn,hg⟩
 ·exact ⟨none,0,by unfold AY;rw [if_neg he];rfl,Or.inl (by unfold AY;rw [if_neg he]),(fun p hp=>by cases hp),hB⟩
 ·exact ⟨some ⟨gb,gq,none⟩,gc,by unfold AY;rw [if_pos he,he],Or.inr ⟨gb,gq,rfl,by unfold AY;rw [if_pos he];exact hn⟩,(fun p hp=>by cases hp;exact hg),hB⟩
theorem pI.set2 {u:World} {a:Option Addr} {ms:List Nd} {B:Nat} {v0 v1:Value} (h:pI u a ms) (hne:∀ p:Addr,a=Option.some p→p.block≠B):pI ((u.setCell ⟨B,0,none⟩ v0).setCell ⟨B,1,none⟩ v1) a ms:=by
 rcases h with h | ⟨b,off,rfl,h⟩
 ·exact Or.inl h
 ·exact Or.inr ⟨b,off,rfl,xV h (hne _ rfl)⟩
theorem RV (s:List UInt8) (ma:Option Addr) (mc:Nat) (m:List Int) (w:World) (hE:Env w) (hI:dW w ma m) (hl:s.length≤140737488355328) (hwf:∀ z∈m,(Lit.int .i64 z).wf=true) :
 Calls Tryz.prog 6 #[.string (ba s),.slice ma m.length mc] w fun e w' =>e=.returned (.tuple #[.string (ba (xZ s m).2),.int .i64 (xZ s m).1])∧Below w.heap.size w w' :=by
 have HRD:=aB (DU s w hE hl)
 obtain ⟨O,HO⟩:∃ O,Hid (xZ s m=O):=⟨_,rfl⟩
 rw [HO.out]
 go_enter Tryz.func6,Tryz.ntmps6
 go_wp2_with fail
 refine HRD.out.mono ?_
 rintro e w1 ⟨h,hb1⟩
 have HB1:=aB hb1
 clear HRD hb1
 cases hr:lT s with
 | none =>
  rw [hr] at h
  simp only [aDR] at h
  subst h
  obtain ⟨V,HV,hbV,-⟩:=bx1 w1 (.cells #[.int .i64 0,.slice none 0 0] 24)
  have ZT:=aB (bG HB1.out hbV)
  have e1:=OC (m:=m) hr
  rw [HO.out] at e1
  have HE:=aB e1
  clear hr e1
  go_upto_region 2 with fail
  rw [HV.out]
  clear HV hbV
  go_wp2
  exact bodyPost_ret (v:=.tuple #[.string ⟨#[]⟩,.int .i64 1]) (by simp [results,Tryz.results6,go_sem]) rfl ⟨by rw [HE.out];rfl,ZT.out⟩
 | some p =>
  obtain ⟨r,ns⟩:=p
  rw [hr] at h
  obtain ⟨a,c,rfl,hs⟩:=h
  obtain ⟨V,HV,hbV,x0⟩:=bx1 w1 (.cells #[.int .i64 r,.slice a ns.length c] 24)
  have ZT:=aB (bG HB1.out hbV)
  have rZ:=aB (vX r a c ns ma mc m V (hs.below hbV) (hI.below ZT.out) hwf)
  have HRR:=aB hr
  have HEn:=aB hE
  have hlow:w.heap.size≤w1.heap.size:=HB1.out.size
  clear hr hE hI hs hwf
  go_upto_region 2 with fail
  rw [HV.out]
  clear HV hbV
  generalize w1.heap.size=PB at x0 hlow ⊢
  have p0:=aA x0 0
  have p1:=aA x0 1
  simp at p0 p1
  have pl:=aD x0
  have HX0:=aB x0
  clear x0
  go_wp2_with fail
  refine rZ.out.mono ?_
  rintro e w3 h3
  obtain ⟨a3,gc,rfl,hS3,ha3,hb3⟩:=rP h3
  have hk3:=(hb3.block _ pl).trans HX0.out
  have r0:=aA hk3 0
  have r1:=aA hk3 1
  simp at r0 r1
  have f0:=aC hk3 0
  have f1:=aC hk3 1
  have rl:=aD hk3
  have hB4:=fun v0 v1=>aW (v0:=v0) (v1:=v1) (B:=PB) (bG ZT.out hb3) hlow
  have HS4:=aB (fun v0 v1=>pI.set2 hS3 (v0:=v0) (v1:=v1) (B:=PB) (fun p hp=>by have:=ha3 p hp;omega))
  have kP:=aB hB4
  have HK4:=aB (fun v0 v1=>bQ (v0:=v0) (v1:=v1) hk3)
  clear h3 hS3 ha3 hk3 hB4 p0 p1 pl rZ HX0
  by_cases he:dX r ns m=0
  ·obtain ⟨q,ms,hX,hcq,hfa⟩:=YW HRR.out he
   have e1:=aFF HRR.out he hX
   rw [HO.out] at e1
   have HE:=aB e1
   have hpq:AY r ns m=(q,ms):=by unfold AY;rw [if_pos he,hX]
   rw [hpq] at HS4 ⊢
   rw [he]
   simp only at HS4 ⊢
   have HB:=aB (kP.out (.int .i64 q) (.slice a3 ms.length gc))
   have HS:=aB (HS4.out (.int .i64 q) (.slice a3 ms.length gc))
   have HK:=aB (HK4.out (.int .i64 q) (.slice a3 ms.length gc))
   clear kP HS4 HK4 he hX e1 hpq
   go_upto_region 5 with fail
   clear r0 r1 f0 f1 rl
   generalize ((w3.setCell ⟨PB,0,none⟩ (.int .i64 q)).setCell ⟨PB,1,none⟩ (.slice a3 ms.length gc))=U at HB HS HK ⊢
   have HSH:=aB (wN q a3 gc ms U HS.out (HEn.out.below HB.out) hfa hcq)
   have k0:=aA HK.out 0
   have k1:=aA HK.out 1
   simp at k0 k1
   have kl:=aD HK.out
   clear hfa hcq
   go_wp2_with fail
   refine HSH.out.mono ?_
   rintro e w5 ⟨rfl,hb5⟩
   go_wp2
   exact bodyPost_ret (v:=.tuple #[.string (ba (eX q ms)),.int .i64 0]) (by simp [results,Tryz.results6,go_sem]) rfl ⟨by rw [HE.out],bG HB.out hb5⟩
  ·have e1:=YV HRR.out he
   rw [HO.out] at e1
   have HE:=aB e1
   have hCb:(dX r ns m==0)=false:=by simp [he]
   have hCn:(dX r ns m != 0)=true:=by simp [he]
   have HB:=aB (kP.out (.int .i64 (AY r ns m).1) (.slice a3 (AY r ns m).2.length gc))
   clear kP HS4 HK4 he e1
   generalize dX r ns m=C at *
   generalize AY r ns m=X at *
   go_upto_region 5 with fail
   clear r0 r1 f0 f1 rl
   generalize ((w3.setCell ⟨PB,0,none⟩ (.int .i64 X.1)).setCell ⟨PB,1,none⟩ (.slice a3 X.2.length gc))=U at HB ⊢
   go_wp2
   exact bodyPost_ret (v:=.tuple #[.string ⟨#[]⟩,.int .i64 C]) (by simp [results,Tryz.results6,go_sem]) rfl ⟨by rw [HE.out];rfl,HB.out⟩
theorem JP (s:List UInt8) (ma:Option Addr) (mc:Nat) (m:List Int) (w:World) (hI:dW w ma m) (hl:s.length≤140737488355328) :
 Calls Tryz.prog 7 #[.string (ba s),.slice ma m.length mc] w fun e w' =>e=.returned (.tuple #[.string (ba (xZ s m).2),.int .i64 (xZ s m).1])∧Below w.heap.size w w' :=by
 have HRD:=aB (RH s w hl)
 rw [aUG] at HRD
 obtain ⟨O,HO⟩:∃ O,Hid (xZ s m=O):=⟨_,rfl⟩
 rw [HO.out]
 go_enter Tryz.func7,Tryz.ntmps7
 go_wp2_with fail
 refine HRD.out.mono ?_
 rintro e w1 ⟨h,hb1⟩
 have HB1:=aB hb1
 clear HRD hb1
 cases hr:lT s with
 | none =>
  rw [hr] at h
  simp only [wP] at h
  subst h
  obtain ⟨V,HV,hbV,-⟩:=bx1 w1 (.cells #[.int .i64 0,.slice none 0 0] 24)
  have ZT:=aB (bG HB1.out hbV)
  have e1:=OC (m:=m) hr
  rw [HO.out] at e1
  have HE:=aB e1
  clear hr e1
  go_upto_region 2 with fail
  rw [HV.out]
  clear HV hbV
  go_wp2
  exact bodyPost_ret (v:=.tuple #[.string ⟨#[]⟩,.int .i64 1]) (by simp [results,Tryz.results7,go_sem]) rfl ⟨by rw [HE.out];rfl,ZT.out⟩
 | some p =>
  obtain ⟨r,ns⟩:=p
  rw [hr] at h
  obtain ⟨a,c,rfl,hv⟩:=h
  have hs:pI w1 a ns:=uE hv
  obtain ⟨V,HV,hbV,x0⟩:=bx1 w1 (.cells #[.int .i64 r,.slice a ns.length c] 24)
  have ZT:=aB (bG HB1.out hbV)
  have rZ:=aB (xX r a c ns ma mc m V (hs.below hbV) (hI.below ZT.out))
  have HRR:=aB hr
  clear hr hI hs hv
  go_upto_region 2 with fail
  rw [HV.out]
  clear HV hbV
  have p0:=aA x0 0
  have p1:=aA x0 1
  simp at p0 p1
  have pl:=aD x0
  clear x0
  go_wp2_with fail
  refine rZ.out.mono ?_
  rintro e w3 h3
  obtain ⟨a3,gc,rfl,hS3,ha3,hb3⟩:=rP h3
  obtain ⟨U,HU,hbU,u0⟩:=bx1 w3 (.cells #[.int .i64 (AY r ns m).1,.slice a3 (AY r ns m).2.length gc] 24)
  have HB:=aB ((bG ZT.out hb3).trans (hbU.mono (bG ZT.out hb3).size))
  have HS:=aB (hS3.below hbU)
  have HK:=aB u0
  clear h3 hS3 ha3 p0 p1 pl rZ u0
  go_upto_region 5 with fail
  rw [HU.out]
  clear HU hbU hb3
  by_cases he:dX r ns m=0
  ·obtain ⟨q,ms,hX,hcq,hfa⟩:=YW HRR.out he
   have e1:=aFF HRR.out he hX
   rw [HO.out] at e1
   have HE:=aB e1
   have hpq:AY r ns m=(q,ms):=by unfold AY;rw [if_pos he,hX]
   rw [hpq] at HS HK ⊢
   rw [he]
   simp only at HS HK ⊢
   have HSH:=aB (xY q a3 gc ms U HS.out hfa hcq)
   have k0:=aA HK.out 0
   have k1:=aA HK.out 1
   simp at k0 k1
   have kl:=aD HK.out
   clear hfa hcq he hX e1 hpq
   go_wp2_with fail
   refine HSH.out.mono ?_
   rintro e w5 ⟨rfl,hb5⟩
   go_wp2
   exact bodyPost_ret (v:=.tuple #[.string (ba (eX q ms)),.int .i64 0]) (by simp [results,Tryz.results7,go_sem]) rfl ⟨by rw [HE.out],bG HB.out hb5⟩
  ·have e1:=YV HRR.out he
   rw [HO.out] at e1
   have HE:=aB e1
   have hCb:(dX r ns m==0)=false:=by simp [he]
   have hCn:(dX r ns m != 0)=true:=by simp [he]
   clear he e1 HK HS
   generalize dX r ns m=C at *
   generalize AY r ns m=X at *
   go_wp2
   exact bodyPost_ret (v:=.tuple #[.string ⟨#[]⟩,.int .i64 C]) (by simp [results,Tryz.results7,go_sem]) rfl ⟨by rw [HE.out];rfl,HB.out⟩
theorem aZM (r:Int) (ns:List Nd) (l:List Int):(AY r ns l).2.length≤256:=by
 unfold AY
 split
 ·rename_i he
  unfold dX at he
  split at he
  ·rename_i hc
   split at he
   ·split at he
    ·exact (bE (oQ hc he)).1.2
    ·cases he
   ·cases he
  ·rename_i hc;exact absurd he hc
 ·simp
theorem AZ (r:Int) (a:Option Addr) (cap:Nat) (ns:List Nd) (la:Option Addr) (lc:Nat) (l:List Int) (s:List UInt8) (ma:Option Addr) (mc:Nat) (m:List Int) (w:World) (hE:Env w) (hN:pI w a ns) (hL:dW w la l) (hwl:∀ z∈l,(Lit.int .i64 z).wf=true) (hs:s.length≤140737488355328) (hM:dW w ma m) (hwm:∀ z∈m,(Lit.int .i64 z).wf=true) :
 Calls Tryz.prog 3 #[.agg #[.int .i64 r,.slice a ns.length cap],.slice la l.length lc,.string (ba s),.slice ma m.length mc] w fun e w' =>e=.returned (.bool true)∧Below w.heap.size w w' :=by
 obtain ⟨W,HW,hbA,p0⟩:=bx1 w (.cells #[.int .i64 r,.slice a ns.length cap] 24)
 have HPA:=aB (vX r a cap ns la lc l W (hN.below hbA) (hL.below hbA) hwl)
 have HPO:=aB (fun (u:World) (h:Below w.heap.size w u)=>xX r a cap ns la lc l u (hN.below h) (hL.below h))
 have HOA:=aB (fun (u:World) (h:Below w.heap.size w u)=>RV s ma mc m u (hE.below h) (hM.below h) hs hwm)
 have HOD:=aB (fun (u:World) (h:Below w.heap.size w u)=>JP s ma mc m u (hM.below h) hs)
 have HWB:=aB (fun (u:World) (h:Below w.heap.size w u)=>IQ u (hE.below h))
 have HPL:=aB (aZM r ns l)
 have HB:=aB hbA
 have HP:=aB p0
 clear hE hN hL hM hwl hwm hs hbA p0
 generalize ba s=S0 at *
 generalize ba (xZ s m).2=S1 at *
 generalize (xZ s m).1=E1 at *
 go_enter Tryz.func3,Tryz.ntmps3
 go_upto_region 1 with fail
 rw [HW.out]
 clear HW
 have q0:=aA HP.out 0
 have q1:=aA HP.out 1
 simp at q0 q1
 have pl:=aD HP.out
 go_wp2_with fail
 refine HPA.out.mono ?_
 rintro e w1 h1
 obtain ⟨a1,g1,rfl,hS1,-,hb1⟩:=rP h1
 obtain ⟨V1,jU,hv1,x1⟩:=bx1 w1 (.cells #[.int .i64 (AY r ns l).1,.slice a1 (AY r ns l).2.length g1] 24)
 have hb01:=bG hb1 hv1
 have HB1:=aB (bG HB.out hb01)
 have kH:=aB ((hb01.block _ pl).trans HP.out)
 have HS1:=aB (hS1.below hv1)
 have HX1:=aB x1
 clear q0 q1 pl HPA h1 hS1 hb1 hb01 x1 HP
 go_upto_region 2 with fail
 rw [jU.out]
 clear jU hv1
 generalize w1.heap.size=B1 at HX1 ⊢
 have q0:=aA kH.out 0
 have q1:=aA kH.out 1
 simp at q0 q1
 have pl:=aD kH.out
 go_wp2_with fail
 refine (HPO.out _ HB1.out).mono ?_
 rintro e w2 h2
 obtain ⟨a2,g2,rfl,hS2,-,hb2⟩:=rP h2
 obtain ⟨V2,oG,hv2,x2⟩:=bx1 w2 (.cells #[.int .i64 (AY r ns l).1,.slice a2 (AY r ns l).2.length g2] 24)
 have aUN:=bG hb2 hv2
 have HB2:=aB (bG HB1.out aUN)
 have a5K:=aB (HS1.out.below aUN)
 have a5L:=aB (bP aUN HX1.out)
 have HS2:=aB (hS2.below hv2)
 have HX2:=aB x2
 clear q0 q1 pl HPO h2 hS2 hb2 aUN x2 kH HS1 HX1
 go_upto_region 3 with fail
 rw [oG.out]
 clear oG hv2
 generalize w2.heap.size=B2 at HX2 ⊢
 generalize (AY r ns l).1=Q at *
 generalize (AY r ns l).2=M at *
 generalize dX r ns l=E0 at *
 go_wp2_with fail
 refine (HOA.out _ HB2.out).mono ?_
 rintro e w3 ⟨rfl,hb3⟩
 have HB3:=aB (bG HB2.out hb3)
 have HL:=aB (And.intro hb3 HB3.out)
 clear HOA hb3
 go_wp2_with fail
 refine (HOD.out _ HB3.out).mono ?_
 rintro e w4 ⟨rfl,hb4⟩
 have kP:=aB (bG HB3.out hb4)
 have a5M:=bG HL.out.1 hb4
 have H24:=aB a5M
 clear HOD hb4 a5M HL
 go_upto_region 5 with fail
 go_wp2_with fail
 refine (HWB.out _ kP.out).mono ?_
 rintro e w5 ⟨rfl,hb5⟩
 have VO:=bG H24.out hb5
 have AL:=aB (bG kP.out hb5)
 have hx1:=bP VO a5L.out
 have hx2:=bP VO HX2.out
 have HSA:=aB (EC Q a1 a2 g1 g2 M w5 (a5K.out.below VO) (HS2.out.below VO) (by have:=HPL.out;omega))
 have c0:=aA hx1 0
 have c1:=aA hx1 1
 have d0:=aA hx2 0
 have d1:=aA hx2 1
 simp at c0 c1 d0 d1
 have cl:=aD hx1
 have dl:=aD hx2
 clear hx1 hx2 VO hb5 H24 HWB kP HB3 a5L HX2 a5K HS2
 go_wp2_with fail
 refine HSA.out.mono ?_
 rintro e w6 ⟨rfl,hb6⟩
 go_wp2
 go_ret
 exact ⟨rfl,bG AL.out hb6⟩
end Go.Proofs.YtegloodcbfalfaaGreatDoor
