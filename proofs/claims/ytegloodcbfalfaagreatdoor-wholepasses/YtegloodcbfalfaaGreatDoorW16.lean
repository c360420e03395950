/-
  Of the proof of WholePasses: ZD, ZP, UA, UB, UC, UE, UF.
-/
import Derived.Test.YtegloodcbfalfaaGreatDoorW1
import Derived.Test.YtegloodcbfalfaaGreatDoorW2
import Derived.Test.YtegloodcbfalfaaGreatDoorW3
import Derived.Test.YtegloodcbfalfaaGreatDoorW7
import Derived.Test.YtegloodcbfalfaaGreatDoorW8
import Derived.Test.YtegloodcbfalfaaGreatDoorW13
import Derived.Test.YtegloodcbfalfaaGreatDoorW15
import Derived.Laws.IdiomStrings
import Derived.Deep.AppendLies
set_option linter.unusedVariables false
set_option linter.unusedSimpArgs false
set_option maxHeartbeats 40000000
set_option maxRecDepth 100000
namespace Go.Proofs.YtegloodcbfalfaaGreatDoor
open Go.RowKit Go.Shelf
theorem bBO (w:World) (o0 o1:Obj):∃ W,Hid ((w.alloc o0).alloc o1=W)∧Below w.heap.size w W∧W.heap[w.heap.size]?=some o0∧W.heap[w.heap.size+1]?=some o1:=by
 refine ⟨_,rfl,(dY).alloc aQ _,(Below.heap_alloc _ _ _ aQ).trans (World.alloc_heap_new w _),?_⟩
 have:=World.alloc_heap_new (w.alloc o0) o1
 rwa [World.size_alloc] at this
theorem qO {w w' :World} {b n:Nat} (h:w.ownsMap Tryz.prog 3 asIs b n tL) (hb:Below w.heap.size w w'):w'.ownsMap Tryz.prog 3 asIs b n tL:=by
 have hl:=h.lt
 obtain ⟨es,clock,k,F,hs,hD⟩:=h
 exact ⟨es,clock,(hb.block _ hl).trans k,F,hs,hD⟩
theorem map_set {w:World} {b n c o:Nat} {v:Value} (h:w.ownsMap Tryz.prog 3 asIs b n tL) (hne:b≠c):(w.setCell ⟨c,o,none⟩ v).ownsMap Tryz.prog 3 asIs b n tL:=by
 obtain ⟨es,clock,k,F,hs,hD⟩:=h
 exact ⟨es,clock,(Below.heap_setCell _ _ _ _ hne).trans k,F,hs,hD⟩
def dX (r:Int) (ns:List Nd) (l:List Int):Int:=if bM r ns=0 then (if l.length≤16 then (if l.all iM=true then (bS r ns l).1 else 4) else 2) else bM r ns
def lG (r:Int) (ns:List Nd) (l:List Int) (w:World) (e:Ending) (w' :World):Prop :=
 (dX r ns l≠0∧e=.returned (.tuple #[.agg #[.int .i64 0,.slice none 0 0],.int .i64 (dX r ns l)]) ∨
  dX r ns l=0∧∃ gb gq gc,e=.returned (.tuple #[.agg #[.int .i64 (bS r ns l).2.1,.slice (some ⟨gb,gq,none⟩) (bS r ns l).2.2.length gc],.int .i64 0])∧aH w' gb gq (bS r ns l).2.2∧w.heap.size≤gb)∧Below w.heap.size w w'
theorem vX (r:Int) (a:Option Addr) (cap:Nat) (ns:List Nd) (la:Option Addr) (lc:Nat) (l:List Int) (w:World) (hN:pI w a ns) (hL:dW w la l) (hwf:∀ z∈l,(Lit.int .i64 z).wf=true) :
 Calls Tryz.prog 4 #[.agg #[.int .i64 r,.slice a ns.length cap],.slice la l.length lc] w (lG r ns l w):=by
 obtain ⟨W,HW,hbA,p0,p1⟩:=bBO w (.cells #[.int .i64 r,.slice a ns.length cap] 24) (.cells #[.int .i64 0,.slice none 0 0] 24)
 have wX:=aB (fG r a cap ns W (hN.below hbA))
 have q0:=aA p0 0
 have q1:=aA p0 1
 simp at q0 q1
 have pl:=aD p0
 have HB:=aB hbA
 have HP:=aB p0
 have HR:=aB p1
 clear hbA p0 p1
 unfold lG
 generalize hE:dX r ns l=E
 have HE:=aB hE
 clear hE
 go_enter Tryz.func4,Tryz.ntmps4
 go_upto_region 1 with fail
 rw [HW.out]
 clear HW
 go_wp2_with fail
 refine wX.out.mono ?_
 rintro e w1 ⟨rfl,hb1⟩
 have HB1:=aB (bG HB.out hb1)
 have hR:=bP hb1 HR.out
 have kH:=aB (bP hb1 HP.out)
 have k0:=aA hR 0
 have k1:=aA hR 1
 simp at k0 k1
 have f0:=aC hR 0
 have f1:=aC hR 1
 have kl:=aD hR
 have HR1:=aB hR
 have hk:=bQ (v0:=.int .i64 0) (v1:=.slice none 0 0) hR
 have nA:=aW (v0:=.int .i64 0) (v1:=.slice none 0 0) HB1.out (B:=w.heap.size+1) aF
 clear q0 q1 pl hb1 wX HB HP HR hR
 by_cases hc:bM r ns=0
 ·obtain ⟨b,off,rfl,hNb⟩:=hN.some (bB hc).1.1
  have hl:=(bB hc).1
  have HC:=aB hc
  rw [hc]
  have HN:=aB hNb
  clear hN hNb hc
  by_cases hm:l.length≤16
  ·have KW:¬ ((l.length:Int)>16):=by omega
   have hmb:(decide ((l.length:Int)>16))=false:=by simp;omega
   clear hk nA
   go_upto_region 6 with fail
   go_wp2_with fail
   refine (QJ _).mono ?_
   rintro e w2 ⟨rfl,hm2,hb2⟩
   obtain ⟨w3,hw3⟩:∃ w3,Hid (w2.alloc (.cells #[.map (some w1.heap.size)] 35)=w3):=⟨_,rfl⟩
   have hx3:Below w2.heap.size w2 w3:=by rw [← hw3.out];exact dY
   have hk3:w3.heap[w2.heap.size]?=some (.cells #[.map (some w1.heap.size)] 35 (0,0)):=by rw [← hw3.out];exact World.alloc_heap_new w2 _
   have hb3:Below w1.heap.size w1 w3:=bG hb2 hx3
   have hm3:w3.ownsMap Tryz.prog 3 asIs w1.heap.size 4 tL:=qO hm2 hx3
   have HB3:=aB (bG HB1.out hb3)
   have HR3:=aB (bP hb3 HR1.out)
   have vB:=aB (bP hb3 kH.out)
   have KH:=aB hm3
   have HK3:=aB hk3
   go_upto_region 8 with fail
   rw [hw3.out]
   have HEV:=aB (rE iM 12 #[.pointer (some ⟨w2.heap.size,0,none⟩)] la lc l w3 (hL.below HB3.out) aF (enters_of Tryz.func12 fJ rfl) (fun z hz V hV=>(XR z w2.heap.size w1.heap.size 4 V (by rw [aA (bP hV hk3)];rfl) (aD (bP hV hk3)) (qO hm3 hV) (hwf z hz)).mono fun e w' h=>⟨h.1,by rw [h.2];exact Below.refl _ _⟩))
   have YY:w1.heap.size<w2.heap.size:=hm2.lt
   clear hm2 hb2 hw3 hx3 hk3 hb3 hm3 HB1 HR1 kH k0 k1 f0 f1 kl
   go_wp2_with fail
   refine HEV.out.mono ?_
   rintro e w4 ⟨rfl,hb4⟩
   have kP:=aB (bG HB3.out hb4)
   have HR4:=aB (bP hb4 HR3.out)
   have AQ:=aB (bP hb4 vB.out)
   have HM4:=aB (qO KH.out hb4)
   have HK4:=aB (bP hb4 HK3.out)
   clear hb4 HB3 HR3 vB KH HK3 HEV
   cases ha:l.all iM
   ·have e1:E=4:=by rw [← HE.out];unfold dX;rw [if_pos HC.out,if_pos hm,ha,if_neg aL]
    have SE:=aB e1
    clear e1 hm HE ha
    have hR:=HR4.out
    have k0:=aA hR 0
    have k1:=aA hR 1
    simp at k0 k1
    have f0:=aC hR 0
    have f1:=aC hR 1
    have kl:=aD hR
    have hk:=bQ (v0:=.int .i64 0) (v1:=.slice none 0 0) hR
    have nA:=aW (v0:=.int .i64 0) (v1:=.slice none 0 0) kP.out (B:=w.heap.size+1) aF
    clear hR
    go_wp2_with fail
    clear k0 k1 f0 f1 kl
    generalize ((w4.setCell ⟨w.heap.size+1,0,none⟩ (.int .i64 0)).setCell ⟨w.heap.size+1,1,none⟩ (.slice none 0 0))=Wf at hk nA ⊢
    have k0:=aA hk 0
    have k1:=aA hk 1
    simp at k0 k1
    exact bodyPost_ret (v:=.tuple #[.agg #[.int .i64 0,.slice none 0 0],.int .i64 4]) (by simp [results,Tryz.results4,go_sem,k0,k1]) rfl ⟨Or.inl ⟨by rw [SE.out];decide,by rw [SE.out]⟩,nA⟩
   ·have e1:E=(bS r ns l).1:=by rw [← HE.out];unfold dX;rw [if_pos HC.out,if_pos hm,ha,if_pos rfl]
    have SE:=aB e1
    have HA:=aB ha
    clear e1 HE ha
    go_upto_region 10 with fail
    have HS:Hid (∀ u:World,Below w4.heap.size w4 u→u.cell? ⟨w.heap.size,0,none⟩=some (.int .i64 r)∧u.cell? ⟨w.heap.size,1,none⟩=some (.slice (some ⟨b,off,none⟩) ns.length cap)):=fun u h=>by
     have k1:=bP h AQ.out
     refine ⟨?_,?_⟩
     ·rw [aA k1];rfl
     ·rw [aA k1];rfl
    have pl:w.heap.size<w4.heap.size:=aD AQ.out
    have rl:w.heap.size+1<w4.heap.size:=aD HR4.out
    have ml:w2.heap.size<w4.heap.size:=aD HK4.out
    go_cut [9] from 30 to 35 (fun v wx=>∃ QB gb gc,v=.pointer (some ⟨QB,0,none⟩)∧w4.heap.size≤QB∧wx.heap[QB]?=some (.cells #[.int .i64 r,.slice (some ⟨gb,0,none⟩) ns.length gc] 24 (0,0))∧aH wx gb 0 ns∧gb≠QB∧w4.heap.size≤gb∧Below w4.heap.size w4 wx)
    case first =>
     go_region_held3 (fun u=>u.cell? ⟨w.heap.size,0,none⟩=some (.int .i64 r)∧u.cell? ⟨w.heap.size,1,none⟩=some (.slice (some ⟨b,off,none⟩) ns.length cap)) (first
      | (with_reducible refine HS.out _ ?_;first | with_reducible exact uV | with_reducible exact uV.alloc uV.size _ | with_reducible exact (Below.refl _ w4).drew | with_reducible exact (Below.refl _ w4) | with_reducible exact (dY).drew | with_reducible exact (Below.refl _ w4).drew.alloc aQ _ | with_reducible exact dY)
      | (with_reducible refine HS.out _ ?_;exact aW uV dD)) (first
      | (go_at_call 14;refine (GU b off cap ns w4 (HN.out.below kP.out HN.out.lt) aF).mono ?_;rintro e w7 ⟨gb,gc,rfl,hN7,hg7,hk7,uV⟩;have z0:=aA hk7 0;have z1:=aA hk7 1;simp at z0 z1;have f0:=aC hk7 0;have f1:=aC hk7 1;have zl:=aD hk7;have HX:=aB (And.intro hN7 hk7);clear hN7 hk7)
      | (go_at_call 14;refine (GR b off cap ns w4 (HN.out.below kP.out HN.out.lt) aF).mono ?_;rintro e w7 ⟨gb,gc,rfl,hN7,hg7,uV⟩;have HX:=aB hN7;clear hN7))
     all_goals (go_wp2;go_meet)
     all_goals first
      | exact ⟨w4.heap.size,gb,gc,rfl,Nat.le_refl _,bQ HX.out.2,(HX.out.1.iE aF).iE aF,aF,aF,aW uV dD⟩
      | exact ⟨w7.heap.size,gb,gc,rfl,uV.size,kL rfl,HX.out.below (dY) HX.out.lt,Nat.ne_of_lt HX.out.lt,hg7,uV.alloc uV.size _⟩
    case rest =>
     obtain ⟨QB,gb,gc,rfl,hQ,hK,hNg,hne,hgb,JM⟩:=hcut
     have HK:=aB hK
     have HNg:=aB hNg
     have HBc:=aB JM
     have aOU:w.heap.size+1≠QB:=by omega
     have a4X:w1.heap.size≠QB:=by omega
     have bLW:w2.heap.size≠QB:=by omega
     clear hK hNg JM HS AQ HN
     generalize hW:wc=V at *
     clear hW
     go_wp2_with fail
     go_loopw [38] (fun i wr=>∃ (k gb gq gc:Nat),k≤l.length∧i=.int .i64 k∧(bS r ns (l.take k)).1=0∧wr.heap[QB]?=some (.cells #[.int .i64 (bS r ns (l.take k)).2.1,.slice (some ⟨gb,gq,none⟩) (bS r ns (l.take k)).2.2.length gc] 24 (0,0))∧aH wr gb gq (bS r ns (l.take k)).2.2∧gb≠QB∧w4.heap.size≤gb∧wr.ownsMap Tryz.prog 3 asIs w1.heap.size 4 tL∧Below w4.heap.size w4 wr) (fun i _=>l.length-(intOf i).toNat)
     case atStart=>exact ⟨0,gb,0,gc,Nat.zero_le _,rfl,rfl,HK.out,HNg.out,hne,hgb,qO HM4.out HBc.out,HBc.out⟩
     case round =>
      obtain ⟨k,gb,gq,gc,hk,rfl,h0,hK,hN,hne,hgb,hM,hb⟩:=hrel
      have hgd:=oQ HC.out h0
      obtain ⟨⟨e0,q,ms⟩,hX⟩:∃ X,bS r ns (l.take k)=X:=⟨_,rfl⟩
      rw [hX] at h0 hK hN hgd
      simp only at h0 hK hN hgd
      subst h0
      have HX:=aB hX
      have HR:=aB ((hb.block _ rl).trans HR4.out)
      have HKB:=aB ((hb.block _ ml).trans HK4.out)
      have HBw:=aB (bG kP.out hb)
      have hwr:w4.heap.size≤wr.heap.size:=hb.size
      clear hX
      by_cases hlt:k<l.length
      ·obtain ⟨z,hz⟩:=bD hlt
       obtain ⟨lb,lo,rfl,ll,hlv⟩:=hL.at hlt
       have hki:(k:Int)<(l.length:Int):=by omega
       have hzm:=List.mem_of_getElem? hz
       have hpz:iM z=true:=List.all_eq_true.1 HA.out z hzm
       have c0:=(HBw.out.cell (p:=⟨lb,lo+k,none⟩) ll).trans (hlv k z hz)
       have ll' :lb<wr.heap.size:=Nat.lt_of_lt_of_le ll HBw.out.size
       have KL:=MV hM (hwf z hzm)
       rw [aPE hpz] at KL
       unfold fnV at KL
       have eg:=QT z
       have aVL:=fun (W:World) (h:aH W gb gq ms)=>aPF z q gb gq gc ms W h hgd
       have vJ:=aB (show l.take (k+1)=l.take k++[z] by rw [List.take_add_one,hz];rfl)
       have rZ:=aB aVL
       have HM:=aB hM
       have HNn:=aB hN
       have q0:=aA hK 0
       have q1:=aA hK 1
       have m0:=aA HKB.out 0
       simp at q0 q1 m0
       have ql:=aD hK
       have qlw:=aD hK
       have mll:=aD HKB.out
       have HKq:=aB hK
       have HBb:=aB hb
       generalize AA z=n at KL eg rZ
       clear hz hzm hpz hlv aVL hM hN hK hb
       go_wp2_with fail
       refine (rZ.out wr HNn.out).mono ?_
       rintro e w5 ⟨h,hb5⟩
       have yM:=(hb5.block _ ql).trans HKq.out
       have BQ:=bP hb5 HR.out
       have AL:=aB (HBb.out.trans (hb5.mono hwr))
       have aYL:=aB (bG HBw.out hb5)
       have HM5:=aB (qO HM.out hb5)
       have hl5:=hb5.size
       have hss:=HBw.out.size
       clear q0 q1 m0 mll ql HKq HR HNn HBb HBw rZ hb5 c0 KL eg HKB
       have q0:=aA yM 0
       have q1:=aA yM 1
       simp at q0 q1
       have f0:=aC yM 0
       have f1:=aC yM 1
       have ql5:=aD yM
       have hS1:bS r ns (l.take (k+1))=gZ z q ms:=by rw [vJ.out,xU,HX.out,gI,if_pos rfl]
       generalize gZ z q ms=Y at h hS1
       obtain ⟨C,q', ms'⟩:=Y
       simp only at h
       rcases h with ⟨hne0,rfl⟩ | ⟨rfl,nb,nq,nc,rfl,hV,hnb⟩
       ·have hCb:(C==0)=false:=by simp [hne0]
        have hCn:(C != 0)=true:=by simp [hne0]
        have hF:(bS r ns l).1=C:=by
         have e2:l=l.take (k+1)++l.drop (k+1):=(List.take_append_drop _ _).symm
         rw [e2,bS,List.foldl_append]
         change (List.foldl gI (bS r ns (l.take (k+1))) _).1=C
         rw [hS1,qL (by exact hne0)]
        have HF:=aB hF
        have HNE:=aB hne0
        clear hF hne0 hS1
        have HR6:Hid (((w5.setCell ⟨QB,0,none⟩ (.int .i64 0)).setCell ⟨QB,1,none⟩ (.slice none 0 0)).heap[w.heap.size+1]?=some (.cells #[.int .i64 0,.slice none 0 0] 24 (0,0))):=(bJ aOU _ _).trans ((bJ aOU _ _).trans BQ)
        have aOV:=aB (aW (v0:=.int .i64 0) (v1:=.slice none 0 0) aYL.out (B:=QB) aF)
        clear yM BQ
        go_upto_region 16 with fail
        clear q0 q1 f0 f1 ql5
        generalize ((w5.setCell ⟨QB,0,none⟩ (.int .i64 0)).setCell ⟨QB,1,none⟩ (.slice none 0 0))=U2 at HR6 aOV ⊢
        have hR:=HR6.out
        have k0:=aA hR 0
        have k1:=aA hR 1
        simp at k0 k1
        have f0:=aC hR 0
        have f1:=aC hR 1
        have kl:=aD hR
        have hk:=bQ (v0:=.int .i64 0) (v1:=.slice none 0 0) hR
        have nA:=aW (v0:=.int .i64 0) (v1:=.slice none 0 0) aOV.out (B:=w.heap.size+1) aF
        clear hR
        go_wp2_with fail
        clear k0 k1 f0 f1 kl
        generalize ((U2.setCell ⟨w.heap.size+1,0,none⟩ (.int .i64 0)).setCell ⟨w.heap.size+1,1,none⟩ (.slice none 0 0))=Wf at hk nA ⊢
        have k0:=aA hk 0
        have k1:=aA hk 1
        simp at k0 k1
        exact bodyPost_ret (v:=.tuple #[.agg #[.int .i64 0,.slice none 0 0],.int .i64 C]) (by simp [results,Tryz.results4,go_sem,k0,k1]) rfl ⟨Or.inl ⟨by rw [SE.out,HF.out];exact HNE.out,by rw [SE.out,HF.out]⟩,nA⟩
       ·have hnq:nb≠QB:=Ne.symm (Nat.ne_of_lt (Nat.lt_of_lt_of_le qlw hnb))
        have HN6:Hid (aH ((w5.setCell ⟨QB,0,none⟩ (.int .i64 q')).setCell ⟨QB,1,none⟩ (.slice (some ⟨nb,nq,none⟩) ms'.length nc)) nb nq ms'):=(hV.iE hnq).iE hnq
        have HK6:Hid (((w5.setCell ⟨QB,0,none⟩ (.int .i64 q')).setCell ⟨QB,1,none⟩ (.slice (some ⟨nb,nq,none⟩) ms'.length nc)).heap[QB]?=some (.cells #[.int .i64 q', .slice (some ⟨nb,nq,none⟩) ms'.length nc] 24 (0,0))):=bQ yM
        have HB6:=aB (aW (v0:=.int .i64 q') (v1:=.slice (some ⟨nb,nq,none⟩) ms'.length nc) AL.out (B:=QB) aF)
        have HM6:=aB (map_set (o:=1) (v:=.slice (some ⟨nb,nq,none⟩) ms'.length nc) (map_set (o:=0) (v:=.int .i64 q') HM5.out a4X) a4X)
        have HS1:=aB hS1
        clear hV yM BQ hS1
        go_upto_region 16 with fail
        clear q0 q1 f0 f1 ql5
        generalize ((w5.setCell ⟨QB,0,none⟩ (.int .i64 q')).setCell ⟨QB,1,none⟩ (.slice (some ⟨nb,nq,none⟩) ms'.length nc))=U2 at HN6 HK6 HB6 HM6 ⊢
        go_wp2_with fail
        go_roundw
        case rel=>exact ⟨k+1,nb,nq,nc,aF,by go_num,by rw [HS1.out],by rw [HS1.out];exact HK6.out,by rw [HS1.out];exact HN6.out,hnq,aF,HM6.out,HB6.out⟩
        case measure=>simp [intOf];omega
      ·have ek:l.take k=l:=List.take_of_length_le aF
       rw [ek] at HX
       have hki:¬ (k:Int)<(l.length:Int):=by omega
       have q0:=aA hK 0
       have q1:=aA hK 1
       simp at q0 q1
       have ql:=aD hK
       have hR:=HR.out
       have k0:=aA hR 0
       have k1:=aA hR 1
       simp at k0 k1
       have f0:=aC hR 0
       have f1:=aC hR 1
       have kl:=aD hR
       have hk2:=bQ (v0:=.int .i64 q) (v1:=.slice (some ⟨gb,gq,none⟩) ms.length gc) hR
       have nA:=aW (v0:=.int .i64 q) (v1:=.slice (some ⟨gb,gq,none⟩) ms.length gc) HBw.out (B:=w.heap.size+1) aF
       have hgR:gb≠w.heap.size+1:=by omega
       have HN6:Hid (aH ((wr.setCell ⟨w.heap.size+1,0,none⟩ (.int .i64 q)).setCell ⟨w.heap.size+1,1,none⟩ (.slice (some ⟨gb,gq,none⟩) ms.length gc)) gb gq ms):=(hN.iE hgR).iE hgR
       clear hR hK hN hM hb
       go_wp2_with fail
       clear k0 k1 f0 f1 kl
       generalize ((wr.setCell ⟨w.heap.size+1,0,none⟩ (.int .i64 q)).setCell ⟨w.heap.size+1,1,none⟩ (.slice (some ⟨gb,gq,none⟩) ms.length gc))=Wf at hk2 nA HN6 ⊢
       have k0:=aA hk2 0
       have k1:=aA hk2 1
       simp at k0 k1
       exact bodyPost_ret (v:=.tuple #[.agg #[.int .i64 q,.slice (some ⟨gb,gq,none⟩) ms.length gc],.int .i64 0]) (by simp [results,Tryz.results4,go_sem,k0,k1]) rfl ⟨Or.inr ⟨by rw [SE.out,HX.out],gb,gq,⟨gc,by rw [HX.out]⟩,by rw [HX.out];exact HN6.out,aF⟩,nA⟩
  ·have KW:(l.length:Int)>16:=by omega
   have hmb:(decide ((l.length:Int)>16))=true:=by simp;omega
   have e1:E=2:=by rw [← HE.out];unfold dX;rw [if_pos HC.out,if_neg hm]
   have SE:=aB e1
   clear e1 hm HE
   go_wp2_with fail
   clear k0 k1 f0 f1 kl
   generalize ((w1.setCell ⟨w.heap.size+1,0,none⟩ (.int .i64 0)).setCell ⟨w.heap.size+1,1,none⟩ (.slice none 0 0))=Wf at hk nA ⊢
   have k0:=aA hk 0
   have k1:=aA hk 1
   simp at k0 k1
   exact bodyPost_ret (v:=.tuple #[.agg #[.int .i64 0,.slice none 0 0],.int .i64 2]) (by simp [results,Tryz.results4,go_sem,k0,k1]) rfl ⟨Or.inl ⟨by rw [SE.out];decide,by rw [SE.out]⟩,nA⟩
 ·have hCb:(bM r ns==0)=false:=by simp [hc]
  have hCn:(bM r ns != 0)=true:=by simp [hc]
  have e1:E=bM r ns:=by rw [← HE.out];unfold dX;rw [if_neg hc]
  have SE:=aB e1
  have HNE:=aB hc
  clear hc e1 HE
  generalize bM r ns=C at *
  go_wp2_with fail
  clear k0 k1 f0 f1 kl
  generalize ((w1.setCell ⟨w.heap.size+1,0,none⟩ (.int .i64 0)).setCell ⟨w.heap.size+1,1,none⟩ (.slice none 0 0))=Wf at hk nA ⊢
  have k0:=aA hk 0
  have k1:=aA hk 1
  simp at k0 k1
  exact bodyPost_ret (v:=.tuple #[.agg #[.int .i64 0,.slice none 0 0],.int .i64 C]) (by simp [results,Tryz.results4,go_sem,k0,k1]) rfl ⟨Or.inl ⟨by rw [SE.out];exact HNE.out,by rw [SE.out]⟩,nA⟩
theorem qP {r:Int} {ns:List Nd} {l:List Int} {k:Int} {w w' :World} (h:dX r ns l=k) (hk:k≠0) (hB:Below w.heap.size w w'):lG r ns l w (.returned (.tuple #[.agg #[.int .i64 0,.slice none 0 0],.int .i64 k])) w' :=by
 subst h
 exact ⟨Or.inl ⟨hk,rfl⟩,hB⟩
theorem aPP {r:Int} {ns:List Nd} {l:List Int} {q:Int} {ms:List Nd} {w w' :World} {gb gq gc:Nat} (h:dX r ns l=0) (hx:bS r ns l=(0,q,ms)) (hn:aH w' gb gq ms) (hg:w.heap.size≤gb) (hB:Below w.heap.size w w'):lG r ns l w (.returned (.tuple #[.agg #[.int .i64 q,.slice (some ⟨gb,gq,none⟩) ms.length gc],.int .i64 0])) w' :=
 ⟨Or.inr ⟨h,gb,gq,gc,by rw [hx],by rw [hx];exact hn,hg⟩,hB⟩
theorem aIR (z:Int):wi z 1 4=iM z:=by
 unfold iM wi
 rw [Bool.eq_iff_iff]
 simp
 omega
theorem QV (q:Int) (gb gq gc:Nat) (ms:List Nd) (u:World) (h:aH u gb gq ms) (hc:bM q ms=0):Calls Tryz.prog 18 #[.agg #[.int .i64 q,.slice (some ⟨gb,gq,none⟩) ms.length gc]] u (qK (gZ 1 q ms) u):=by
 refine (zV q gb gq gc ms u h hc).mono ?_
 rintro e w' ⟨v1,v2,er,rfl,h,hB⟩
 rcases h with ⟨hl,rfl,rfl,hv⟩ | ⟨hl,rfl,rfl,rfl⟩
 ·obtain ⟨nb,nc,rfl,hn,hb⟩:=fU hv (bB (iI hc hl)).1.1
  exact BU (by unfold gZ;rw [if_neg aL,if_neg aL,if_neg aL,if_pos hl]) hn hb hB
 ·exact xW (by unfold gZ;rw [if_neg aL,if_neg aL,if_neg aL,if_neg aF]) aL hB
theorem YL (q:Int) (gb gq gc:Nat) (ms:List Nd) (u:World) (h:aH u gb gq ms) (hc:bM q ms=0):Calls Tryz.prog 20 #[.agg #[.int .i64 q,.slice (some ⟨gb,gq,none⟩) ms.length gc]] u fun e w' =>∃ nb nc,e=.returned (.agg #[.int .i64 q,.slice (some ⟨nb,0,none⟩) (gT ms).length nc])∧aH w' nb 0 (gT ms)∧u.heap.size≤nb∧Below u.heap.size u w' :=by
 refine (aCP q gb gq gc ms u h hc).mono ?_
 rintro e w' ⟨cb,cc,rfl,hv,hB⟩
 have hl:(gT ms).length=ms.length:=(dC.all ms).len
 rw [← hl] at hv
 obtain ⟨nb,nc,e,hn,hb⟩:=fU hv (by rw [hl];exact (bB hc).1.1)
 cases e
 exact ⟨cb,cc,by rw [hl],hn,hb,hB⟩
theorem YM (q:Int) (gb gq gc:Nat) (ms:List Nd) (u:World) (h:aH u gb gq ms) (hc:bM q ms=0):Calls Tryz.prog 21 #[.agg #[.int .i64 q,.slice (some ⟨gb,gq,none⟩) ms.length gc]] u fun e w' =>∃ nb nc,e=.returned (.agg #[.int .i64 q,.slice (some ⟨nb,0,none⟩) (cB ms).length nc])∧aH w' nb 0 (cB ms)∧u.heap.size≤nb∧Below u.heap.size u w' :=by
 refine (callsIn_wide.1 (KY q gb gq gc ms u h hc)).mono ?_
 rintro e w' ⟨v,rfl,hv,hB⟩
 obtain ⟨nb,nc,rfl,hn,hb⟩:=fU hv (bB (fC hc)).1.1
 exact ⟨nb,nc,rfl,hn,hb,hB⟩
theorem xX (r:Int) (a:Option Addr) (cap:Nat) (ns:List Nd) (la:Option Addr) (lc:Nat) (l:List Int) (w:World) (hN:pI w a ns) (hL:dW w la l) :
 Calls Tryz.prog 5 #[.agg #[.int .i64 r,.slice a ns.length cap],.slice la l.length lc] w (lG r ns l w):=by
 obtain ⟨W,HW,hbA,p0,p1⟩:=VP w (.cells #[.int .i64 r,.slice a ns.length cap] 24) (.cells #[.int .i64 0,.slice none 0 0] 24)
 have wX:=aB (lJ r a cap ns W (hN.below hbA))
 have HB:=aB hbA
 have HP:=aB p0
 have HR:=aB p1
 have HN:=aB hN
 have HL:=aB hL
 clear hbA p0 p1 hN hL
 go_enter Tryz.func5,Tryz.ntmps5
 go_upto_region 1 with fail
 rw [HW.out]
 clear HW
 have q0:=aA HP.out 0
 have q1:=aA HP.out 1
 simp at q0 q1
 have pl:=aD HP.out
 go_wp2_with fail
 refine wX.out.mono ?_
 rintro e w1 ⟨rfl,hb1⟩
 have HB1:=aB (bG HB.out hb1)
 have kH:=aB ((hb1.block _ pl).trans HP.out)
 have HR1:=aB (bP hb1 HR.out)
 clear q0 q1 pl HP HR HB wX hb1
 by_cases hc:bM r ns=0
 ·obtain ⟨b,off,rfl,hNb⟩:=HN.out.some (bB hc).1.1
  have hl:=(bE hc).1
  have HC:=aB hc
  rw [hc]
  have HNb:=aB hNb
  clear hc hNb HN
  by_cases hm:l.length≤16
  ·have KW:¬ ((l.length:Int)>16):=by omega
   have hmb:(decide ((l.length:Int)>16))=false:=by simp;omega
   have HM:=aB hm
   clear hm
   go_wp2_with fail
   go_loopw [7] (fun i u=>∃ k:Nat,k≤l.length∧i=.int .i64 k∧(l.take k).all iM=true∧u=w1) (fun i _=>l.length-(intOf i).toNat)
   case atStart=>exact ⟨0,Nat.zero_le _,rfl,rfl,rfl⟩
   case round =>
    obtain ⟨k,hk,rfl,hn,hu⟩:=hrel
    obtain rfl:=hu.symm
    have HA:=aB hn
    clear hn
    by_cases hlt:k<l.length
    ·obtain ⟨z,hz⟩:=bD hlt
     obtain ⟨lb,lo,rfl,ll,hlv⟩:=(HL.out.below HB1.out).at hlt
     have c0:=hlv k z hz
     have hki:(k:Int)<(l.length:Int):=by omega
     have HZ:=aB hz
     have HWI:=aB (dZ z 1 4 w1)
     rw [aIR] at HWI
     have hIs:Hid (iM z=iM z):=rfl
     obtain ⟨G,HG⟩:∃ G,Hid (iM z=G):=⟨_,rfl⟩
     rw [HG.out] at HWI
     obtain ⟨⟨z0,z1,zf0,zf1,zl⟩,HZB⟩:=AV HR1.out HB1.out aF (.int .i64 0) (.slice none 0 0)
     clear hz hlv hIs
     cases G
     ·go_wp2_with (go_at_call 16;refine HWI.out.mono ?_;rintro e w' ⟨rfl,rfl⟩)
      obtain ⟨k0,k1,hB⟩:=HZB.out
      refine bodyPost_ret (v:=.tuple #[.agg #[.int .i64 0,.slice none 0 0],.int .i64 4]) (by simp [results,Tryz.results5,go_sem,k0,k1]) rfl (qP ?_ aL hB)
      unfold dX
      rw [if_pos HC.out,if_pos HM.out,if_neg]
      intro h
      have:=List.all_eq_true.1 h z (List.mem_of_getElem? HZ.out)
      rw [HG.out] at this
      cases this
     ·go_wp2_with (go_at_call 16;refine HWI.out.mono ?_;rintro e w' ⟨rfl,rfl⟩)
      go_roundw
      case rel=>exact ⟨k+1,aF,by go_num,by rw [List.take_add_one,HZ.out,List.all_append,HA.out];simp [HG.out],trivial⟩
      case measure=>simp [intOf];omega
    ·have ek:l.take k=l:=List.take_of_length_le aF
     have hki:¬ (k:Int)<(l.length:Int):=by omega
     have VX:=aB HA.out
     rw [ek] at VX
     have HPE:Hid (dX r ns l=(bS r ns l).1):=by show _=_;unfold dX;rw [if_pos HC.out,if_pos HM.out,if_pos VX.out]
     have JF:=aB (oU r b off cap ns w1 (HNb.out.below HB1.out HNb.out.lt) hl)
     have q0:=aA kH.out 0
     have q1:=aA kH.out 1
     simp at q0 q1
     have pl:=aD kH.out
     clear HA ek
     go_wp2_with fail
     refine JF.out.mono ?_
     rintro e w3 ⟨cb,cc,rfl,hv3,hb3⟩
     obtain ⟨cb', cc', e3,hn3,hg3⟩:=fU hv3 hl.1
     cases e3
     obtain ⟨V,HV,hbV,x0⟩:=bx1 w3 (.cells #[.int .i64 r,.slice (some ⟨cb,0,none⟩) ns.length cc] 24)
     have YK:=bG hb3 hbV
     have HPB:Hid (PB w1 w3.heap.size (bS r ns (l.take 0)) cb 0 cc V):=⟨x0,hn3.below hbV hn3.lt,Nat.ne_of_lt hn3.lt,hg3,YK⟩
     have HQB:=aB hb3.size
     go_upto_region 12 with fail
     rw [HV.out]
     clear HV hbV x0 YK hb3 hv3 hn3 q0 q1 pl JF hg3
     generalize w3.heap.size=QB at HPB HQB ⊢
     go_wp2_with fail
     go_loopw [9,10] (fun i _ u=>∃ (k gb gq gc:Nat),k≤l.length∧i=.int .i64 k∧(bS r ns (l.take k)).1=0∧PB w1 QB (bS r ns (l.take k)) gb gq gc u) (fun i _ _=>l.length-(intOf i).toNat)
     case atStart=>exact ⟨0,_,_,_,Nat.zero_le _,rfl,rfl,HPB.out⟩
     case round =>
      obtain ⟨j,gb,gq,gc,hj,rfl,h0,hp⟩:=hrel
      have hR:=bP hp.bel HR1.out
      have HBR:=aB (bG HB1.out hp.bel)
      by_cases hlt:j<l.length
      ·obtain ⟨z,hz⟩:=bD hlt
       obtain ⟨lb,lo,rfl,ll,hlv⟩:=(HL.out.below HBR.out).at hlt
       have c0:=hlv j z hz
       have hji:(j:Int)<(l.length:Int):=by omega
       have vJ:=aB (show l.take (j+1)=l.take j++[z] by rw [List.take_add_one,hz];rfl)
       have hpz:iM z=true:=List.all_eq_true.1 VX.out z (List.mem_of_getElem? hz)
       have hck:=oQ HC.out h0
       have AP:=aB (xU r ns (l.take j) z)
       obtain ⟨⟨e0,q,ms⟩,hX⟩:∃ X,bS r ns (l.take j)=X:=⟨_,rfl⟩
       rw [hX] at h0 hp hck AP
       simp only at h0 hck
       subst h0
       rw [gI,if_pos rfl] at AP
       simp only at AP
       have XN:Hid (∀ C q' l', gZ z q ms=(C,q', l')→C≠0→dX r ns l=C):=fun C q' l' h hC=>by
        have e2:l=l.take (j+1)++l.drop (j+1):=(List.take_append_drop _ _).symm
        have e3:bS r ns (l.take (j+1))=(C,q', l'):=by rw [vJ.out,AP.out,h]
        rw [HPE.out,e2,bS,List.foldl_append]
        change (List.foldl gI (bS r ns (l.take (j+1))) _).1=C
        rw [e3,qL (by exact hC)]
       have JO:=aB hp
       have b0:=aA hp.box 0
       have b1:=aA hp.box 1
       simp at b0 b1
       have bl:=aD hp.box
       have hRl:=aD hR
       have HRR:=aB hR
       have hRq:w.heap.size+1≠QB:=by have:=aD HR1.out;have:=HQB.out;omega
       have rX:w1.heap.size≤QB:=HQB.out
       have HCQ:=aB hck
       clear hlv hz hck hX hp hR
       have hz4:z=1∨z=2∨z=3∨z=4:=by unfold iM at hpz;simp at hpz;omega
       clear hpz
       rcases hz4 with rfl | rfl | rfl | rfl
       ·have YH:=aB (QV q gb gq gc ms wr JO.out.nd HCQ.out)
        obtain ⟨⟨C,q', l'⟩,hS⟩:∃ X,gZ 1 q ms=X:=⟨_,rfl⟩
        have hS' :gZ 1 q ms=(C,q', l'):=hS
        rw [hS] at YH
        rw [hS'] at AP
        have aPO :=aB (XN.out C q' l' hS')
        clear XN hS hS'
        go_wp2_with fail
        refine YH.out.mono ?_
        rintro e w5 ⟨h,hb5⟩
        have d0:=(hb5.cell (p:=⟨QB,0,none⟩) bl).trans b0
        have d1:=(hb5.cell (p:=⟨QB,1,none⟩) bl).trans b1
        have lF:=(hb5.block _ bl).trans JO.out.box
        have f0:=aC lF 0
        have f1:=aC lF 1
        have bl5:=aD lF
        clear b0 b1 bl c0
        rcases h with ⟨hne0,rfl⟩ | ⟨h0,nb,nq,nc,rfl,hV,hnb⟩
        ·simp only at hne0
         have HN0:=aB hne0
         have hCb:(C==0)=false:=by simp [hne0]
         have hCn:(C != 0)=true:=by simp [hne0]
         have BQ:Hid (((w5.setCell ⟨QB,0,none⟩ (.int .i64 0)).setCell ⟨QB,1,none⟩ (.slice none 0 0)).heap[w.heap.size+1]?=some (.cells #[.int .i64 0,.slice none 0 0] 24 (0,0))):=(Below.heap_setCell _ _ _ _ hRq).trans ((Below.heap_setCell _ _ _ _ hRq).trans ((hb5.block _ hRl).trans HRR.out))
         have hBR:=aB (aW (v0:=.int .i64 0) (v1:=.slice none 0 0) (B:=QB) (bG HBR.out hb5) (by have:=HB1.out.size;omega))
         clear hne0
         go_upto_region 24 with fail
         clear d0 d1 f0 f1 bl5 lF
         generalize ((w5.setCell ⟨QB,0,none⟩ (.int .i64 0)).setCell ⟨QB,1,none⟩ (.slice none 0 0))=U at BQ hBR ⊢
         obtain ⟨⟨z0,z1,zf0,zf1,zl⟩,HZ⟩:=AV BQ.out hBR.out aF (.int .i64 0) (.slice none 0 0)
         go_wp2
         obtain ⟨k0,k1,hB⟩:=HZ.out
         exact bodyPost_ret (v:=.tuple #[.agg #[.int .i64 0,.slice none 0 0],.int .i64 C]) (by simp [results,Tryz.results5,go_sem,k0,k1]) rfl (qP (aPO.out HN0.out) HN0.out hB)
        ·simp only at h0 hV
         subst h0
         have BD:=aB (JO.out.set (y:=(0,q', l')) (nc:=nc) hb5 hV hnb rX)
         clear hV
         go_upto_region 24 with fail
         clear d0 d1 f0 f1 bl5 lF
         (try simp only at BD)
         generalize ((w5.setCell ⟨QB,0,none⟩ (.int .i64 q')).setCell ⟨QB,1,none⟩ (.slice (some ⟨nb,nq,none⟩) l'.length nc))=U at BD ⊢
         go_wp2
         go_roundw
         case rel=>exact ⟨j+1,nb,nq,nc,aF,by go_num,by rw [vJ.out,AP.out],by rw [vJ.out,AP.out];exact BD.out⟩
         case measure=>simp [intOf];omega
       ·have YH:=aB (aIQ q gb gq gc ms wr JO.out.nd HCQ.out)
        obtain ⟨⟨C,q', l'⟩,hS⟩:∃ X,iU q ms (mW ms ms.length)=X:=⟨_,rfl⟩
        have hS' :gZ 2 q ms=(C,q', l'):=hS
        rw [hS] at YH
        rw [hS'] at AP
        have aPO :=aB (XN.out C q' l' hS')
        clear XN hS hS'
        go_wp2_with fail
        refine YH.out.mono ?_
        rintro e w5 ⟨h,hb5⟩
        have d0:=(hb5.cell (p:=⟨QB,0,none⟩) bl).trans b0
        have d1:=(hb5.cell (p:=⟨QB,1,none⟩) bl).trans b1
        have lF:=(hb5.block _ bl).trans JO.out.box
        have f0:=aC lF 0
        have f1:=aC lF 1
        have bl5:=aD lF
        clear b0 b1 bl c0
        rcases h with ⟨hne0,rfl⟩ | ⟨h0,nb,nq,nc,rfl,hV,hnb⟩
        ·simp only at hne0
         have HN0:=aB hne0
         have hCb:(C==0)=false:=by simp [hne0]
         have hCn:(C != 0)=true:=by simp [hne0]
         have BQ:Hid (((w5.setCell ⟨QB,0,none⟩ (.int .i64 0)).setCell ⟨QB,1,none⟩ (.slice none 0 0)).heap[w.heap.size+1]?=some (.cells #[.int .i64 0,.slice none 0 0] 24 (0,0))):=(Below.heap_setCell _ _ _ _ hRq).trans ((Below.heap_setCell _ _ _ _ hRq).trans ((hb5.block _ hRl).trans HRR.out))
         have hBR:=aB (aW (v0:=.int .i64 0) (v1:=.slice none 0 0) (B:=QB) (bG HBR.out hb5) (by have:=HB1.out.size;omega))
         clear hne0
         go_upto_region 24 with fail
         clear d0 d1 f0 f1 bl5 lF
         generalize ((w5.setCell ⟨QB,0,none⟩ (.int .i64 0)).setCell ⟨QB,1,none⟩ (.slice none 0 0))=U at BQ hBR ⊢
         obtain ⟨⟨z0,z1,zf0,zf1,zl⟩,HZ⟩:=AV BQ.out hBR.out aF (.int .i64 0) (.slice none 0 0)
         go_wp2
         obtain ⟨k0,k1,hB⟩:=HZ.out
         exact bodyPost_ret (v:=.tuple #[.agg #[.int .i64 0,.slice none 0 0],.int .i64 C]) (by simp [results,Tryz.results5,go_sem,k0,k1]) rfl (qP (aPO.out HN0.out) HN0.out hB)
        ·simp only at h0 hV
         subst h0
         have BD:=aB (JO.out.set (y:=(0,q', l')) (nc:=nc) hb5 hV hnb rX)
         clear hV
         go_upto_region 24 with fail
         clear d0 d1 f0 f1 bl5 lF
         (try simp only at BD)
         generalize ((w5.setCell ⟨QB,0,none⟩ (.int .i64 q')).setCell ⟨QB,1,none⟩ (.slice (some ⟨nb,nq,none⟩) l'.length nc))=U at BD ⊢
         go_wp2
         go_roundw
         case rel=>exact ⟨j+1,nb,nq,nc,aF,by go_num,by rw [vJ.out,AP.out],by rw [vJ.out,AP.out];exact BD.out⟩
         case measure=>simp [intOf];omega
       ·have YH:=aB (YL q gb gq gc ms wr JO.out.nd HCQ.out)
        have hS' :gZ 3 q ms=(0,q,gT ms):=rfl
        rw [hS'] at AP
        clear XN hS'
        go_wp2_with fail
        refine YH.out.mono ?_
        rintro e w5 ⟨nb,nc,rfl,hV,hnb,hb5⟩
        have d0:=(hb5.cell (p:=⟨QB,0,none⟩) bl).trans b0
        have d1:=(hb5.cell (p:=⟨QB,1,none⟩) bl).trans b1
        have lF:=(hb5.block _ bl).trans JO.out.box
        have f0:=aC lF 0
        have f1:=aC lF 1
        have bl5:=aD lF
        have BD:=aB (JO.out.set (y:=(0,q,gT ms)) (nc:=nc) hb5 hV hnb rX)
        clear b0 b1 bl c0 hV
        go_upto_region 24 with fail
        clear d0 d1 f0 f1 bl5 lF
        (try simp only at BD)
        generalize ((w5.setCell ⟨QB,0,none⟩ (.int .i64 q)).setCell ⟨QB,1,none⟩ (.slice (some ⟨nb,0,none⟩) (gT ms).length nc))=U at BD ⊢
        go_wp2
        go_roundw
        case rel=>exact ⟨j+1,nb,0,nc,aF,by go_num,by rw [vJ.out,AP.out],by rw [vJ.out,AP.out];exact BD.out⟩
        case measure=>simp [intOf];omega
       ·have YH:=aB (YM q gb gq gc ms wr JO.out.nd HCQ.out)
        have hS' :gZ 4 q ms=(0,q,cB ms):=rfl
        rw [hS'] at AP
        clear XN hS'
        go_wp2_with fail
        refine YH.out.mono ?_
        rintro e w5 ⟨nb,nc,rfl,hV,hnb,hb5⟩
        have d0:=(hb5.cell (p:=⟨QB,0,none⟩) bl).trans b0
        have d1:=(hb5.cell (p:=⟨QB,1,none⟩) bl).trans b1
        have lF:=(hb5.block _ bl).trans JO.out.box
        have f0:=aC lF 0
        have f1:=aC lF 1
        have bl5:=aD lF
        have BD:=aB (JO.out.set (y:=(0,q,cB ms)) (nc:=nc) hb5 hV hnb rX)
        clear b0 b1 bl c0 hV
        go_upto_region 24 with fail
        clear d0 d1 f0 f1 bl5 lF
        (try simp only at BD)
        generalize ((w5.setCell ⟨QB,0,none⟩ (.int .i64 q)).setCell ⟨QB,1,none⟩ (.slice (some ⟨nb,0,none⟩) (cB ms).length nc))=U at BD ⊢
        go_wp2
        go_roundw
        case rel=>exact ⟨j+1,nb,0,nc,aF,by go_num,by rw [vJ.out,AP.out],by rw [vJ.out,AP.out];exact BD.out⟩
        case measure=>simp [intOf];omega
      ·have ek:l.take j=l:=List.take_of_length_le aF
       rw [ek] at hp h0
       have hji:¬ (j:Int)<(l.length:Int):=by omega
       obtain ⟨⟨e0,q,ms⟩,HX⟩:∃ X,Hid (bS r ns l=X):=⟨_,rfl⟩
       rw [HX.out] at hp h0 HPE
       simp only at h0 HPE
       subst h0
       have b0:=aA hp.box 0
       have b1:=aA hp.box 1
       simp at b0 b1
       have bl:=aD hp.box
       obtain ⟨⟨z0,z1,zf0,zf1,zl⟩,HZ⟩:=AV hR HBR.out aF (.int .i64 q) (.slice (some ⟨gb,gq,none⟩) ms.length gc)
       have hne:gb≠w.heap.size+1:=by have:=aD HR1.out;have:=hp.low;omega
       have hgb:w.heap.size≤gb:=by have:=HB1.out.size;have:=hp.low;omega
       have JO:=aB hp
       clear hp hR
       go_wp2
       obtain ⟨k0,k1,hB⟩:=HZ.out
       exact bodyPost_ret (v:=.tuple #[.agg #[.int .i64 q,.slice (some ⟨gb,gq,none⟩) ms.length gc],.int .i64 0]) (by simp [results,Tryz.results5,go_sem,k0,k1]) rfl (aPP HPE.out HX.out (xV JO.out.nd hne) hgb hB)
  ·have KW:(l.length:Int)>16:=by omega
   have hmb:(decide ((l.length:Int)>16))=true:=by simp;omega
   have e1:dX r ns l=2:=by unfold dX;rw [if_pos HC.out,if_neg hm]
   have HE:=aB e1
   obtain ⟨⟨z0,z1,zf0,zf1,zl⟩,HZ⟩:=AV HR1.out HB1.out aF (.int .i64 0) (.slice none 0 0)
   clear e1 hm
   go_wp2
   obtain ⟨k0,k1,hB⟩:=HZ.out
   exact bodyPost_ret (v:=.tuple #[.agg #[.int .i64 0,.slice none 0 0],.int .i64 2]) (by simp [results,Tryz.results5,go_sem,k0,k1]) rfl (qP HE.out aL hB)
 ·have hCb:(bM r ns==0)=false:=by simp [hc]
  have hCn:(bM r ns != 0)=true:=by simp [hc]
  have e1:dX r ns l=bM r ns:=by unfold dX;rw [if_neg hc]
  have HE:=aB e1
  have HNE:=aB hc
  obtain ⟨⟨z0,z1,zf0,zf1,zl⟩,HZ⟩:=AV HR1.out HB1.out aF (.int .i64 0) (.slice none 0 0)
  clear hc e1
  generalize bM r ns=C at *
  go_wp2
  obtain ⟨k0,k1,hB⟩:=HZ.out
  exact bodyPost_ret (v:=.tuple #[.agg #[.int .i64 0,.slice none 0 0],.int .i64 C]) (by simp [results,Tryz.results5,go_sem,k0,k1]) rfl (qP HE.out HNE.out hB)
end Go.Proofs.YtegloodcbfalfaaGreatDoor
namespace Go.Proofs.YtegloodcbfalfaaGreatDoor
open Go.RowKit Go.IntWalk
def dg (b:UInt8):Bool:=decide (48≤b.toNat)&&decide (b.toNat≤57)
def qQ (n:Int) (b:UInt8):Int:=if b=45 then n else wrap64 (wrap64 (10*n)-((b.toNat:Int)-48))
def mE (l:List UInt8):Int:=l.foldl qQ 0
def okS (l:List UInt8):Bool:=l.zipIdx.all fun p=>(p.2==0&&p.1==45)||dg p.1
def minus (l:List UInt8):Bool:=l.head?==some 45
def NS (l:List UInt8):Int:=if 20<l.length then 0 else if okS l then (if minus l then mE l else wrap64 (-mE l)) else 0
theorem QW {l:List UInt8}:okS l=true↔∀ (i:Nat) (b:UInt8),l[i]?=some b→(i=0∧b=45)∨dg b=true:=by
 unfold okS
 rw [List.all_eq_true]
 constructor
 ·intro h i b hb
  have:=h (b,i) (List.mem_zipIdx_iff_getElem?.2 hb)
  simpa using this
 ·rintro h ⟨b,i⟩ hm
  have:=h i b (List.mem_zipIdx_iff_getElem?.1 hm)
  simpa using this
theorem vY (x:Int): -9223372036854775808≤wrap64 x∧wrap64 x≤9223372036854775807:=by unfold wrap64;omega
theorem aIS {n:Int} {b:UInt8} (h: -9223372036854775808≤n∧n≤9223372036854775807): -9223372036854775808≤qQ n b∧qQ n b≤9223372036854775807:=by
 unfold qQ
 split
 ·exact h
 ·exact vY _
theorem IK:∀ (l:List UInt8) (n:Int),(-9223372036854775808≤n∧n≤9223372036854775807)→-9223372036854775808≤l.foldl qQ n∧l.foldl qQ n≤9223372036854775807
 | [],n,h=>h
 | b::l,n,h=>IK l _ (aIS h)
theorem aTS (l:List UInt8): -9223372036854775808≤NS l∧NS l≤9223372036854775807:=by
 unfold NS
 split
 ·omega
 ·split
  ·split
   ·exact IK l 0 aF
   ·exact vY _
  ·omega
theorem aCQ {l:List UInt8} {i:Nat} {b:UInt8} (h:l[i]?=some b):mE (l.take (i+1))=qQ (mE (l.take i)) b:=by
 unfold mE
 rw [List.take_add_one,h,List.foldl_append]
 rfl
theorem IL {l:List UInt8} {i:Nat} {b:UInt8} (h:l[i]?=some b) (hok:okS (l.take i)=true) (hb:(i=0∧b=45)∨dg b=true):okS (l.take (i+1))=true:=by
 rw [QW] at hok ⊢
 intro j c hc
 rw [List.getElem?_take] at hc
 split at hc
 ·rename_i hj
  by_cases e:j=i
  ·subst e
   rw [h] at hc
   cases hc
   exact hb
  ·exact hok j c (by rw [List.getElem?_take,if_pos aF];exact hc)
 ·cases hc
theorem aYZ {l:List UInt8} {i:Nat} {b:UInt8} (h:l[i]?=some b) (hb:¬ ((i=0∧b=45)∨dg b=true)):okS l=false:=by
 cases e:okS l
 ·rfl
 ·exact absurd (QW.1 e i b h) hb
theorem NU:∀ (u:Nat),u≤9223372036854775808→mE (Lib.decDigits u)= -(u:Int):=by
 intro u
 induction u using Nat.strongRecOn with
 | _ u ih =>
  intro hu
  rw [Lib.decDigits]
  split
  ·rename_i h
   have hb:(UInt8.ofNat (48+u)).toNat=48+u:=by rw [UInt8.toNat_ofNat'];omega
   have hne:¬ UInt8.ofNat (48+u)=45:=by
    intro e
    have:=congrArg UInt8.toNat e
    rw [hb] at this
    simp at this
    omega
   show qQ 0 (UInt8.ofNat (48+u))=_
   unfold qQ
   rw [if_neg hne,hb]
   unfold wrap64
   omega
  ·rename_i h
   have hb:(UInt8.ofNat (48+u % 10)).toNat=48+u % 10:=by rw [UInt8.toNat_ofNat'];omega
   have hne:¬ UInt8.ofNat (48+u % 10)=45:=by
    intro e
    have:=congrArg UInt8.toNat e
    rw [hb] at this
    simp at this
    omega
   have h1:=ih (u / 10) aF aF
   unfold mE at h1 ⊢
   rw [List.foldl_append,h1]
   show qQ _ (UInt8.ofNat (48+u % 10))=_
   unfold qQ
   rw [if_neg hne,hb]
   unfold wrap64
   omega
theorem aCR {u:Nat} {b:UInt8} (h:b∈Lib.decDigits u):dg b=true∧b≠45:=by
 have:=BB u h
 refine ⟨by simp [dg,this],?_⟩
 rintro rfl
 simp at this
theorem qR {n:Int} (h: -9223372036854775808≤n∧n≤9223372036854775807):NS (Lib.itoa n)=n:=by
 have hl:=dV h
 have hok:okS (Lib.itoa n)=true:=by
  rw [QW]
  intro i b hb
  unfold Lib.itoa at hb
  split at hb
  ·cases i with
   | zero=>simp at hb;exact Or.inl ⟨rfl,hb.symm⟩
   | succ i=>exact Or.inr (aCR (List.mem_of_getElem? (by simpa using hb))).1
  ·exact Or.inr (aCR (List.mem_of_getElem? hb)).1
 unfold NS
 rw [if_neg aF,if_pos hok]
 unfold Lib.itoa
 by_cases hn:n<0
 ·rw [if_pos hn]
  rw [if_pos (by simp [minus])]
  have:mE (45::Lib.decDigits n.natAbs)=mE (Lib.decDigits n.natAbs):=rfl
  rw [this,NU _ aF]
  omega
 ·rw [if_neg hn,if_neg,NU n.toNat aF]
  ·unfold wrap64;omega
  ·unfold minus
   cases hd:Lib.decDigits n.toNat with
   | nil=>simp
   | cons c r =>
    have:=(aCR (u:=n.toNat) (b:=c) (by rw [hd];simp)).2
    simpa using this
def SH (ws:List (List UInt8)):Int:=match qZ (ws.headD []) with
 | some o=>(o:Int)
 | none=>-1
def tk (ws:List (List UInt8)) (k:Nat):Int:=match ws[k]? with
 | some x=>NS x
 | none=>0
def ifk (h:Bool) (ws:List (List UInt8)) (k:Nat):Int:=if h then tk ws k else 0
def gF (op:Int) (D A B T O:Bool) (ws:List (List UInt8)):Nd :=
 ⟨op,ifk D ws 1,ifk A ws (1+D.toNat),ifk B ws (1+D.toNat+A.toNat),ifk T ws (1+D.toNat+A.toNat+B.toNat+1),ifk O ws (1+D.toNat+A.toNat+B.toNat+1+T.toNat+1)⟩
def gN (ws:List (List UInt8)):Nd:=gF (SH ws) (wi (SH ws) 1 9) ((wi (SH ws) 2 8||wi (SH ws) 10 12)||SH ws==1) (wi (SH ws) 3 8) (SH ws != 12) (SH ws==11) ws
theorem aZA (ws:List (List UInt8)) (k:Nat): -9223372036854775808≤tk ws k∧tk ws k≤9223372036854775807:=by
 unfold tk
 split
 ·exact aTS _
 ·omega
theorem aPR (ws:List (List UInt8)): -9223372036854775808≤(gN ws).a∧(gN ws).a≤9223372036854775807:=by
 show _≤ifk _ _ _∧ifk _ _ _≤_
 unfold ifk
 split
 ·exact aZA _ _
 ·omega
theorem aIT {x:Nd} (h:0≤x.op∧x.op≤12):SH (gH x)=x.op:=by
 unfold SH gH
 simp only [List.headD_cons]
 rw [aDB h]
 simp only
 omega
theorem aPS {x:Nd} (h:JA x):gN (gH x)=x:=by
 have ho:=h.op
 have hfit:=h.fits
 have hz:=And.intro h.d (And.intro h.a (And.intro h.b (And.intro h.t h.e)))
 have e1:=aIT ho
 unfold gN
 rw [e1]
 clear e1 h
 obtain ⟨op,d,a,b,t,e⟩:=x
 obtain ⟨k,hk⟩:=Int.eq_ofNat_of_zero_le ho.1
 simp only at hk ho
 have hlt:k<13:=by omega
 have sd:=qR hfit.d
 have sa:=qR hfit.a
 have sb:=qR hfit.b
 have st:=qR hfit.t
 have se:=qR hfit.e
 simp only at sd sa sb st se
 obtain ⟨z1,z2,z3,z4,z5⟩:=hz
 subst hk
 clear ho hfit
 match k,hlt with
 | 0,_ | 1,_ | 2,_ | 3,_ | 4,_ | 5,_ | 6,_ | 7,_ | 8,_ | 9,_ | 10,_ | 11,_ | 12,_ =>
  simp [kF,kG,hasB,mO,oF,wi] at z1 z2 z3 z4 z5
  simp_all [gF,ifk,tk,gH,kF,kG,hasB,mO,oF,wi]
theorem aIU (x:Nd):(gH x).length≤9:=by
 unfold gH
 simp only [List.length_cons,List.length_append]
 cases kF x.op <;> cases kG x.op <;> cases hasB x.op <;> cases mO x.op <;> cases oF x.op <;> simp
def pfL (l:List UInt8):List (List UInt8):=(dB 10 l).take 259
def pfW (l:List UInt8):List (List UInt8):=(dB 32 ((pfL l).headD [])).take 3
def pfR (l:List UInt8):Int:=if (pfW l).length=2 then NS ((pfW l).getD 1 []) else 0
def gL (x:List UInt8):Nd:=gN ((dB 32 x).take 9)
def pfN (l:List UInt8):List Nd:=((pfL l).dropLast.drop 1).map gL
def pfB (l:List UInt8):Option (Int × List Nd):=if bM (pfR l) (pfN l)=0∧eX (pfR l) (pfN l)=l then some (pfR l,pfN l) else none
theorem YN (c:UInt8):∀ (ws:List (List UInt8)),ws≠[]→Lib.join (ws++[[]]) [c]=Lib.join ws [c]++[c]
 | [],h=>absurd rfl h
 | [x],_=>by rw [List.cons_append,List.nil_append,join_cons,Lib.join_one,Lib.join_one]
 | x::y::r,_=>by
  have:=YN c (y::r) aQ
  rw [List.cons_append] at this
  rw [List.cons_append,List.cons_append,join_cons,this,join_cons]
  simp
theorem aPT (r:Int) (ns:List Nd):dB 10 (eX r ns)=(nN r::ns.map fO)++[[]]:=by
 unfold eX
 rw [yF,← YN 10 _ aQ]
 refine wJ 10 _ aQ fun x hx=>?_
 rcases List.mem_append.1 hx with hx | hx
 ·rcases List.mem_cons.1 hx with rfl | hx
  ·exact aDF r
  ·obtain ⟨y,_,rfl⟩:=List.mem_map.1 hx
   exact aDE y
 ·simp at hx;subst hx;simp
theorem aTV {r:Int} {ns:List Nd} (hc:bM r ns=0) (ha:∀ x∈ns,-9223372036854775808≤x.a∧x.a≤9223372036854775807):pfR (eX r ns)=r∧pfN (eX r ns)=ns:=by
 obtain ⟨hl,hr,_⟩:=bE hc
 have e1:pfL (eX r ns)=(nN r::ns.map fO)++[[]]:=by
  unfold pfL
  rw [aPT,List.take_of_length_le]
  simp only [List.length_append,List.length_cons,List.length_map,List.length_nil]
  omega
 constructor
 ·unfold pfR pfW
  rw [e1]
  have:dB 32 (nN r)=[[114,101,103,115],Lib.itoa r]:=by
   unfold nN lS
   rw [show ([114,101,103,115,32]:List UInt8)++Lib.itoa r=[114,101,103,115]++32::Lib.itoa r from rfl,CW 32 _ _ aL,CX 32 _ (OO aL r)]
  simp only [List.cons_append,List.headD_cons,this]
  simp only [List.take,List.length_cons,List.length_nil,if_true,List.getD_cons_succ,List.getD_cons_zero]
  exact qR aF
 ·unfold pfN
  rw [e1,List.dropLast_concat,List.drop_succ_cons,List.drop_zero,List.map_map]
  have:∀ x∈ns,(gL ∘ fO) x=id x:=by
   intro x hx
   show gN ((dB 32 (fO x)).take 9)=x
   rw [UD,List.take_of_length_le (aIU x)]
   exact aPS (aDC hc hx (ha x hx))
  rw [List.map_congr_left this,List.map_id]
theorem aPU {n:Int} (h:n<0) (h' : -10<n):45::Lib.itoa (-n)=Lib.itoa n:=by
 unfold Lib.itoa
 rw [if_pos h,if_neg aF]
 have:(-n).toNat=n.natAbs:=by omega
 rw [this]
theorem aEZ {u:Nat} (h:10≤u):Lib.decDigits u=Lib.decDigits (u / 10)++Lib.decDigits (u % 10):=by
 rw [Lib.decDigits,dif_neg aF]
 congr 1
 rw [Lib.decDigits,dif_pos aF]
theorem itoa_neg {n q r:Int} (h:n≤-10) (hq:q= -((n.natAbs / 10:Nat):Int)) (hr:r=((n.natAbs % 10:Nat):Int)):Lib.itoa q++Lib.itoa r=Lib.itoa n:=by
 unfold Lib.itoa
 rw [if_pos aF,if_neg aF,if_pos aF,aEZ (u:=n.natAbs) aF]
 have e1:q.natAbs=n.natAbs / 10:=by omega
 have e2:r.toNat=n.natAbs % 10:=by omega
 rw [e1,e2];rfl
theorem aPV {n q r:Int} (h:10≤n) (hq:q=((n.natAbs / 10:Nat):Int)) (hr:r=((n.natAbs % 10:Nat):Int)):Lib.itoa q++Lib.itoa r=Lib.itoa n:=by
 unfold Lib.itoa
 rw [if_neg aF,if_neg aF,if_neg aF,aEZ (u:=n.toNat) aF]
 have e0:n.toNat=n.natAbs:=by omega
 have e1:q.toNat=n.natAbs / 10:=by omega
 have e2:r.toNat=n.natAbs % 10:=by omega
 rw [e0,e1,e2]
theorem aPW {n:Int} (h:0≤n) (h' :n<10):Lib.itoa n=[UInt8.ofNat (48+n.toNat)]:=by
 unfold Lib.itoa
 rw [if_neg aF,Lib.decDigits,dif_pos aF]
def vL (c:UInt8) (l:List UInt8):Nat→List (List UInt8) × Nat
 | 0=>([],0)
 | i+1=>if i=l.length∨l[i]?=some c then ((vL c l i).1++[l.extract (vL c l i).2 i],i+1) else vL c l i
theorem BV {c:UInt8} {l:List UInt8} {i:Nat} (h:i=l.length∨l[i]?=some c):vL c l (i+1)=((vL c l i).1++[l.extract (vL c l i).2 i],i+1):=by rw [vL,if_pos h]
theorem IM {c:UInt8} {l:List UInt8} {i:Nat} (h:¬ (i=l.length∨l[i]?=some c)):vL c l (i+1)=vL c l i:=by rw [vL,if_neg h]
theorem aCS (c:UInt8) (l:List UInt8):∀ i,(vL c l i).2≤i
 | 0=>Nat.le_refl _
 | i+1=>by
  unfold vL
  split
  ·exact Nat.le_refl _
  ·have:=aCS c l i;omega
theorem QX {l:List UInt8} {f i:Nat} {b:UInt8} (hf:f≤i) (h:l[i]?=some b):l.extract f (i+1)=l.extract f i++[b]:=by
 rw [List.extract_eq_take_drop,List.extract_eq_take_drop,show i+1-f=(i-f)+1 by omega,List.take_add_one,List.getElem?_drop,show f+(i-f)=i by omega,h]
 rfl
theorem aFA (c:UInt8) (l:List UInt8):∀ i,i≤l.length→∃ x r,dB c (l.drop i)=x::r∧dB c l=(vL c l i).1++(l.extract (vL c l i).2 i++x)::r
 | 0,_=>by
  cases h:dB c l with
  | nil=>exact absurd h (qY c l)
  | cons x r=>exact ⟨x,r,by simpa using h,by simp [vL]⟩
 | i+1,hi=>by
  obtain ⟨x,r,h1,h2⟩:=aFA c l i aF
  have hlt:i<l.length:=by omega
  have hb:l[i]?=some l[i]:=List.getElem?_eq_getElem hlt
  generalize hbv:l[i]=b at hb
  have hd:l.drop i=b::l.drop (i+1):=by rw [List.drop_eq_getElem_cons hlt,hbv]
  rw [hd] at h1
  unfold dB at h1
  have hfl:=aCS c l i
  by_cases e:b=c
  ·rw [if_pos e] at h1
   injection h1 with hx hr
   subst hx
   cases h3:dB c (l.drop (i+1)) with
   | nil=>exact absurd h3 (qY _ _)
   | cons y r' =>
    refine ⟨y,r', rfl,?_⟩
    rw [h2,← hr,h3]
    rw [BV (Or.inr (by rw [hb,e]))]
    simp
  ·rw [if_neg e] at h1
   cases h3:dB c (l.drop (i+1)) with
   | nil=>exact absurd h3 (qY _ _)
   | cons y r' =>
    rw [h3] at h1
    simp only at h1
    injection h1 with hx hr
    refine ⟨y,r', rfl,?_⟩
    rw [h2,← hr,← hx]
    rw [IM (by rintro (q | q);· omega
               ·rw [hb] at q;exact e (Option.some.inj q)),QX hfl hb]
    simp
theorem aFB (c:UInt8) (l:List UInt8):(vL c l (l.length+1)).1=dB c l:=by
 obtain ⟨x,r,h1,h2⟩:=aFA c l l.length dD
 rw [List.drop_length] at h1
 simp only [dB] at h1
 injection h1 with hx hr
 rw [h2,← hx,← hr]
 rw [BV (Or.inl rfl)]
 simp
theorem aFC (c:UInt8) (l:List UInt8) (i:Nat):∀ k,(vL c l i).1 <+: (vL c l (i+k)).1
 | 0=>List.prefix_refl _
 | k+1=>by
  refine (aFC c l i k).trans ?_
  show _ <+: (vL c l (i+k+1)).1
  by_cases h:i+k=l.length∨l[i+k]?=some c
  ·rw [BV h];exact List.prefix_append _ _
  ·rw [IM h];exact List.prefix_refl _
theorem aPX {c:UInt8} {l:List UInt8} {i m:Nat} (hi:i≤l.length+1) (h:(vL c l i).1.length=m):(vL c l i).1=(dB c l).take m:=by
 have hp:=aFC c l i (l.length+1-i)
 rw [show i+(l.length+1-i)=l.length+1 by omega,aFB] at hp
 rw [← h]
 exact List.prefix_iff_eq_take.1 hp
theorem aTW {c:UInt8} {l:List UInt8} {m:Nat} (h:(vL c l (l.length+1)).1.length≤m):(vL c l (l.length+1)).1=(dB c l).take m:=by
 rw [aFB] at h ⊢
 rw [List.take_of_length_le h]
theorem tT {c:UInt8} {l:List UInt8} {m:Nat} (hm:0<m):(dB c l).take m≠[]:=by
 cases h:dB c l with
 | nil=>exact absurd h (qY c l)
 | cons x r =>
  cases m with
  | zero=>omega
  | succ m=>simp
theorem aZB {n:Int} (h:n<0):Int.tdiv n 10= -((n.natAbs / 10:Nat):Int)∧Int.tmod n 10= -((n.natAbs % 10:Nat):Int):=by
 obtain ⟨m,rfl⟩:∃ m:Nat,n= -(m:Int):=⟨n.natAbs,aF⟩
 rw [Int.neg_tdiv,Int.neg_tmod,Int.natAbs_neg,Int.natAbs_natCast]
 exact ⟨rfl,rfl⟩
theorem aZC {n:Int} (h:0≤n):Int.tdiv n 10=((n.natAbs / 10:Nat):Int)∧Int.tmod n 10=((n.natAbs % 10:Nat):Int):=by
 obtain ⟨m,rfl⟩:∃ m:Nat,n=(m:Int):=⟨n.natAbs,aF⟩
 rw [Int.natAbs_natCast]
 exact ⟨rfl,rfl⟩
end Go.Proofs.YtegloodcbfalfaaGreatDoor
namespace Go.Proofs.YtegloodcbfalfaaGreatDoor
open Go.RowKit Go.Maps Go.ChangeMaps
theorem gK (x:List UInt8):(ba x).size=x.length:=by simp [ba,ByteArray.size]
theorem NV:∀ (m:Nat) (n:Int),2*n.natAbs+(if n<0 then 1 else 0)<m→(-9223372036854775808≤n∧n≤9223372036854775807)→∀ w:World,
 Calls Tryz.prog 55 #[.int .i64 n] w fun e w' =>e=.returned (.string (ba (Lib.itoa n)))∧Below w.heap.size w w'
 | 0,n,h,_=>by omega
 | m+1,n,hm,hf=>by
  intro w
  have ih:=NV m
  by_cases h0:n<0
  ·rw [if_pos h0] at hm
   by_cases h1: -10<n
   ·have hi:=ih (-n) (by rw [if_neg aF];omega) aF
    have hl:=dV (n:= -n) aF
    have hb:(ba (Lib.itoa (-n))).size≤20:=by rw [gK];exact hl
    have he:ba [45]++ba (Lib.itoa (-n))=ba (Lib.itoa n):=by rw [oW,← aPU h0 h1];rfl
    rw [← he]
    generalize ba (Lib.itoa (-n))=A at hi hb
    clear ih hl he
    go_enter Tryz.func55,Tryz.ntmps55
    go_wp2_with fail
    refine (hi _).mono ?_
    rintro e w1 ⟨rfl,hb1⟩
    go_wp2_with fail
    go_ret
    exact ⟨rfl,hb1⟩
   ·obtain ⟨hq,hr⟩:=aZB h0
    generalize hqv: -((n.natAbs / 10:Nat):Int)=q at hq
    generalize hrv:((n.natAbs % 10:Nat):Int)=r at hr
    have hi1:=ih q (by rw [if_pos aF];omega) aF
    have hi2:=ih r (by rw [if_neg aF];omega) aF
    have hb1:(ba (Lib.itoa q)).size≤20:=by rw [gK];exact dV aF
    have hb2:(ba (Lib.itoa r)).size≤20:=by rw [gK];exact dV aF
    have he:ba (Lib.itoa q)++ba (Lib.itoa r)=ba (Lib.itoa n):=by rw [oW,itoa_neg (n:=n) aF aF aF]
    have hq0: -9223372036854775808≤q∧q<0:=by omega
    have hr0:0≤r∧r<10:=by omega
    rw [← he]
    generalize ba (Lib.itoa q)=A at hi1 hb1
    generalize ba (Lib.itoa r)=B at hi2 hb2
    clear ih he hqv hrv hm
    go_enter Tryz.func55,Tryz.ntmps55
    go_wp2_with fail
    refine (hi1 _).mono ?_
    rintro e w1 ⟨rfl,hb3⟩
    go_wp2_with fail
    refine (hi2 _).mono ?_
    rintro e w2 ⟨rfl,hb4⟩
    go_wp2_with fail
    go_ret
    exact ⟨rfl,bG hb3 hb4⟩
  ·rw [if_neg h0] at hm
   by_cases h1:n<10
   ·rw [aPW aF h1]
    clear ih hm
    have hcv:Sem.run Tryz.prog (convert 78 9 (.slice (some ⟨w.heap.size,0,none⟩) 1 1)) (w.alloc (.cells #[.int .u8 (48+n)] 5))=.ok (.string (ba [UInt8.ofNat (48+n.toNat)])) (w.alloc (.cells #[.int .u8 (48+n)] 5)) :=
     run_convert_bytes_back _ 78 9 5 ⟨w.heap.size,0,none⟩ 1 [UInt8.ofNat (48+n.toNat)] Tryz.underlying78 Tryz.underlying5 Tryz.underlying9 (fun j hj=>by
      obtain rfl:j=0:=by simpa using hj
      show (w.alloc _).cell? ⟨w.heap.size,0,none⟩=_
      rw [World.cell?_alloc_mark]
      have:(48+n.toNat) % 256=48+n.toNat:=by omega
      simp [UInt8.toNat_ofNat', this]
      omega)
    go_enter Tryz.func55,Tryz.ntmps55
    go_wp2_with fail
    go_ret
    exact ⟨rfl,dY⟩
   ·obtain ⟨hq,hr⟩:=aZC (n:=n) aF
    generalize hqv:((n.natAbs / 10:Nat):Int)=q at hq
    generalize hrv:((n.natAbs % 10:Nat):Int)=r at hr
    have hi1:=ih q (by rw [if_neg aF];omega) aF
    have hi2:=ih r (by rw [if_neg aF];omega) aF
    have hb1:(ba (Lib.itoa q)).size≤20:=by rw [gK];exact dV aF
    have hb2:(ba (Lib.itoa r)).size≤20:=by rw [gK];exact dV aF
    have he:ba (Lib.itoa q)++ba (Lib.itoa r)=ba (Lib.itoa n):=by rw [oW,aPV (n:=n) aF aF aF]
    have hq0:0≤q∧q≤9223372036854775807:=by omega
    have hr0:0≤r∧r<10:=by omega
    rw [← he]
    generalize ba (Lib.itoa q)=A at hi1 hb1
    generalize ba (Lib.itoa r)=B at hi2 hb2
    clear ih he hqv hrv hm
    go_enter Tryz.func55,Tryz.ntmps55
    go_wp2_with fail
    refine (hi1 _).mono ?_
    rintro e w1 ⟨rfl,hb3⟩
    go_wp2_with fail
    refine (hi2 _).mono ?_
    rintro e w2 ⟨rfl,hb4⟩
    go_wp2_with fail
    go_ret
    exact ⟨rfl,bG hb3 hb4⟩
theorem iW (n:Int) (h: -9223372036854775808≤n∧n≤9223372036854775807) (w:World) :
 Calls Tryz.prog 55 #[.int .i64 n] w fun e w' =>e=.returned (.string (ba (Lib.itoa n)))∧Below w.heap.size w w' :=NV _ n (Nat.lt_succ_self _) h w
theorem uR (w:World):Calls Tryz.prog 90 #[] w fun e w' =>e=.returned (.slice (some ⟨w.heap.size,0,none⟩) 13 13)∧w'.heap[w.heap.size]?=some (.cells eY 9 (0,0))∧Below w.heap.size w w' :=by
 go_enter Tryz.func90,Tryz.ntmps90
 go_wp2_with fail
 go_ret
 exact ⟨rfl,jA rfl,dY⟩
theorem NW (c:UInt8):∀ (x:List UInt8) (r:List (List UInt8)),Lib.join (x::r) [c]=x++r.flatMap (fun v=>c::v)
 | x,[]=>by rw [Lib.join_one];simp
 | x,y::r=>by rw [join_cons,NW c y r];simp
theorem aTX {x:Nd} {D A B T O E:Bool} (hk:kn x.op=true) (h:Fl x.op D A B T O E):fO x++[10]=BC x.op++((if D then [32]++Lib.itoa x.d else [])++((if A||!E then [32]++Lib.itoa x.a else [])++((if B then [32]++Lib.itoa x.b else [])++((if T then [32,116,111,32]++Lib.itoa x.t else [])++((if O then [32,101,108,115,101,32]++Lib.itoa x.e else [])++[10]))))):=by
 obtain ⟨h1,h2,h3,h4,h5,h6⟩:=h
 have e2:kG x.op=(A||!E):=by
  rw [← h2,← h6]
  unfold kG
  by_cases q:x.op=1
  ·rw [q];rfl
  ·have hk' :=aY.1 hk
   have:wi x.op 1 8=wi x.op 2 8:=by
    cases q2:wi x.op 2 8
    ·have:=zK q2
     cases q3:wi x.op 1 8
     ·rfl
     ·have:=aY.1 q3;omega
    ·have:=aY.1 q2
     exact aY.2 aF
   rw [this];simp [q]
 have e4:mO x.op=T:=by
  rw [← h4]
  unfold mO
  have hk' :=aY.1 hk
  by_cases q:x.op=12
  ·rw [q];rfl
  ·rw [aY.2 aF];simp [q]
 unfold fO gH
 rw [NW,e2,e4,show kF x.op=D from h1,show hasB x.op=B from h3,show oF x.op=O from h5]
 simp only [List.flatMap_append,List.append_assoc]
 cases D <;> cases A <;> cases B <;> cases T <;> cases O <;> cases E <;> simp [toW,IZ]
theorem rO {w:World} {b:Nat} {v0 v1 v2 v3 v4 v5:Value} {t:TypeId} (h:w.heap[b]?=some (.cells #[v0,v1,v2,v3,v4,v5] t (0,0))) :
 w.cell? ⟨b,0,none⟩=some v0∧w.cell? ⟨b,1,none⟩=some v1∧w.cell? ⟨b,2,none⟩=some v2∧w.cell? ⟨b,3,none⟩=some v3∧w.cell? ⟨b,4,none⟩=some v4∧w.cell? ⟨b,5,none⟩=some v5 :=
 ⟨aA h 0,aA h 1,aA h 2,aA h 3,aA h 4,aA h 5⟩
theorem c32:(⟨#[32]⟩:ByteArray)=ba [32]:=rfl
theorem c10:(⟨#[10]⟩:ByteArray)=ba [10]:=rfl
theorem cto:(⟨#[32,116,111,32]⟩:ByteArray)=ba [32,116,111,32]:=rfl
theorem cel:(⟨#[32,101,108,115,101,32]⟩:ByteArray)=ba [32,101,108,115,101,32]:=rfl
theorem aPY (x:Nd) (hx:JA x) (w:World):Calls Tryz.prog 56 #[.agg #[.int .i64 x.op,.int .i64 x.d,.int .i64 x.a,.int .i64 x.b,.int .i64 x.t,.int .i64 x.e]] w fun e w' =>e=.returned (.string (ba (fO x++[10])))∧Below w.heap.size w w' :=by
 have hkn:kn x.op=true:=aY.2 hx.op
 have hop:=hx.op
 have hD:=iW x.d hx.fits.d
 have hA:=iW x.a hx.fits.a
 have hB:=iW x.b hx.fits.b
 have hT:=iW x.t hx.fits.t
 have hO:=iW x.e hx.fits.e
 have zD:(ba (Lib.itoa x.d)).size≤20:=by rw [gK];exact dV hx.fits.d
 have zA:(ba (Lib.itoa x.a)).size≤20:=by rw [gK];exact dV hx.fits.a
 have zB:(ba (Lib.itoa x.b)).size≤20:=by rw [gK];exact dV hx.fits.b
 have zT:(ba (Lib.itoa x.t)).size≤20:=by rw [gK];exact dV hx.fits.t
 have zO:(ba (Lib.itoa x.e)).size≤20:=by rw [gK];exact dV hx.fits.e
 have zN:(ba (BC x.op)).size≤4:=by rw [gK];exact aAA _
 have hnm:=aLD hop
 have hl:=@aTX x
 obtain ⟨op,d,a,b,t,e⟩:=x
 simp only at *
 clear hx
 generalize hND:ba (Lib.itoa d)=ND at *
 generalize hNA:ba (Lib.itoa a)=NA at *
 generalize hNB:ba (Lib.itoa b)=NB at *
 generalize hNT:ba (Lib.itoa t)=NT at *
 generalize hNO:ba (Lib.itoa e)=NO at *
 generalize RX:ba (BC op)=NN at *
 have HH:=aB (And.intro hND (And.intro hNA (And.intro hNB (And.intro hNT (And.intro hNO RX)))))
 clear hND hNA hNB hNT hNO RX
 have hW:Below w.heap.size w (w.alloc (.cells #[.int .i64 op,.int .i64 d,.int .i64 a,.int .i64 b,.int .i64 t,.int .i64 e] 42)):=dY
 have hp:(w.alloc (.cells #[.int .i64 op,.int .i64 d,.int .i64 a,.int .i64 b,.int .i64 t,.int .i64 e] 42)).heap[w.heap.size]?=some (.cells #[.int .i64 op,.int .i64 d,.int .i64 a,.int .i64 b,.int .i64 t,.int .i64 e] 42 (0,0)):=jA rfl
 have hS:(w.alloc (.cells #[.int .i64 op,.int .i64 d,.int .i64 a,.int .i64 b,.int .i64 t,.int .i64 e] 42)).heap.size=w.heap.size+1:=by simp
 have bMD:0≤op:=hop.1
 have a6Y:op<13:=by omega
 have hfl:=fun (D A B T O E:Bool) (h:Fl op D A B T O E)=>qD h
 obtain ⟨D,A,B,T,O,E,h,hcl⟩:∃ D A B T O E,Fl op D A B T O E∧Hid (Fl op false false false true false true∨Fl op true false false true false false∨Fl op true true false true false true∨Fl op true true true true false true∨Fl op true false false true false true∨Fl op false true false true false true∨Fl op false true false true true true∨Fl op false true false false false true):=⟨_,_,_,_,_,_,⟨rfl,rfl,rfl,rfl,rfl,rfl⟩,xA hkn⟩
 have hfl:=qD h
 have HL:=aB (hl hkn h)
 have HF:=aB h
 clear hl hkn h
 go_enter Tryz.func56,Tryz.ntmps56
 go_upto_region 2 with (go_at_call 40;refine (hfl _).mono ?_;rintro e w' ⟨rfl,rfl⟩)
 generalize (w.alloc (.cells #[.int .i64 op,.int .i64 d,.int .i64 a,.int .i64 b,.int .i64 t,.int .i64 e] 42))=W at hW hp hS ⊢
 obtain ⟨n0,n1,n2,n3,n4,n5⟩:=rO hp
 have HW:=aB hW
 have HP:=aB hp
 clear hW hp
 have hWs:w.heap.size<W.heap.size:=by omega
 clear hS
 go_region_with (go_at_call 90;refine (uR _).mono ?_;rintro e V ⟨rfl,hv,hb⟩;have nn:V.cell? ⟨W.heap.size,op.toNat,none⟩=some (.string NN):=(aA hv op.toNat).trans hnm;have HQ:=aB ((hb.block w.heap.size hWs).trans (lU HP.out));obtain ⟨n0,n1,n2,n3,n4,n5⟩:=rO HQ.out;have HV:=aB (bG HW.out.drew hb);have hVs:w.heap.size<V.heap.size:=aD HQ.out;clear hb hv)
 all_goals
  clear HP HW hfl nn n0 n1 n2 n3 n4 n5
  obtain ⟨n0,n1,n2,n3,n4,n5⟩:=rO HQ.out
  rcases hcl.out with q | q | q | q | q | q | q | q
  all_goals
   obtain ⟨g1,g2,g3,g4,g5,g6⟩:=HF.out
   obtain ⟨k1,k2,k3,k4,k5,k6⟩:=q
   rw [k1] at g1
   rw [k2] at g2
   rw [k3] at g3
   rw [k4] at g4
   rw [k5] at g5
   rw [k6] at g6
   subst g1 g2 g3 g4 g5 g6
   clear k1 k2 k3 k4 k5
  all_goals
   clear hcl HF hnm
   go_wp2_with (go_at_call 55;(first | with_reducible refine (hD _).mono ?_ | with_reducible refine (hA _).mono ?_ | with_reducible refine (hB _).mono ?_ | with_reducible refine (hT _).mono ?_ | with_reducible refine (hO _).mono ?_);rintro e X ⟨rfl,hb⟩;have HV:=aB (bG HV.out hb);have HQ:=aB ((hb.block w.heap.size (aD HQ.out)).trans HQ.out);clear n0 n1 n2 n3 n4 n5 hVs;obtain ⟨n0,n1,n2,n3,n4,n5⟩:=rO HQ.out;have hVs:w.heap.size<X.heap.size:=aD HQ.out;clear hb)
   go_ret
   refine ⟨?_,HV.out⟩
   rw [HL.out]
   obtain ⟨rfl,rfl,rfl,rfl,rfl,rfl⟩:=HH.out
   simp only [c32,c10,cto,cel,oW,if_true,if_false,Bool.false_eq_true,Bool.or_true,Bool.or_false,Bool.not_true,Bool.not_false,List.append_assoc,List.nil_append]
   rfl
theorem xY (r:Int) (a:Option Addr) (cap:Nat) (ns:List Nd) (w:World) (hN:pI w a ns) (ha:∀ x∈ns,-9223372036854775808≤x.a∧x.a≤9223372036854775807) (hc:bM r ns=0) :
 Calls Tryz.prog 25 #[.agg #[.int .i64 r,.slice a ns.length cap]] w fun e w' =>e=.returned (.string (ba (eX r ns)))∧Below w.heap.size w w' :=by
 obtain ⟨hl1,hr1,_⟩:=bE hc
 obtain ⟨b,off,rfl,RX⟩:=hN.some hl1.1
 have hblt:=RX.lt
 have HT:=aB (fun (x:Nd) (hx:x∈ns)=>aDC hc hx (ha x hx))
 clear ha hN hc
 have hdg:=iW r aF
 have hbz:(ba (Lib.itoa r)).size≤20:=by rw [gK];exact dV aF
 have he:(⟨#[114,101,103,115,32]⟩:ByteArray)++ba (Lib.itoa r)++⟨#[10]⟩=ba (OX r ns 0):=by
  rw [show (⟨#[114,101,103,115,32]⟩:ByteArray)=ba lS from rfl,c10,oW,oW]
  rfl
 have HE:=aB he
 clear he
 generalize ba (Lib.itoa r)=A at hdg hbz HE
 have hb0:Below w.heap.size w (w.alloc (.cells #[.int .i64 r,.slice (some ⟨b,off,none⟩) ns.length cap] 24)):=dY
 have hp0:(w.alloc (.cells #[.int .i64 r,.slice (some ⟨b,off,none⟩) ns.length cap] 24)).heap[w.heap.size]?=some (.cells #[.int .i64 r,.slice (some ⟨b,off,none⟩) ns.length cap] 24 (0,0)):=jA rfl
 go_enter Tryz.func25,Tryz.ntmps25
 go_wp2_with fail
 refine (hdg _).mono ?_
 rintro e w1 ⟨rfl,hb1⟩
 have hp1:=(hb1.block w.heap.size aQ).trans hp0
 have hB1:=bG hb0 hb1
 clear hb1 hp0 hb0 hdg
 go_wp2_with fail
 rw [HE.out]
 go_loopw [3,4] (fun v3 v4 wr=>∃ k:Nat,k≤ns.length∧v3=.string (ba (OX r ns k))∧v4=.int .i64 k∧Hid (wr.heap[w.heap.size]?=some (.cells #[.int .i64 r,.slice (some ⟨b,off,none⟩) ns.length cap] 24 (0,0)))∧Below w.heap.size w wr) (fun _ i _=>ns.length-(intOf i).toNat)
 case atStart=>exact ⟨0,Nat.zero_le _,rfl,rfl,hp1,hB1⟩
 case round =>
  obtain ⟨k,hk,rfl,rfl,HP,hb⟩:=hrel
  have hN' :=RX.below hb RX.lt
  have hlt' :=hN'.lt
  have p1:=aA HP.out 1
  simp at p1
  have hps:=aD HP.out
  clear hp1 hB1 HE
  by_cases hlt:k<ns.length
  ·obtain ⟨x,hx⟩:=bD hlt
   have c0:=hN'.c0 k x hx
   have c1:=hN'.c1 k x hx
   have c2:=hN'.c2 k x hx
   have c3:=hN'.c3 k x hx
   have c4:=hN'.c4 k x hx
   have c5:=hN'.c5 k x hx
   have htx:=HT.out x (List.mem_of_getElem? hx)
   have hln:=aPY x htx
   have hll:=DC htx
   have hsl:=OY (r:=r) (ns:=ns) aF HT.out k
   have hz:(ba (fO x++[10])).size≤64:=by rw [gK];simp;omega
   have hz2:(ba (OX r ns k)).size≤140737488355328:=by rw [gK];omega
   have HSU:=aB (show ba (OX r ns (k+1))=ba (OX r ns k)++ba (fO x++[10]) by rw [oW,UR (r:=r) hx])
   generalize ba (fO x++[10])=L at hln hz HSU
   generalize ba (OX r ns k)=S at hz2 HSU
   clear hx htx hN' hsl hll
   go_wp2_with fail
   refine (hln _).mono ?_
   rintro e w2 ⟨rfl,hb2⟩
   have HB2:=aB (bG hb hb2)
   have rT:=aB ((hb2.block _ hps).trans HP.out)
   clear hb2 c0 c1 c2 c3 c4 c5 p1
   go_wp2_with fail
   go_roundw
   case rel=>exact ⟨k+1,aF,by rw [HSU.out],by go_num,rT,HB2.out⟩
   case measure=>simp [intOf];omega
  ·have ek:k=ns.length:=by omega
   subst ek
   rw [aDI]
   go_wp2_with fail
   go_ret
   exact ⟨rfl,hb⟩
def aTY (v:Int) (e:Ending):Prop:=∃ ok,e=.returned (.tuple #[.int .i64 v,.bool ok])
theorem aPZ {l:List UInt8} {i:Nat} {b:UInt8} (h:l[i]?=some b) {S:ByteArray} (hS:ba l=S):∀ h:i<S.size,S[i]'h=b:=by
 subst hS
 intro hi
 obtain ⟨h1,h2⟩:=List.getElem?_eq_some_iff.1 h
 show (ba l).data[i]=b
 simpa [ba] using h2
theorem YO (l:List UInt8) (w:World) (hl:l.length≤140737488355328) :
 Calls Tryz.prog 53 #[.string (ba l)] w fun e w' =>aTY (NS l) e∧Below w.heap.size w w' :=by
 have hs:(ba l).size=l.length:=gK l
 by_cases h20:20<l.length
 ·have e0:NS l=0:=by unfold NS;rw [if_pos h20]
  rw [e0]
  generalize ba l=S at hs
  go_enter Tryz.func53,Tryz.ntmps53
  go_wp2_with fail
  exact bodyPost_ret (v:=.tuple #[.int .i64 0,.bool false]) (by simp [results,Tryz.results53,go_sem]) rfl ⟨⟨_,rfl⟩,Below.refl _ _⟩
 ·have HI:=aB (fun (i:Nat) (b:UInt8) (h:l[i]?=some b)=>aPZ h (S:=ba l) rfl)
  have hvs:okS l=true→NS l=if minus l then mE l else wrap64 (-mE l):=fun h=>by unfold NS;rw [if_neg h20,if_pos h]
  have hvn:okS l=false→NS l=0:=fun h=>by unfold NS;rw [if_neg h20,h];rfl
  have HV:=aB (And.intro hvs hvn)
  clear hvs hvn
  generalize NS l=V at HV ⊢
  generalize ba l=S at hs HI ⊢
  go_enter Tryz.func53,Tryz.ntmps53
  go_wp2_with fail
  go_loopw [4,5] (fun v4 v5 wr=>∃ k:Nat,k≤l.length∧v4=.int .i64 (mE (l.take k))∧v5=.int .i64 k∧Hid (okS (l.take k)=true)∧w=wr) (fun _ i _=>l.length-(intOf i).toNat)
  case atStart=>exact ⟨0,Nat.zero_le _,rfl,rfl,rfl,rfl⟩
  case round =>
   obtain ⟨k,hk,rfl,rfl,HO,rfl⟩:=hrel
   by_cases hlt:k<l.length
   ·obtain ⟨b,hb⟩:∃ b,l[k]?=some b:=⟨_,List.getElem?_eq_getElem hlt⟩
    have hbk:=HI.out k b hb
    have HB:=aB hb
    have HST:=aB (aCQ hb)
    clear hb
    generalize mE (l.take k)=F at HST ⊢
    by_cases h45:k=0∧b=45
    ·obtain ⟨rfl,rfl⟩:=h45
     go_wp2_with fail
     go_roundw
     case rel=>exact ⟨1,aF,by rw [HST.out];rfl,rfl,IL HB.out HO.out (Or.inl ⟨rfl,rfl⟩),by first | rfl | trivial⟩
     case measure=>simp [intOf];omega
    ·by_cases hdg:dg b=true
     ·have hd1:48≤b.toNat∧b.toNat≤57:=by simpa [dg] using hdg
      have HS:=aB (show qQ F b=wrap64 (wrap64 (10*F)-((b.toNat:Int)-48)) by unfold qQ;rw [if_neg (by rintro rfl;simp at hd1)])
      have hlo:48≤(b.toNat:Int):=by omega
      have hhi:(b.toNat:Int)≤57:=by omega
      have hn45:((b.toNat:Int)==45)=false:=by simp;omega
      have HD:=aB hdg
      clear hdg hd1 h45
      by_cases hk0:k=0
      ·subst hk0
       go_wp2_with fail
       go_roundw
       case rel=>exact ⟨1,aF,by rw [HST.out,HS.out],rfl,IL HB.out HO.out (Or.inr HD.out),by first | rfl | trivial⟩
       case measure=>simp [intOf];omega
      ·have hk1:((k:Int)==0)=false:=by simp;omega
       go_wp2_with fail
       go_roundw
       case rel=>exact ⟨k+1,aF,by rw [HST.out,HS.out],by go_num,IL HB.out HO.out (Or.inr HD.out),by first | rfl | trivial⟩
       case measure=>simp [intOf];omega
     ·have HN:=aB (HV.out.2 (aYZ HB.out (fun h=>h.elim h45 hdg)))
      have hd1:¬ (48≤b.toNat∧b.toNat≤57):=by simpa [dg] using hdg
      have hn45:k=0→((b.toNat:Int)==45)=false:=fun hk0=>by
       have:b≠45:=fun e=>h45 ⟨hk0,e⟩
       have h2:b.toNat≠45:=fun e=>this (UInt8.toNat_inj.1 e)
       simpa using (by omega:(b.toNat:Int)≠45)
      clear hdg h45 HST HV HI
      by_cases hlo:b.toNat<48
      ·have bBQ :(b.toNat:Int)<48:=by omega
       clear hd1
       by_cases hk0:k=0
       ·subst hk0
        have hn45:=hn45 rfl
        go_wp2_with fail
        exact bodyPost_ret (v:=.tuple #[.int .i64 0,.bool false]) (by simp [results,Tryz.results53,go_sem]) rfl ⟨⟨_,by rw [HN.out]⟩,Below.refl _ _⟩
       ·have hk1:((k:Int)==0)=false:=by simp;omega
        clear hn45
        go_wp2_with fail
        exact bodyPost_ret (v:=.tuple #[.int .i64 0,.bool false]) (by simp [results,Tryz.results53,go_sem]) rfl ⟨⟨_,by rw [HN.out]⟩,Below.refl _ _⟩
      ·have bBQ :48≤(b.toNat:Int):=by omega
       have bME :57<(b.toNat:Int):=by omega
       clear hd1
       by_cases hk0:k=0
       ·subst hk0
        have hn45:=hn45 rfl
        go_wp2_with fail
        exact bodyPost_ret (v:=.tuple #[.int .i64 0,.bool false]) (by simp [results,Tryz.results53,go_sem]) rfl ⟨⟨_,by rw [HN.out]⟩,Below.refl _ _⟩
       ·have hk1:((k:Int)==0)=false:=by simp;omega
        clear hn45
        go_wp2_with fail
        exact bodyPost_ret (v:=.tuple #[.int .i64 0,.bool false]) (by simp [results,Tryz.results53,go_sem]) rfl ⟨⟨_,by rw [HN.out]⟩,Below.refl _ _⟩
   ·have ek:k=l.length:=by omega
    subst ek
    rw [List.take_length] at HO ⊢
    have HX:=aB (HV.out.1 HO.out)
    have hff: -9223372036854775808≤mE l∧mE l≤9223372036854775807:=IK l 0 aF
    have hd1:=iW _ hff
    have hd2:=iW _ (vY (-mE l))
    have h3:(l.length=0∧minus l=false)∨(∃ b,l[0]?=some b∧0<l.length∧minus l=decide (b=45)):=by
     cases hl0:l with
     | nil=>exact Or.inl ⟨rfl,rfl⟩
     | cons b r=>exact Or.inr ⟨b,rfl,aQ,by cases h:decide (b=45) <;> simp_all [minus]⟩
    generalize mE l=F at *
    generalize ba (Lib.itoa F)=A1 at hd1
    generalize ba (Lib.itoa (wrap64 (-F)))=A2 at hd2
    clear HV HO hff
    rcases h3 with ⟨h0,hm⟩ | ⟨b,hb,h0,hm⟩
    ·rw [hm] at HX
     have HY:Hid (V=wrap64 (-F)):=HX
     clear HI hm HX
     go_wp2_with (go_at_call 55;with_reducible refine (hd2 _).mono ?_;rintro e X ⟨rfl,hb⟩)
     exact bodyPost_ret (v:=.tuple #[.int .i64 (wrap64 (-F)),.bool (A2.toList==S.toList)]) (by simp [results,Tryz.results53,go_sem]) rfl ⟨⟨_,by rw [HY.out]⟩,hb⟩
    ·have hbk:=HI.out 0 b hb
     have h00:((l.length:Int)==0)=false:=by rw [beq_eq_false_iff_ne];omega
     clear HI hb
     by_cases hb45:b=45
     ·subst hb45
      rw [hm] at HX
      have HY:Hid (V=F):=HX
      clear hm HX
      go_wp2_with (go_at_call 55;with_reducible refine (hd1 _).mono ?_;rintro e X ⟨rfl,hb⟩)
      exact bodyPost_ret (v:=.tuple #[.int .i64 (F),.bool (A1.toList==S.toList)]) (by simp [results,Tryz.results53,go_sem]) rfl ⟨⟨_,by rw [HY.out]⟩,hb⟩
     ·rw [hm,decide_eq_false hb45] at HX
      have HY:Hid (V=wrap64 (-F)):=HX
      clear HX
      have hn45:((b.toNat:Int)==45)=false:=by
       have h2:b.toNat≠45:=fun e=>hb45 (UInt8.toNat_inj.1 e)
       simpa using (by omega:(b.toNat:Int)≠45)
      clear hm hb45
      go_wp2_with (go_at_call 55;with_reducible refine (hd2 _).mono ?_;rintro e X ⟨rfl,hb⟩)
      exact bodyPost_ret (v:=.tuple #[.int .i64 (wrap64 (-F)),.bool (A2.toList==S.toList)]) (by simp [results,Tryz.results53,go_sem]) rfl ⟨⟨_,by rw [HY.out]⟩,hb⟩
theorem tV {w:World} {base:Nat} {e:TypeId} {size:Nat} {v:Value} {n:Nat} {xs:List Value} (h:w.ownsRow base e size v n xs):∃ a cap,v=.slice a n cap:=by
 obtain ⟨_,⟨rfl,h0⟩ | ⟨g,cap,cur,rfl,_⟩⟩:=h
 ·subst h0;exact ⟨_,_,rfl⟩
 ·exact ⟨_,_,rfl⟩
theorem aZD (l:List UInt8) (a b:Nat):(ba l).extract a b=ba (l.extract a b):=by
 apply ByteArray.ext
 simp [ba,ByteArray.data_extract]
def aZE (xs:List (List UInt8)) (B:Nat) (e:Ending) (w' :World):Prop:=∃ a cap,e=.returned (.slice a xs.length cap)∧w'.ownsRow B 9 1 (.slice a xs.length cap) xs.length (strs xs)
theorem QZ (c:UInt8) (m:Nat) (hm:m≤300) (l:List UInt8) (w:World) (hl:l.length≤140737488355328) :
 Calls Tryz.prog 52 #[.string (ba l),.int .u8 c.toNat,.int .i64 m] w fun e w' =>aZE ((dB c l).take m) w.heap.size e w' ∧Below w.heap.size w w' :=by
 obtain ⟨i0,hi,hz0,hz1,hz2⟩:=info_parts UQ
 have hs:(ba l).size=l.length:=gK l
 have HI:=aB (fun (i:Nat) (b:UInt8) (h:l[i]?=some b)=>aPZ h (S:=ba l) rfl)
 have HX:=aB (aZD l)
 generalize ba l=S at hs HI HX ⊢
 go_enter Tryz.func52,Tryz.ntmps52
 go_wp2_with fail
 go_loopw [7,8,9] (fun v7 v8 v9 wr=>∃ i:Nat,i≤l.length+1∧v8=.int .i64 (vL c l i).2∧v9=.int .i64 i∧(vL c l i).1.length≤m∧wr.ownsRow w.heap.size 9 1 v7 (vL c l i).1.length (strs (vL c l i).1)∧Below w.heap.size w wr) (fun _ _ i _=>l.length+1-(intOf i).toNat)
 case atStart=>exact ⟨0,Nat.zero_le _,rfl,rfl,Nat.zero_le _,World.ownsRow_nil _ _ _ _,Below.refl _ _⟩
 case round =>
  obtain ⟨i,hil,rfl,rfl,hlm,hown,hB⟩:=hrel
  obtain ⟨a,cap,rfl⟩:=tV hown
  have hfl:=aCS c l i
  have HS:=aB (And.intro (@BV c l i) (And.intro (@IM c l i) (And.intro (@aTW c l m) (@aPX c l i m hil))))
  generalize hst:vL c l i=st at *
  obtain ⟨ps,f⟩:=st
  simp only at hlm hown hfl ⊢
  have HB:=aB hB
  clear hB
  by_cases hend:i=l.length+1
  ·have hne:(l.length:Int)<i:=by omega
   have yJ:=aB (show ps=(dB c l).take m by subst hend;rw [hst] at HS;exact HS.out.2.2.1 hlm)
   have HO:=aB hown
   clear HS HX HI hst hend hown
   generalize hL:l.length=L at *
   go_wp2_with fail
   go_ret
   exact ⟨⟨a,cap,by rw [← yJ.out];rfl,by rw [← yJ.out];exact HO.out⟩,HB.out⟩
  ·have hile:(i:Int)≤l.length:=by omega
   by_cases hfull:ps.length=m
   ·have yJ:=aB (show ps=(dB c l).take m by exact HS.out.2.2.2 hfull)
    have HO:=aB hown
    clear HS HX HI hst hown
    go_wp2_with fail
    go_ret
    exact ⟨⟨a,cap,by rw [← yJ.out];rfl,by rw [← yJ.out];exact HO.out⟩,HB.out⟩
   ·have hlt2:(ps.length:Int)<m:=by omega
    by_cases hhit:i=l.length∨l[i]?=some c
    ·have HN:=aB (HS.out.1 hhit)
     have HEX:=aB (HX.out f i)
     have hpl:ps.length≤300:=by omega
     have hfi:f≤i:=hfl
     by_cases hie:i=l.length
     ·subst hie
      have a4Y:((l.length:Int)==l.length)=true:=by rw [beq_iff_eq]
      clear hhit HS HX HI hst
      go_upto_region 7 with fail
      go_wp2_with (at_builtin;refine wpList_append_own _ rfl (.tmp 33) (.tmp 38) 88 rfl w.heap.size 9 i0 _ 1 16 Tryz.underlying88 hi hz0 hz1 hz2 rfl aL _ _ _ rfl (hown.alloc _) ⟨wr.heap.size,0,none⟩ 1 1 [.string (S.extract f l.length)] rfl rfl ?c1 ?c2 ?c3 ?c4 ?c5 ?_)
      case c2=>rfl
      case c3=>unfold maxLen;omega
      case c4=>omega
      case c5=>have:=HB.out.size;omega
      intro v' w4 hown5 hg4 _
      have hltb:=hown.lt
      have hB4:Below w.heap.size w w4:=(HB.out.alloc HB.out.size _).grown hg4 (by simp;have:=HB.out.size;omega) (fun k hk=>by have:=(hltb k hk).1;omega)
      have hown6:w4.ownsRow w.heap.size 9 1 v' (vL c l (l.length+1)).1.length (strs (vL c l (l.length+1)).1):=by
       rw [HN.out]
       rw [HEX.out] at hown5
       simpa [strs] using hown5
      have yJ:=aB (And.intro hB4 hown6)
      clear hB4 hown6 hown5 hg4 hltb hown
      go_wp2_with fail
      go_roundw
      case rel=>exact ⟨l.length+1,aF,by rw [HN.out];go_num,by go_num,by rw [HN.out];simp;omega,yJ.out.2,yJ.out.1⟩
      case measure=>simp [intOf] <;> omega
     ·have hb:l[i]?=some c:=hhit.resolve_left hie
      have hbk:=HI.out i c hb
      have bBR:i<l.length:=by omega
      have a4Y:((i:Int)==l.length)=false:=by rw [beq_eq_false_iff_ne];omega
      clear hhit HS HX HI hst hb
      go_upto_region 7 with fail
      go_wp2_with (at_builtin;refine wpList_append_own _ rfl (.tmp 33) (.tmp 38) 88 rfl w.heap.size 9 i0 _ 1 16 Tryz.underlying88 hi hz0 hz1 hz2 rfl aL _ _ _ rfl (hown.alloc _) ⟨wr.heap.size,0,none⟩ 1 1 [.string (S.extract f i)] rfl rfl ?d1 ?d2 ?d3 ?d4 ?d5 ?_)
      case d2=>rfl
      case d3=>unfold maxLen;omega
      case d4=>omega
      case d5=>have:=HB.out.size;omega
      intro v' w4 hown5 hg4 _
      have hltb:=hown.lt
      have hB4:Below w.heap.size w w4:=(HB.out.alloc HB.out.size _).grown hg4 (by simp;have:=HB.out.size;omega) (fun k hk=>by have:=(hltb k hk).1;omega)
      have hown6:w4.ownsRow w.heap.size 9 1 v' (vL c l (i+1)).1.length (strs (vL c l (i+1)).1):=by
       rw [HN.out]
       rw [HEX.out] at hown5
       simpa [strs] using hown5
      have yJ:=aB (And.intro hB4 hown6)
      clear hB4 hown6 hown5 hg4 hltb hown
      go_wp2_with fail
      go_roundw
      case rel=>exact ⟨i+1,aF,by rw [HN.out];go_num,by go_num,by rw [HN.out];simp;omega,yJ.out.2,yJ.out.1⟩
      case measure=>simp [intOf] <;> omega
    ·have HN:=aB (HS.out.2.1 hhit)
     obtain ⟨b,hb⟩:∃ b,l[i]?=some b:=⟨_,List.getElem?_eq_getElem (show i<l.length by omega)⟩
     have hbk:=HI.out i b hb
     have bBR:i<l.length:=by omega
     have a4Y:((i:Int)==l.length)=false:=by rw [beq_eq_false_iff_ne];omega
     have hbc:((b.toNat:Int)==(c.toNat:Int))=false:=by
      have:b≠c:=fun e=>hhit (Or.inr (by rw [hb,e]))
      have h2:b.toNat≠c.toNat:=fun e=>this (UInt8.toNat_inj.1 e)
      rw [beq_eq_false_iff_ne];omega
     have HO:=aB hown
     clear hhit HS HX HI hst hb hown
     go_wp2_with fail
     go_roundw
     case rel=>exact ⟨i+1,aF,by rw [HN.out],by go_num,by rw [HN.out];exact hlm,by rw [HN.out];exact HO.out,HB.out⟩
     case measure=>simp [intOf];omega
def ndA (x:Nd):Array Value:=#[.int .i64 x.op,.int .i64 x.d,.int .i64 x.a,.int .i64 x.b,.int .i64 x.t,.int .i64 x.e]
structure GS (B wb nb kb sb:Nat) (K:Int) (cap len:Nat) (cs:Array Value) (x:Nd) (w wr:World):Prop where
 ord:B<sb∧sb<wb∧wb<nb∧nb<kb
 rb:wr.heap[B]?=some (.cells z6 42 (0,0))
 sc:wr.heap[sb]?=some (.cells cs 9 (0,0))
 wc:wr.heap[wb]?=some (.cells #[.slice (some ⟨sb,0,none⟩) len cap] 88 (0,0))
 nc:wr.heap[nb]?=some (.cells (ndA x) 42 (0,0))
 kc:wr.heap[kb]?=some (.cells #[.int .i64 K] 3 (0,0))
 bl:Below B w wr
section
variable {B wb nb kb sb:Nat} {K:Int} {cap len:Nat} {cs:Array Value} {x:Nd} {w wr wr' :World}
theorem GS.grow (h:GS B wb nb kb sb K cap len cs x w wr) (hb:Below wr.heap.size wr wr'):GS B wb nb kb sb K cap len cs x w wr' :=
 ⟨h.ord,bP hb h.rb,bP hb h.sc,bP hb h.wc,bP hb h.nc,bP hb h.kc,h.bl.trans (hb.mono (Nat.le_of_lt (aD h.rb)))⟩
theorem GS.aTZ (h:GS B wb nb kb sb K cap len cs x w wr) (v:Int):GS B wb nb kb sb v cap len cs x w (wr.setCell ⟨kb,0,none⟩ (.int .i64 v)):=by
 have ho:=h.ord
 exact ⟨ho,aN _ h.rb aF,aN _ h.sc aF,aN _ h.wc aF,aN _ h.nc aF,aG _ h.kc,h.bl.setCell (show B≤kb by omega) _⟩
theorem GS.aQA (h:GS B wb nb kb sb K cap len cs x w wr) (i:Nat) (v:Int) (y:Nd) (hy:ndA y=(ndA x).setIfInBounds i (.int .i64 v)):GS B wb nb kb sb K cap len cs y w (wr.setCell ⟨nb,i,none⟩ (.int .i64 v)):=by
 have ho:=h.ord
 exact ⟨ho,aN _ h.rb aF,aN _ h.sc aF,aN _ h.wc aF,by rw [hy];exact aG _ h.nc,aN _ h.kc aF,h.bl.setCell (show B≤nb by omega) _⟩
theorem GS.n1 (h:GS B wb nb kb sb K cap len cs x w wr) (v:Int):GS B wb nb kb sb K cap len cs { x with d:=v } w (wr.setCell ⟨nb,1,none⟩ (.int .i64 v)):=h.aQA 1 v _ rfl
theorem GS.n2 (h:GS B wb nb kb sb K cap len cs x w wr) (v:Int):GS B wb nb kb sb K cap len cs { x with a:=v } w (wr.setCell ⟨nb,2,none⟩ (.int .i64 v)):=h.aQA 2 v _ rfl
theorem GS.n3 (h:GS B wb nb kb sb K cap len cs x w wr) (v:Int):GS B wb nb kb sb K cap len cs { x with b:=v } w (wr.setCell ⟨nb,3,none⟩ (.int .i64 v)):=h.aQA 3 v _ rfl
theorem GS.n4 (h:GS B wb nb kb sb K cap len cs x w wr) (v:Int):GS B wb nb kb sb K cap len cs { x with t:=v } w (wr.setCell ⟨nb,4,none⟩ (.int .i64 v)):=h.aQA 4 v _ rfl
theorem GS.n5 (h:GS B wb nb kb sb K cap len cs x w wr) (v:Int):GS B wb nb kb sb K cap len cs { x with e:=v } w (wr.setCell ⟨nb,5,none⟩ (.int .i64 v)):=h.aQA 5 v _ rfl
end
theorem GS.facts {B wb nb kb sb:Nat} {K:Int} {cap len:Nat} {cs:Array Value} {x:Nd} {w wr:World} (h:GS B wb nb kb sb K cap len cs x w wr) :
 wr.cell? ⟨nb,0,none⟩=some (.int .i64 x.op)∧wr.cell? ⟨nb,1,none⟩=some (.int .i64 x.d)∧wr.cell? ⟨nb,2,none⟩=some (.int .i64 x.a)∧wr.cell? ⟨nb,3,none⟩=some (.int .i64 x.b)∧wr.cell? ⟨nb,4,none⟩=some (.int .i64 x.t)∧wr.cell? ⟨nb,5,none⟩=some (.int .i64 x.e) ∧
 wr.cell? ⟨kb,0,none⟩=some (.int .i64 K)∧(∀ i,wr.frozen? ⟨nb,i,none⟩=false)∧(∀ i,wr.frozen? ⟨kb,i,none⟩=false)∧nb<wr.heap.size∧kb<wr.heap.size :=
 ⟨aA h.nc 0,aA h.nc 1,aA h.nc 2,aA h.nc 3,aA h.nc 4,aA h.nc 5,aA h.kc 0,fun i=>aC h.nc i,fun i=>aC h.kc i,aD h.nc,aD h.kc⟩
structure G0 (B wb nb sb:Nat) (cap len:Nat) (cs:Array Value) (x:Nd) (w wr:World):Prop where
 ord:B<sb∧sb<wb∧wb<nb
 rb:wr.heap[B]?=some (.cells z6 42 (0,0))
 sc:wr.heap[sb]?=some (.cells cs 9 (0,0))
 wc:wr.heap[wb]?=some (.cells #[.slice (some ⟨sb,0,none⟩) len cap] 88 (0,0))
 nc:wr.heap[nb]?=some (.cells (ndA x) 42 (0,0))
 bl:Below B w wr
theorem G0.grow {B wb nb sb cap len:Nat} {cs:Array Value} {x:Nd} {w wr wr' :World} (h:G0 B wb nb sb cap len cs x w wr) (hb:Below wr.heap.size wr wr'):G0 B wb nb sb cap len cs x w wr' :=
 ⟨h.ord,bP hb h.rb,bP hb h.sc,bP hb h.wc,bP hb h.nc,h.bl.trans (hb.mono (Nat.le_of_lt (aD h.rb)))⟩
theorem G0.drew {B wb nb sb cap len:Nat} {cs:Array Value} {x:Nd} {w wr:World} (h:G0 B wb nb sb cap len cs x w wr):G0 B wb nb sb cap len cs x w wr.drew :=
 ⟨h.ord,h.rb,h.sc,h.wc,h.nc,h.bl.drew⟩
theorem G0.n0 {B wb nb sb cap len:Nat} {cs:Array Value} {x:Nd} {w wr:World} (h:G0 B wb nb sb cap len cs x w wr) (v:Int):G0 B wb nb sb cap len cs { x with op:=v } w (wr.setCell ⟨nb,0,none⟩ (.int .i64 v)):=by
 have ho:=h.ord
 exact ⟨ho,aN _ h.rb aF,aN _ h.sc aF,aN _ h.wc aF,aG _ h.nc,h.bl.setCell (show B≤nb by omega) _⟩
theorem G0.k {B wb nb sb cap len:Nat} {cs:Array Value} {x:Nd} {w wr:World} (h:G0 B wb nb sb cap len cs x w wr) (v:Int):GS B wb nb wr.heap.size sb v cap len cs x w (wr.alloc (.cells #[.int .i64 v] 3)):=by
 have ho:=h.ord
 have hn:=aD h.nc
 exact ⟨aF,aT _ h.rb,aT _ h.sc,aT _ h.wc,aT _ h.nc,jA rfl,h.bl.alloc (Nat.le_of_lt (aD h.rb)) _⟩
def aZG (cs:Array Value) (ws:List (List UInt8)):Prop:=∀ (j:Nat) (y:List UInt8),ws[j]?=some y→cs[j]?=some (.string (ba y))∧y.length≤140737488355328
theorem aUA {B wb nb kb sb:Nat} {K:Int} {cap:Nat} {ws:List (List UInt8)} {cs:Array Value} {x:Nd} {w wr:World} (h:GS B wb nb kb sb K cap ws.length cs x w wr) (hcs:aZG cs ws) (hK:0≤K) (hK2:K≤100) :
 Calls Tryz.prog 91 #[.pointer (some ⟨kb,0,none⟩),.pointer (some ⟨wb,0,none⟩)] wr fun e w' =>e=.returned (.int .i64 (tk ws K.toNat))∧GS B wb nb kb sb (K+1) cap ws.length cs x w w' :=by
 have HG:=aB h
 have k0:=aA h.kc 0
 have kf:=aC h.kc 0
 have w0:=aA h.wc 0
 simp at k0 w0
 by_cases hlt:K.toNat<ws.length
 ·obtain ⟨y,hy⟩:∃ y,ws[K.toNat]?=some y:=⟨_,List.getElem?_eq_getElem hlt⟩
  obtain ⟨hc,hyl⟩:=hcs _ y hy
  have s0:=(aA h.sc K.toNat).trans hc
  have hti:tk ws K.toNat=NS y:=by unfold tk;rw [hy]
  have hsd:=YO y wr hyl
  rw [hti]
  have hlt' :K<ws.length:=by omega
  clear h hcs hc hy hti
  generalize NS y=V at hsd
  generalize ba y=Y at hsd s0
  go_enter Tryz.func91,Tryz.ntmps91
  go_wp2_with fail
  refine hsd.mono ?_
  rintro e X ⟨⟨ok,rfl⟩,hb⟩
  have HX:=aB (HG.out.grow hb)
  have k1:=aA HX.out.kc 0
  have kf1:=aC HX.out.kc 0
  simp at k1
  clear hb k0 w0 s0 kf
  go_wp2_with fail
  go_ret
  exact ⟨rfl,HX.out.aTZ _⟩
 ·have hti:tk ws K.toNat=0:=by unfold tk;rw [List.getElem?_eq_none aF]
  rw [hti]
  have hlt' :ws.length≤K:=by omega
  clear h hcs hti
  go_enter Tryz.func91,Tryz.ntmps91
  go_wp2_with fail
  go_ret
  exact ⟨rfl,HG.out.aTZ _⟩
theorem take_at {B wb nb kb sb:Nat} {K:Int} {cap:Nat} {ws:List (List UInt8)} {cs:Array Value} {x:Nd} {w wr:World} (hcs:aZG cs ws) (h:GS B wb nb kb sb K cap ws.length cs x w wr∧0≤K∧K≤100) :
 Calls Tryz.prog 91 #[.pointer (some ⟨kb,0,none⟩),.pointer (some ⟨wb,0,none⟩)] wr fun e w' =>e=.returned (.int .i64 (tk ws K.toNat))∧GS B wb nb kb sb (K+1) cap ws.length cs x w w' :=aUA h.1 hcs h.2.1 h.2.2
structure PS (B pb sb:Nat) (cs:Array Value) (r:Int) (sv:Value) (ns:List Nd) (w wr:World):Prop where
 ord:B<sb∧sb<pb
 rb:wr.heap[B]?=some (.cells z2 24 (0,0))
 sc:wr.heap[sb]?=some (.cells cs 9 (0,0))
 pc:wr.heap[pb]?=some (.cells #[.int .i64 r,sv] 24 (0,0))
 ow:wr.ownsRow (pb+1) 42 6 sv ns.length (ns.flatMap jT)
 bl:Below B w wr
section
variable {B pb sb:Nat} {cs:Array Value} {r:Int} {sv:Value} {ns:List Nd} {w wr wr' :World}
theorem PS.grow (h:PS B pb sb cs r sv ns w wr) (hb:Below wr.heap.size wr wr'):PS B pb sb cs r sv ns w wr' :=
 ⟨h.ord,bP hb h.rb,bP hb h.sc,bP hb h.pc,ownsRow_below h.ow hb dD,h.bl.trans (hb.mono (Nat.le_of_lt (aD h.rb)))⟩
theorem PS.drew (h:PS B pb sb cs r sv ns w wr):PS B pb sb cs r sv ns w wr.drew:=⟨h.ord,h.rb,h.sc,h.pc,h.ow,h.bl.drew⟩
theorem YP {base:Nat} {e:TypeId} {size:Nat} {v:Value} {n:Nat} {xs:List Value} {w:World} (h:w.ownsRow base e size v n xs) {b i:Nat} (hb:b<base) (u:Value):(w.setCell ⟨b,i,none⟩ u).ownsRow base e size v n xs:=by
 obtain ⟨h1,h2 | ⟨g', cap,cur,hv,hbb,hh,hr⟩⟩:=h
 ·exact ⟨h1,Or.inl h2⟩
 ·exact ⟨h1,Or.inr ⟨g', cap,cur,hv,hbb,aN _ hh aF,hr⟩⟩
theorem PS.regs (h:PS B pb sb cs r sv ns w wr) (v:Int):PS B pb sb cs v sv ns w (wr.setCell ⟨pb,0,none⟩ (.int .i64 v)):=by
 have ho:=h.ord
 exact ⟨ho,aN _ h.rb aF,aN _ h.sc aF,aG _ h.pc,YP h.ow aF _,h.bl.setCell (show B≤pb by omega) _⟩
theorem PS.facts (h:PS B pb sb cs r sv ns w wr):wr.cell? ⟨pb,0,none⟩=some (.int .i64 r)∧wr.cell? ⟨pb,1,none⟩=some sv∧wr.frozen? ⟨pb,0,none⟩=false∧wr.frozen? ⟨pb,1,none⟩=false∧pb<wr.heap.size∧sb<wr.heap.size :=
 ⟨aA h.pc 0,aA h.pc 1,aC h.pc 0,aC h.pc 1,aD h.pc,aD h.sc⟩
theorem PS.more (h:PS B pb sb cs r sv ns w wr) (row:Array Value) {w1:World} (hg:(wr.alloc (.cells row 42)).grownBy w1 sv.ownBlock):w1.heap[pb]?=some (.cells #[.int .i64 r,sv] 24 (0,0)):=by
 have hlt:=h.ow.lt
 exact (hg.block _ (by have:=aD h.pc;simp;omega) (fun e=>by have:=(hlt pb e.symm).1;omega)).trans (aT _ h.pc)
theorem PS.step (h:PS B pb sb cs r sv ns w wr) {x:Nd} (row:Array Value) {g jM:Nat} {w1:World} (ho:w1.ownsRow (pb+1) 42 6 (.slice (some ⟨g,0,none⟩) (ns.length+1) jM) (ns.length+1) (ns.flatMap jT++jT x)) (hg:(wr.alloc (.cells row 42)).grownBy w1 sv.ownBlock) :
 PS B pb sb cs r (.slice (some ⟨g,0,none⟩) (ns.length+1) jM) (ns++[x]) w (w1.setCell ⟨pb,1,none⟩ (.slice (some ⟨g,0,none⟩) (ns.length+1) jM)):=by
 have hlt:=h.ow.lt
 have hor:=h.ord
 have keep:∀ {b:Nat} {o:Obj},b≤pb→wr.heap[b]?=some o→w1.heap[b]?=some o:=fun {b o} hb hh =>
  (hg.block _ (by have:=aD hh;simp;omega) (fun e=>by have:=(hlt b e.symm).1;omega)).trans (aT _ hh)
 refine ⟨hor,aN _ (keep aF h.rb) aF,aN _ (keep aF h.sc) aF,aG _ (keep dD h.pc),?_,?_⟩
 ·rw [List.length_append,List.length_singleton,List.flatMap_append,List.flatMap_singleton]
  exact YP ho aF _
 ·exact ((h.bl.alloc (Nat.le_of_lt (aD h.rb)) _).grown hg (by have:=aD h.rb;simp;omega) (fun k hk=>by have:=(hlt k hk).1;omega)).setCell (show B≤pb by omega) _
end
def NY (x:List UInt8):Nat→Int
 | 0=>-1
 | i+1=>if rR[i]?=some x then (i:Int) else NY x i
theorem YQ {x:List UInt8} (h:∀ i:Nat,rR[i]?≠some x):∀ i,NY x i= -1
 | 0=>rfl
 | i+1=>by rw [NY,if_neg (h i),YQ h i]
theorem YR {x:List UInt8} {o:Nat} (h:rR[o]?=some x):∀ k,NY x (o+1+k)=o
 | 0=>by rw [Nat.add_zero,NY,if_pos h]
 | k+1=>by
  show NY x (o+1+k+1)=_
  rw [NY,if_neg (fun e=>by have:=aDG h e;omega),YR h k]
theorem aUB (x:List UInt8) (r:List (List UInt8)):NY x 13=SH (x::r):=by
 unfold SH
 simp only [List.headD_cons]
 cases h:qZ x with
 | none =>
  refine YQ (fun i e=>?_) 13
  unfold qZ at h
  rw [List.findIdx?_eq_none_iff] at h
  have:=h x (List.mem_of_getElem? e)
  simp at this
 | some o =>
  have h1:=UO h
  have h2:o<13:=(List.getElem?_eq_some_iff.1 h1).1
  have:=YR h1 (12-o)
  rw [show o+1+(12-o)=13 by omega] at this
  exact this
theorem aQB (x:List UInt8):∀ i,-1≤NY x i∧NY x i<i∨NY x i= -1
 | 0=>Or.inr rfl
 | i+1=>by
  unfold NY
  split
  ·left;omega
  ·rcases aQB x i with h | h
   ·left;omega
   ·exact Or.inr h
theorem aZH {op:Int} (h:op= -1∨(0≤op∧op≤12)):Fl op false false false true false true∨Fl op true false false true false false∨Fl op true true false true false true∨Fl op true true true true false true ∨
 Fl op true false false true false true∨Fl op false true false true false true∨Fl op false true false true true true∨Fl op false true false false false true:=by
 rcases h with rfl | h
 ·left;simp only [Fl];decide
 ·exact xA (aY.2 h)
theorem aQC {i:Nat} (h:i<13):∃ y,rR[i]?=some y∧eY[i]?=some (.string (ba y)):=by
 obtain ⟨y,hy⟩:∃ y,rR[i]?=some y:=⟨_,List.getElem?_eq_getElem h⟩
 refine ⟨y,hy,?_⟩
 unfold eY
 rw [List.getElem?_toArray,List.getElem?_map,hy];rfl
theorem RF {w:World} {base:Nat} {a:Option Addr} {cap:Nat} {xs:List (List UInt8)} (h:w.ownsRow base 9 1 (.slice a xs.length cap) xs.length (strs xs)) (hne:xs≠[]) (hl:∀ y∈xs,y.length≤140737488355328) :
 ∃ sb cs,a=some ⟨sb,0,none⟩∧base≤sb∧w.heap[sb]?=some (.cells cs 9 (0,0))∧aZG cs xs:=by
 obtain ⟨_,⟨_,h0⟩ | ⟨g,c,cur,hv,hb,hg,_,_,_,ht⟩⟩:=h
 ·exact absurd (List.length_eq_zero_iff.1 h0) hne
 ·injection hv with ha _ _
  subst ha
  refine ⟨g,cur,rfl,hb,hg,fun j y hy=>⟨?_,hl y (List.mem_of_getElem? hy)⟩⟩
  have h1:(strs xs)[j]?=some (.string (ba y)):=by unfold strs;rw [List.getElem?_map,hy];rfl
  rw [← ht,List.getElem?_take] at h1
  split at h1
  ·simpa using h1
  ·cases h1
theorem qU {c:UInt8}:∀ (l:List UInt8) (y:List UInt8),y∈dB c l→y.length≤l.length
 | [],y,h=>by simp [dB] at h;subst h;simp
 | b::l,y,h=>by
  unfold dB at h
  split at h
  ·rcases List.mem_cons.1 h with rfl | h
   ·simp
   ·have:=qU l y h;simp;omega
  ·split at h
   ·simp at h;subst h;simp
   ·rename_i x r e
    rcases List.mem_cons.1 h with rfl | h
    ·have:=qU (c:=c) l x (by rw [e];simp);simp;omega
    ·have:=qU (c:=c) l y (by rw [e];simp [h]);simp;omega
theorem aQD {P:Program} {c:Code} {Q:Exit→Act→World→Prop} {a:Act} {W:World} {p:World→Prop} (h:p W) (k:∀ W,p W→Code.wp P c Q a W):Code.wp P c Q a W:=k W h
theorem aIW (l:List UInt8) (w:World) (hl:l.length≤140737488355328) :
 Calls Tryz.prog 54 #[.string (ba l)] w fun e w' =>e=.returned (.agg (ndA (gL l)))∧Below w.heap.size w w' :=by
 have hct:=QZ 32 9 aF l (w.alloc (.cells z6 42)) hl
 have hgl:gL l=gN ((dB 32 l).take 9):=rfl
 have hwl:∀ y∈(dB 32 l).take 9,y.length≤140737488355328:=fun y hy=>Nat.le_trans (qU l y (List.mem_of_mem_take hy)) hl
 have hwn:=tT (c:=32) (l:=l) (m:=9) aF
 rw [hgl]
 generalize (dB 32 l).take 9=ws at hct hwl hwn ⊢
 obtain ⟨y,hy0,HOS⟩:∃ y,ws[0]?=some y∧Hid (NY y 13=SH ws):=by
  cases ws with
  | nil=>exact absurd rfl hwn
  | cons y r=>exact ⟨y,rfl,aUB y r⟩
 generalize ba l=S at hct ⊢
 go_enter Tryz.func54,Tryz.ntmps54
 go_wp2_with fail
 refine hct.mono ?_
 rintro e w1 ⟨⟨a,cap,rfl,ho⟩,hb1⟩
 obtain ⟨sb,cs,rfl,hsb,hsc,hcs⟩:=RF ho hwn hwl
 have hs1:=hb1.size
 simp only [World.size_alloc] at hs1 hb1 hsb
 have hp1:=(hb1.block w.heap.size aF).trans (jA rfl)
 have hB1:Below w.heap.size w w1:=(dY).trans (hb1.mono aF)
 have a4Z:=aD hsc
 clear ho hb1 hct
 have hG:G0 w.heap.size w1.heap.size (w1.heap.size+1) sb cap ws.length cs ⟨NY y 0,0,0,0,0,0⟩ w ((w1.alloc (.cells #[.slice (some ⟨sb,0,none⟩) ws.length cap] 88)).alloc (.cells #[.int .i64 (-1),.int .i64 0,.int .i64 0,.int .i64 0,.int .i64 0,.int .i64 0] 42)) :=
  ⟨aF,aT _ (aT _ hp1),aT _ (aT _ hsc),aT _ (jA rfl),jA aQ,(hB1.alloc aF _).alloc bF _⟩
 have HG:=aB hG
 have hw0:=(hcs 0 y hy0).1
 have HOL:=aB (aQB y 13)
 have bGU:0<ws.length:=(List.getElem?_eq_some_iff.1 hy0).1
 have hlen:(0:Int)<ws.length:=by omega
 have HCS:=aB hcs
 clear hcs hG hp1 hB1 hsc a4Z hgl hwl hwn hy0
 go_wp2_with fail
 generalize hnb:w1.heap.size+1=nb at *
 go_loopw [5] (fun v5 wr=>∃ i:Nat,i≤13∧v5=.int .i64 i∧Hid (G0 w.heap.size w1.heap.size nb sb cap ws.length cs ⟨NY y i,0,0,0,0,0⟩ w wr)) (fun i _=>13-(intOf i).toNat)
 case atStart=>exact ⟨0,aF,rfl,HG.out⟩
 case round =>
  obtain ⟨i,hi,rfl,HR⟩:=hrel
  clear HG
  by_cases hlt:i<13
  ·obtain ⟨ny,hny,hnv⟩:=aQC hlt
   have aRJ:(i:Int)<13:=by omega
   have hstep:NY y (i+1)=if rR[i]?=some y then (i:Int) else NY y i:=rfl
   rw [hny] at hstep
   have HST:=aB hstep
   clear hstep
   go_upto_region 6 with (go_at_call 90;refine (uR _).mono ?_;rintro e W ⟨rfl,hv,hb⟩)
   have HW:=aB (HR.out.grow hb)
   have q0:=aA HW.out.wc 0
   have q1:=(aA HW.out.sc 0).trans hw0
   simp at q0
   have hW1:=aD HW.out.wc
   have hW2:=aD HW.out.sc
   clear hb hv
   go_region_with (go_at_call 90;refine (uR _).mono ?_;rintro e V ⟨rfl,hv,hb⟩;have HV:=aB (HW.out.drew.grow hb);have nn:V.cell? ⟨W.heap.size,i,none⟩=some (.string (ba ny)):=(aA hv i).trans hnv;have q0:V.cell? ⟨w1.heap.size,0,none⟩=some (.slice (some ⟨sb,0,none⟩) ws.length cap):=aA HV.out.wc 0;have q1:=(aA HV.out.sc 0).trans hw0;have hV1:=aD HV.out.wc;have hV2:=aD HV.out.sc;clear hb hv)
   all_goals
    clear HW q0 q1 hW1 hW2 nn hV1 hV2
    have n0:=aA HV.out.nc 0
    have nf:=aC HV.out.nc 0
    simp [ndA] at n0
    have hnl:=aD HV.out.nc
    have HCB:=aB (show ((ba ny).toList==(ba y).toList)=decide (ny=y) by rw [ByteArray.toList_eq,ByteArray.toList_eq,jB,jB];by_cases h:ny=y <;> simp [h])
    have HN:=aB (HV.out.n0 (i:Int))
    generalize ((ba ny).toList==(ba y).toList)=cb at HCB ⊢
    cases cb
    ·have hyy:ny≠y:=of_decide_eq_false HCB.out.symm
     have HS2:=aB (show NY y (i+1)=NY y i by rw [HST.out,if_neg (fun q=>hyy (Option.some.inj q))])
     clear HST HOS HOL HCS hnv hny hyy HR HCB HN
     go_wp2_with fail
     go_roundw
     case rel=>exact ⟨i+1,aF,by go_num,(by rw [HS2.out];exact HV.out)⟩
     case measure=>simp [intOf];omega
    ·have hyy:ny=y:=of_decide_eq_true HCB.out.symm
     have HS2:=aB (show NY y (i+1)=(i:Int) by rw [HST.out,if_pos (by rw [hyy])])
     clear HST HOS HOL HCS hnv hny hyy HR HCB HV
     go_wp2_with fail
     go_roundw
     case rel=>exact ⟨i+1,aF,by go_num,(by rw [HS2.out];exact HN.out)⟩
     case measure=>simp [intOf];omega
  ·have ei:i=13:=by omega
   subst ei
   rw [HOS.out] at HR HOL
   have hor:SH ws= -1∨(0≤SH ws∧SH ws≤12):=by have:=HOL.out;omega
   have hcl:=aZH hor
   obtain ⟨D,A,Bq,T,O,E,hF⟩:∃ D A B T O E,Fl (SH ws) D A B T O E:=⟨_,_,_,_,_,_,⟨rfl,rfl,rfl,rfl,rfl,rfl⟩⟩
   have HF:=aB hF
   have hfl:=qD hF
   have HCL:=aB hcl
   clear hcl hF HOS HOL hlt hi hw0
   generalize hop:SH ws=op at *
   go_upto_region 9 with (first
    | (go_at_call 90;refine (uR _).mono ?_;rintro e W ⟨rfl,hv,hb⟩;have HW:=aB (HR.out.grow hb);have n0:=aA HW.out.nc 0;simp [ndA] at n0;have hnl:=aD HW.out.nc;clear hb hv)
    | (go_at_call 40;refine (hfl _).mono ?_;rintro e w' ⟨rfl,rfl⟩))
   have HK:=aB (HW.out.k 1)
   have ho:=HK.out.ord
   have hnk:nb≠w'.heap.size:=by omega
   have hkn:w'.heap.size≠nb:=by omega
   have HO:=aB ho
   clear HW n0 hnl ho hnb HR
   go_upto_region 11 with fail
   generalize hX:w'.alloc (.cells #[.int .i64 1] 3)=X at HK ⊢
   clear hX
   generalize w'.heap.size=kb at *
   obtain ⟨n0,n1,n2,n3,n4,n5,c0,nf,kf,s1,s2⟩:=HK.out.facts
   simp only at n0 n1 n2 n3 n4 n5
   rcases HCL.out with q | q | q | q | q | q | q | q
   all_goals
    obtain ⟨g1,g2,g3,g4,g5,g6⟩:=HF.out
    obtain ⟨k1,k2,k3,k4,k5,k6⟩:=q
    have k7:(op==1)=!(op != 1):=by simp [bne]
    have HGN:=aB (show gN ws=gF op _ _ _ _ _ ws by unfold gN;rw [hop,k1,k2,k3,k4,k5,k7,k6])
    clear k7
    rw [k1] at g1
    rw [k2] at g2
    rw [k3] at g3
    rw [k4] at g4
    rw [k5] at g5
    rw [k6] at g6
    subst g1 g2 g3 g4 g5 g6
   all_goals
    clear HCL HF hfl
    go_upto_region 23 with (go_at_call 91;refine (take_at HCS.out (by refine And.intro (by repeat (first | with_reducible exact HK.out | with_reducible apply GS.aTZ | with_reducible apply GS.n1 | with_reducible apply GS.n2 | with_reducible apply GS.n3 | with_reducible apply GS.n4)) ?_;omega)).mono ?_;rintro e Y ⟨rfl,hG⟩;have HK:=aB hG;clear hG n0 n1 n2 n3 n4 n5 c0 nf kf s1 s2;obtain ⟨n0,n1,n2,n3,n4,n5,c0,nf,kf,s1,s2⟩:=HK.out.facts;simp only at n0 n1 n2 n3 n4 n5)
    refine aQD (p:=fun W=>GS w.heap.size w1.heap.size nb kb sb _ cap ws.length cs _ w W) (by repeat (first | with_reducible exact HK.out | with_reducible apply GS.aTZ | with_reducible apply GS.n1 | with_reducible apply GS.n2 | with_reducible apply GS.n3 | with_reducible apply GS.n4 | with_reducible apply GS.n5)) ?_
    intro Z hz
    have HZ:=aB hz
    clear hz n0 n1 n2 n3 n4 n5 c0 nf kf s1 s2 HK
    obtain ⟨n0,n1,n2,n3,n4,n5,c0,nf,kf,s1,s2⟩:=HZ.out.facts
    simp only at n0 n1 n2 n3 n4 n5
    go_wp2_with (refine wpList_plain rfl fun _ hK=>wp_store_row _ _ _ rfl _ #[.int .i64 _,.int .i64 _,.int .i64 _,.int .i64 _,.int .i64 _,.int .i64 _] rfl rfl _ _ HZ.out.rb iO rfl (aDM _ _ _ _ _ _) (hK _ _ ?_))
    refine bodyPost_ret (results_cell_row Tryz.results54 _ _ _ _ _ _ _ rfl (setRow_heap _ _ _ _ _ _ HZ.out.rb) Tryz.underlying42 rfl iO) rfl ⟨?_,HZ.out.bl.trans ⟨rfl,rfl,rfl,aQ,fun k hk=>setRow_other _ _ _ _ aF⟩⟩
    rw [HGN.out]
    rfl
end Go.Proofs.YtegloodcbfalfaaGreatDoor
