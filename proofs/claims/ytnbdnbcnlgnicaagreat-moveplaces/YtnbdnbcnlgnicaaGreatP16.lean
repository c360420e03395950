/-
  Of the proof of MovePlaces: XF, XB, XC, YB.
-/
import Derived.Test.YtnbdnbcnlgnicaaGreatP2
import Derived.Test.YtnbdnbcnlgnicaaGreatP6
import Derived.Test.YtnbdnbcnlgnicaaGreatP11
import Derived.Test.YtnbdnbcnlgnicaaGreatP15
set_option linter.unusedVariables false
set_option linter.unusedSimpArgs false
set_option maxHeartbeats 40000000
namespace Go.Proofs.YtnbdnbcnlgnicaaGreat
open Go.RowKit Go.Shelf
set_option maxRecDepth 100000 in
theorem rivalOf_any (r:Int) (b off cap:Nat) (ns:List Nd) (t:Tm) (ua:Option Addr) (uc:Nat) (us:List Bool) (w:World) (hN:NodesAt w b off ns) (hc:chk r ns=0) (hu:BoolsAt w ua us) (hul:us.length=ns.length) :
 Calls Tryz.prog 10 #[.agg #[.int .i64 r,.slice (some ⟨b,off,none⟩) ns.length cap],.agg #[.int .i64 t.op,.int .i64 t.a,.int .i64 t.b],.slice ua us.length uc] w fun e w' =>∃ v1 v2,e=.returned (.agg #[v1,v2])∧w'.ownsRow w.heap.size 4 1 v1 ns.length ((rivPut ns t us).map Value.bool)∧w'.ownsRow w.heap.size 4 1 v2 ns.length ((rivTake ns t us).map Value.bool)∧Below w.heap.size w w' :=by
 have hl:=(chk_zero hc).1
 obtain ⟨W,HW,hbA,p0,p1,p2⟩:=box3 w (.cells #[.int .i64 r,.slice (some ⟨b,off,none⟩) ns.length cap] 24) (.cells #[.int .i64 t.op,.int .i64 t.a,.int .i64 t.b] 26) (.cells #[.slice none 0 0,.slice none 0 0] 29)
 obtain ⟨ub,uo,rfl,hul2,huv⟩:=hu.at (k:=0) (by omega)
 have HU:Hid (∀ (u:World) (k:Nat),Below w.heap.size w u→k<ns.length→u.cell? ⟨ub,uo+k,none⟩=some (.bool (bat us k))):=fun u k hB hk=>by rw [hB.cell (p:=⟨ub,uo+k,none⟩) hul2];exact huv k _ (get_bat (by omega))
 rw [hul]
 clear hu huv hul
 have HF:=hide (factsOf_any r b off cap ns t W (hN.below hbA hN.lt) hc)
 go_enter Tryz.func10,Tryz.ntmps10
 go_upto_region 1 with fail
 rw [HW.out]
 have q0:=blk_cell p0 0
 have q1:=blk_cell p0 1
 have t0:=blk_cell p1 0
 have t1:=blk_cell p1 1
 have t2:=blk_cell p1 2
 simp at q0 q1 t0 t1 t2
 have pl:=blk_lt p0
 have tl:=blk_lt p1
 have HB:=hide hbA
 have HP:=hide p0
 have HT:=hide p1
 have HR:=hide p2
 clear hbA p0 p1 p2 HW
 go_wp2_with fail
 refine HF.out.mono ?_
 rintro e w1 ⟨X,rfl,hX,hb1⟩
 obtain ⟨V1,HV⟩:∃ V1,Hid (w1.alloc (.cells #[.slice (some ⟨X 0,0,none⟩) ns.length ns.length,.slice (some ⟨X 1,0,none⟩) ns.length ns.length,.slice (some ⟨X 4,0,none⟩) ns.length ns.length,.slice (some ⟨X 2,0,none⟩) ns.length ns.length,.slice (some ⟨X 5,0,none⟩) ns.length ns.length,.slice (some ⟨X 3,0,none⟩) ns.length ns.length] 41)=V1):=⟨_,rfl⟩
 have hF:=World.alloc_heap_new w1 (.cells #[.slice (some ⟨X 0,0,none⟩) ns.length ns.length,.slice (some ⟨X 1,0,none⟩) ns.length ns.length,.slice (some ⟨X 4,0,none⟩) ns.length ns.length,.slice (some ⟨X 2,0,none⟩) ns.length ns.length,.slice (some ⟨X 5,0,none⟩) ns.length ns.length,.slice (some ⟨X 3,0,none⟩) ns.length ns.length] 41)
 have hbV:Below W.heap.size W V1:=by rw [← HV.out];exact hb1.alloc hb1.size _
 have y0:V1.heap[X 0]?=some (.cells ((downL ns t).map Value.bool).toArray 4 (0,0)):=by rw [← HV.out];exact (Below.heap_alloc _ _ _ (blk_lt (hX 0 (by decide)))).trans (hX 0 (by decide))
 rw [HV.out] at hF
 go_upto_region 2 with fail
 rw [HV.out]
 generalize X 0=x0 at *
 generalize w1.heap.size=fb at *
 have HBV:=hide (HB.out.trans (hbV.mono HB.out.size))
 replace q0:=(hbV.cell (p:=⟨w.heap.size,0,none⟩) pl).trans q0
 replace q1:=(hbV.cell (p:=⟨w.heap.size,1,none⟩) pl).trans q1
 replace t0:=(hbV.cell (p:=⟨w.heap.size+1,0,none⟩) tl).trans t0
 replace t1:=(hbV.cell (p:=⟨w.heap.size+1,1,none⟩) tl).trans t1
 replace t2:=(hbV.cell (p:=⟨w.heap.size+1,2,none⟩) tl).trans t2
 have hR:=(hbV.block _ (blk_lt HR.out)).trans HR.out
 have f0:=blk_cell hF 0
 simp at f0
 have HN:=hide (hN.below HBV.out hN.lt)
 have n0:=blk_lt hR
 have n1:=blk_lt hF
 have n2:=blk_lt y0
 have HR2:=hide hR
 have Y0:=hide (fun k (h:k<ns.length)=>fact_cell y0 (k:=k) (by rw [show (downL ns t).length=ns.length from solve_len ns _];exact h))
 have e0:w.heap.size<V1.heap.size:=by omega
 have e1:w.heap.size+1<V1.heap.size:=by omega
 have n5:ub<V1.heap.size:=by omega
 have HC:Hid (∀ u:World,Below V1.heap.size V1 u→u.cell? ⟨w.heap.size,0,none⟩=some (.int .i64 r)∧u.cell? ⟨w.heap.size,1,none⟩=some (.slice (some ⟨b,off,none⟩) ns.length cap)∧u.cell? ⟨w.heap.size+1,0,none⟩=some (.int .i64 t.op)∧u.cell? ⟨w.heap.size+1,1,none⟩=some (.int .i64 t.a)∧u.cell? ⟨w.heap.size+1,2,none⟩=some (.int .i64 t.b)∧u.cell? ⟨fb,0,none⟩=some (.slice (some ⟨x0,0,none⟩) ns.length ns.length)):=fun u hu =>
  ⟨(hu.cell (p:=⟨w.heap.size,0,none⟩) e0).trans q0,(hu.cell (p:=⟨w.heap.size,1,none⟩) e0).trans q1,(hu.cell (p:=⟨w.heap.size+1,0,none⟩) e1).trans t0,(hu.cell (p:=⟨w.heap.size+1,1,none⟩) e1).trans t1,(hu.cell (p:=⟨w.heap.size+1,2,none⟩) e1).trans t2,(hu.cell (p:=⟨fb,0,none⟩) n1).trans f0⟩
 have hZ:LZ V1 (V1.alloc (.cells #[.slice none 0 0,.slice none 0 0] 29)) (.slice none 0 0) (.slice none 0 0) (upTo (fun n=>bat us n&&bat (downL ns t) n) 0) []:=LZ.new V1
 have d0:=Nat.le_of_lt e0
 have d1:=Nat.le_of_lt e1
 have d2:=Nat.le_of_lt n1
 have d3:=Nat.le_of_lt n2
 have d4:=Nat.le_of_lt n5
 have d5:=Nat.le_of_lt HN.out.lt
 clear hN hc hX hb1 HV HF hbV hR q0 q1 t0 t1 t2 f0 pl tl HB HP HT HR hF y0
 go_upto_region 3 with fail
 generalize V1.alloc (.cells #[.slice none 0 0,.slice none 0 0] 29)=V2 at hZ ⊢
 go_wp2
 go_loopw [9] (fun i wr=>∃ (k:Nat) (v1:Value),k≤ns.length∧i=.int .i64 k∧LZ V1 wr v1 (.slice none 0 0) (upTo (fun n=>bat us n&&bat (downL ns t) n) k) []) (fun i _=>ns.length-(intOf i).toNat)
 case atStart=>exact ⟨0,_,Nat.zero_le _,rfl,hZ⟩
 case round =>
  obtain ⟨k,v1,hk,rfl,hz⟩:=hrel
  have hbw:=hz.bel
  have hs:=hbw.size
  have hlb:=blk_lt hz.box
  have m0:w.heap.size<wr.heap.size:=by omega
  have HZ:=hide hz
  by_cases hlt:k<ns.length
  ·have hki:(k:Int)<(ns.length:Int):=by omega
   obtain ⟨-,q1,-,-,-,f0⟩:=HC.out wr hbw
   have cu:=HU.out wr k (HBV.out.trans (hbw.mono HBV.out.size)) hlt
   have c0:=(hbw.cell (p:=⟨x0,k,none⟩) n2).trans (Y0.out k hlt)
   have l0:=blk_cell hz.box 0
   simp at l0
   have HU1:=hide (upTo_succ (fun n=>bat us n&&bat (downL ns t) n) k)
   clear hz
   generalize hL:bat us k=L at cu
   generalize hA:bat (downL ns t) k=A at c0
   rw [hL,hA] at HU1
   clear hL hA
   go_upto_region 6 with fail
   have hd:=HZ.out.drew
   obtain ⟨va,vc,w', hrun,hB', hz'⟩:=hd.app1 27 k (upTo_len _ _) (by omega) (L&&A)
   have HZ2:=hide hz'
   have HRUN:=hide hrun
   have bx:=(hB'.block _ (Nat.lt_succ_self _)).trans hd.box
   have bc:=blk_cell bx 0
   have bf:=blk_frozen bx 0
   simp at bc
   have HB' :=hide hB'
   clear hrun hz' hB' bx hd
   have hss:Hid (V1.heap.size+1≤wr.drew.heap.size):=hlb
   cases L
   all_goals
    refine wp_region_L 16 (S:=fun u=>∀ p:Addr,p.block≤V1.heap.size→u.cell? p=wr.cell? p) (by kernel_rfl) (fun p hp=>rfl) (fun hHeld=>?_)
    refine tlw 0 ?_
    iterate 12 (first | refine tlv ?_ | refine tlu ?_)
    refine tlr 13 (fun K hK=>?_)
    go_simp
    refine hK.out _ _ (fun p hp=>((Below.refl _ _).alloc hss.out _).cell (Nat.lt_succ_of_le hp)) (fun hHeld=>?_)
    clear hK K
    refine tla 14 (.tmp 30) (.tmp 42) 27 HRUN.out (fun p hp=>HB'.out.cell (Nat.lt_succ_of_le hp)) (fun hHeld=>?_)
    refine tlv ?_
    refine tls 16 (fun K hK=>?_)
    go_simp
    refine hK.out _ _ ?_
    refine wpAnyL_done (by kernel_rfl) ?_ _
    clear hK K hHeld bc bf HRUN HB' hss cu c0 l0 q1 f0 HZ hbw hs
    rw [← HU1.out] at HZ2
    generalize w'.setCell ⟨V1.heap.size,0,none⟩ (.slice va (k+1) vc)=wr2 at HZ2 ⊢
    go_wp2
    go_roundw
    case rel=>exact ⟨k+1,_,by omega,by go_num,HZ2.out⟩
    case measure=>simp [intOf];omega
  ·have ek:k=ns.length:=by omega
   subst ek
   obtain ⟨va,vc,e2⟩:=owns_slice hz.r1
   rw [upTo_len] at e2
   subst e2
   have hr1:=hz.r1
   rw [upTo_len] at hr1
   have HP1:Hid (wr.ownsRow (V1.heap.size+1) 4 1 (.slice va ns.length vc) ns.length ((rivPut ns t us).map Value.bool)):=hr1
   obtain ⟨pb,po,rfl,hpl,hpc⟩:=(bools_owned HP1.out (by simp [rivPut])).at (k:=0) (by simp [rivPut];omega)
   have HPC:Hid (∀ k,k<ns.length→wr.cell? ⟨pb,po+k,none⟩=some (.bool (bat (rivPut ns t us) k))):=fun k hk=>hpc k _ (get_bat (by simp [rivPut];exact hk))
   obtain ⟨G,HG⟩:∃ G,Hid (G=sayF ns (thereW ns t (rivPut ns t us))):=⟨_,rfl⟩
   have HGS:Hid (∀ (y:Nat→Bool) n,n<ns.length→G y n=(bat (rivPut ns t us) n||(decide (0<(ahl ns n).length)&&(ahl ns n).all (thereQ ns t y)))):=fun y n hn=>by rw [HG.out];exact there_step _ y hn
   obtain ⟨wA,hwA⟩:∃ wA:World,wA=wr:=⟨_,rfl⟩
   subst hwA
   have hms:∀ W:World,Sem.run Tryz.prog (Instr.makeSlice 27 (.int .i64 (ns.length:Int)) (.int .i64 (ns.length:Int))) W=.ok (.slice (some ⟨W.heap.size,0,none⟩) ns.length ns.length) (W.alloc (.cells (madeCells #[.bool false] ns.length) 4)):=fun W=>run_make_row' 27 4 _ 1 Tryz.underlying27 info_boolF rfl .i64 .i64 ns.length (by omega) (by omega) W
   have hRB:RB wA (wA.alloc (.cells (madeCells #[.bool false] ns.length) 4)) (partL (yesl ns.length) ns.length 0) (.slice none 0 0) 0 ns :=
    ⟨by rw [World.alloc_heap_new,made_boolsF,partL_zero];rfl,⟨[],World.ownsRow_nil _ _ _ _,fun m hm=>by omega⟩,(Below.refl _ wA).alloc (Nat.le_refl _) _⟩
   obtain ⟨q0,q1,-,-,-,-⟩:=HC.out wA hbw
   have HBX:=hide hz.box
   have HBA:=hide hbw
   clear hz hr1 hpc
   go_upto_region 8 with fail
   generalize wA.alloc (.cells (madeCells #[.bool false] ns.length) 4)=W3 at hRB ⊢
   obtain ⟨i0,hi0,hz0,hz1,hz2⟩:=info_parts info_ints
   clear hms q0 q1 hbw
   go_wp2_with fail
   go_loopw [11,12] (fun v i wr=>∃ k:Nat,k≤ns.length∧i=.int .i64 k∧RB wA wr (partL (yesl ns.length) ns.length k) v k ns) (fun _ i _=>ns.length-(intOf i).toNat)
   case atStart=>exact ⟨0,Nat.zero_le _,rfl,hRB⟩
   case round =>
    obtain ⟨k,hk,rfl,hF⟩:=hrel
    have tc:=hF.th
    have tl:=blk_lt tc
    by_cases hlt:k<ns.length
    ·have hki:(k:Int)<(ns.length:Int):=by omega
     have tv:=fact_cell tc (k:=k) (by simp [partL];exact hlt)
     have tf:=blk_frozen tc k
     have HP:=hide (hF.put k true)
     have e3:partL (yesl ns.length) ns.length (k+1)=(partL (yesl ns.length) ns.length k).set k true:=by rw [partL_succ hlt,bat_yesl hlt]
     rw [← e3] at HP
     clear hF tc e3
     go_upto_region 13 with fail
     generalize wr.setCell ⟨wA.heap.size,k,none⟩ (.bool true)=wr2 at HP ⊢
     clear tv tf tl
     have hbx:=HBA.out.trans (HP.out.bel.mono HBA.out.size)
     obtain ⟨q0,q1,-,-,-,-⟩:=HC.out wr2 hbx
     have pl:w.heap.size<wr2.heap.size:=by have:=hbx.size;omega
     have hah:=aheadOf_any r b off cap ns k wr2 (HN.out.below hbx HN.out.lt) hl.2
     rw [show pick (ahB ns k) ns.length=ints (ahl ns k) from rfl,ints_len] at hah
     have HAH:=hide hah
     clear hah hbx
     go_wp2_with fail
     refine HAH.out.mono ?_
     rintro e w3 ⟨v,rfl,hv,hb1⟩
     obtain ⟨ya,yc,rfl⟩:=owns_slice hv
     have hbT:Below w3.heap.size w3 (w3.alloc (.cells #[.slice ya (ahl ns k).length yc] 54)):=(Below.refl _ w3).alloc (Nat.le_refl _) _
     have hF2:=(HP.out.below hb1).below hbT
     have hu:=ownsRow_below (ownsRow_base (base' :=0) hv (Nat.zero_le _)) hbT (Nat.le_refl _)
     obtain ⟨vs,hvs,hrs⟩:=hF2.tb
     have hF2s:wA.heap.size+1≤(w3.alloc (.cells #[.slice ya (ahl ns k).length yc] 54)).heap.size:=blk_lt hF2.th
     clear q0 q1 pl HAH HP hb1 hv
     have HF2:=hide hF2
     have HU:=hide hu
     have HR:=hide hrs
     clear hF2 hu hrs
     go_wp2_with (at_builtin;refine wpList_append_own_at _ rfl (.tmp 58) (.tmp 62) 53 rfl (wA.heap.size+1) 54 i0 (.slice none 0 0) 1 24 Tryz.underlying53 hi0 hz0 hz1 hz2 rfl (by decide) _ _ _ rfl hvs ⟨w3.heap.size,0,none⟩ 1 1 [.slice ya (ahl ns k).length yc] rfl rfl ?c1 ?c2 ?c3 ?c4 ?c5 ?_)
     case c1=>exact cell_one_new _ _ _
     case c2=>intro u hu;simp at hu;subst hu;rfl
     case c3=>unfold maxLen;omega
     case c4=>omega
     case c5=>exact hF2s
     intro v'' w4 hown2 hg2 _ hat
     have HF:=hide (HF2.out.grow hvs HR.out HU.out hown2 hg2)
     clear hvs hF2s hown2 hg2 hat hbT HF2 HU HR
     go_wp2
     go_roundw
     case rel=>exact ⟨k+1,by omega,by go_num,HF.out⟩
     case measure=>simp [intOf];omega
    ·have ek:k=ns.length:=by omega
     subst ek
     obtain ⟨g14,c14,_,_,rfl,_⟩:=hF.tb.read (m:=0) (by omega)
     rw [partL_all (by simp [yesl])] at hF
     have HF:=hide hF
     clear hF hlt hk tc tl hRB
     go_wp2_with fail
     go_loopw [13] (fun v wr=>∃ k:Nat,k≤ns.length+1∧v=.int .i64 k∧RB wA wr (turns G ns.length k) (.slice (some ⟨g14,0,none⟩) ns.length c14) ns.length ns) (fun v _=>ns.length+1-(intOf v).toNat)
     case atStart=>exact ⟨0,Nat.zero_le _,rfl,HF.out⟩
     case round =>
      clear HF
      obtain ⟨k,hk,rfl,hF⟩:=hrel
      by_cases hlt:k≤ns.length
      ·have hki:(k:Int)≤(ns.length:Int):=by omega
       have HF:=hide hF
       clear hF
       go_wp2_with fail
       go_loopw [14] (fun v wr=>∃ j:Nat,j≤ns.length∧v=.int .i64 j∧RB wA wr (turnTo G (turns G ns.length k) j) (.slice (some ⟨g14,0,none⟩) ns.length c14) ns.length ns) (fun v _=>ns.length-(intOf v).toNat)
       case atStart=>exact ⟨0,Nat.zero_le _,rfl,HF.out⟩
       case round =>
        clear HF
        obtain ⟨j,hj,rfl,hF⟩:=hrel
        by_cases hlj:j<ns.length
        ·have HX:Hid (turnTo G (turns G ns.length k) (j+1)=(turnTo G (turns G ns.length k) j).set j (G (bat (turnTo G (turns G ns.length k) j)) j)):=rfl
         have hxl:(turnTo G (turns G ns.length k) j).length=ns.length:=turnTo_len _ _ _ (turns_len _ _ _)
         generalize turnTo G (turns G ns.length k) j=x at hF HX hxl
         have hst:=HGS.out (bat x) j hlj
         obtain ⟨a,d,hrow,hI,gl⟩:=hF.tb.rowT hlj
         have HM:Hid (∀ m∈ahl ns j,m<ns.length):=fun m hm=>ahl_lt hm
         have hll:=ahl_len ns j
         generalize ahl ns j=l at hst hrow hI HM hll
         have hji:(j:Int)<(ns.length:Int):=by omega
         have HXL:=hide hxl
         have HF:=hide hF
         have HST:=hide hst
         have HI:=hide hI
         clear hF hst hI hxl
         go_wp2_with fail
         clear hrow gl
         go_loopw [16,17] (fun v i u=>∃ q:Nat,q≤l.length∧i=.int .i64 q∧v=.bool (decide (0<l.length)&&(l.take q).all (thereQ ns t (bat x)))∧Below wr.heap.size wr u) (fun _ i _=>l.length-(intOf i).toNat)
         case atStart=>exact ⟨0,Nat.zero_le _,rfl,by simp,Below.refl _ _⟩
         case round =>
          obtain ⟨q,hq,rfl,rfl,hbw⟩:=hrel
          replace HF:=hide (HF.out.below hbw)
          replace HI:=hide (ownsRow_below HI.out hbw (Nat.le_refl _))
          have hbx:=HBA.out.trans (HF.out.bel.mono HBA.out.size)
          have hsx:=hbx.size
          have tl:=blk_lt HF.out.th
          by_cases hql:q<l.length
          ·obtain ⟨m,hm⟩:∃ m,l[q]?=some m:=⟨_,List.getElem?_eq_getElem hql⟩
           obtain ⟨bb,oo,rfl,bl,hz,cs,hbc⟩:=row_at HI.out hm
           have hml:=HM.out m (List.mem_of_getElem? hm)
           obtain ⟨xm,hxm⟩:=get_lt hml
           have hqi:(q:Int)<(l.length:Int):=by omega
           have hmi:(m:Int)<(ns.length:Int):=by omega
           have hkp:bat (kpl ns t) m=kpB t xm:=bat_mapn hxm
           have hT:(decide (0<l.length)&&(l.take (q+1)).all (thereQ ns t (bat x)))=((decide (0<l.length)&&(l.take q).all (thereQ ns t (bat x)))&&thereQ ns t (bat x) m):=by rw [take_all_succ _ hm];simp only [Bool.and_assoc]
           have xd:=fact_cell HF.out.th (k:=m) (by rw [HXL.out];exact hml)
           simp only [thereQ] at hT
           generalize bat x m=DM at xd hT
           generalize hPN:(decide (0<l.length)&&(l.take (q+1)).all (thereQ ns t (bat x)))=PN at hT
           have HPN:=hide hPN
           clear hPN
           generalize (decide (0<l.length)&&(l.take q).all (thereQ ns t (bat x)))=A at hT ⊢
           obtain ⟨q0,q1,t0,t1,t2,-⟩:=HC.out wr hbx
           have hNN:=HN.out.below hbx HN.out.lt
           have i0:=hNN.c0 m xm hxm
           have i1:=hNN.c1 m xm hxm
           have i2:=hNN.c2 m xm hxm
           have i3:=hNN.c3 m xm hxm
           have i4:=hNN.c4 m xm hxm
           have i5:=hNN.c5 m xm hxm
           have nl:=hNN.lt
           have pl:w.heap.size<wr.heap.size:=by omega
           have ql:w.heap.size+1<wr.heap.size:=by omega
           have HKP:=hide (fun U=>keepsIt_any xm t U)
           simp only [hkp] at hT
           generalize kpB t xm=KP at hT HKP
           have HT:=hide hT
           have HBW:=hide hbw
           clear hT hkp hxm hm hbc hbw hNN hbx
           go_upto_region 25 with fail
           cases A
           ·refine wp_region_L 22 (S:=fun u=>∀ p:Addr,p.block<wr.heap.size→u.cell? p=wr.cell? p) (by kernel_rfl) (fun p hp=>rfl) (fun hHeld=>?_)
            refine tlw 0 ?_
            iterate 21 (first | refine tlv ?_ | refine tlu ?_)
            refine tls 22 (fun K hK=>?_)
            go_simp
            refine hK.out _ _ ?_
            refine wpAnyL_done (by kernel_rfl) ?_ _
            have e2:PN=false:=by rw [HT.out];rfl
            clear hK K hHeld
            go_wp2
            go_roundw
            case rel=>exact ⟨q+1,by omega,by go_num,by rw [HPN.out,e2],HBW.out.drew⟩
            case measure=>simp [intOf];omega
           ·cases DM
            ·refine wp_region_L 22 (S:=fun u=>∀ p:Addr,p.block<wr.heap.size→u.cell? p=wr.cell? p) (by kernel_rfl) (fun p hp=>rfl) (fun hHeld=>?_)
             refine tlw 0 ?_
             iterate 21 (first | refine tlv ?_ | refine tlu ?_)
             refine tls 22 (fun K hK=>?_)
             go_simp
             refine hK.out _ _ ?_
             refine wpAnyL_done (by kernel_rfl) ?_ _
             have e2:PN=false:=by rw [HT.out];rfl
             clear hK K hHeld
             go_wp2
             go_roundw
             case rel=>exact ⟨q+1,by omega,by go_num,by rw [HPN.out,e2],HBW.out.drew⟩
             case measure=>simp [intOf];omega
            ·refine wp_region_L 22 (S:=fun u=>∀ p:Addr,p.block<wr.heap.size→u.cell? p=wr.cell? p) (by kernel_rfl) (fun p hp=>rfl) (fun hHeld=>?_)
             refine tlw 0 ?_
             iterate 19 (first | refine tlv ?_ | refine tlu ?_)
             refine tlr 20 (fun K hK=>?_)
             go_simp
             go_at_call 29
             refine (HKP.out _).mono ?_
             rintro e w3 ⟨rfl,hb3⟩
             refine hK.out _ _ (fun p hp=>hb3.cell hp) (fun hHeld=>?_)
             clear hK K
             refine tlv ?_
             refine tls 22 (fun K hK=>?_)
             go_simp
             refine hK.out _ _ ?_
             refine wpAnyL_done (by kernel_rfl) ?_ _
             have e2:PN=KP:=by rw [HT.out];rfl
             clear hK K hHeld
             go_wp2
             go_roundw
             case rel=>exact ⟨q+1,by omega,by go_num,by rw [HPN.out,e2],HBW.out.drew.trans (hb3.mono HBW.out.size)⟩
             case measure=>simp [intOf];omega
          ·have eq:q=l.length:=by omega
           subst eq
           have hqi:¬ (l.length:Int)<(l.length:Int):=by omega
           rw [List.take_length]
           have tv:=fact_cell HF.out.th (k:=j) (by rw [HXL.out];exact hlj)
           have tf:=blk_frozen HF.out.th j
           have ye:=(HF.out.bel.cell (p:=⟨pb,po+j,none⟩) hpl).trans (HPC.out j hlj)
           have hbxx:=(HF.out.bel.block _ (blk_lt HBX.out)).trans HBX.out
           have l0:=blk_cell hbxx 0
           simp at l0
           have ll:=blk_lt hbxx
           have hpl2:=Nat.lt_trans hpl tl
           generalize bat (rivPut ns t us) j=E at ye HST
           generalize (decide (0<l.length)&&l.all (thereQ ns t (bat x)))=A at HST ⊢
           clear hbxx hbw hbx
           cases E
           ·have e2:turnTo G (turns G ns.length k) (j+1)=x.set j A:=by rw [HX.out,HST.out];rfl
            have HFF:=hide (HF.out.put j A)
            go_wp2
            go_roundw
            case rel=>exact ⟨j+1,by omega,by go_num,by rw [e2];exact HFF.out⟩
            case measure=>simp [intOf];omega
           ·have e2:turnTo G (turns G ns.length k) (j+1)=x.set j true:=by rw [HX.out,HST.out];rfl
            have HFF:=hide (HF.out.put j true)
            go_wp2
            go_roundw
            case rel=>exact ⟨j+1,by omega,by go_num,by rw [e2];exact HFF.out⟩
            case measure=>simp [intOf];omega
        ·have ej:j=ns.length:=by omega
         subst ej
         have HF:=hide hF
         clear hF hlj hj
         go_wp2_with fail
         go_roundw
         case rel=>exact ⟨k+1,by omega,by go_num,HF.out⟩
         case measure=>simp [intOf];omega
      ·have ek:k=ns.length+1:=by omega
       subst ek
       have hki:¬ ((ns.length+1:Nat):Int)≤(ns.length:Int):=by omega
       have hgr:turns G ns.length (ns.length+1)=thereL ns t (rivPut ns t us):=by rw [HG.out];rfl
       rw [hgr] at hF
       have hTL:(thereL ns t (rivPut ns t us)).length=ns.length:=solve_len ns _
       have hbx:=HBA.out.trans (hF.bel.mono HBA.out.size)
       obtain ⟨wC,hwC⟩:∃ wC:World,wC=wr:=⟨_,rfl⟩
       subst hwC
       have hbxx:=(hF.bel.block _ (blk_lt HBX.out)).trans HBX.out
       have hlb:=blk_lt hbxx
       have htl:=blk_lt hF.th
       have HTH:=hide (fun k (h:k<ns.length)=>fact_cell hF.th (k:=k) (by rw [hTL];exact h))
       have HP2:=hide (ownsRow_below HP1.out hF.bel (Nat.le_refl _))
       have hsx:=hbx.size
       have hne:wA.heap.size≠V1.heap.size:=by have:=blk_lt HBX.out;omega
       have hW0:LW V1.heap.size wC.heap.size wC wC (.slice (some ⟨pb,po,none⟩) ns.length vc) (.slice none 0 0) (upTo (fun n=>bat (rcl ns t) n&&bat (thereL ns t (rivPut ns t us)) n) 0):=⟨hbxx,hlb,World.ownsRow_nil _ _ _ _,Nat.le_refl _,fun _ _ _=>rfl,Below.refl _ _⟩
       have HBC:=hide hbx
       have HBX2:=hide hbxx
       have g0:w.heap.size<wC.heap.size:=by omega
       have g1:w.heap.size+1<wC.heap.size:=by omega
       have g2:b<wC.heap.size:=Nat.lt_of_lt_of_le HN.out.lt hsx
       clear hF hlt hk hbx hbxx
       go_wp2_with fail
       go_loopw [18] (fun i wr=>∃ (k:Nat) (v2:Value),k≤ns.length∧i=.int .i64 k∧LW V1.heap.size wC.heap.size wC wr (.slice (some ⟨pb,po,none⟩) ns.length vc) v2 (upTo (fun n=>bat (rcl ns t) n&&bat (thereL ns t (rivPut ns t us)) n) k)) (fun i _=>ns.length-(intOf i).toNat)
       case atStart=>exact ⟨0,_,Nat.zero_le _,rfl,hW0⟩
       case round =>
        obtain ⟨k,v2,hk,rfl,hz⟩:=hrel
        have HZ:=hide hz
        have hbw:=HBC.out.trans (hz.bel)
        have hsz:=hz.sz
        by_cases hlt:k<ns.length
        ·have hki:(k:Int)<(ns.length:Int):=by omega
         obtain ⟨x,hx⟩:=get_lt hlt
         obtain ⟨q0,q1,t0,t1,t2,-⟩:=HC.out wr hbw
         have l1:=blk_cell hz.box 1
         simp at l1
         have th:=(hz.cell htl hne).trans (HTH.out k hlt)
         have HU2:=hide (upTo_succ (fun n=>bat (rcl ns t) n&&bat (thereL ns t (rivPut ns t us)) n) k)
         have hNN:=HN.out.below hbw HN.out.lt
         have i0:=hNN.c0 k x hx
         have i1:=hNN.c1 k x hx
         have i2:=hNN.c2 k x hx
         have i3:=hNN.c3 k x hx
         have i4:=hNN.c4 k x hx
         have i5:=hNN.c5 k x hx
         have HK:=hide (fun U=>reckonsIt_any x t U)
         have k256:k≤256:=by omega
         rw [show bat (rcl ns t) k=rcB t x by simp [rcl,bat,hx]] at HU2
         generalize rcB t x=R at HU2 HK
         generalize bat (thereL ns t (rivPut ns t us)) k=T at th HU2
         clear hx hz hNN
         go_upto_region 30 with fail
         cases T
         ·have hd:=HZ.out.drew
          obtain ⟨vb,vd,w4,hrun,hB', hz'⟩:=hd.app 27 k (upTo_len _ _) k256 (R&&false)
          rw [← HU2.out] at hz'
          have HZ3:=hide hz'
          rw [show (R&&false)=false by cases R <;> rfl] at hrun
          have bx:=(hB'.block _ hd.lt).trans hd.box
          have bc:=blk_cell bx 1
          have bf:=blk_frozen bx 1
          simp at bc
          have HB' :=hide hB'
          have HRUN:=hide hrun
          have hss:Hid (wC.heap.size≤wr.drew.heap.size):=hsz
          clear hrun hB' bx hd hz'
          refine wp_region_L 18 (S:=fun u=>∀ p:Addr,p.block<wC.heap.size→u.cell? p=wr.cell? p) (by kernel_rfl) (fun p hp=>rfl) (fun hHeld=>?_)
          refine tlw 0 ?_
          iterate 14 (first | refine tlv ?_ | refine tlu ?_)
          refine tlr 15 (fun K hK=>?_)
          go_simp
          refine hK.out _ _ (fun p hp=>((Below.refl _ _).alloc hss.out _).cell hp) (fun hHeld=>?_)
          clear hK K
          refine tla 16 (.tmp 129) (.tmp 143) 27 HRUN.out (fun p hp=>HB'.out.cell hp) (fun hHeld=>?_)
          refine tlv ?_
          refine tls 18 (fun K hK=>?_)
          go_simp
          refine hK.out _ _ ?_
          refine wpAnyL_done (by kernel_rfl) ?_ _
          clear hK K hHeld bc bf HRUN HB' hss th i0 i1 i2 i3 i4 i5 q0 q1 t0 t1 t2 l1 hbw
          generalize w4.setCell ⟨V1.heap.size,1,none⟩ (.slice vb (k+1) vd)=wr3 at HZ3 ⊢
          go_wp2
          go_roundw
          case rel=>exact ⟨k+1,_,by omega,by go_num,HZ3.out⟩
          case measure=>simp [intOf];omega
         ·refine wp_region_L 18 (S:=fun u=>∀ p:Addr,p.block<wC.heap.size→u.cell? p=wr.cell? p) (by kernel_rfl) (fun p hp=>rfl) (fun hHeld=>?_)
          refine tlw 0 ?_
          iterate 12 (first | refine tlv ?_ | refine tlu ?_)
          refine tlr 13 (fun K hK=>?_)
          go_simp
          go_at_call 27
          refine (HK.out _).mono ?_
          rintro e w3 ⟨rfl,hb3⟩
          refine hK.out _ _ (fun p hp=>hb3.cell (Nat.lt_of_lt_of_le hp hsz)) (fun hHeld=>?_)
          clear hK K
          refine tlv ?_
          have hd:=HZ.out.drew.below hb3
          have qq:=hd.app 27 k (upTo_len _ _) k256 (R&&true)
          obtain ⟨vb,vd,w4,qq⟩:=qq
          have hrun:=qq.1
          have hB' :=qq.2.1
          have hz' :=qq.2.2
          rw [← HU2.out] at hz'
          have HZ3:=hide hz'
          rw [show (R&&true)=R by cases R <;> rfl] at hrun
          have bx:=(hB'.block _ hd.lt).trans hd.box
          have bc:=blk_cell bx 1
          have bf:=blk_frozen bx 1
          simp at bc
          have HB' :=hide hB'
          have HRUN:=hide hrun
          have hss:Hid (wC.heap.size≤w3.heap.size):=hd.sz
          have hh:=hb3
          clear hrun hB' bx hd hz' hb3 qq
          refine tlr 15 (fun K hK=>?_)
          go_simp
          refine hK.out _ _ (fun p hp=>(((Below.refl _ _).alloc hss.out _).cell hp).trans (hh.cell (Nat.lt_of_lt_of_le hp hsz))) (fun hHeld=>?_)
          clear hK K
          refine tla 16 (.tmp 129) (.tmp 143) 27 HRUN.out (fun p hp=>(HB'.out.cell hp).trans (hh.cell (Nat.lt_of_lt_of_le hp hsz))) (fun hHeld=>?_)
          refine tlv ?_
          refine tls 18 (fun K hK=>?_)
          go_simp
          refine hK.out _ _ ?_
          refine wpAnyL_done (by kernel_rfl) ?_ _
          clear hK K hHeld bc bf HRUN HB' hss hh th i0 i1 i2 i3 i4 i5 q0 q1 t0 t1 t2 l1 hbw
          generalize w4.setCell ⟨V1.heap.size,1,none⟩ (.slice vb (k+1) vd)=wr3 at HZ3 ⊢
          go_wp2
          go_roundw
          case rel=>exact ⟨k+1,_,by omega,by go_num,HZ3.out⟩
          case measure=>simp [intOf];omega
        ·have ek:k=ns.length:=by omega
         subst ek
         have hR:=(hbw.block _ n0).trans HR2.out
         have y0:=blk_cell hR 0
         have y1:=blk_cell hR 1
         have z0:=blk_frozen hR 0
         have z1:=blk_frozen hR 1
         have l0:=blk_cell hz.box 0
         have l1:=blk_cell hz.box 1
         simp at y0 y1 l0 l1
         obtain ⟨vb,vd,e2⟩:=owns_slice hz.r2
         rw [upTo_len] at e2
         subst e2
         have r0:=blk_lt hR
         have HRR:=hide hR
         have HBW:=hide hbw
         clear hR hz hbw
         go_wp2
         have hk:=blk_set2 (v0:=.slice (some ⟨pb,po,none⟩) ns.length vc) (v1:=.slice vb ns.length vd) HRR.out
         have T2:=owns_set (o:=1) (u:=.slice vb ns.length vd) (owns_set (o:=0) (u:=.slice (some ⟨pb,po,none⟩) ns.length vc) (ownsRow_base HZ.out.r2 (base' :=w.heap.size) (by omega)) HRR.out (by decide)) (blk_set _ HRR.out) (by decide)
         have T0:=owns_from HP2.out (w' :=wr) (fun g cs hg=>HZ.out.kp g (blk_lt hg) (fun e=>by subst e;exact blk_ne hg HBX2.out (by decide) rfl))
         have T1:=owns_set (o:=1) (u:=.slice vb ns.length vd) (owns_set (o:=0) (u:=.slice (some ⟨pb,po,none⟩) ns.length vc) (ownsRow_base T0 (base' :=w.heap.size) (by omega)) HRR.out (by decide)) (blk_set _ HRR.out) (by decide)
         have k0:=blk_cell hk 0
         have k1:=blk_cell hk 1
         simp at k0 k1
         rw [upTo_len] at T2
         exact bodyPost_ret (v:=.agg #[.slice (some ⟨pb,po,none⟩) ns.length vc,.slice vb ns.length vd]) (by simp [results,Tryz.results10,go_sem,k0,k1]) rfl ⟨_,_,rfl,T1,T2,below_set2 (HBV.out.trans (HBW.out.mono HBV.out.size)) (by omega)⟩
set_option maxRecDepth 100000 in
theorem lazyOf_any (r:Int) (b off cap:Nat) (ns:List Nd) (t:Tm) (w:World) (hN:NodesAt w b off ns) (hc:chk r ns=0) :
 Calls Tryz.prog 8 #[.agg #[.int .i64 r,.slice (some ⟨b,off,none⟩) ns.length cap],.agg #[.int .i64 t.op,.int .i64 t.a,.int .i64 t.b]] w fun e w' =>∃ v1 v2,e=.returned (.agg #[v1,v2])∧w'.ownsRow w.heap.size 4 1 v1 ns.length ((lazyPut ns t).map Value.bool)∧w'.ownsRow w.heap.size 4 1 v2 ns.length ((lazyTake ns t).map Value.bool)∧Below w.heap.size w w' :=by
 have hl:=(chk_zero hc).1
 obtain ⟨W,HW,hbA,p0,p1,p2⟩:=box3 w (.cells #[.int .i64 r,.slice (some ⟨b,off,none⟩) ns.length cap] 24) (.cells #[.int .i64 t.op,.int .i64 t.a,.int .i64 t.b] 26) (.cells #[.slice none 0 0,.slice none 0 0] 29)
 have HF:=hide (factsOf_any r b off cap ns t W (hN.below hbA hN.lt) hc)
 go_enter Tryz.func8,Tryz.ntmps8
 go_upto_region 1 with fail
 rw [HW.out]
 have q0:=blk_cell p0 0
 have q1:=blk_cell p0 1
 have t0:=blk_cell p1 0
 have t1:=blk_cell p1 1
 have t2:=blk_cell p1 2
 simp at q0 q1 t0 t1 t2
 have pl:=blk_lt p0
 have tl:=blk_lt p1
 have HB:=hide hbA
 have HP:=hide p0
 have HT:=hide p1
 have HR:=hide p2
 clear hbA p0 p1 p2 HW
 go_wp2_with fail
 refine HF.out.mono ?_
 rintro e w1 ⟨X,rfl,hX,hb1⟩
 obtain ⟨V1,HV⟩:∃ V1,Hid (w1.alloc (.cells #[.slice (some ⟨X 0,0,none⟩) ns.length ns.length,.slice (some ⟨X 1,0,none⟩) ns.length ns.length,.slice (some ⟨X 4,0,none⟩) ns.length ns.length,.slice (some ⟨X 2,0,none⟩) ns.length ns.length,.slice (some ⟨X 5,0,none⟩) ns.length ns.length,.slice (some ⟨X 3,0,none⟩) ns.length ns.length] 41)=V1):=⟨_,rfl⟩
 have hF:=World.alloc_heap_new w1 (.cells #[.slice (some ⟨X 0,0,none⟩) ns.length ns.length,.slice (some ⟨X 1,0,none⟩) ns.length ns.length,.slice (some ⟨X 4,0,none⟩) ns.length ns.length,.slice (some ⟨X 2,0,none⟩) ns.length ns.length,.slice (some ⟨X 5,0,none⟩) ns.length ns.length,.slice (some ⟨X 3,0,none⟩) ns.length ns.length] 41)
 have hbV:Below W.heap.size W V1:=by rw [← HV.out];exact hb1.alloc hb1.size _
 have y5:V1.heap[X 5]?=some (.cells ((lateL ns t).map Value.bool).toArray 4 (0,0)):=by rw [← HV.out];exact (Below.heap_alloc _ _ _ (blk_lt (hX 5 (by decide)))).trans (hX 5 (by decide))
 have y3:V1.heap[X 3]?=some (.cells ((aloneL ns t).map Value.bool).toArray 4 (0,0)):=by rw [← HV.out];exact (Below.heap_alloc _ _ _ (blk_lt (hX 3 (by decide)))).trans (hX 3 (by decide))
 rw [HV.out] at hF
 go_upto_region 2 with fail
 rw [HV.out]
 generalize X 5=x5 at *
 generalize X 3=x3 at *
 generalize w1.heap.size=fb at *
 have HBV:=hide (HB.out.trans (hbV.mono HB.out.size))
 replace q1:=(hbV.cell (p:=⟨w.heap.size,1,none⟩) pl).trans q1
 replace t0:=(hbV.cell (p:=⟨w.heap.size+1,0,none⟩) tl).trans t0
 replace t1:=(hbV.cell (p:=⟨w.heap.size+1,1,none⟩) tl).trans t1
 replace t2:=(hbV.cell (p:=⟨w.heap.size+1,2,none⟩) tl).trans t2
 have hR:=(hbV.block _ (blk_lt HR.out)).trans HR.out
 have f4:=blk_cell hF 4
 have f5:=blk_cell hF 5
 simp at f4 f5
 have HN:=hide (hN.below HBV.out hN.lt)
 have n0:=blk_lt hR
 have n1:=blk_lt hF
 have n2:=blk_lt y5
 have n3:=blk_lt y3
 have HR2:=hide hR
 have Y5:=hide (fun k (h:k<ns.length)=>fact_cell y5 (k:=k) (by simp [lateL];exact h))
 have Y3:=hide (fun k (h:k<ns.length)=>fact_cell y3 (k:=k) (by rw [show (aloneL ns t).length=ns.length from solve_len ns _];exact h))
 have e0:w.heap.size<V1.heap.size:=by omega
 have e1:w.heap.size+1<V1.heap.size:=by omega
 have HC:Hid (∀ u:World,Below V1.heap.size V1 u→u.cell? ⟨w.heap.size,1,none⟩=some (.slice (some ⟨b,off,none⟩) ns.length cap)∧u.cell? ⟨w.heap.size+1,0,none⟩=some (.int .i64 t.op)∧u.cell? ⟨w.heap.size+1,1,none⟩=some (.int .i64 t.a)∧u.cell? ⟨w.heap.size+1,2,none⟩=some (.int .i64 t.b)∧u.cell? ⟨fb,4,none⟩=some (.slice (some ⟨x5,0,none⟩) ns.length ns.length)∧u.cell? ⟨fb,5,none⟩=some (.slice (some ⟨x3,0,none⟩) ns.length ns.length)):=fun u hu =>
  ⟨(hu.cell (p:=⟨w.heap.size,1,none⟩) e0).trans q1,(hu.cell (p:=⟨w.heap.size+1,0,none⟩) e1).trans t0,(hu.cell (p:=⟨w.heap.size+1,1,none⟩) e1).trans t1,(hu.cell (p:=⟨w.heap.size+1,2,none⟩) e1).trans t2,(hu.cell (p:=⟨fb,4,none⟩) n1).trans f4,(hu.cell (p:=⟨fb,5,none⟩) n1).trans f5⟩
 have hZ:LZ V1 (V1.alloc (.cells #[.slice none 0 0,.slice none 0 0] 29)) (.slice none 0 0) (.slice none 0 0) (upTo (fun n=>bat (lateL ns t) n&&!bat (aloneL ns t) n) 0) (upTo (fun n=>bat (rcl ns t) n&&!(bat (lateL ns t) n&&bat (aloneL ns t) n)) 0):=LZ.new V1
 have d0:=Nat.le_of_lt e0
 have d1:=Nat.le_of_lt e1
 have d2:=Nat.le_of_lt n1
 have d3:=Nat.le_of_lt n2
 have d4:=Nat.le_of_lt n3
 have d5:=Nat.le_of_lt HN.out.lt
 clear hN hc hX hb1 HV HF hbV hR q0 q1 t0 t1 t2 f4 f5 pl tl HB HP HT HR hF y5 y3
 go_upto_region 3 with fail
 generalize V1.alloc (.cells #[.slice none 0 0,.slice none 0 0] 29)=V2 at hZ ⊢
 go_wp2
 go_loopw [7] (fun i wr=>∃ (k:Nat) (v1 v2:Value),k≤ns.length∧i=.int .i64 k∧LZ V1 wr v1 v2 (upTo (fun n=>bat (lateL ns t) n&&!bat (aloneL ns t) n) k) (upTo (fun n=>bat (rcl ns t) n&&!(bat (lateL ns t) n&&bat (aloneL ns t) n)) k)) (fun i _=>ns.length-(intOf i).toNat)
 case atStart=>exact ⟨0,_,_,Nat.zero_le _,rfl,hZ⟩
 case round =>
  obtain ⟨k,v1,v2,hk,rfl,hz⟩:=hrel
  have hbw:=hz.bel
  have hs:=hbw.size
  have hlb:=blk_lt hz.box
  have m0:w.heap.size<wr.heap.size:=by omega
  have HZ:=hide hz
  by_cases hlt:k<ns.length
  ·have hki:(k:Int)<(ns.length:Int):=by omega
   obtain ⟨x,hx⟩:=get_lt hlt
   obtain ⟨q1,-,-,-,f4,f5⟩:=HC.out wr hbw
   have c5:=(hbw.cell (p:=⟨x5,k,none⟩) n2).trans (Y5.out k hlt)
   have c3:=(hbw.cell (p:=⟨x3,k,none⟩) n3).trans (Y3.out k hlt)
   have l0:=blk_cell hz.box 0
   simp at l0
   have HU1:=hide (upTo_succ (fun n=>bat (lateL ns t) n&&!bat (aloneL ns t) n) k)
   have HU2:=hide (upTo_succ (fun n=>bat (rcl ns t) n&&!(bat (lateL ns t) n&&bat (aloneL ns t) n)) k)
   have HRC:=hide (show bat (rcl ns t) k=rcB t x by simp [rcl,bat,hx])
   have HX:=hide hx
   clear hx hz
   generalize hL:bat (lateL ns t) k=L at c5
   generalize hA:bat (aloneL ns t) k=A at c3
   rw [hL,hA] at HU1
   have HL:=hide hL
   have HA:=hide hA
   clear hL hA
   go_upto_region 6 with fail
   have hd:=HZ.out.drew
   obtain ⟨va,vc,w', hrun,hB', hz'⟩:=hd.app1 27 k (upTo_len _ _) (by omega) (L&&!A)
   have HZ2:=hide hz'
   have HRUN:=hide hrun
   have bx:=(hB'.block _ (Nat.lt_succ_self _)).trans hd.box
   have bc:=blk_cell bx 0
   have bf:=blk_frozen bx 0
   simp at bc
   have HB' :=hide hB'
   clear hrun hz' hB' bx hd
   have hss:Hid (V1.heap.size+1≤wr.drew.heap.size):=hlb
   cases L
   all_goals
    refine wp_region_L 18 (S:=fun u=>∀ p:Addr,p.block≤V1.heap.size→u.cell? p=wr.cell? p) (by kernel_rfl) (fun p hp=>rfl) (fun hHeld=>?_)
    refine tlw 0 ?_
    iterate 14 (first | refine tlv ?_ | refine tlu ?_)
    refine tlr 15 (fun K hK=>?_)
    go_simp
    refine hK.out _ _ (fun p hp=>((Below.refl _ _).alloc hss.out _).cell (Nat.lt_succ_of_le hp)) (fun hHeld=>?_)
    clear hK K
    refine tla 16 (.tmp 19) (.tmp 33) 27 HRUN.out (fun p hp=>HB'.out.cell (Nat.lt_succ_of_le hp)) (fun hHeld=>?_)
    refine tlv ?_
    refine tls 18 (fun K hK=>?_)
    go_simp
    refine hK.out _ _ ?_
    refine wpAnyL_done (by kernel_rfl) ?_ _
    clear hK K hHeld bc bf HRUN HB' hss c5 c3 l0 q1 f4 f5 HZ hbw hs
    generalize w'.setCell ⟨V1.heap.size,0,none⟩ (.slice va (k+1) vc)=wr2 at HZ2 ⊢
    have hb2:=HZ2.out.bel
    have hl2:=blk_lt HZ2.out.box
    have l1:=blk_cell HZ2.out.box 1
    simp at l1
    have g5:=(hb2.cell (p:=⟨x5,k,none⟩) n2).trans (Y5.out k hlt)
    have g3:=(hb2.cell (p:=⟨x3,k,none⟩) n3).trans (Y3.out k hlt)
    rw [HL.out] at g5
    rw [HA.out] at g3
    have hNN:=HN.out.below hb2 HN.out.lt
    have i0:=hNN.c0 k x HX.out
    have i1:=hNN.c1 k x HX.out
    have i2:=hNN.c2 k x HX.out
    have i3:=hNN.c3 k x HX.out
    have i4:=hNN.c4 k x HX.out
    have i5:=hNN.c5 k x HX.out
    obtain ⟨q1,t0,t1,t2,f4,f5⟩:=HC.out wr2 hb2
    clear hNN
    go_upto_region 7 with fail
    have HK:=hide (fun U=>reckonsIt_any x t U)
    have k256:k≤256:=by omega
    generalize rcB t x=R at HRC HK
    cases R
    all_goals
     refine wp_region_L 27 (S:=fun u=>∀ p:Addr,p.block≤V1.heap.size→u.cell? p=wr2.cell? p) (by kernel_rfl) (fun p hp=>rfl) (fun hHeld=>?_)
     refine tlw 0 ?_
     iterate 7 (refine tlv ?_)
     refine tlr 8 (fun K hK=>?_)
     go_simp
     go_at_call 27
     refine (HK.out _).mono ?_
     rintro e w3 ⟨rfl,hb3⟩
     refine hK.out _ _ (fun p hp=>hb3.cell (Nat.lt_of_le_of_lt hp hl2)) (fun hHeld=>?_)
     clear hK K
     iterate 15 (first | refine tlv ?_ | refine tlu ?_)
     have hd:=HZ2.out.drew.below hb3
     have qq:=hd.app2 27 k (upTo_len _ _) k256 (bat (rcl ns t) k&&!(bat (lateL ns t) k&&bat (aloneL ns t) k))
     obtain ⟨vb,vd,w4,qq⟩:=qq
     have hrun:=qq.1
     have hB' :=qq.2.1
     have HZ3:=hide qq.2.2
     have bx:=(hB'.block _ (Nat.lt_succ_self _)).trans hd.box
     have bc:=blk_cell bx 1
     have bf:=blk_frozen bx 1
     simp at bc
     have HB' :=hide hB'
     have hss:Hid (V1.heap.size+1≤w3.heap.size):=blk_lt hd.box
     have hh:=hb3
     rw [HL.out,HA.out,HRC.out] at hrun
     have HRUN:=hide hrun
     clear hrun hB' bx hd hb3 qq
     refine tlr 24 (fun K hK=>?_)
     go_simp
     refine hK.out _ _ (fun p hp=>(((Below.refl _ _).alloc hss.out _).cell (Nat.lt_succ_of_le hp)).trans (hh.cell (Nat.lt_of_le_of_lt hp hl2))) (fun hHeld=>?_)
     clear hK K
     refine tla 25 (.tmp 37) (.tmp 60) 27 HRUN.out (fun p hp=>(HB'.out.cell (Nat.lt_succ_of_le hp)).trans (hh.cell (Nat.lt_of_le_of_lt hp hl2))) (fun hHeld=>?_)
     refine tlv ?_
     refine tls 27 (fun K hK=>?_)
     go_simp
     refine hK.out _ _ ?_
     refine wpAnyL_done (by kernel_rfl) ?_ _
     clear hK K hHeld bc bf HRUN HB' hss hh g5 g3 i0 i1 i2 i3 i4 i5 q1 t0 t1 t2 f4 f5 l1 hb2
     rw [← HU1.out,← HU2.out] at HZ3
     generalize w4.setCell ⟨V1.heap.size,1,none⟩ (.slice vb (k+1) vd)=wr3 at HZ3 ⊢
     go_wp2
     go_roundw
     case rel=>exact ⟨k+1,_,_,by omega,by go_num,HZ3.out⟩
     case measure=>simp [intOf];omega
  ·have ek:k=ns.length:=by omega
   subst ek
   obtain ⟨q1,-,-,-,-,-⟩:=HC.out wr hbw
   have hR:=(hbw.block _ n0).trans HR2.out
   have y0:=blk_cell hR 0
   have y1:=blk_cell hR 1
   have z0:=blk_frozen hR 0
   have z1:=blk_frozen hR 1
   have l0:=blk_cell hz.box 0
   have l1:=blk_cell hz.box 1
   simp at y0 y1 l0 l1
   obtain ⟨va,vc,e1⟩:=owns_slice hz.r1
   obtain ⟨vb,vd,e2⟩:=owns_slice hz.r2
   rw [upTo_len] at e1 e2
   subst e1 e2
   have r0:=blk_lt hR
   have HRR:=hide hR
   clear hR hz
   go_wp2
   have hk:=blk_set2 (v0:=.slice va ns.length vc) (v1:=.slice vb ns.length vd) HRR.out
   have T1:=lz_set HZ.out.r1 HRR.out n0 (upTo_len _ _) (.slice va ns.length vc) (.slice vb ns.length vd)
   have T2:=lz_set HZ.out.r2 HRR.out n0 (upTo_len _ _) (.slice va ns.length vc) (.slice vb ns.length vd)
   have k0:=blk_cell hk 0
   have k1:=blk_cell hk 1
   simp at k0 k1
   exact bodyPost_ret (v:=.agg #[.slice va ns.length vc,.slice vb ns.length vd]) (by simp [results,Tryz.results8,go_sem,k0,k1]) rfl ⟨_,_,rfl,T1,T2,below_set2 (HBV.out.trans (hbw.mono HBV.out.size)) (by omega)⟩
set_option maxRecDepth 100000 in
theorem busyOf_any (r:Int) (b off cap:Nat) (ns:List Nd) (t:Tm) (w:World) (hN:NodesAt w b off ns) (hc:chk r ns=0) :
 Calls Tryz.prog 9 #[.agg #[.int .i64 r,.slice (some ⟨b,off,none⟩) ns.length cap],.agg #[.int .i64 t.op,.int .i64 t.a,.int .i64 t.b]] w fun e w' =>∃ x1 v2,e=.returned (.agg #[.slice (some ⟨x1,0,none⟩) ns.length ns.length,v2])∧w'.heap[x1]?=some (.cells ((earlyL ns t).map Value.bool).toArray 4 (0,0))∧w'.ownsRow w.heap.size 4 1 v2 ns.length ((rcl ns t).map Value.bool)∧Below w.heap.size w w' :=by
 have hl:=(chk_zero hc).1
 obtain ⟨W,HW,hbA,p0,p1,p2⟩:=box3 w (.cells #[.int .i64 r,.slice (some ⟨b,off,none⟩) ns.length cap] 24) (.cells #[.int .i64 t.op,.int .i64 t.a,.int .i64 t.b] 26) (.cells #[.slice none 0 0,.slice none 0 0] 29)
 have HF:=hide (factsOf_any r b off cap ns t W (hN.below hbA hN.lt) hc)
 go_enter Tryz.func9,Tryz.ntmps9
 go_upto_region 1 with fail
 rw [HW.out]
 have q0:=blk_cell p0 0
 have q1:=blk_cell p0 1
 have t0:=blk_cell p1 0
 have t1:=blk_cell p1 1
 have t2:=blk_cell p1 2
 simp at q0 q1 t0 t1 t2
 have pl:=blk_lt p0
 have tl:=blk_lt p1
 have HB:=hide hbA
 have HP:=hide p0
 have HT:=hide p1
 have HR:=hide p2
 clear hbA p0 p1 p2 HW
 go_wp2_with fail
 refine HF.out.mono ?_
 rintro e w1 ⟨X,rfl,hX,hb1⟩
 have x4:=hX 4 (by decide)
 have hfd:∀ W,Sem.run Tryz.prog (Instr.field 41 (.agg #[.slice (some ⟨X 0,0,none⟩) ns.length ns.length,.slice (some ⟨X 1,0,none⟩) ns.length ns.length,.slice (some ⟨X 4,0,none⟩) ns.length ns.length,.slice (some ⟨X 2,0,none⟩) ns.length ns.length,.slice (some ⟨X 5,0,none⟩) ns.length ns.length,.slice (some ⟨X 3,0,none⟩) ns.length ns.length]) 2) W=.ok (.slice (some ⟨X 4,0,none⟩) ns.length ns.length) W:=fun W=>by kernel_rfl
 generalize X 4=x1 at *
 have HBV:=hide (HB.out.trans (hb1.mono HB.out.size))
 have HN:=hide (hN.below HBV.out hN.lt)
 have hR:=(hb1.block _ (blk_lt HR.out)).trans HR.out
 have n0:=blk_lt hR
 have n2:=blk_lt x4
 have HR2:=hide hR
 have HX4:Hid (w1.heap[x1]?=some (.cells ((earlyL ns t).map Value.bool).toArray 4 (0,0))):=x4
 have e0:w.heap.size<w1.heap.size:=by omega
 have e1:w.heap.size+1<w1.heap.size:=by omega
 have HC:Hid (∀ u:World,Below w1.heap.size w1 u→u.cell? ⟨w.heap.size,1,none⟩=some (.slice (some ⟨b,off,none⟩) ns.length cap)∧u.cell? ⟨w.heap.size+1,0,none⟩=some (.int .i64 t.op)∧u.cell? ⟨w.heap.size+1,1,none⟩=some (.int .i64 t.a)∧u.cell? ⟨w.heap.size+1,2,none⟩=some (.int .i64 t.b)):=fun u hu =>
  ⟨(hu.cell (p:=⟨w.heap.size,1,none⟩) e0).trans ((hb1.cell (p:=⟨w.heap.size,1,none⟩) pl).trans q1),(hu.cell (p:=⟨w.heap.size+1,0,none⟩) e1).trans ((hb1.cell (p:=⟨w.heap.size+1,0,none⟩) tl).trans t0),(hu.cell (p:=⟨w.heap.size+1,1,none⟩) e1).trans ((hb1.cell (p:=⟨w.heap.size+1,1,none⟩) tl).trans t1),(hu.cell (p:=⟨w.heap.size+1,2,none⟩) e1).trans ((hb1.cell (p:=⟨w.heap.size+1,2,none⟩) tl).trans t2)⟩
 have hZ:=LY.new w1 (.slice (some ⟨x1,0,none⟩) ns.length ns.length)
 have d0:=Nat.le_of_lt e0
 have d1:=Nat.le_of_lt e1
 have d5:=Nat.le_of_lt HN.out.lt
 clear hN hc hX hb1 HF hR q0 q1 t0 t1 t2 pl tl HB HP HT HR x4
 go_upto_region 2 with fail
 generalize w1.alloc (.cells #[.slice (some ⟨x1,0,none⟩) ns.length ns.length,.slice none 0 0] 29)=V2 at hZ ⊢
 go_wp2
 go_loopw [6] (fun i wr=>∃ (k:Nat) (v2:Value),k≤ns.length∧i=.int .i64 k∧LY w1 wr (.slice (some ⟨x1,0,none⟩) ns.length ns.length) v2 (upTo (bat (rcl ns t)) k)) (fun i _=>ns.length-(intOf i).toNat)
 case atStart=>exact ⟨0,_,Nat.zero_le _,rfl,hZ⟩
 case round =>
  obtain ⟨k,v2,hk,rfl,hz⟩:=hrel
  have hbw:=hz.bel
  have hs:=hbw.size
  have hlb:=blk_lt hz.box
  have m0:w.heap.size<wr.heap.size:=by omega
  have HZ:=hide hz
  by_cases hlt:k<ns.length
  ·have hki:(k:Int)<(ns.length:Int):=by omega
   obtain ⟨x,hx⟩:=get_lt hlt
   obtain ⟨q1,t0,t1,t2⟩:=HC.out wr hbw
   have l1:=blk_cell hz.box 1
   simp at l1
   have HU2:=hide (upTo_succ (bat (rcl ns t)) k)
   have HRC:=hide (show bat (rcl ns t) k=rcB t x by simp [rcl,bat,hx])
   have hNN:=HN.out.below hbw HN.out.lt
   have i0:=hNN.c0 k x hx
   have i1:=hNN.c1 k x hx
   have i2:=hNN.c2 k x hx
   have i3:=hNN.c3 k x hx
   have i4:=hNN.c4 k x hx
   have i5:=hNN.c5 k x hx
   have HK:=hide (fun U=>reckonsIt_any x t U)
   have k256:k≤256:=by omega
   clear hx hz hNN
   go_upto_region 5 with fail
   refine wp_region_L 12 (S:=fun u=>∀ p:Addr,p.block≤w1.heap.size→u.cell? p=wr.cell? p) (by kernel_rfl) (fun p hp=>rfl) (fun hHeld=>?_)
   refine tlw 0 ?_
   iterate 7 (refine tlv ?_)
   refine tlr 8 (fun K hK=>?_)
   go_simp
   go_at_call 27
   refine (HK.out _).mono ?_
   rintro e w3 ⟨rfl,hb3⟩
   refine hK.out _ _ (fun p hp=>hb3.cell (Nat.lt_of_le_of_lt hp hlb)) (fun hHeld=>?_)
   clear hK K
   have hd:=HZ.out.drew.below hb3
   have qq:=hd.app 27 k (upTo_len _ _) k256 (bat (rcl ns t) k)
   obtain ⟨vb,vd,w4,qq⟩:=qq
   have hrun:=qq.1
   have hB' :=qq.2.1
   have HZ3:=hide qq.2.2
   have bx:=(hB'.block _ (Nat.lt_succ_self _)).trans hd.box
   have bc:=blk_cell bx 1
   have bf:=blk_frozen bx 1
   simp at bc
   have HB' :=hide hB'
   have hss:Hid (w1.heap.size+1≤w3.heap.size):=blk_lt hd.box
   have hh:=hb3
   rw [HRC.out] at hrun
   have HRUN:=hide hrun
   clear hrun hB' bx hd hb3 qq
   refine tlr 9 (fun K hK=>?_)
   go_simp
   refine hK.out _ _ (fun p hp=>(((Below.refl _ _).alloc hss.out _).cell (Nat.lt_succ_of_le hp)).trans (hh.cell (Nat.lt_of_le_of_lt hp hlb))) (fun hHeld=>?_)
   clear hK K
   refine tla 10 (.tmp 20) (.tmp 28) 27 HRUN.out (fun p hp=>(HB'.out.cell (Nat.lt_succ_of_le hp)).trans (hh.cell (Nat.lt_of_le_of_lt hp hlb))) (fun hHeld=>?_)
   refine tlv ?_
   refine tls 12 (fun K hK=>?_)
   go_simp
   refine hK.out _ _ ?_
   refine wpAnyL_done (by kernel_rfl) ?_ _
   clear hK K hHeld bc bf HRUN HB' hss hh i0 i1 i2 i3 i4 i5 q1 t0 t1 t2 l1 hbw
   rw [← HU2.out] at HZ3
   generalize w4.setCell ⟨w1.heap.size,1,none⟩ (.slice vb (k+1) vd)=wr3 at HZ3 ⊢
   go_wp2
   go_roundw
   case rel=>exact ⟨k+1,_,by omega,by go_num,HZ3.out⟩
   case measure=>simp [intOf];omega
  ·have ek:k=ns.length:=by omega
   subst ek
   obtain ⟨q1,-,-,-⟩:=HC.out wr hbw
   have hR:=(hbw.block _ n0).trans HR2.out
   have y0:=blk_cell hR 0
   have y1:=blk_cell hR 1
   have z0:=blk_frozen hR 0
   have z1:=blk_frozen hR 1
   have l0:=blk_cell hz.box 0
   have l1:=blk_cell hz.box 1
   simp at y0 y1 l0 l1
   obtain ⟨vb,vd,e2⟩:=owns_slice hz.r2
   rw [upTo_len] at e2
   subst e2
   have r0:=blk_lt hR
   have HRR:=hide hR
   have HX5:=hide ((hbw.block _ n2).trans HX4.out)
   clear hR hz
   go_wp2
   have hk:=blk_set2 (v0:=.slice (some ⟨x1,0,none⟩) ns.length ns.length) (v1:=.slice vb ns.length vd) HRR.out
   have T2:=lz_set HZ.out.r2 HRR.out n0 (upTo_len _ _) (.slice (some ⟨x1,0,none⟩) ns.length ns.length) (.slice vb ns.length vd)
   have k0:=blk_cell hk 0
   have k1:=blk_cell hk 1
   simp at k0 k1
   have hne:x1≠w.heap.size+2:=blk_ne HX5.out HRR.out (by decide)
   have T1:=blk_set_ne (i:=1) (.slice vb ns.length vd) (blk_set_ne (i:=0) (.slice (some ⟨x1,0,none⟩) ns.length ns.length) HX5.out hne) hne
   rw [show upTo (bat (rcl ns t)) ns.length=rcl ns t from range_len (by simp [rcl])] at T2
   exact bodyPost_ret (v:=.agg #[.slice (some ⟨x1,0,none⟩) ns.length ns.length,.slice vb ns.length vd]) (by simp [results,Tryz.results9,go_sem,k0,k1]) rfl ⟨x1,_,rfl,T1,T2,below_set2 (HBV.out.trans (hbw.mono HBV.out.size)) (by omega)⟩
end Go.Proofs.YtnbdnbcnlgnicaaGreat
namespace Go.Proofs.YtnbdnbcnlgnicaaGreat
open Go.ChangeShapes Go.WideShapes Go.ChangeAt Go.RowKit Go.Joins Go.Deep
set_option maxRecDepth 100000 in
theorem boolsM_of {H:Type} {enc:TypeId × Value→H} {W:World} {sp:Nat→Bool} {fuel:Nat} {v:Value} {y:DataW H × List MemPlace}
 (h:DataW.trod enc Tryz.prog W 0 sp true fuel 27 [v]=some y):∃ a cap l,v=.slice a (List.length l) cap∧BoolsAt W a l∧l.length≤9223372036854775807∧l.length≤cap:=by
 rcases open_slice Tryz.underlying27 h with ⟨hcs,_⟩ | ⟨a,len,cap,m,n,D,Pl,hcs,_,hl,hm,hmm,_,hx⟩
 ·simp at hcs
  exact ⟨none,0,[],by simpa using hcs,Or.inl rfl,by simp,by simp⟩
 ·simp at hcs
  subst hcs
  have hlm:len≤m:=by rw [hmm];split <;> omega
  obtain ⟨F,hF⟩:=choose_lt (α:=Bool) (n:=len) (p:=fun i x=>W.cell? ((a.add (i*1)).add 0)=some (.bool x)) (fun i hi=>by
   obtain ⟨cs', h1,h2⟩:=hx i (by omega)
   rw [cells_bool] at h1
   obtain ⟨_,hl1,hcell⟩:=World.cells?_some h1
   obtain ⟨z,e,_⟩:=DataW.trod_bool Tryz.underlying4 h2
   subst e
   exact ⟨z,hcell 0 (by omega)⟩)
  refine ⟨some a,cap,(List.range len).map F,by simp,?_,by simp;unfold maxLen at hm;omega,by simp;omega⟩
  by_cases h0:len=0
  ·subst h0;exact Or.inl rfl
  obtain ⟨b,off,spot⟩:=a
  have hc0:=hF 0 (by omega)
  have hspot:spot=none:=by simpa [Addr.add] using World.cell?_spot hc0
  subst hspot
  have hblt:b<W.heap.size:=by simpa [Addr.add] using block_lt_of_cell hc0
  refine Or.inr ⟨b,off,rfl,hblt,?_⟩
  intro i x hi
  rw [List.getElem?_map,Option.map_eq_some_iff] at hi
  obtain ⟨j,hj,rfl⟩:=hi
  have hlt:i<len:=by have:=(List.getElem?_eq_some_iff.1 hj).1;simpa using this
  rw [List.getElem?_range hlt] at hj
  cases hj
  have:=hF i hlt
  simpa only [add_lit', Nat.mul_one,Nat.add_zero] using this
set_option maxRecDepth 100000 in
theorem open_boolsM {H:Type} {enc:TypeId × Value→H} {W:World} {sp:Nat→Bool} {base:Nat} {v:Value} {d:DataW H} {p:List MemPlace}
 (hv:Value.okWide Tryz.prog W .any base 27 v) (h:DataW.Trod enc Tryz.prog W 0 sp true 27 v d p) :
 ∃ a cap l,v=.slice a (List.length l) cap∧BoolsAt W a l∧l.length≤9223372036854775807∧l.length≤cap:=by
 obtain ⟨a,len,cap,rfl⟩:=okWide_slice Tryz.underlying27 hv
 obtain ⟨fuel,hf⟩:=h
 exact boolsM_of (v:=.slice a len cap) hf
end Go.Proofs.YtnbdnbcnlgnicaaGreat
