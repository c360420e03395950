/-
  Of the proof of MovePlaces: XH, TV, FU.
-/
import Derived.Test.YtnbdnbcnlgnicaaGreatP4
import Derived.Test.YtnbdnbcnlgnicaaGreatP7
import Derived.Test.YtnbdnbcnlgnicaaGreatP11
import Derived.Deep.RegionHeld3
set_option linter.unusedVariables false
set_option linter.unusedSimpArgs false
set_option maxHeartbeats 40000000
namespace Go.Proofs.YtnbdnbcnlgnicaaGreat
open Go.RowKit Go.Shelf
set_option maxRecDepth 100000 in
theorem lawPlaces (r:Int) (a:Option Addr) (cap:Nat) (ns:List Nd) (t:Tm) (ua:Option Addr) (uc un:Nat) (w:World) (E G:Int) (xl yl xb yb xr yr:List Bool)
 (m1:xl.length≤256) (m2:yl.length≤256) (m3:xb.length≤256) (m4:yb.length≤256) (m5:xr.length≤256) (m6:yr.length≤256)
 (hLZ:∀ W,Below w.heap.size w W→Calls Tryz.prog 4 #[.agg #[.int .i64 r,.slice a ns.length cap],.agg #[.int .i64 t.op,.int .i64 t.a,.int .i64 t.b]] W fun e w' =>∃ a1 c1 a2 c2,e=.returned (.tuple #[.agg #[.slice a1 xl.length c1,.slice a2 yl.length c2],.int .i64 E])∧BoolsT w' a1 xl∧BoolsT w' a2 yl∧Below W.heap.size W w')
 (hBU:∀ W,Below w.heap.size w W→Calls Tryz.prog 5 #[.agg #[.int .i64 r,.slice a ns.length cap],.agg #[.int .i64 t.op,.int .i64 t.a,.int .i64 t.b]] W fun e w' =>∃ a1 c1 a2 c2,e=.returned (.tuple #[.agg #[.slice a1 xb.length c1,.slice a2 yb.length c2],.int .i64 E])∧BoolsT w' a1 xb∧BoolsT w' a2 yb∧Below W.heap.size W w')
 (hRI:∀ W,Below w.heap.size w W→Calls Tryz.prog 6 #[.agg #[.int .i64 r,.slice a ns.length cap],.agg #[.int .i64 t.op,.int .i64 t.a,.int .i64 t.b],.slice ua un uc] W fun e w' =>∃ a1 c1 a2 c2,e=.returned (.tuple #[.agg #[.slice a1 xr.length c1,.slice a2 yr.length c2],.int .i64 G])∧BoolsT w' a1 xr∧BoolsT w' a2 yr∧Below W.heap.size W w')
 (hFE:∀ W,Below w.heap.size w W→Calls Tryz.prog 7 #[.agg #[.int .i64 r,.slice a ns.length cap],.agg #[.int .i64 t.op,.int .i64 t.a,.int .i64 t.b]] W fun e w' =>e=.returned (.int .i64 E)∧Below W.heap.size W w')
 (hLO:∀ W,E=0→Below w.heap.size w W→Calls Tryz.prog 8 #[.agg #[.int .i64 r,.slice a ns.length cap],.agg #[.int .i64 t.op,.int .i64 t.a,.int .i64 t.b]] W fun e w' =>∃ a1 c1 a2 c2,e=.returned (.agg #[.slice a1 xl.length c1,.slice a2 yl.length c2])∧BoolsT w' a1 xl∧BoolsT w' a2 yl∧Below W.heap.size W w')
 (hBO:∀ W,E=0→Below w.heap.size w W→Calls Tryz.prog 9 #[.agg #[.int .i64 r,.slice a ns.length cap],.agg #[.int .i64 t.op,.int .i64 t.a,.int .i64 t.b]] W fun e w' =>∃ a1 c1 a2 c2,e=.returned (.agg #[.slice a1 xb.length c1,.slice a2 yb.length c2])∧BoolsT w' a1 xb∧BoolsT w' a2 yb∧Below W.heap.size W w')
 (hRO:∀ W,G=0→Below w.heap.size w W→Calls Tryz.prog 10 #[.agg #[.int .i64 r,.slice a ns.length cap],.agg #[.int .i64 t.op,.int .i64 t.a,.int .i64 t.b],.slice ua un uc] W fun e w' =>∃ a1 c1 a2 c2,e=.returned (.agg #[.slice a1 xr.length c1,.slice a2 yr.length c2])∧BoolsT w' a1 xr∧BoolsT w' a2 yr∧Below W.heap.size W w')
 (h0:E≠0→xl=[]∧yl=[]∧xb=[]∧yb=[]) (h1:G≠0→xr=[]∧yr=[]) (hG:G=if E=0 then (if un=ns.length then 0 else 1) else E) :
 Calls Tryz.prog 3 #[.agg #[.int .i64 r,.slice a ns.length cap],.agg #[.int .i64 t.op,.int .i64 t.a,.int .i64 t.b],.slice ua un uc] w fun e w' =>e=.returned (.bool true)∧Below w.heap.size w w' :=by
 have HLZ:=hide hLZ
 have HBU:=hide hBU
 have HRI:=hide hRI
 have HFE:=hide hFE
 have HLO:=hide hLO
 have HBO:=hide hBO
 have HRO:=hide hRO
 have H0:=hide h0
 have H1:=hide h1
 have HG:=hide hG
 have HM:=hide (And.intro m1 (And.intro m2 (And.intro m3 (And.intro m4 (And.intro m5 m6)))))
 clear hLZ hBU hRI hFE hLO hBO hRO h0 h1 hG m1 m2 m3 m4 m5 m6
 obtain ⟨W0,HW,hb0,p0,p1⟩:=box2 w (.cells #[.int .i64 r,.slice a ns.length cap] 24) (.cells #[.int .i64 t.op,.int .i64 t.a,.int .i64 t.b] 26)
 have HC:Hid (∀ u:World,Below W0.heap.size W0 u→u.cell? ⟨w.heap.size,0,none⟩=some (.int .i64 r)∧u.cell? ⟨w.heap.size,1,none⟩=some (.slice a ns.length cap)∧u.cell? ⟨w.heap.size+1,0,none⟩=some (.int .i64 t.op)∧u.cell? ⟨w.heap.size+1,1,none⟩=some (.int .i64 t.a)∧u.cell? ⟨w.heap.size+1,2,none⟩=some (.int .i64 t.b)∧w.heap.size<u.heap.size∧w.heap.size+1<u.heap.size):=fun u hu=>by
  have q0:=blk_cell p0 0
  have q1:=blk_cell p0 1
  have t0:=blk_cell p1 0
  have t1:=blk_cell p1 1
  have t2:=blk_cell p1 2
  simp at q0 q1 t0 t1 t2
  have pl:=blk_lt p0
  have tl:=blk_lt p1
  have hs:=hu.size
  exact ⟨(hu.cell (p:=⟨w.heap.size,0,none⟩) pl).trans q0,(hu.cell (p:=⟨w.heap.size,1,none⟩) pl).trans q1,(hu.cell (p:=⟨w.heap.size+1,0,none⟩) tl).trans t0,(hu.cell (p:=⟨w.heap.size+1,1,none⟩) tl).trans t1,(hu.cell (p:=⟨w.heap.size+1,2,none⟩) tl).trans t2,by omega,by omega⟩
 clear p0 p1
 have HB:=hide hb0
 have HBB:=hide (Below.refl W0.heap.size W0)
 go_enter Tryz.func3,Tryz.ntmps3
 go_upto_region 1 with fail
 rw [HW.out]
 clear HW hb0
 obtain ⟨q0,q1,t0,t1,t2,pl,tl⟩:=HC.out W0 HBB.out
 go_wp2_with fail
 refine (HLZ.out _ HB.out).mono ?_
 rintro e w1 ⟨a1,c1,a2,c2,rfl,y1,y2,hb1⟩
 obtain ⟨W1,HW,hx,bx⟩:=box1 w1 (.cells #[.slice a1 xl.length c1,.slice a2 yl.length c2] 29)
 have HA:Hid (Bx W1 w1.heap.size xl yl):=⟨a1,c1,a2,c2,bx,y1.below hx,y2.below hx⟩
 have hbx:=hb1.trans (hx.mono hb1.size)
 replace HBB:=hide (HBB.out.trans hbx)
 clear q0 q1 t0 t1 t2 pl tl y1 y2 hb1 hx bx
 go_upto_region 2 with fail
 rw [HW.out]
 generalize w1.heap.size=A1 at HA ⊢
 clear HW hbx
 have HBw:=hide (HB.out.trans (HBB.out.mono HB.out.size))
 obtain ⟨q0,q1,t0,t1,t2,pl,tl⟩:=HC.out W1 HBB.out
 go_wp2_with fail
 refine (HBU.out _ HBw.out).mono ?_
 rintro e w2 ⟨b1,d1,b2,d2,rfl,y1,y2,hb1⟩
 obtain ⟨W2,HW,hx,bx⟩:=box1 w2 (.cells #[.slice b1 xb.length d1,.slice b2 yb.length d2] 29)
 have HA2:Hid (Bx W2 w2.heap.size xb yb):=⟨b1,d1,b2,d2,bx,y1.below hx,y2.below hx⟩
 have hbx:=hb1.trans (hx.mono hb1.size)
 replace HA:=hide (HA.out.below hbx)
 replace HBB:=hide (HBB.out.trans (hbx.mono HBB.out.size))
 clear q0 q1 t0 t1 t2 pl tl y1 y2 hb1 hx bx HBw
 go_upto_region 3 with fail
 rw [HW.out]
 generalize w2.heap.size=A2 at HA2 ⊢
 clear HW hbx
 have HBw:=hide (HB.out.trans (HBB.out.mono HB.out.size))
 obtain ⟨q0,q1,t0,t1,t2,pl,tl⟩:=HC.out W2 HBB.out
 go_wp2_with fail
 refine (HRI.out _ HBw.out).mono ?_
 rintro e w3 ⟨e1,f1,e2,f2,rfl,y1,y2,hb1⟩
 obtain ⟨W3,HW,hx,bx⟩:=box1 w3 (.cells #[.slice e1 xr.length f1,.slice e2 yr.length f2] 29)
 have HA3:Hid (Bx W3 w3.heap.size xr yr):=⟨e1,f1,e2,f2,bx,y1.below hx,y2.below hx⟩
 have hbx:=hb1.trans (hx.mono hb1.size)
 replace HA:=hide (HA.out.below hbx)
 replace HA2:=hide (HA2.out.below hbx)
 replace HBB:=hide (HBB.out.trans (hbx.mono HBB.out.size))
 clear q0 q1 t0 t1 t2 pl tl y1 y2 hb1 hx bx HBw
 go_upto_region 4 with fail
 rw [HW.out]
 generalize w3.heap.size=A3 at HA3 ⊢
 clear HW hbx
 have HBw:=hide (HB.out.trans (HBB.out.mono HB.out.size))
 obtain ⟨q0,q1,t0,t1,t2,pl,tl⟩:=HC.out W3 HBB.out
 go_wp2_with fail
 refine (HFE.out _ HBw.out).mono ?_
 rintro e W4 ⟨rfl,hb1⟩
 replace HA:=hide (HA.out.below hb1)
 replace HA2:=hide (HA2.out.below hb1)
 replace HA3:=hide (HA3.out.below hb1)
 replace HBB:=hide (HBB.out.trans (hb1.mono HBB.out.size))
 replace HBw:=hide (HB.out.trans (HBB.out.mono HB.out.size))
 clear q0 q1 t0 t1 t2 pl tl hb1 HLZ HBU HRI HFE
 obtain ⟨q0,q1,t0,t1,t2,pl,tl⟩:=HC.out W4 HBB.out
 obtain ⟨W5,HW,hx,b5,b6,b7⟩:=box3 W4 (.cells #[.slice none 0 0,.slice none 0 0] 29) (.cells #[.slice none 0 0,.slice none 0 0] 29) (.cells #[.slice none 0 0,.slice none 0 0] 29)
 have l1:A1<W4.heap.size:=by obtain ⟨_,_,_,_,h,_⟩:=HA.out;exact blk_lt h
 have l2:A2<W4.heap.size:=by obtain ⟨_,_,_,_,h,_⟩:=HA2.out;exact blk_lt h
 have l3:A3<W4.heap.size:=by obtain ⟨_,_,_,_,h,_⟩:=HA3.out;exact blk_lt h
 by_cases hE:E=0
 ·subst hE
  by_cases hU:un=ns.length
  ·obtain rfl:G=0:=by rw [HG.out,if_pos rfl,if_pos hU]
   have hUi:((un:Int)==(ns.length:Int))=true:=by rw [hU];simp
   have hUn:((un:Int) != (ns.length:Int))=false:=by rw [hU];simp
   clear HG hU
   go_upto_region 10 with fail
   rw [HW.out]
   have HR:=hide (fun u (hu:Below W5.heap.size W5 u)=>And.intro ((hu.block _ (blk_lt b5)).trans b5) (And.intro ((hu.block _ (blk_lt b6)).trans b6) ((hu.block _ (blk_lt b7)).trans b7)))
   have HB5:=hide (HBw.out.trans (hx.mono HBw.out.size))
   have hlt5:W4.heap.size<W5.heap.size:=blk_lt b5
   obtain ⟨q0,q1,t0,t1,t2,pl', tl'⟩:=HC.out W5 (HBB.out.trans (hx.mono HBB.out.size))
   clear b5 b6 b7
   refine wp_region_L 7 (S:=fun u=>∀ p:Addr,p.block<W4.heap.size→u.cell? p=W5.cell? p) (by kernel_rfl) (fun p hp=>rfl) (fun hHeld=>?_)
   refine tlw 0 ?_
   refine tlv ?_
   refine tlw 3 ?_
   refine tlv ?_
   refine tlr 2 (fun K hK=>?_)
   go_simp
   go_at_call 8
   refine (HLO.out _ (by first | rfl | trivial) HB5.out.drew).mono ?_
   rintro e w6 ⟨g1,i1,g2,i2,rfl,y1,y2,hb6⟩
   refine hK.out _ _ (fun p hp=>hb6.cell (Nat.lt_trans hp hlt5)) (fun hHeld=>?_)
   clear hK K
   refine tlr 5 (fun K hK=>?_)
   go_simp
   go_at_call 9
   refine (HBO.out _ (by first | rfl | trivial) (HB5.out.drew.trans (hb6.mono HB5.out.size))).mono ?_
   rintro e w7 ⟨j1,k1,j2,k2,rfl,z1,z2,hb7⟩
   refine hK.out _ _ (fun p hp=>(hb7.cell (Nat.lt_of_lt_of_le (Nat.lt_trans hp hlt5) hb6.size)).trans (hb6.cell (Nat.lt_trans hp hlt5))) (fun hHeld=>?_)
   clear hK K
   have h57:Below W5.heap.size W5 w7:=(show Below W5.heap.size W5 w6 from (Below.refl _ W5).drew.trans hb6).trans (hb7.mono hb6.size)
   have hrr:=HR.out w7 h57
   have v0:=blk_cell hrr.1 0
   have v1:=blk_cell hrr.1 1
   have z00:=blk_frozen hrr.1 0
   have z01:=blk_frozen hrr.1 1
   simp at v0 v1
   have vl:=blk_lt hrr.1
   have hn1:W4.heap.size+1≠W4.heap.size:=Nat.succ_ne_self _
   have B6:=blk_set_ne (i:=1) (.slice g2 yl.length i2) (blk_set_ne (i:=0) (.slice g1 xl.length i1) hrr.2.1 hn1) hn1
   have B7:=blk_set_ne (i:=1) (.slice g2 yl.length i2) (blk_set_ne (i:=0) (.slice g1 xl.length i1) hrr.2.2 (show W4.heap.size+2≠W4.heap.size by omega)) (show W4.heap.size+2≠W4.heap.size by omega)
   have K1:=hide (bx_set (c1:=i1) (c2:=i2) hrr.1 (y1.below hb7) (y2.below hb7))
   have Z1:=hide (bt_put (v0:=.slice g1 xl.length i1) (v1:=.slice g2 yl.length i2) z1 hrr.1)
   have Z2:=hide (bt_put (v0:=.slice g1 xl.length i1) (v1:=.slice g2 yl.length i2) z2 hrr.1)
   replace HA:=hide (Bx.put (v0:=.slice g1 xl.length i1) (v1:=.slice g2 yl.length i2) ((HA.out.below hx).below h57) hrr.1 (Nat.ne_of_lt l1))
   replace HA2:=hide (Bx.put (v0:=.slice g1 xl.length i1) (v1:=.slice g2 yl.length i2) ((HA2.out.below hx).below h57) hrr.1 (Nat.ne_of_lt l2))
   replace HA3:=hide (Bx.put (v0:=.slice g1 xl.length i1) (v1:=.slice g2 yl.length i2) ((HA3.out.below hx).below h57) hrr.1 (Nat.ne_of_lt l3))
   have HBX:=hide (((HBB.out.trans (hx.mono HBB.out.size)).trans (h57.mono (Nat.le_trans HBB.out.size (Nat.le_of_lt hlt5)))))
   have HX8:=hide ((HBX.out.setCell (p:=⟨W4.heap.size,0,none⟩) HBB.out.size (.slice g1 xl.length i1)).setCell (p:=⟨W4.heap.size,1,none⟩) HBB.out.size (.slice g2 yl.length i2))
   have HS8:Hid (∀ p:Addr,p.block<W4.heap.size→((w7.setCell ⟨W4.heap.size,0,none⟩ (.slice g1 xl.length i1)).setCell ⟨W4.heap.size,1,none⟩ (.slice g2 yl.length i2)).cell? p=W5.cell? p):=fun p hp=>(cell_set_ne (Nat.ne_of_lt hp)).trans ((cell_set_ne (Nat.ne_of_lt hp)).trans (h57.cell (Nat.lt_trans hp hlt5)))
   clear hrr y1 y2 z1 z2 hb6 hb7 h57 HBX HR HB5
   refine tlr 6 (fun K hK=>?_)
   go_simp
   refine hK.out _ _ HS8.out (fun hHeld=>?_)
   clear hK K v0 v1 z00 z01 HS8
   generalize (w7.setCell ⟨W4.heap.size,0,none⟩ (.slice g1 xl.length i1)).setCell ⟨W4.heap.size,1,none⟩ (.slice g2 yl.length i2)=w8 at *
   have v0:=blk_cell B6 0
   have v1:=blk_cell B6 1
   have z00:=blk_frozen B6 0
   have z01:=blk_frozen B6 1
   simp at v0 v1
   have vl2:=blk_lt B6
   refine tls 7 (fun K hK=>?_)
   go_simp
   refine hK.out _ _ ?_
   refine wpAnyL_done (by kernel_rfl) ?_ _
   clear hK K hHeld v0 v1 z00 z01 q0 q1 t0 t1 t2
   replace B7:=blk_set_ne (i:=1) (.slice j2 yb.length k2) (blk_set_ne (i:=0) (.slice j1 xb.length k1) B7 (show W4.heap.size+2≠W4.heap.size+1 by omega)) (show W4.heap.size+2≠W4.heap.size+1 by omega)
   have K2:=hide (bx_set (c1:=k1) (c2:=k2) B6 Z1.out Z2.out)
   replace K1:=hide (Bx.put (v0:=.slice j1 xb.length k1) (v1:=.slice j2 yb.length k2) K1.out B6 hn1.symm)
   replace HA:=hide (Bx.put (v0:=.slice j1 xb.length k1) (v1:=.slice j2 yb.length k2) HA.out B6 (show A1≠W4.heap.size+1 by omega))
   replace HA2:=hide (Bx.put (v0:=.slice j1 xb.length k1) (v1:=.slice j2 yb.length k2) HA2.out B6 (show A2≠W4.heap.size+1 by omega))
   replace HA3:=hide (Bx.put (v0:=.slice j1 xb.length k1) (v1:=.slice j2 yb.length k2) HA3.out B6 (show A3≠W4.heap.size+1 by omega))
   have hs4:W0.heap.size≤W4.heap.size+1:=Nat.le_succ_of_le HBB.out.size
   replace HBB:=hide ((HX8.out.setCell (p:=⟨W4.heap.size+1,0,none⟩) hs4 (.slice j1 xb.length k1)).setCell (p:=⟨W4.heap.size+1,1,none⟩) hs4 (.slice j2 yb.length k2))
   clear B6 Z1 Z2 HX8 vl vl2 hlt5
   generalize (w8.setCell ⟨W4.heap.size+1,0,none⟩ (.slice j1 xb.length k1)).setCell ⟨W4.heap.size+1,1,none⟩ (.slice j2 yb.length k2)=W9 at *
   obtain ⟨q0,q1,t0,t1,t2,pl,tl⟩:=HC.out W9 HBB.out
   go_wp2_with fail
   refine (HRO.out _ (by first | rfl | trivial) (HB.out.trans (HBB.out.mono HB.out.size))).mono ?_
   rintro e w10 ⟨g1,i1,g2,i2,rfl,y1,y2,hb⟩
   have B7' :=(hb.block _ (blk_lt B7)).trans B7
   have v0:=blk_cell B7' 0
   have v1:=blk_cell B7' 1
   have z00:=blk_frozen B7' 0
   have z01:=blk_frozen B7' 1
   simp at v0 v1
   have vl:=blk_lt B7'
   have K3:=hide (bx_set (c1:=i1) (c2:=i2) B7' y1 y2)
   replace K1:=hide (Bx.put (v0:=.slice g1 xr.length i1) (v1:=.slice g2 yr.length i2) (K1.out.below hb) B7' (show W4.heap.size≠W4.heap.size+2 by omega))
   replace K2:=hide (Bx.put (v0:=.slice g1 xr.length i1) (v1:=.slice g2 yr.length i2) (K2.out.below hb) B7' (show W4.heap.size+1≠W4.heap.size+2 by omega))
   replace HA:=hide (Bx.put (v0:=.slice g1 xr.length i1) (v1:=.slice g2 yr.length i2) (HA.out.below hb) B7' (show A1≠W4.heap.size+2 by omega))
   replace HA2:=hide (Bx.put (v0:=.slice g1 xr.length i1) (v1:=.slice g2 yr.length i2) (HA2.out.below hb) B7' (show A2≠W4.heap.size+2 by omega))
   replace HA3:=hide (Bx.put (v0:=.slice g1 xr.length i1) (v1:=.slice g2 yr.length i2) (HA3.out.below hb) B7' (show A3≠W4.heap.size+2 by omega))
   have hs5:W0.heap.size≤W4.heap.size+2:=Nat.le_succ_of_le hs4
   replace HBB:=hide (((HBB.out.trans (hb.mono HBB.out.size)).setCell (p:=⟨W4.heap.size+2,0,none⟩) hs5 (.slice g1 xr.length i1)).setCell (p:=⟨W4.heap.size+2,1,none⟩) hs5 (.slice g2 yr.length i2))
   clear q0 q1 t0 t1 t2 pl tl hb y1 y2 B7 B7'
   go_upto_region 13 with fail
   generalize (w10.setCell ⟨W4.heap.size+2,0,none⟩ (.slice g1 xr.length i1)).setCell ⟨W4.heap.size+2,1,none⟩ (.slice g2 yr.length i2)=WX at *
   clear v0 v1 z00 z01 vl
   go_wp2_with fail
   refine (moveBegun_any _).mono ?_
   rintro e w11 ⟨rfl,hb⟩
   have HBY:=hide hb
   clear hb
   obtain ⟨a1,c1,a2,c2,x1,u1,u2⟩:=HA.out.below HBY.out
   obtain ⟨b1,d1,b2,d2,x2,u3,u4⟩:=K1.out.below HBY.out
   have v0:=blk_cell x1 0
   have v1:=blk_cell x1 1
   have v2:=blk_cell x2 0
   have v3:=blk_cell x2 1
   simp at v0 v1 v2 v3
   have l4:=blk_lt x1
   have l5:=blk_lt x2
   have HQ:=hide (samePlaces_same a1 a2 b1 b2 c1 c2 d1 d2 xl yl w11 HM.out.1 HM.out.2.1 u1.bools u2.bools u3.bools u4.bools)
   clear x1 x2 u1 u2 u3 u4
   go_wp2_with fail
   refine HQ.out.mono ?_
   rintro e w12 ⟨rfl,hb⟩
   replace HBY:=hide (HBY.out.trans (hb.mono HBY.out.size))
   clear hb v0 v1 v2 v3 l4 l5 HQ
   obtain ⟨a1,c1,a2,c2,x1,u1,u2⟩:=HA2.out.below HBY.out
   obtain ⟨b1,d1,b2,d2,x2,u3,u4⟩:=K2.out.below HBY.out
   have v0:=blk_cell x1 0
   have v1:=blk_cell x1 1
   have v2:=blk_cell x2 0
   have v3:=blk_cell x2 1
   simp at v0 v1 v2 v3
   have l4:=blk_lt x1
   have l5:=blk_lt x2
   have HQ:=hide (samePlaces_same a1 a2 b1 b2 c1 c2 d1 d2 xb yb w12 HM.out.2.2.1 HM.out.2.2.2.1 u1.bools u2.bools u3.bools u4.bools)
   clear x1 x2 u1 u2 u3 u4
   go_wp2_with fail
   refine HQ.out.mono ?_
   rintro e w13 ⟨rfl,hb⟩
   replace HBY:=hide (HBY.out.trans (hb.mono HBY.out.size))
   clear hb v0 v1 v2 v3 l4 l5 HQ
   obtain ⟨a1,c1,a2,c2,x1,u1,u2⟩:=HA3.out.below HBY.out
   obtain ⟨b1,d1,b2,d2,x2,u3,u4⟩:=K3.out.below HBY.out
   have v0:=blk_cell x1 0
   have v1:=blk_cell x1 1
   have v2:=blk_cell x2 0
   have v3:=blk_cell x2 1
   simp at v0 v1 v2 v3
   have l4:=blk_lt x1
   have l5:=blk_lt x2
   have HQ:=hide (samePlaces_same a1 a2 b1 b2 c1 c2 d1 d2 xr yr w13 HM.out.2.2.2.2.1 HM.out.2.2.2.2.2 u1.bools u2.bools u3.bools u4.bools)
   clear x1 x2 u1 u2 u3 u4
   go_wp2_with fail
   refine HQ.out.mono ?_
   rintro e w14 ⟨rfl,hb⟩
   go_wp2
   go_ret
   exact ⟨by first | rfl | simp,(HB.out.trans (HBB.out.mono HB.out.size)).trans ((HBY.out.trans (hb.mono HBY.out.size)).mono (HB.out.trans (HBB.out.mono HB.out.size)).size)⟩
  ·obtain rfl:G=1:=by rw [HG.out,if_pos rfl,if_neg hU]
   have hUi:((un:Int)==(ns.length:Int))=false:=by rw [beq_eq_false_iff_ne];omega
   have hUn:((un:Int) != (ns.length:Int))=true:=by rw [bne_iff_ne];omega
   clear HG hU
   go_upto_region 10 with fail
   rw [HW.out]
   have HR:=hide (fun u (hu:Below W5.heap.size W5 u)=>And.intro ((hu.block _ (blk_lt b5)).trans b5) (And.intro ((hu.block _ (blk_lt b6)).trans b6) ((hu.block _ (blk_lt b7)).trans b7)))
   have HB5:=hide (HBw.out.trans (hx.mono HBw.out.size))
   have hlt5:W4.heap.size<W5.heap.size:=blk_lt b5
   obtain ⟨q0,q1,t0,t1,t2,pl', tl'⟩:=HC.out W5 (HBB.out.trans (hx.mono HBB.out.size))
   clear b5 b6 b7
   refine wp_region_L 7 (S:=fun u=>∀ p:Addr,p.block<W4.heap.size→u.cell? p=W5.cell? p) (by kernel_rfl) (fun p hp=>rfl) (fun hHeld=>?_)
   refine tlw 0 ?_
   refine tlv ?_
   refine tlw 3 ?_
   refine tlv ?_
   refine tlr 2 (fun K hK=>?_)
   go_simp
   go_at_call 8
   refine (HLO.out _ (by first | rfl | trivial) HB5.out.drew).mono ?_
   rintro e w6 ⟨g1,i1,g2,i2,rfl,y1,y2,hb6⟩
   refine hK.out _ _ (fun p hp=>hb6.cell (Nat.lt_trans hp hlt5)) (fun hHeld=>?_)
   clear hK K
   refine tlr 5 (fun K hK=>?_)
   go_simp
   go_at_call 9
   refine (HBO.out _ (by first | rfl | trivial) (HB5.out.drew.trans (hb6.mono HB5.out.size))).mono ?_
   rintro e w7 ⟨j1,k1,j2,k2,rfl,z1,z2,hb7⟩
   refine hK.out _ _ (fun p hp=>(hb7.cell (Nat.lt_of_lt_of_le (Nat.lt_trans hp hlt5) hb6.size)).trans (hb6.cell (Nat.lt_trans hp hlt5))) (fun hHeld=>?_)
   clear hK K
   have h57:Below W5.heap.size W5 w7:=(show Below W5.heap.size W5 w6 from (Below.refl _ W5).drew.trans hb6).trans (hb7.mono hb6.size)
   have hrr:=HR.out w7 h57
   have v0:=blk_cell hrr.1 0
   have v1:=blk_cell hrr.1 1
   have z00:=blk_frozen hrr.1 0
   have z01:=blk_frozen hrr.1 1
   simp at v0 v1
   have vl:=blk_lt hrr.1
   have hn1:W4.heap.size+1≠W4.heap.size:=Nat.succ_ne_self _
   have B6:=blk_set_ne (i:=1) (.slice g2 yl.length i2) (blk_set_ne (i:=0) (.slice g1 xl.length i1) hrr.2.1 hn1) hn1
   have B7:=blk_set_ne (i:=1) (.slice g2 yl.length i2) (blk_set_ne (i:=0) (.slice g1 xl.length i1) hrr.2.2 (show W4.heap.size+2≠W4.heap.size by omega)) (show W4.heap.size+2≠W4.heap.size by omega)
   have K1:=hide (bx_set (c1:=i1) (c2:=i2) hrr.1 (y1.below hb7) (y2.below hb7))
   have Z1:=hide (bt_put (v0:=.slice g1 xl.length i1) (v1:=.slice g2 yl.length i2) z1 hrr.1)
   have Z2:=hide (bt_put (v0:=.slice g1 xl.length i1) (v1:=.slice g2 yl.length i2) z2 hrr.1)
   replace HA:=hide (Bx.put (v0:=.slice g1 xl.length i1) (v1:=.slice g2 yl.length i2) ((HA.out.below hx).below h57) hrr.1 (Nat.ne_of_lt l1))
   replace HA2:=hide (Bx.put (v0:=.slice g1 xl.length i1) (v1:=.slice g2 yl.length i2) ((HA2.out.below hx).below h57) hrr.1 (Nat.ne_of_lt l2))
   replace HA3:=hide (Bx.put (v0:=.slice g1 xl.length i1) (v1:=.slice g2 yl.length i2) ((HA3.out.below hx).below h57) hrr.1 (Nat.ne_of_lt l3))
   have HBX:=hide (((HBB.out.trans (hx.mono HBB.out.size)).trans (h57.mono (Nat.le_trans HBB.out.size (Nat.le_of_lt hlt5)))))
   have HX8:=hide ((HBX.out.setCell (p:=⟨W4.heap.size,0,none⟩) HBB.out.size (.slice g1 xl.length i1)).setCell (p:=⟨W4.heap.size,1,none⟩) HBB.out.size (.slice g2 yl.length i2))
   have HS8:Hid (∀ p:Addr,p.block<W4.heap.size→((w7.setCell ⟨W4.heap.size,0,none⟩ (.slice g1 xl.length i1)).setCell ⟨W4.heap.size,1,none⟩ (.slice g2 yl.length i2)).cell? p=W5.cell? p):=fun p hp=>(cell_set_ne (Nat.ne_of_lt hp)).trans ((cell_set_ne (Nat.ne_of_lt hp)).trans (h57.cell (Nat.lt_trans hp hlt5)))
   clear hrr y1 y2 z1 z2 hb6 hb7 h57 HBX HR HB5
   refine tlr 6 (fun K hK=>?_)
   go_simp
   refine hK.out _ _ HS8.out (fun hHeld=>?_)
   clear hK K v0 v1 z00 z01 HS8
   generalize (w7.setCell ⟨W4.heap.size,0,none⟩ (.slice g1 xl.length i1)).setCell ⟨W4.heap.size,1,none⟩ (.slice g2 yl.length i2)=w8 at *
   have v0:=blk_cell B6 0
   have v1:=blk_cell B6 1
   have z00:=blk_frozen B6 0
   have z01:=blk_frozen B6 1
   simp at v0 v1
   have vl2:=blk_lt B6
   refine tls 7 (fun K hK=>?_)
   go_simp
   refine hK.out _ _ ?_
   refine wpAnyL_done (by kernel_rfl) ?_ _
   clear hK K hHeld v0 v1 z00 z01 q0 q1 t0 t1 t2
   replace B7:=blk_set_ne (i:=1) (.slice j2 yb.length k2) (blk_set_ne (i:=0) (.slice j1 xb.length k1) B7 (show W4.heap.size+2≠W4.heap.size+1 by omega)) (show W4.heap.size+2≠W4.heap.size+1 by omega)
   have K2:=hide (bx_set (c1:=k1) (c2:=k2) B6 Z1.out Z2.out)
   replace K1:=hide (Bx.put (v0:=.slice j1 xb.length k1) (v1:=.slice j2 yb.length k2) K1.out B6 hn1.symm)
   replace HA:=hide (Bx.put (v0:=.slice j1 xb.length k1) (v1:=.slice j2 yb.length k2) HA.out B6 (show A1≠W4.heap.size+1 by omega))
   replace HA2:=hide (Bx.put (v0:=.slice j1 xb.length k1) (v1:=.slice j2 yb.length k2) HA2.out B6 (show A2≠W4.heap.size+1 by omega))
   replace HA3:=hide (Bx.put (v0:=.slice j1 xb.length k1) (v1:=.slice j2 yb.length k2) HA3.out B6 (show A3≠W4.heap.size+1 by omega))
   have hs4:W0.heap.size≤W4.heap.size+1:=Nat.le_succ_of_le HBB.out.size
   replace HBB:=hide ((HX8.out.setCell (p:=⟨W4.heap.size+1,0,none⟩) hs4 (.slice j1 xb.length k1)).setCell (p:=⟨W4.heap.size+1,1,none⟩) hs4 (.slice j2 yb.length k2))
   clear B6 Z1 Z2 HX8 vl vl2 hlt5
   generalize (w8.setCell ⟨W4.heap.size+1,0,none⟩ (.slice j1 xb.length k1)).setCell ⟨W4.heap.size+1,1,none⟩ (.slice j2 yb.length k2)=W9 at *
   have K3:Hid (Bx W9 (W4.heap.size+2) xr yr):=by
    obtain ⟨e1,e2⟩:=H1.out (by decide)
    show Bx _ _ _ _
    rw [e1,e2];exact ⟨none,0,none,0,B7,Or.inl rfl,Or.inl rfl⟩
   go_upto_region 13 with fail
   go_wp2_with fail
   refine (moveBegun_any _).mono ?_
   rintro e w11 ⟨rfl,hb⟩
   have HBY:=hide hb
   clear hb
   obtain ⟨a1,c1,a2,c2,x1,u1,u2⟩:=HA.out.below HBY.out
   obtain ⟨b1,d1,b2,d2,x2,u3,u4⟩:=K1.out.below HBY.out
   have v0:=blk_cell x1 0
   have v1:=blk_cell x1 1
   have v2:=blk_cell x2 0
   have v3:=blk_cell x2 1
   simp at v0 v1 v2 v3
   have l4:=blk_lt x1
   have l5:=blk_lt x2
   have HQ:=hide (samePlaces_same a1 a2 b1 b2 c1 c2 d1 d2 xl yl w11 HM.out.1 HM.out.2.1 u1.bools u2.bools u3.bools u4.bools)
   clear x1 x2 u1 u2 u3 u4
   go_wp2_with fail
   refine HQ.out.mono ?_
   rintro e w12 ⟨rfl,hb⟩
   replace HBY:=hide (HBY.out.trans (hb.mono HBY.out.size))
   clear hb v0 v1 v2 v3 l4 l5 HQ
   obtain ⟨a1,c1,a2,c2,x1,u1,u2⟩:=HA2.out.below HBY.out
   obtain ⟨b1,d1,b2,d2,x2,u3,u4⟩:=K2.out.below HBY.out
   have v0:=blk_cell x1 0
   have v1:=blk_cell x1 1
   have v2:=blk_cell x2 0
   have v3:=blk_cell x2 1
   simp at v0 v1 v2 v3
   have l4:=blk_lt x1
   have l5:=blk_lt x2
   have HQ:=hide (samePlaces_same a1 a2 b1 b2 c1 c2 d1 d2 xb yb w12 HM.out.2.2.1 HM.out.2.2.2.1 u1.bools u2.bools u3.bools u4.bools)
   clear x1 x2 u1 u2 u3 u4
   go_wp2_with fail
   refine HQ.out.mono ?_
   rintro e w13 ⟨rfl,hb⟩
   replace HBY:=hide (HBY.out.trans (hb.mono HBY.out.size))
   clear hb v0 v1 v2 v3 l4 l5 HQ
   obtain ⟨a1,c1,a2,c2,x1,u1,u2⟩:=HA3.out.below HBY.out
   obtain ⟨b1,d1,b2,d2,x2,u3,u4⟩:=K3.out.below HBY.out
   have v0:=blk_cell x1 0
   have v1:=blk_cell x1 1
   have v2:=blk_cell x2 0
   have v3:=blk_cell x2 1
   simp at v0 v1 v2 v3
   have l4:=blk_lt x1
   have l5:=blk_lt x2
   have HQ:=hide (samePlaces_same a1 a2 b1 b2 c1 c2 d1 d2 xr yr w13 HM.out.2.2.2.2.1 HM.out.2.2.2.2.2 u1.bools u2.bools u3.bools u4.bools)
   clear x1 x2 u1 u2 u3 u4
   go_wp2_with fail
   refine HQ.out.mono ?_
   rintro e w14 ⟨rfl,hb⟩
   go_wp2
   go_ret
   exact ⟨by first | rfl | simp,(HB.out.trans (HBB.out.mono HB.out.size)).trans ((HBY.out.trans (hb.mono HBY.out.size)).mono (HB.out.trans (HBB.out.mono HB.out.size)).size)⟩
 ·obtain rfl:G=E:=by rw [HG.out,if_neg hE]
  have hEb:(G==0)=false:=by simp [hE]
  have K1:Hid (Bx W5 W4.heap.size xl yl):=by
   obtain ⟨e1,e2,-,-⟩:=H0.out hE
   show Bx _ _ _ _
   rw [e1,e2];exact ⟨none,0,none,0,b5,Or.inl rfl,Or.inl rfl⟩
  have K2:Hid (Bx W5 (W4.heap.size+1) xb yb):=by
   obtain ⟨-,-,e1,e2⟩:=H0.out hE
   show Bx _ _ _ _
   rw [e1,e2];exact ⟨none,0,none,0,b6,Or.inl rfl,Or.inl rfl⟩
  have K3:Hid (Bx W5 (W4.heap.size+2) xr yr):=by
   obtain ⟨e1,e2⟩:=H1.out hE
   show Bx _ _ _ _
   rw [e1,e2];exact ⟨none,0,none,0,b7,Or.inl rfl,Or.inl rfl⟩
  replace HA:=hide (HA.out.below hx)
  replace HA2:=hide (HA2.out.below hx)
  replace HA3:=hide (HA3.out.below hx)
  replace HBB:=hide (HBB.out.trans (hx.mono HBB.out.size))
  clear HG hE H0 H1 hx b5 b6 b7 HLO HBO HRO
  go_upto_region 13 with fail
  rw [HW.out]
  clear HW
  go_wp2_with fail
  refine (moveBegun_any _).mono ?_
  rintro e w11 ⟨rfl,hb⟩
  have HBY:=hide hb
  clear hb
  obtain ⟨a1,c1,a2,c2,x1,u1,u2⟩:=HA.out.below HBY.out
  obtain ⟨b1,d1,b2,d2,x2,u3,u4⟩:=K1.out.below HBY.out
  have v0:=blk_cell x1 0
  have v1:=blk_cell x1 1
  have v2:=blk_cell x2 0
  have v3:=blk_cell x2 1
  simp at v0 v1 v2 v3
  have l4:=blk_lt x1
  have l5:=blk_lt x2
  have HQ:=hide (samePlaces_same a1 a2 b1 b2 c1 c2 d1 d2 xl yl w11 HM.out.1 HM.out.2.1 u1.bools u2.bools u3.bools u4.bools)
  clear x1 x2 u1 u2 u3 u4
  go_wp2_with fail
  refine HQ.out.mono ?_
  rintro e w12 ⟨rfl,hb⟩
  replace HBY:=hide (HBY.out.trans (hb.mono HBY.out.size))
  clear hb v0 v1 v2 v3 l4 l5 HQ
  obtain ⟨a1,c1,a2,c2,x1,u1,u2⟩:=HA2.out.below HBY.out
  obtain ⟨b1,d1,b2,d2,x2,u3,u4⟩:=K2.out.below HBY.out
  have v0:=blk_cell x1 0
  have v1:=blk_cell x1 1
  have v2:=blk_cell x2 0
  have v3:=blk_cell x2 1
  simp at v0 v1 v2 v3
  have l4:=blk_lt x1
  have l5:=blk_lt x2
  have HQ:=hide (samePlaces_same a1 a2 b1 b2 c1 c2 d1 d2 xb yb w12 HM.out.2.2.1 HM.out.2.2.2.1 u1.bools u2.bools u3.bools u4.bools)
  clear x1 x2 u1 u2 u3 u4
  go_wp2_with fail
  refine HQ.out.mono ?_
  rintro e w13 ⟨rfl,hb⟩
  replace HBY:=hide (HBY.out.trans (hb.mono HBY.out.size))
  clear hb v0 v1 v2 v3 l4 l5 HQ
  obtain ⟨a1,c1,a2,c2,x1,u1,u2⟩:=HA3.out.below HBY.out
  obtain ⟨b1,d1,b2,d2,x2,u3,u4⟩:=K3.out.below HBY.out
  have v0:=blk_cell x1 0
  have v1:=blk_cell x1 1
  have v2:=blk_cell x2 0
  have v3:=blk_cell x2 1
  simp at v0 v1 v2 v3
  have l4:=blk_lt x1
  have l5:=blk_lt x2
  have HQ:=hide (samePlaces_same a1 a2 b1 b2 c1 c2 d1 d2 xr yr w13 HM.out.2.2.2.2.1 HM.out.2.2.2.2.2 u1.bools u2.bools u3.bools u4.bools)
  clear x1 x2 u1 u2 u3 u4
  go_wp2_with fail
  refine HQ.out.mono ?_
  rintro e w14 ⟨rfl,hb⟩
  go_wp2
  go_ret
  exact ⟨by first | rfl | simp,(HB.out.trans (HBB.out.mono HB.out.size)).trans ((HBY.out.trans (hb.mono HBY.out.size)).mono (HB.out.trans (HBB.out.mono HB.out.size)).size)⟩
end Go.Proofs.YtnbdnbcnlgnicaaGreat
namespace Go.Proofs.YtnbdnbcnlgnicaaGreat
open Go
def fr (n:Nat) (f:Nat→Value):Array Value:=Array.ofFn (n:=n) (fun i=>f i.1)
def upd (f:Nat→Value) (i:Nat) (v:Value):Nat→Value:=fun k=>if k=i then v else f k
theorem upd_same (f:Nat→Value) (i:Nat) (v:Value):upd f i v i=v:=by simp [upd]
theorem upd_ne (f:Nat→Value) (i k:Nat) (v:Value) (h:k≠i):upd f i v k=f k:=by simp [upd,h]
theorem fr_size (n:Nat) (f:Nat→Value):(fr n f).size=n:=by simp [fr]
theorem fr_get {n:Nat} (f:Nat→Value) {k:Nat} (h:k<n):(fr n f)[k]?=some (f k):=by
 simp [fr,Array.getElem?_ofFn,h]
theorem fr_set (n:Nat) (f:Nat→Value) (i:Nat) (v:Value):(fr n f).setIfInBounds i v=fr n (upd f i v):=by
 apply Array.ext
 ·rw [Array.size_setIfInBounds,fr_size,fr_size]
 ·intro k h1 h2
  rw [fr_size] at h2
  apply Option.some.inj
  rw [← Array.getElem?_eq_getElem h1,← Array.getElem?_eq_getElem (by rw [fr_size];exact h2),fr_get _ h2,Array.getElem?_setIfInBounds,fr_size]
  by_cases e:i=k
  ·rw [if_pos e,if_pos (by omega),e,upd_same]
  ·rw [if_neg e,fr_get f h2,upd_ne _ _ _ _ (Ne.symm e)]
theorem fr_of (T:Array Value):T=fr T.size (fun k=>T.getD k undef):=by
 apply Array.ext
 ·simp [fr]
 ·intro k h1 h2
  simp [fr,Array.getD,h1]
theorem wp_fr {P:Program} {c:Code} {Q:Exit→Act→World→Prop} {T:Array Value} {ds:List Deferred} {w:World} (h:∀ f:Nat→Value,(∀ k,f k=T.getD k undef)→Code.wp P c Q ⟨fr T.size f,ds⟩ w):Code.wp P c Q ⟨T,ds⟩ w:=by
 have:=h (fun k=>T.getD k undef) (fun _=>rfl)
 rw [← fr_of T] at this
 exact this
def wr1 (T:Array Value) (g:Nat→Value) (s:Nat):Nat→Array Value
 | 0=>T
 | n+1=>(wr1 T g s n).setIfInBounds (s+n) (g (s+n))
theorem wr1_size (T:Array Value) (g:Nat→Value) (s:Nat):∀ n,(wr1 T g s n).size=T.size
 | 0=>rfl
 | n+1=>by rw [wr1,Array.size_setIfInBounds,wr1_size T g s n]
theorem wr1_get (T:Array Value) (g:Nat→Value) (s:Nat):∀ n k,k<T.size→(wr1 T g s n)[k]?=if s≤k∧k<s+n then some (g k) else T[k]?
 | 0,k,h=>by rw [if_neg (by omega)];rfl
 | n+1,k,h=>by
  rw [wr1,Array.getElem?_setIfInBounds,wr1_size]
  by_cases e:s+n=k
  ·rw [if_pos e,if_pos (by omega),if_pos (by omega),e]
  ·rw [if_neg e,wr1_get T g s n k h]
   by_cases q:s≤k∧k<s+n
   ·rw [if_pos q,if_pos (by omega)]
   ·rw [if_neg q,if_neg (by omega)]
theorem fr_back {T:Array Value} {f g:Nat→Value} (s n:Nat) (hf:∀ k,f k=T.getD k undef) (hg:∀ k,k<s∨s+n≤k→g k=f k):fr T.size g=wr1 T g s n:=by
 apply Array.ext
 ·rw [fr_size,wr1_size]
 ·intro k h1 h2
  rw [wr1_size] at h2
  have a1:(fr T.size g)[k]?=some (g k):=fr_get g h2
  have a2:=wr1_get T g s n k h2
  apply Option.some.inj
  rw [← Array.getElem?_eq_getElem h1,← Array.getElem?_eq_getElem (by rw [wr1_size];exact h2),a1,a2]
  split
  ·rfl
  ·rw [hg k (by omega),hf k,Array.getD_eq_getD_getElem?,Array.getElem?_eq_getElem h2];rfl
structure IsFr (F:(Nat→Value)→Array Value):Prop where
 get:∀ f k,k<429→(F f)[k]?=some (f k)
 set:∀ f i v,(F f).setIfInBounds i v=F (upd f i v)
theorem fr_is:IsFr (fr 429):=⟨fun f k h=>fr_get f h,fun f i v=>fr_set 429 f i v⟩
section
variable {P:Program} {ops:Array Oper} {Q:Exit→Act→World→Prop} {md:Region.Mode} {S:World→Prop} {fuel:Nat} {listed:Array Bool} {w:World} {oi:Oper} {v:Value} {d:Nat} {F:(Nat→Value)→Array Value} {f:Nat→Value} {ds:List Deferred}
theorem tfw (i:Nat) (hF:IsFr F) (h:wpAnyH P md ops Q S fuel (listed.setIfInBounds i true) ⟨F (upd f d v),ds⟩ w) (hi:ops[i]?=some oi:=by rfl) (hd:oi.dst=some d:=by rfl) (hw:Region.wanted oi (yielded ops (F f))=true:=by first | rfl | (simp [Region.wanted,yielded,hF.get,upd, *];done) | (simp [Region.wanted,yielded,hF.get,upd, *];exact fun h=>nomatch h))
 (hv:∀ w,S w→(execOp (⟨F f,ds⟩:Act).eval oi).run P w=.ok (.value v) w:=by intro w hSw;(try dsimp only at hSw);go_simp;all_goals with_reducible rfl)
 (hQ:∀ c a w,Q (.panic c) (a.put (some d) v) w→Q (.panic c) a w:=by exact hQp _ _) (hs:Region.noSelect ops=true:=by as_aux_lemma=>kernel_rfl) (hf:Region.free md ops listed i=true:=by as_aux_lemma=>kernel_rfl) (hr:(Region.ready md ops listed).contains i=true:=by as_aux_lemma=>kernel_rfl) (hS:S w:=by assumption):wpAnyH P md ops Q S (fuel+1) listed ⟨F f,ds⟩ w :=
 wpAnyH_take hi hs hf hr (by rw [hd];exact hQ) (Or.inl ⟨hw,hv⟩) hS (by rw [hd];show wpAnyH P md ops Q S fuel _ ⟨(F f).setIfInBounds d _,ds⟩ w;rw [hF.set];exact h)
theorem tfx (i:Nat) (hF:IsFr F) (h:wpAnyH P md ops Q S fuel (listed.setIfInBounds i true) ⟨F (upd f d undef),ds⟩ w) (hi:ops[i]?=some oi:=by rfl) (hd:oi.dst=some d:=by rfl) (hw:Region.wanted oi (yielded ops (F f))=false:=by first | rfl | (simp [Region.wanted,yielded,hF.get,upd, *];done) | (simp [Region.wanted,yielded,hF.get,upd, *];exact fun h=>nomatch h))
 (hQ:∀ c a w,Q (.panic c) (a.put (some d) undef) w→Q (.panic c) a w:=by exact hQp _ _) (hs:Region.noSelect ops=true:=by as_aux_lemma=>kernel_rfl) (hf:Region.free md ops listed i=true:=by as_aux_lemma=>kernel_rfl) (hr:(Region.ready md ops listed).contains i=true:=by as_aux_lemma=>kernel_rfl) (hS:S w:=by assumption):wpAnyH P md ops Q S (fuel+1) listed ⟨F f,ds⟩ w :=
 wpAnyH_take (v:=undef) hi hs hf hr (by rw [hd];exact hQ) (Or.inr ⟨hw,rfl⟩) hS (by rw [hd];show wpAnyH P md ops Q S fuel _ ⟨(F f).setIfInBounds d _,ds⟩ w;rw [hF.set];exact h)
theorem tfv {k:Nat} (hF:IsFr F) (h:wpAnyH P md ops Q S fuel ((listed.setIfInBounds k true).setIfInBounds (k+1) true) ⟨F (upd f d v),ds⟩ w) (hi:ops[k+1]?=some oi:=by rfl) (hd:oi.dst=some d:=by rfl) (hw:Region.wanted oi (yielded ops (F f))=true:=by first | rfl | (simp [Region.wanted,yielded,hF.get,upd, *];done) | (simp [Region.wanted,yielded,hF.get,upd, *];exact fun h=>nomatch h))
 (hv:∀ w,S w→(execOp (⟨F f,ds⟩:Act).eval oi).run P w=.ok (.value v) w:=by intro w hSw;(try dsimp only at hSw);go_simp;all_goals with_reducible rfl)
 (hQ:∀ c a w,Q (.panic c) (a.put (some d) v) w→Q (.panic c) a w:=by exact hQp _ _) (hs:Region.noSelect ops=true:=by as_aux_lemma=>kernel_rfl) (hf:Region.free md ops (listed.setIfInBounds k true) (k+1)=true:=by as_aux_lemma=>kernel_rfl) (hr:(Region.ready md ops (listed.setIfInBounds k true)).contains (k+1)=true:=by as_aux_lemma=>kernel_rfl) (hS:S w:=by assumption):wpAnyH P md ops Q S (fuel+1) (listed.setIfInBounds k true) ⟨F f,ds⟩ w :=
 tfw (k+1) hF h hi hd hw hv hQ hs hf hr hS
theorem tfu {k:Nat} (hF:IsFr F) (h:wpAnyH P md ops Q S fuel ((listed.setIfInBounds k true).setIfInBounds (k+1) true) ⟨F (upd f d undef),ds⟩ w) (hi:ops[k+1]?=some oi:=by rfl) (hd:oi.dst=some d:=by rfl) (hw:Region.wanted oi (yielded ops (F f))=false:=by first | rfl | (simp [Region.wanted,yielded,hF.get,upd, *];done) | (simp [Region.wanted,yielded,hF.get,upd, *];exact fun h=>nomatch h))
 (hQ:∀ c a w,Q (.panic c) (a.put (some d) undef) w→Q (.panic c) a w:=by exact hQp _ _) (hs:Region.noSelect ops=true:=by as_aux_lemma=>kernel_rfl) (hf:Region.free md ops (listed.setIfInBounds k true) (k+1)=true:=by as_aux_lemma=>kernel_rfl) (hr:(Region.ready md ops (listed.setIfInBounds k true)).contains (k+1)=true:=by as_aux_lemma=>kernel_rfl) (hS:S w:=by assumption):wpAnyH P md ops Q S (fuel+1) (listed.setIfInBounds k true) ⟨F f,ds⟩ w :=
 tfx (k+1) hF h hi hd hw hQ hs hf hr hS
end
end Go.Proofs.YtnbdnbcnlgnicaaGreat
namespace Go.Proofs.YtnbdnbcnlgnicaaGreat
open Go.RowKit Go.Shelf
attribute [local go_sem] upd_same upd_ne
abbrev ro34:Array Oper:=#[⟨some 158,.move (.tmp 8),27, "flow.go:110", #[],none⟩,⟨some 159,.move (.tmp 22),3, "flow.go:110", #[],none⟩,⟨some 160,.move (.tmp 8),27, "flow.go:110", #[],none⟩,⟨some 161,.move (.tmp 22),3, "flow.go:110", #[],none⟩,⟨some 162,.indexAddr 27 (.tmp 160) (.tmp 161),0, "flow.go:110", #[⟨2,.data⟩,⟨3,.data⟩],none⟩,⟨some 163,.load 4 (.tmp 162),4, "flow.go:110", #[⟨4,.data⟩],none⟩,⟨some 164,.move (.tmp 163),4, "flow.go:110", #[⟨5,.data⟩],none⟩,⟨some 165,.fieldAddr 24 (.tmp 2) 1,0, "flow.go:110", #[⟨6,.guard⟩],some (6,true)⟩,⟨some 166,.load 22 (.tmp 165),22, "flow.go:110", #[⟨7,.data⟩,⟨6,.guard⟩],some (6,true)⟩,⟨some 167,.move (.tmp 23),54, "flow.go:110", #[⟨6,.guard⟩],some (6,true)⟩,⟨some 168,.move (.tmp 24),3, "flow.go:110", #[⟨6,.guard⟩],some (6,true)⟩,⟨some 169,.indexAddr 54 (.tmp 167) (.tmp 168),0, "flow.go:110", #[⟨9,.data⟩,⟨10,.data⟩,⟨6,.guard⟩],some (6,true)⟩,⟨some 170,.load 3 (.tmp 169),3, "flow.go:110", #[⟨11,.data⟩,⟨6,.guard⟩],some (6,true)⟩,⟨some 171,.indexAddr 22 (.tmp 166) (.tmp 170),0, "flow.go:110", #[⟨8,.data⟩,⟨12,.data⟩,⟨6,.guard⟩],some (6,true)⟩,⟨some 172,.load 47 (.tmp 171),47, "flow.go:110", #[⟨13,.data⟩,⟨6,.guard⟩],some (6,true)⟩,⟨some 173,.load 26 (.tmp 3),26, "flow.go:110", #[⟨6,.guard⟩],some (6,true)⟩,⟨some 174,.call { callee:=.value (.func 29),args:=#[.tmp 172,.tmp 173],argTypes:=#[47,26] },4, "flow.go:110", #[⟨14,.data⟩,⟨15,.data⟩,⟨6,.chain⟩,⟨6,.guard⟩],some (6,true)⟩,⟨some 175,.pick (.tmp 164) (.tmp 174) (.const (Go.Value.bool false)),4, "flow.go:110", #[⟨6,.data⟩,⟨16,.data⟩],none⟩,⟨some 176,.move (.tmp 175),4, "flow.go:110", #[⟨17,.data⟩,⟨16,.chain⟩],none⟩,⟨some 177,.move (.tmp 8),27, "flow.go:110", #[⟨18,.guard⟩],some (18,true)⟩,⟨some 178,.move (.tmp 23),54, "flow.go:110", #[⟨18,.guard⟩],some (18,true)⟩,⟨some 179,.move (.tmp 24),3, "flow.go:110", #[⟨18,.guard⟩],some (18,true)⟩,⟨some 180,.indexAddr 54 (.tmp 178) (.tmp 179),0, "flow.go:110", #[⟨20,.data⟩,⟨21,.data⟩,⟨18,.guard⟩],some (18,true)⟩,⟨some 181,.load 3 (.tmp 180),3, "flow.go:110", #[⟨22,.data⟩,⟨18,.guard⟩],some (18,true)⟩,⟨some 182,.indexAddr 27 (.tmp 177) (.tmp 181),0, "flow.go:110", #[⟨19,.data⟩,⟨23,.data⟩,⟨18,.guard⟩],some (18,true)⟩,⟨some 183,.load 4 (.tmp 182),4, "flow.go:110", #[⟨24,.data⟩,⟨18,.guard⟩],some (18,true)⟩,⟨some 184,.move (.tmp 183),4, "flow.go:110", #[⟨25,.data⟩,⟨18,.chain⟩,⟨18,.guard⟩],some (18,true)⟩,⟨some 185,.fieldAddr 24 (.tmp 2) 1,0, "flow.go:110", #[⟨26,.guard⟩],some (26,false)⟩,⟨some 186,.load 22 (.tmp 185),22, "flow.go:110", #[⟨27,.data⟩,⟨26,.guard⟩],some (26,false)⟩,⟨some 187,.move (.tmp 23),54, "flow.go:110", #[⟨26,.guard⟩],some (26,false)⟩,⟨some 188,.move (.tmp 24),3, "flow.go:110", #[⟨26,.guard⟩],some (26,false)⟩,⟨some 189,.indexAddr 54 (.tmp 187) (.tmp 188),0, "flow.go:110", #[⟨29,.data⟩,⟨30,.data⟩,⟨26,.guard⟩],some (26,false)⟩,⟨some 190,.load 3 (.tmp 189),3, "flow.go:110", #[⟨31,.data⟩,⟨26,.guard⟩],some (26,false)⟩,⟨some 191,.indexAddr 22 (.tmp 186) (.tmp 190),0, "flow.go:110", #[⟨28,.data⟩,⟨32,.data⟩,⟨26,.guard⟩],some (26,false)⟩,⟨some 192,.load 47 (.tmp 191),47, "flow.go:110", #[⟨33,.data⟩,⟨26,.guard⟩],some (26,false)⟩,⟨some 193,.load 26 (.tmp 3),26, "flow.go:110", #[⟨26,.guard⟩],some (26,false)⟩,⟨some 194,.call { callee:=.value (.func 27),args:=#[.tmp 192,.tmp 193],argTypes:=#[47,26] },4, "flow.go:110", #[⟨34,.data⟩,⟨35,.data⟩,⟨26,.chain⟩,⟨26,.guard⟩],some (26,false)⟩,⟨some 195,.pick (.tmp 184) (.const (Go.Value.bool true)) (.tmp 194),4, "flow.go:110", #[⟨26,.data⟩,⟨36,.data⟩,⟨18,.guard⟩],some (18,true)⟩,⟨some 196,.pick (.tmp 176) (.tmp 195) (.const (Go.Value.bool false)),4, "flow.go:110", #[⟨18,.data⟩,⟨37,.data⟩],none⟩,⟨some 197,.indexAddr 27 (.tmp 158) (.tmp 159),0, "flow.go:110", #[⟨0,.data⟩,⟨1,.data⟩,⟨0,.phase⟩,⟨1,.phase⟩,⟨2,.phase⟩,⟨3,.phase⟩,⟨4,.phase⟩,⟨5,.phase⟩,⟨6,.phase⟩,⟨7,.phase⟩,⟨8,.phase⟩,⟨9,.phase⟩,⟨10,.phase⟩,⟨11,.phase⟩,⟨12,.phase⟩,⟨13,.phase⟩,⟨14,.phase⟩,⟨15,.phase⟩,⟨16,.phase⟩,⟨17,.phase⟩,⟨18,.phase⟩,⟨19,.phase⟩,⟨20,.phase⟩,⟨21,.phase⟩,⟨22,.phase⟩,⟨23,.phase⟩,⟨24,.phase⟩,⟨25,.phase⟩,⟨26,.phase⟩,⟨27,.phase⟩,⟨28,.phase⟩,⟨29,.phase⟩,⟨30,.phase⟩,⟨31,.phase⟩,⟨32,.phase⟩,⟨33,.phase⟩,⟨34,.phase⟩,⟨35,.phase⟩,⟨36,.phase⟩,⟨37,.phase⟩,⟨38,.phase⟩],none⟩,⟨none,.store 4 (.tmp 197) (.tmp 196),0, "flow.go:110", #[⟨39,.data⟩,⟨38,.data⟩,⟨36,.chain⟩,⟨0,.phase⟩,⟨1,.phase⟩,⟨2,.phase⟩,⟨3,.phase⟩,⟨4,.phase⟩,⟨5,.phase⟩,⟨6,.phase⟩,⟨7,.phase⟩,⟨8,.phase⟩,⟨9,.phase⟩,⟨10,.phase⟩,⟨11,.phase⟩,⟨12,.phase⟩,⟨13,.phase⟩,⟨14,.phase⟩,⟨15,.phase⟩,⟨16,.phase⟩,⟨17,.phase⟩,⟨18,.phase⟩,⟨19,.phase⟩,⟨20,.phase⟩,⟨21,.phase⟩,⟨22,.phase⟩,⟨23,.phase⟩,⟨24,.phase⟩,⟨25,.phase⟩,⟨26,.phase⟩,⟨27,.phase⟩,⟨28,.phase⟩,⟨29,.phase⟩,⟨30,.phase⟩,⟨31,.phase⟩,⟨32,.phase⟩,⟨33,.phase⟩,⟨34,.phase⟩,⟨35,.phase⟩,⟨36,.phase⟩,⟨37,.phase⟩,⟨38,.phase⟩],none⟩]
set_option maxRecDepth 100000 in
theorem reg34_1 {w wr:World} {r:Int} {b off cap:Nat} {ns:List Nd} {t:Tm} {m j q:Nat} {xm:Nd} {l:List Nat} {bb oo d:Nat} {Z1:Nat} {UM:Bool} {F:(Nat→Value)→Array Value} {f:Nat→Value} {Q:Exit→Act→World→Prop} (hqi:(q:Int)<(l.length:Int)) (hmi:(m:Int)<(ns.length:Int)) (hji:(j:Int)<(ns.length:Int)) (bl:bb<wr.heap.size) (hz:wr.cell? ⟨bb,oo+q,none⟩=some (.int .i64 (m:Int))) (xj:wr.cell? ⟨Z1,j,none⟩=some (.bool false)) (xm0:wr.cell? ⟨Z1,m,none⟩=some (.bool UM)) (xl1:Z1<wr.heap.size) (yf:wr.frozen? ⟨Z1,j,none⟩=false) (hfr:∀ u:World,Below wr.heap.size wr u→u.frozen? ⟨Z1,j,none⟩=false) (pl:w.heap.size<wr.heap.size) (tl:w.heap.size+1<wr.heap.size) (nl:b<wr.heap.size) (HS:Hid (∀ u:World,Below wr.heap.size wr u→u.cell? ⟨bb,oo+q,none⟩=some (.int .i64 (m:Int))∧u.cell? ⟨w.heap.size,0,none⟩=some (.int .i64 r)∧u.cell? ⟨w.heap.size,1,none⟩=some (.slice (some ⟨b,off,none⟩) ns.length cap)∧u.cell? ⟨w.heap.size+1,0,none⟩=some (.int .i64 t.op)∧u.cell? ⟨w.heap.size+1,1,none⟩=some (.int .i64 t.a)∧u.cell? ⟨w.heap.size+1,2,none⟩=some (.int .i64 t.b)∧u.cell? ⟨b,off+m*6,none⟩=some (.int .i64 xm.op)∧u.cell? ⟨b,off+m*6+1,none⟩=some (.int .i64 xm.d)∧u.cell? ⟨b,off+m*6+2,none⟩=some (.int .i64 xm.a)∧u.cell? ⟨b,off+m*6+3,none⟩=some (.int .i64 xm.b)∧u.cell? ⟨b,off+m*6+4,none⟩=some (.int .i64 xm.t)∧u.cell? ⟨b,off+m*6+5,none⟩=some (.int .i64 xm.e))) (HSet:Hid (∀ (u:World) (v:Value),u.cell? ⟨bb,oo+q,none⟩=some (.int .i64 (m:Int))∧u.cell? ⟨w.heap.size,0,none⟩=some (.int .i64 r)∧u.cell? ⟨w.heap.size,1,none⟩=some (.slice (some ⟨b,off,none⟩) ns.length cap)∧u.cell? ⟨w.heap.size+1,0,none⟩=some (.int .i64 t.op)∧u.cell? ⟨w.heap.size+1,1,none⟩=some (.int .i64 t.a)∧u.cell? ⟨w.heap.size+1,2,none⟩=some (.int .i64 t.b)∧u.cell? ⟨b,off+m*6,none⟩=some (.int .i64 xm.op)∧u.cell? ⟨b,off+m*6+1,none⟩=some (.int .i64 xm.d)∧u.cell? ⟨b,off+m*6+2,none⟩=some (.int .i64 xm.a)∧u.cell? ⟨b,off+m*6+3,none⟩=some (.int .i64 xm.b)∧u.cell? ⟨b,off+m*6+4,none⟩=some (.int .i64 xm.t)∧u.cell? ⟨b,off+m*6+5,none⟩=some (.int .i64 xm.e)→(u.setCell ⟨Z1,j,none⟩ v).cell? ⟨bb,oo+q,none⟩=some (.int .i64 (m:Int))∧(u.setCell ⟨Z1,j,none⟩ v).cell? ⟨w.heap.size,0,none⟩=some (.int .i64 r)∧(u.setCell ⟨Z1,j,none⟩ v).cell? ⟨w.heap.size,1,none⟩=some (.slice (some ⟨b,off,none⟩) ns.length cap)∧(u.setCell ⟨Z1,j,none⟩ v).cell? ⟨w.heap.size+1,0,none⟩=some (.int .i64 t.op)∧(u.setCell ⟨Z1,j,none⟩ v).cell? ⟨w.heap.size+1,1,none⟩=some (.int .i64 t.a)∧(u.setCell ⟨Z1,j,none⟩ v).cell? ⟨w.heap.size+1,2,none⟩=some (.int .i64 t.b)∧(u.setCell ⟨Z1,j,none⟩ v).cell? ⟨b,off+m*6,none⟩=some (.int .i64 xm.op)∧(u.setCell ⟨Z1,j,none⟩ v).cell? ⟨b,off+m*6+1,none⟩=some (.int .i64 xm.d)∧(u.setCell ⟨Z1,j,none⟩ v).cell? ⟨b,off+m*6+2,none⟩=some (.int .i64 xm.a)∧(u.setCell ⟨Z1,j,none⟩ v).cell? ⟨b,off+m*6+3,none⟩=some (.int .i64 xm.b)∧(u.setCell ⟨Z1,j,none⟩ v).cell? ⟨b,off+m*6+4,none⟩=some (.int .i64 xm.t)∧(u.setCell ⟨Z1,j,none⟩ v).cell? ⟨b,off+m*6+5,none⟩=some (.int .i64 xm.e))) (g2:f 2=.pointer (some ⟨w.heap.size,0,none⟩)) (g3:f 3=.pointer (some ⟨w.heap.size+1,0,none⟩)) (g8:f 8=.slice (some ⟨Z1,0,none⟩) ns.length ns.length) (g22:f 22=.int .i64 j) (g23:f 23=.slice (some ⟨bb,oo,none⟩) l.length d) (g24:f 24=.int .i64 q) (hF:IsFr F) (hQp:∀ (d' :Tmp) (v:Value) c (a:Act) w,Q (.panic c) (a.put (some d') v) w→Q (.panic c) a w) (hend:∀ (g:Nat→Value) (w' :World),(∀ k,k<158∨198≤k→g k=f k)→Below wr.heap.size wr w' →Q .normal ⟨F g,[]⟩ (w'.setCell ⟨Z1,j,none⟩ (.bool false))):Code.wp Tryz.prog (Code.region 34 ro34 true) Q ⟨F f,[]⟩ wr:=by
 delta ro34
 have hFg:=hF.get
 refine wp_region_held_drew (S:=(fun u=>u.cell? ⟨bb,oo+q,none⟩=some (.int .i64 (m:Int))∧u.cell? ⟨w.heap.size,0,none⟩=some (.int .i64 r)∧u.cell? ⟨w.heap.size,1,none⟩=some (.slice (some ⟨b,off,none⟩) ns.length cap)∧u.cell? ⟨w.heap.size+1,0,none⟩=some (.int .i64 t.op)∧u.cell? ⟨w.heap.size+1,1,none⟩=some (.int .i64 t.a)∧u.cell? ⟨w.heap.size+1,2,none⟩=some (.int .i64 t.b)∧u.cell? ⟨b,off+m*6,none⟩=some (.int .i64 xm.op)∧u.cell? ⟨b,off+m*6+1,none⟩=some (.int .i64 xm.d)∧u.cell? ⟨b,off+m*6+2,none⟩=some (.int .i64 xm.a)∧u.cell? ⟨b,off+m*6+3,none⟩=some (.int .i64 xm.b)∧u.cell? ⟨b,off+m*6+4,none⟩=some (.int .i64 xm.t)∧u.cell? ⟨b,off+m*6+5,none⟩=some (.int .i64 xm.e))) (by as_aux_lemma=>kernel_rfl) (by (try dsimp only);(first | (with_reducible refine HSet.out _ _ ?_;with_reducible refine HS.out _ ?_;first | with_reducible exact hB2 | with_reducible exact hB1 | with_reducible exact (Below.refl _ wr).drew | with_reducible exact (Below.refl _ wr)) | (with_reducible refine HS.out _ ?_;first | with_reducible exact hB2 | with_reducible exact hB1 | with_reducible exact (Below.refl _ wr).drew | with_reducible exact (Below.refl _ wr)) | exact HSet.out wr _ (HS.out wr (Below.refl _ wr)))) (fun hHeld=>?_)
 refine tfw 0 hF ?_
 iterate 4 refine tfv hF ?_
 refine tkr 5 (fun K hK=>?_)
 go_simp
 refine hK.out _ _ (by (try dsimp only);(first | (with_reducible refine HSet.out _ _ ?_;with_reducible refine HS.out _ ?_;first | with_reducible exact hB2 | with_reducible exact hB1 | with_reducible exact (Below.refl _ wr).drew | with_reducible exact (Below.refl _ wr)) | (with_reducible refine HS.out _ ?_;first | with_reducible exact hB2 | with_reducible exact hB1 | with_reducible exact (Below.refl _ wr).drew | with_reducible exact (Below.refl _ wr)) | exact HSet.out wr _ (HS.out wr (Below.refl _ wr)))) (fun hHeld=>?_)
 clear hK K
 (try simp only [Act.put,hF.set])
 refine tfv hF ?_
 iterate 10 refine tfu hF ?_
 iterate 2 refine tfv hF ?_
 iterate 19 refine tfu hF ?_
 iterate 2 refine tfv hF ?_
 refine tkr 40 (fun K hK=>?_)
 go_simp
 refine hK.out _ _ (by (try dsimp only);(first | (with_reducible refine HSet.out _ _ ?_;with_reducible refine HS.out _ ?_;first | with_reducible exact hB2 | with_reducible exact hB1 | with_reducible exact (Below.refl _ wr).drew | with_reducible exact (Below.refl _ wr)) | (with_reducible refine HS.out _ ?_;first | with_reducible exact hB2 | with_reducible exact hB1 | with_reducible exact (Below.refl _ wr).drew | with_reducible exact (Below.refl _ wr)) | exact HSet.out wr _ (HS.out wr (Below.refl _ wr)))) (fun hHeld=>?_)
 clear hK K
 (try simp only [Act.put,hF.set])
 refine wpAnyH_done (by as_aux_lemma=>kernel_rfl) ?_ _
 exact hend _ _ (fun k hk=>by repeat rw [upd_ne _ _ _ _ (by omega)]) ((Below.refl _ wr).drew)
set_option maxRecDepth 100000 in
theorem reg34_2 {w wr:World} {r:Int} {b off cap:Nat} {ns:List Nd} {t:Tm} {m j q:Nat} {xm:Nd} {l:List Nat} {bb oo d:Nat} {Z1:Nat} {UM:Bool} {F:(Nat→Value)→Array Value} {f:Nat→Value} {Q:Exit→Act→World→Prop} (hqi:(q:Int)<(l.length:Int)) (hmi:(m:Int)<(ns.length:Int)) (hji:(j:Int)<(ns.length:Int)) (bl:bb<wr.heap.size) (hz:wr.cell? ⟨bb,oo+q,none⟩=some (.int .i64 (m:Int))) (xj:wr.cell? ⟨Z1,j,none⟩=some (.bool true)) (xm0:wr.cell? ⟨Z1,m,none⟩=some (.bool UM)) (xl1:Z1<wr.heap.size) (yf:wr.frozen? ⟨Z1,j,none⟩=false) (hfr:∀ u:World,Below wr.heap.size wr u→u.frozen? ⟨Z1,j,none⟩=false) (pl:w.heap.size<wr.heap.size) (tl:w.heap.size+1<wr.heap.size) (nl:b<wr.heap.size) (HS:Hid (∀ u:World,Below wr.heap.size wr u→u.cell? ⟨bb,oo+q,none⟩=some (.int .i64 (m:Int))∧u.cell? ⟨w.heap.size,0,none⟩=some (.int .i64 r)∧u.cell? ⟨w.heap.size,1,none⟩=some (.slice (some ⟨b,off,none⟩) ns.length cap)∧u.cell? ⟨w.heap.size+1,0,none⟩=some (.int .i64 t.op)∧u.cell? ⟨w.heap.size+1,1,none⟩=some (.int .i64 t.a)∧u.cell? ⟨w.heap.size+1,2,none⟩=some (.int .i64 t.b)∧u.cell? ⟨b,off+m*6,none⟩=some (.int .i64 xm.op)∧u.cell? ⟨b,off+m*6+1,none⟩=some (.int .i64 xm.d)∧u.cell? ⟨b,off+m*6+2,none⟩=some (.int .i64 xm.a)∧u.cell? ⟨b,off+m*6+3,none⟩=some (.int .i64 xm.b)∧u.cell? ⟨b,off+m*6+4,none⟩=some (.int .i64 xm.t)∧u.cell? ⟨b,off+m*6+5,none⟩=some (.int .i64 xm.e))) (HSet:Hid (∀ (u:World) (v:Value),u.cell? ⟨bb,oo+q,none⟩=some (.int .i64 (m:Int))∧u.cell? ⟨w.heap.size,0,none⟩=some (.int .i64 r)∧u.cell? ⟨w.heap.size,1,none⟩=some (.slice (some ⟨b,off,none⟩) ns.length cap)∧u.cell? ⟨w.heap.size+1,0,none⟩=some (.int .i64 t.op)∧u.cell? ⟨w.heap.size+1,1,none⟩=some (.int .i64 t.a)∧u.cell? ⟨w.heap.size+1,2,none⟩=some (.int .i64 t.b)∧u.cell? ⟨b,off+m*6,none⟩=some (.int .i64 xm.op)∧u.cell? ⟨b,off+m*6+1,none⟩=some (.int .i64 xm.d)∧u.cell? ⟨b,off+m*6+2,none⟩=some (.int .i64 xm.a)∧u.cell? ⟨b,off+m*6+3,none⟩=some (.int .i64 xm.b)∧u.cell? ⟨b,off+m*6+4,none⟩=some (.int .i64 xm.t)∧u.cell? ⟨b,off+m*6+5,none⟩=some (.int .i64 xm.e)→(u.setCell ⟨Z1,j,none⟩ v).cell? ⟨bb,oo+q,none⟩=some (.int .i64 (m:Int))∧(u.setCell ⟨Z1,j,none⟩ v).cell? ⟨w.heap.size,0,none⟩=some (.int .i64 r)∧(u.setCell ⟨Z1,j,none⟩ v).cell? ⟨w.heap.size,1,none⟩=some (.slice (some ⟨b,off,none⟩) ns.length cap)∧(u.setCell ⟨Z1,j,none⟩ v).cell? ⟨w.heap.size+1,0,none⟩=some (.int .i64 t.op)∧(u.setCell ⟨Z1,j,none⟩ v).cell? ⟨w.heap.size+1,1,none⟩=some (.int .i64 t.a)∧(u.setCell ⟨Z1,j,none⟩ v).cell? ⟨w.heap.size+1,2,none⟩=some (.int .i64 t.b)∧(u.setCell ⟨Z1,j,none⟩ v).cell? ⟨b,off+m*6,none⟩=some (.int .i64 xm.op)∧(u.setCell ⟨Z1,j,none⟩ v).cell? ⟨b,off+m*6+1,none⟩=some (.int .i64 xm.d)∧(u.setCell ⟨Z1,j,none⟩ v).cell? ⟨b,off+m*6+2,none⟩=some (.int .i64 xm.a)∧(u.setCell ⟨Z1,j,none⟩ v).cell? ⟨b,off+m*6+3,none⟩=some (.int .i64 xm.b)∧(u.setCell ⟨Z1,j,none⟩ v).cell? ⟨b,off+m*6+4,none⟩=some (.int .i64 xm.t)∧(u.setCell ⟨Z1,j,none⟩ v).cell? ⟨b,off+m*6+5,none⟩=some (.int .i64 xm.e))) (HKP:Hid (∀ U:World,Calls Tryz.prog 29 #[.agg #[.int .i64 xm.op,.int .i64 xm.d,.int .i64 xm.a,.int .i64 xm.b,.int .i64 xm.t,.int .i64 xm.e],.agg #[.int .i64 t.op,.int .i64 t.a,.int .i64 t.b]] U fun e w' =>e=.returned (.bool false)∧Below U.heap.size U w')) (g2:f 2=.pointer (some ⟨w.heap.size,0,none⟩)) (g3:f 3=.pointer (some ⟨w.heap.size+1,0,none⟩)) (g8:f 8=.slice (some ⟨Z1,0,none⟩) ns.length ns.length) (g22:f 22=.int .i64 j) (g23:f 23=.slice (some ⟨bb,oo,none⟩) l.length d) (g24:f 24=.int .i64 q) (hF:IsFr F) (hQp:∀ (d' :Tmp) (v:Value) c (a:Act) w,Q (.panic c) (a.put (some d') v) w→Q (.panic c) a w) (hend:∀ (g:Nat→Value) (w' :World),(∀ k,k<158∨198≤k→g k=f k)→Below wr.heap.size wr w' →Q .normal ⟨F g,[]⟩ (w'.setCell ⟨Z1,j,none⟩ (.bool false))):Code.wp Tryz.prog (Code.region 34 ro34 true) Q ⟨F f,[]⟩ wr:=by
 delta ro34
 have hFg:=hF.get
 refine wp_region_held_drew (S:=(fun u=>u.cell? ⟨bb,oo+q,none⟩=some (.int .i64 (m:Int))∧u.cell? ⟨w.heap.size,0,none⟩=some (.int .i64 r)∧u.cell? ⟨w.heap.size,1,none⟩=some (.slice (some ⟨b,off,none⟩) ns.length cap)∧u.cell? ⟨w.heap.size+1,0,none⟩=some (.int .i64 t.op)∧u.cell? ⟨w.heap.size+1,1,none⟩=some (.int .i64 t.a)∧u.cell? ⟨w.heap.size+1,2,none⟩=some (.int .i64 t.b)∧u.cell? ⟨b,off+m*6,none⟩=some (.int .i64 xm.op)∧u.cell? ⟨b,off+m*6+1,none⟩=some (.int .i64 xm.d)∧u.cell? ⟨b,off+m*6+2,none⟩=some (.int .i64 xm.a)∧u.cell? ⟨b,off+m*6+3,none⟩=some (.int .i64 xm.b)∧u.cell? ⟨b,off+m*6+4,none⟩=some (.int .i64 xm.t)∧u.cell? ⟨b,off+m*6+5,none⟩=some (.int .i64 xm.e))) (by as_aux_lemma=>kernel_rfl) (by (try dsimp only);(first | (with_reducible refine HSet.out _ _ ?_;with_reducible refine HS.out _ ?_;first | with_reducible exact hB2 | with_reducible exact hB1 | with_reducible exact (Below.refl _ wr).drew | with_reducible exact (Below.refl _ wr)) | (with_reducible refine HS.out _ ?_;first | with_reducible exact hB2 | with_reducible exact hB1 | with_reducible exact (Below.refl _ wr).drew | with_reducible exact (Below.refl _ wr)) | exact HSet.out wr _ (HS.out wr (Below.refl _ wr)))) (fun hHeld=>?_)
 refine tfw 0 hF ?_
 iterate 4 refine tfv hF ?_
 refine tkr 5 (fun K hK=>?_)
 go_simp
 refine hK.out _ _ (by (try dsimp only);(first | (with_reducible refine HSet.out _ _ ?_;with_reducible refine HS.out _ ?_;first | with_reducible exact hB2 | with_reducible exact hB1 | with_reducible exact (Below.refl _ wr).drew | with_reducible exact (Below.refl _ wr)) | (with_reducible refine HS.out _ ?_;first | with_reducible exact hB2 | with_reducible exact hB1 | with_reducible exact (Below.refl _ wr).drew | with_reducible exact (Below.refl _ wr)) | exact HSet.out wr _ (HS.out wr (Below.refl _ wr)))) (fun hHeld=>?_)
 clear hK K
 (try simp only [Act.put,hF.set])
 iterate 10 refine tfv hF ?_
 refine tkr 16 (fun K hK=>?_)
 go_simp
 go_at_call 29;refine (HKP.out _).mono ?_;rintro e wa ⟨rfl,hba⟩;have hB1:Below wr.heap.size wr wa:=(by first | exact (Below.refl _ wr).drew.trans hba | exact hba);have xjwa:=(hB1.cell (p:=⟨Z1,j,none⟩) xl1).trans xj;have xmwa:=(hB1.cell (p:=⟨Z1,m,none⟩) xl1).trans xm0;have yfwa:=hfr wa hB1;have xlwa:=Nat.lt_of_lt_of_le xl1 hB1.size;(try go_wp2_with fail)
 refine hK.out _ _ (by (try dsimp only);(first | (with_reducible refine HSet.out _ _ ?_;with_reducible refine HS.out _ ?_;first | with_reducible exact hB2 | with_reducible exact hB1 | with_reducible exact (Below.refl _ wr).drew | with_reducible exact (Below.refl _ wr)) | (with_reducible refine HS.out _ ?_;first | with_reducible exact hB2 | with_reducible exact hB1 | with_reducible exact (Below.refl _ wr).drew | with_reducible exact (Below.refl _ wr)) | exact HSet.out wr _ (HS.out wr (Below.refl _ wr)))) (fun hHeld=>?_)
 clear hK K
 (try simp only [Act.put,hF.set])
 iterate 2 refine tfv hF ?_
 iterate 19 refine tfu hF ?_
 iterate 2 refine tfv hF ?_
 refine tkr 40 (fun K hK=>?_)
 go_simp
 refine hK.out _ _ (by (try dsimp only);(first | (with_reducible refine HSet.out _ _ ?_;with_reducible refine HS.out _ ?_;first | with_reducible exact hB2 | with_reducible exact hB1 | with_reducible exact (Below.refl _ wr).drew | with_reducible exact (Below.refl _ wr)) | (with_reducible refine HS.out _ ?_;first | with_reducible exact hB2 | with_reducible exact hB1 | with_reducible exact (Below.refl _ wr).drew | with_reducible exact (Below.refl _ wr)) | exact HSet.out wr _ (HS.out wr (Below.refl _ wr)))) (fun hHeld=>?_)
 clear hK K
 (try simp only [Act.put,hF.set])
 refine wpAnyH_done (by as_aux_lemma=>kernel_rfl) ?_ _
 exact hend _ _ (fun k hk=>by repeat rw [upd_ne _ _ _ _ (by omega)]) (hB1)
set_option maxRecDepth 100000 in
theorem reg34_3 {w wr:World} {r:Int} {b off cap:Nat} {ns:List Nd} {t:Tm} {m j q:Nat} {xm:Nd} {l:List Nat} {bb oo d:Nat} {Z1:Nat} {RC:Bool} {F:(Nat→Value)→Array Value} {f:Nat→Value} {Q:Exit→Act→World→Prop} (hqi:(q:Int)<(l.length:Int)) (hmi:(m:Int)<(ns.length:Int)) (hji:(j:Int)<(ns.length:Int)) (bl:bb<wr.heap.size) (hz:wr.cell? ⟨bb,oo+q,none⟩=some (.int .i64 (m:Int))) (xj:wr.cell? ⟨Z1,j,none⟩=some (.bool true)) (xm0:wr.cell? ⟨Z1,m,none⟩=some (.bool false)) (xl1:Z1<wr.heap.size) (yf:wr.frozen? ⟨Z1,j,none⟩=false) (hfr:∀ u:World,Below wr.heap.size wr u→u.frozen? ⟨Z1,j,none⟩=false) (pl:w.heap.size<wr.heap.size) (tl:w.heap.size+1<wr.heap.size) (nl:b<wr.heap.size) (HS:Hid (∀ u:World,Below wr.heap.size wr u→u.cell? ⟨bb,oo+q,none⟩=some (.int .i64 (m:Int))∧u.cell? ⟨w.heap.size,0,none⟩=some (.int .i64 r)∧u.cell? ⟨w.heap.size,1,none⟩=some (.slice (some ⟨b,off,none⟩) ns.length cap)∧u.cell? ⟨w.heap.size+1,0,none⟩=some (.int .i64 t.op)∧u.cell? ⟨w.heap.size+1,1,none⟩=some (.int .i64 t.a)∧u.cell? ⟨w.heap.size+1,2,none⟩=some (.int .i64 t.b)∧u.cell? ⟨b,off+m*6,none⟩=some (.int .i64 xm.op)∧u.cell? ⟨b,off+m*6+1,none⟩=some (.int .i64 xm.d)∧u.cell? ⟨b,off+m*6+2,none⟩=some (.int .i64 xm.a)∧u.cell? ⟨b,off+m*6+3,none⟩=some (.int .i64 xm.b)∧u.cell? ⟨b,off+m*6+4,none⟩=some (.int .i64 xm.t)∧u.cell? ⟨b,off+m*6+5,none⟩=some (.int .i64 xm.e))) (HSet:Hid (∀ (u:World) (v:Value),u.cell? ⟨bb,oo+q,none⟩=some (.int .i64 (m:Int))∧u.cell? ⟨w.heap.size,0,none⟩=some (.int .i64 r)∧u.cell? ⟨w.heap.size,1,none⟩=some (.slice (some ⟨b,off,none⟩) ns.length cap)∧u.cell? ⟨w.heap.size+1,0,none⟩=some (.int .i64 t.op)∧u.cell? ⟨w.heap.size+1,1,none⟩=some (.int .i64 t.a)∧u.cell? ⟨w.heap.size+1,2,none⟩=some (.int .i64 t.b)∧u.cell? ⟨b,off+m*6,none⟩=some (.int .i64 xm.op)∧u.cell? ⟨b,off+m*6+1,none⟩=some (.int .i64 xm.d)∧u.cell? ⟨b,off+m*6+2,none⟩=some (.int .i64 xm.a)∧u.cell? ⟨b,off+m*6+3,none⟩=some (.int .i64 xm.b)∧u.cell? ⟨b,off+m*6+4,none⟩=some (.int .i64 xm.t)∧u.cell? ⟨b,off+m*6+5,none⟩=some (.int .i64 xm.e)→(u.setCell ⟨Z1,j,none⟩ v).cell? ⟨bb,oo+q,none⟩=some (.int .i64 (m:Int))∧(u.setCell ⟨Z1,j,none⟩ v).cell? ⟨w.heap.size,0,none⟩=some (.int .i64 r)∧(u.setCell ⟨Z1,j,none⟩ v).cell? ⟨w.heap.size,1,none⟩=some (.slice (some ⟨b,off,none⟩) ns.length cap)∧(u.setCell ⟨Z1,j,none⟩ v).cell? ⟨w.heap.size+1,0,none⟩=some (.int .i64 t.op)∧(u.setCell ⟨Z1,j,none⟩ v).cell? ⟨w.heap.size+1,1,none⟩=some (.int .i64 t.a)∧(u.setCell ⟨Z1,j,none⟩ v).cell? ⟨w.heap.size+1,2,none⟩=some (.int .i64 t.b)∧(u.setCell ⟨Z1,j,none⟩ v).cell? ⟨b,off+m*6,none⟩=some (.int .i64 xm.op)∧(u.setCell ⟨Z1,j,none⟩ v).cell? ⟨b,off+m*6+1,none⟩=some (.int .i64 xm.d)∧(u.setCell ⟨Z1,j,none⟩ v).cell? ⟨b,off+m*6+2,none⟩=some (.int .i64 xm.a)∧(u.setCell ⟨Z1,j,none⟩ v).cell? ⟨b,off+m*6+3,none⟩=some (.int .i64 xm.b)∧(u.setCell ⟨Z1,j,none⟩ v).cell? ⟨b,off+m*6+4,none⟩=some (.int .i64 xm.t)∧(u.setCell ⟨Z1,j,none⟩ v).cell? ⟨b,off+m*6+5,none⟩=some (.int .i64 xm.e))) (HKP:Hid (∀ U:World,Calls Tryz.prog 29 #[.agg #[.int .i64 xm.op,.int .i64 xm.d,.int .i64 xm.a,.int .i64 xm.b,.int .i64 xm.t,.int .i64 xm.e],.agg #[.int .i64 t.op,.int .i64 t.a,.int .i64 t.b]] U fun e w' =>e=.returned (.bool true)∧Below U.heap.size U w')) (HRC:Hid (∀ U:World,Calls Tryz.prog 27 #[.agg #[.int .i64 xm.op,.int .i64 xm.d,.int .i64 xm.a,.int .i64 xm.b,.int .i64 xm.t,.int .i64 xm.e],.agg #[.int .i64 t.op,.int .i64 t.a,.int .i64 t.b]] U fun e w' =>e=.returned (.bool RC)∧Below U.heap.size U w')) (g2:f 2=.pointer (some ⟨w.heap.size,0,none⟩)) (g3:f 3=.pointer (some ⟨w.heap.size+1,0,none⟩)) (g8:f 8=.slice (some ⟨Z1,0,none⟩) ns.length ns.length) (g22:f 22=.int .i64 j) (g23:f 23=.slice (some ⟨bb,oo,none⟩) l.length d) (g24:f 24=.int .i64 q) (hF:IsFr F) (hQp:∀ (d' :Tmp) (v:Value) c (a:Act) w,Q (.panic c) (a.put (some d') v) w→Q (.panic c) a w) (hend:∀ (g:Nat→Value) (w' :World),(∀ k,k<158∨198≤k→g k=f k)→Below wr.heap.size wr w' →Q .normal ⟨F g,[]⟩ (w'.setCell ⟨Z1,j,none⟩ (.bool RC))):Code.wp Tryz.prog (Code.region 34 ro34 true) Q ⟨F f,[]⟩ wr:=by
 delta ro34
 have hFg:=hF.get
 refine wp_region_held_drew (S:=(fun u=>u.cell? ⟨bb,oo+q,none⟩=some (.int .i64 (m:Int))∧u.cell? ⟨w.heap.size,0,none⟩=some (.int .i64 r)∧u.cell? ⟨w.heap.size,1,none⟩=some (.slice (some ⟨b,off,none⟩) ns.length cap)∧u.cell? ⟨w.heap.size+1,0,none⟩=some (.int .i64 t.op)∧u.cell? ⟨w.heap.size+1,1,none⟩=some (.int .i64 t.a)∧u.cell? ⟨w.heap.size+1,2,none⟩=some (.int .i64 t.b)∧u.cell? ⟨b,off+m*6,none⟩=some (.int .i64 xm.op)∧u.cell? ⟨b,off+m*6+1,none⟩=some (.int .i64 xm.d)∧u.cell? ⟨b,off+m*6+2,none⟩=some (.int .i64 xm.a)∧u.cell? ⟨b,off+m*6+3,none⟩=some (.int .i64 xm.b)∧u.cell? ⟨b,off+m*6+4,none⟩=some (.int .i64 xm.t)∧u.cell? ⟨b,off+m*6+5,none⟩=some (.int .i64 xm.e))) (by as_aux_lemma=>kernel_rfl) (by (try dsimp only);(first | (with_reducible refine HSet.out _ _ ?_;with_reducible refine HS.out _ ?_;first | with_reducible exact hB2 | with_reducible exact hB1 | with_reducible exact (Below.refl _ wr).drew | with_reducible exact (Below.refl _ wr)) | (with_reducible refine HS.out _ ?_;first | with_reducible exact hB2 | with_reducible exact hB1 | with_reducible exact (Below.refl _ wr).drew | with_reducible exact (Below.refl _ wr)) | exact HSet.out wr _ (HS.out wr (Below.refl _ wr)))) (fun hHeld=>?_)
 refine tfw 0 hF ?_
 iterate 4 refine tfv hF ?_
 refine tkr 5 (fun K hK=>?_)
 go_simp
 refine hK.out _ _ (by (try dsimp only);(first | (with_reducible refine HSet.out _ _ ?_;with_reducible refine HS.out _ ?_;first | with_reducible exact hB2 | with_reducible exact hB1 | with_reducible exact (Below.refl _ wr).drew | with_reducible exact (Below.refl _ wr)) | (with_reducible refine HS.out _ ?_;first | with_reducible exact hB2 | with_reducible exact hB1 | with_reducible exact (Below.refl _ wr).drew | with_reducible exact (Below.refl _ wr)) | exact HSet.out wr _ (HS.out wr (Below.refl _ wr)))) (fun hHeld=>?_)
 clear hK K
 (try simp only [Act.put,hF.set])
 iterate 10 refine tfv hF ?_
 refine tkr 16 (fun K hK=>?_)
 go_simp
 go_at_call 29;refine (HKP.out _).mono ?_;rintro e wa ⟨rfl,hba⟩;have hB1:Below wr.heap.size wr wa:=(by first | exact (Below.refl _ wr).drew.trans hba | exact hba);have xjwa:=(hB1.cell (p:=⟨Z1,j,none⟩) xl1).trans xj;have xmwa:=(hB1.cell (p:=⟨Z1,m,none⟩) xl1).trans xm0;have yfwa:=hfr wa hB1;have xlwa:=Nat.lt_of_lt_of_le xl1 hB1.size;(try go_wp2_with fail)
 refine hK.out _ _ (by (try dsimp only);(first | (with_reducible refine HSet.out _ _ ?_;with_reducible refine HS.out _ ?_;first | with_reducible exact hB2 | with_reducible exact hB1 | with_reducible exact (Below.refl _ wr).drew | with_reducible exact (Below.refl _ wr)) | (with_reducible refine HS.out _ ?_;first | with_reducible exact hB2 | with_reducible exact hB1 | with_reducible exact (Below.refl _ wr).drew | with_reducible exact (Below.refl _ wr)) | exact HSet.out wr _ (HS.out wr (Below.refl _ wr)))) (fun hHeld=>?_)
 clear hK K
 (try simp only [Act.put,hF.set])
 iterate 8 refine tfv hF ?_
 refine tkr 25 (fun K hK=>?_)
 go_simp
 refine hK.out _ _ (by (try dsimp only);(first | (with_reducible refine HSet.out _ _ ?_;with_reducible refine HS.out _ ?_;first | with_reducible exact hB2 | with_reducible exact hB1 | with_reducible exact (Below.refl _ wr).drew | with_reducible exact (Below.refl _ wr)) | (with_reducible refine HS.out _ ?_;first | with_reducible exact hB2 | with_reducible exact hB1 | with_reducible exact (Below.refl _ wr).drew | with_reducible exact (Below.refl _ wr)) | exact HSet.out wr _ (HS.out wr (Below.refl _ wr)))) (fun hHeld=>?_)
 clear hK K
 (try simp only [Act.put,hF.set])
 iterate 10 refine tfv hF ?_
 refine tkr 36 (fun K hK=>?_)
 go_simp
 go_at_call 27;refine (HRC.out _).mono ?_;rintro e wb ⟨rfl,hbb⟩;have hB2:Below wr.heap.size wr wb:=hB1.trans (hbb.mono hB1.size);have xjwb:=(hB2.cell (p:=⟨Z1,j,none⟩) xl1).trans xj;have xmwb:=(hB2.cell (p:=⟨Z1,m,none⟩) xl1).trans xm0;have yfwb:=hfr wb hB2;have xlwb:=Nat.lt_of_lt_of_le xl1 hB2.size;(try go_wp2_with fail)
 refine hK.out _ _ (by (try dsimp only);(first | (with_reducible refine HSet.out _ _ ?_;with_reducible refine HS.out _ ?_;first | with_reducible exact hB2 | with_reducible exact hB1 | with_reducible exact (Below.refl _ wr).drew | with_reducible exact (Below.refl _ wr)) | (with_reducible refine HS.out _ ?_;first | with_reducible exact hB2 | with_reducible exact hB1 | with_reducible exact (Below.refl _ wr).drew | with_reducible exact (Below.refl _ wr)) | exact HSet.out wr _ (HS.out wr (Below.refl _ wr)))) (fun hHeld=>?_)
 clear hK K
 (try simp only [Act.put,hF.set])
 iterate 3 refine tfv hF ?_
 refine tkr 40 (fun K hK=>?_)
 go_simp
 refine hK.out _ _ (by (try dsimp only);(first | (with_reducible refine HSet.out _ _ ?_;with_reducible refine HS.out _ ?_;first | with_reducible exact hB2 | with_reducible exact hB1 | with_reducible exact (Below.refl _ wr).drew | with_reducible exact (Below.refl _ wr)) | (with_reducible refine HS.out _ ?_;first | with_reducible exact hB2 | with_reducible exact hB1 | with_reducible exact (Below.refl _ wr).drew | with_reducible exact (Below.refl _ wr)) | exact HSet.out wr _ (HS.out wr (Below.refl _ wr)))) (fun hHeld=>?_)
 clear hK K
 (try simp only [Act.put,hF.set])
 refine wpAnyH_done (by as_aux_lemma=>kernel_rfl) ?_ _
 exact hend _ _ (fun k hk=>by repeat rw [upd_ne _ _ _ _ (by omega)]) (hB2)
set_option maxRecDepth 100000 in
theorem reg34_4 {w wr:World} {r:Int} {b off cap:Nat} {ns:List Nd} {t:Tm} {m j q:Nat} {xm:Nd} {l:List Nat} {bb oo d:Nat} {Z1:Nat} {F:(Nat→Value)→Array Value} {f:Nat→Value} {Q:Exit→Act→World→Prop} (hqi:(q:Int)<(l.length:Int)) (hmi:(m:Int)<(ns.length:Int)) (hji:(j:Int)<(ns.length:Int)) (bl:bb<wr.heap.size) (hz:wr.cell? ⟨bb,oo+q,none⟩=some (.int .i64 (m:Int))) (xj:wr.cell? ⟨Z1,j,none⟩=some (.bool true)) (xm0:wr.cell? ⟨Z1,m,none⟩=some (.bool true)) (xl1:Z1<wr.heap.size) (yf:wr.frozen? ⟨Z1,j,none⟩=false) (hfr:∀ u:World,Below wr.heap.size wr u→u.frozen? ⟨Z1,j,none⟩=false) (pl:w.heap.size<wr.heap.size) (tl:w.heap.size+1<wr.heap.size) (nl:b<wr.heap.size) (HS:Hid (∀ u:World,Below wr.heap.size wr u→u.cell? ⟨bb,oo+q,none⟩=some (.int .i64 (m:Int))∧u.cell? ⟨w.heap.size,0,none⟩=some (.int .i64 r)∧u.cell? ⟨w.heap.size,1,none⟩=some (.slice (some ⟨b,off,none⟩) ns.length cap)∧u.cell? ⟨w.heap.size+1,0,none⟩=some (.int .i64 t.op)∧u.cell? ⟨w.heap.size+1,1,none⟩=some (.int .i64 t.a)∧u.cell? ⟨w.heap.size+1,2,none⟩=some (.int .i64 t.b)∧u.cell? ⟨b,off+m*6,none⟩=some (.int .i64 xm.op)∧u.cell? ⟨b,off+m*6+1,none⟩=some (.int .i64 xm.d)∧u.cell? ⟨b,off+m*6+2,none⟩=some (.int .i64 xm.a)∧u.cell? ⟨b,off+m*6+3,none⟩=some (.int .i64 xm.b)∧u.cell? ⟨b,off+m*6+4,none⟩=some (.int .i64 xm.t)∧u.cell? ⟨b,off+m*6+5,none⟩=some (.int .i64 xm.e))) (HSet:Hid (∀ (u:World) (v:Value),u.cell? ⟨bb,oo+q,none⟩=some (.int .i64 (m:Int))∧u.cell? ⟨w.heap.size,0,none⟩=some (.int .i64 r)∧u.cell? ⟨w.heap.size,1,none⟩=some (.slice (some ⟨b,off,none⟩) ns.length cap)∧u.cell? ⟨w.heap.size+1,0,none⟩=some (.int .i64 t.op)∧u.cell? ⟨w.heap.size+1,1,none⟩=some (.int .i64 t.a)∧u.cell? ⟨w.heap.size+1,2,none⟩=some (.int .i64 t.b)∧u.cell? ⟨b,off+m*6,none⟩=some (.int .i64 xm.op)∧u.cell? ⟨b,off+m*6+1,none⟩=some (.int .i64 xm.d)∧u.cell? ⟨b,off+m*6+2,none⟩=some (.int .i64 xm.a)∧u.cell? ⟨b,off+m*6+3,none⟩=some (.int .i64 xm.b)∧u.cell? ⟨b,off+m*6+4,none⟩=some (.int .i64 xm.t)∧u.cell? ⟨b,off+m*6+5,none⟩=some (.int .i64 xm.e)→(u.setCell ⟨Z1,j,none⟩ v).cell? ⟨bb,oo+q,none⟩=some (.int .i64 (m:Int))∧(u.setCell ⟨Z1,j,none⟩ v).cell? ⟨w.heap.size,0,none⟩=some (.int .i64 r)∧(u.setCell ⟨Z1,j,none⟩ v).cell? ⟨w.heap.size,1,none⟩=some (.slice (some ⟨b,off,none⟩) ns.length cap)∧(u.setCell ⟨Z1,j,none⟩ v).cell? ⟨w.heap.size+1,0,none⟩=some (.int .i64 t.op)∧(u.setCell ⟨Z1,j,none⟩ v).cell? ⟨w.heap.size+1,1,none⟩=some (.int .i64 t.a)∧(u.setCell ⟨Z1,j,none⟩ v).cell? ⟨w.heap.size+1,2,none⟩=some (.int .i64 t.b)∧(u.setCell ⟨Z1,j,none⟩ v).cell? ⟨b,off+m*6,none⟩=some (.int .i64 xm.op)∧(u.setCell ⟨Z1,j,none⟩ v).cell? ⟨b,off+m*6+1,none⟩=some (.int .i64 xm.d)∧(u.setCell ⟨Z1,j,none⟩ v).cell? ⟨b,off+m*6+2,none⟩=some (.int .i64 xm.a)∧(u.setCell ⟨Z1,j,none⟩ v).cell? ⟨b,off+m*6+3,none⟩=some (.int .i64 xm.b)∧(u.setCell ⟨Z1,j,none⟩ v).cell? ⟨b,off+m*6+4,none⟩=some (.int .i64 xm.t)∧(u.setCell ⟨Z1,j,none⟩ v).cell? ⟨b,off+m*6+5,none⟩=some (.int .i64 xm.e))) (HKP:Hid (∀ U:World,Calls Tryz.prog 29 #[.agg #[.int .i64 xm.op,.int .i64 xm.d,.int .i64 xm.a,.int .i64 xm.b,.int .i64 xm.t,.int .i64 xm.e],.agg #[.int .i64 t.op,.int .i64 t.a,.int .i64 t.b]] U fun e w' =>e=.returned (.bool true)∧Below U.heap.size U w')) (g2:f 2=.pointer (some ⟨w.heap.size,0,none⟩)) (g3:f 3=.pointer (some ⟨w.heap.size+1,0,none⟩)) (g8:f 8=.slice (some ⟨Z1,0,none⟩) ns.length ns.length) (g22:f 22=.int .i64 j) (g23:f 23=.slice (some ⟨bb,oo,none⟩) l.length d) (g24:f 24=.int .i64 q) (hF:IsFr F) (hQp:∀ (d' :Tmp) (v:Value) c (a:Act) w,Q (.panic c) (a.put (some d') v) w→Q (.panic c) a w) (hend:∀ (g:Nat→Value) (w' :World),(∀ k,k<158∨198≤k→g k=f k)→Below wr.heap.size wr w' →Q .normal ⟨F g,[]⟩ (w'.setCell ⟨Z1,j,none⟩ (.bool true))):Code.wp Tryz.prog (Code.region 34 ro34 true) Q ⟨F f,[]⟩ wr:=by
 delta ro34
 have hFg:=hF.get
 refine wp_region_held_drew (S:=(fun u=>u.cell? ⟨bb,oo+q,none⟩=some (.int .i64 (m:Int))∧u.cell? ⟨w.heap.size,0,none⟩=some (.int .i64 r)∧u.cell? ⟨w.heap.size,1,none⟩=some (.slice (some ⟨b,off,none⟩) ns.length cap)∧u.cell? ⟨w.heap.size+1,0,none⟩=some (.int .i64 t.op)∧u.cell? ⟨w.heap.size+1,1,none⟩=some (.int .i64 t.a)∧u.cell? ⟨w.heap.size+1,2,none⟩=some (.int .i64 t.b)∧u.cell? ⟨b,off+m*6,none⟩=some (.int .i64 xm.op)∧u.cell? ⟨b,off+m*6+1,none⟩=some (.int .i64 xm.d)∧u.cell? ⟨b,off+m*6+2,none⟩=some (.int .i64 xm.a)∧u.cell? ⟨b,off+m*6+3,none⟩=some (.int .i64 xm.b)∧u.cell? ⟨b,off+m*6+4,none⟩=some (.int .i64 xm.t)∧u.cell? ⟨b,off+m*6+5,none⟩=some (.int .i64 xm.e))) (by as_aux_lemma=>kernel_rfl) (by (try dsimp only);(first | (with_reducible refine HSet.out _ _ ?_;with_reducible refine HS.out _ ?_;first | with_reducible exact hB2 | with_reducible exact hB1 | with_reducible exact (Below.refl _ wr).drew | with_reducible exact (Below.refl _ wr)) | (with_reducible refine HS.out _ ?_;first | with_reducible exact hB2 | with_reducible exact hB1 | with_reducible exact (Below.refl _ wr).drew | with_reducible exact (Below.refl _ wr)) | exact HSet.out wr _ (HS.out wr (Below.refl _ wr)))) (fun hHeld=>?_)
 refine tfw 0 hF ?_
 iterate 4 refine tfv hF ?_
 refine tkr 5 (fun K hK=>?_)
 go_simp
 refine hK.out _ _ (by (try dsimp only);(first | (with_reducible refine HSet.out _ _ ?_;with_reducible refine HS.out _ ?_;first | with_reducible exact hB2 | with_reducible exact hB1 | with_reducible exact (Below.refl _ wr).drew | with_reducible exact (Below.refl _ wr)) | (with_reducible refine HS.out _ ?_;first | with_reducible exact hB2 | with_reducible exact hB1 | with_reducible exact (Below.refl _ wr).drew | with_reducible exact (Below.refl _ wr)) | exact HSet.out wr _ (HS.out wr (Below.refl _ wr)))) (fun hHeld=>?_)
 clear hK K
 (try simp only [Act.put,hF.set])
 iterate 10 refine tfv hF ?_
 refine tkr 16 (fun K hK=>?_)
 go_simp
 go_at_call 29;refine (HKP.out _).mono ?_;rintro e wa ⟨rfl,hba⟩;have hB1:Below wr.heap.size wr wa:=(by first | exact (Below.refl _ wr).drew.trans hba | exact hba);have xjwa:=(hB1.cell (p:=⟨Z1,j,none⟩) xl1).trans xj;have xmwa:=(hB1.cell (p:=⟨Z1,m,none⟩) xl1).trans xm0;have yfwa:=hfr wa hB1;have xlwa:=Nat.lt_of_lt_of_le xl1 hB1.size;(try go_wp2_with fail)
 refine hK.out _ _ (by (try dsimp only);(first | (with_reducible refine HSet.out _ _ ?_;with_reducible refine HS.out _ ?_;first | with_reducible exact hB2 | with_reducible exact hB1 | with_reducible exact (Below.refl _ wr).drew | with_reducible exact (Below.refl _ wr)) | (with_reducible refine HS.out _ ?_;first | with_reducible exact hB2 | with_reducible exact hB1 | with_reducible exact (Below.refl _ wr).drew | with_reducible exact (Below.refl _ wr)) | exact HSet.out wr _ (HS.out wr (Below.refl _ wr)))) (fun hHeld=>?_)
 clear hK K
 (try simp only [Act.put,hF.set])
 iterate 8 refine tfv hF ?_
 refine tkr 25 (fun K hK=>?_)
 go_simp
 refine hK.out _ _ (by (try dsimp only);(first | (with_reducible refine HSet.out _ _ ?_;with_reducible refine HS.out _ ?_;first | with_reducible exact hB2 | with_reducible exact hB1 | with_reducible exact (Below.refl _ wr).drew | with_reducible exact (Below.refl _ wr)) | (with_reducible refine HS.out _ ?_;first | with_reducible exact hB2 | with_reducible exact hB1 | with_reducible exact (Below.refl _ wr).drew | with_reducible exact (Below.refl _ wr)) | exact HSet.out wr _ (HS.out wr (Below.refl _ wr)))) (fun hHeld=>?_)
 clear hK K
 (try simp only [Act.put,hF.set])
 refine tfv hF ?_
 iterate 10 refine tfu hF ?_
 iterate 3 refine tfv hF ?_
 refine tkr 40 (fun K hK=>?_)
 go_simp
 refine hK.out _ _ (by (try dsimp only);(first | (with_reducible refine HSet.out _ _ ?_;with_reducible refine HS.out _ ?_;first | with_reducible exact hB2 | with_reducible exact hB1 | with_reducible exact (Below.refl _ wr).drew | with_reducible exact (Below.refl _ wr)) | (with_reducible refine HS.out _ ?_;first | with_reducible exact hB2 | with_reducible exact hB1 | with_reducible exact (Below.refl _ wr).drew | with_reducible exact (Below.refl _ wr)) | exact HSet.out wr _ (HS.out wr (Below.refl _ wr)))) (fun hHeld=>?_)
 clear hK K
 (try simp only [Act.put,hF.set])
 refine wpAnyH_done (by as_aux_lemma=>kernel_rfl) ?_ _
 exact hend _ _ (fun k hk=>by repeat rw [upd_ne _ _ _ _ (by omega)]) (hB1)
end Go.Proofs.YtnbdnbcnlgnicaaGreat
