/-
  Of the proof of WholePasses: PH, HC, PI, HF, HG, PJ, L, PK.
-/
import Derived.Test.YtegloodcbfalfaaGreatDoorW1
import Derived.Test.YtegloodcbfalfaaGreatDoorW6
import Derived.Test.YtegloodcbfalfaaGreatDoorW7
import Derived.Test.YtegloodcbfalfaaGreatDoorW11
import Derived.Laws.StructEq
set_option linter.unusedVariables false
set_option linter.unusedSimpArgs false
set_option maxHeartbeats 40000000
set_option maxRecDepth 100000
namespace Go.Proofs.YtegloodcbfalfaaGreatDoor
open Go.RowKit Go.Shelf
theorem aVI (r:Int) (a:Option Addr) (cap:Nat) (ns:List Nd) (t:Tm) (pa ta:Option Addr) (k pc m tc:Nat) (w:World) (hN:pI w a ns) (hc:iP r ns t≠0) :
 Calls Tryz.prog 103 #[.agg #[.int .i64 r,.slice a ns.length cap],.agg #[.int .i64 t.op,.int .i64 t.a,.int .i64 t.b],.agg #[.slice pa k pc,.slice ta m tc]] w fun e w' =>e=.returned (.tuple #[.agg #[.int .i64 0,.slice none 0 0],.int .i64 (iP r ns t)])∧Below w.heap.size w w' :=by
 have HOF:=aB (fun W (h:Below w.heap.size w W)=>WZ r a cap ns t W (hN.below h) hc)
 have hCb:(iP r ns t==0)=false:=by simp [hc]
 have hCn:(iP r ns t != 0)=true:=by simp [hc]
 clear hc hN
 generalize iP r ns t=C at *
 obtain ⟨W,jU,hbA,p0,p1,p2,p3⟩:=bx4 w (.cells #[.int .i64 r,.slice a ns.length cap] 24) (.cells #[.int .i64 t.op,.int .i64 t.a,.int .i64 t.b] 59) (.cells #[.slice pa k pc,.slice ta m tc] 126) (.cells #[.int .i64 0,.slice none 0 0] 24)
 go_enter Tryz.func103,Tryz.ntmps103
 go_upto_region 1 with fail
 rw [jU.out]
 clear jU
 try rw [show w.heap.size+1+1=w.heap.size+2 from rfl]
 try rw [show w.heap.size+2+1=w.heap.size+3 from rfl]
 have q0:=aA p0 0
 have q1:=aA p0 1
 simp at q0 q1
 have t0:=aA p1 0
 have t1:=aA p1 1
 have t2:=aA p1 2
 simp at t0 t1 t2
 have pl:=aD p0
 have tl:=aD p1
 have HB:=aB hbA
 have HR:=aB p3
 clear hbA p0 p1 p2 p3
 go_wp2_with fail
 refine (HOF.out _ HB.out).mono ?_
 rintro e w1 ⟨rfl,hb1⟩
 have hR:=bP hb1 HR.out
 have y0:=aA hR 0
 have y1:=aA hR 1
 simp at y0 y1
 have z0:=aC hR 0
 have z1:=aC hR 1
 have ylt:=aD hR
 have HR1:=aB hR
 have HB1:=aB (bG HB.out hb1)
 clear hR hb1 q0 q1 t0 t1 t2 pl tl HB HR HOF
 go_wp2
 have hk0:=bQ (v0:=.int .i64 0) (v1:=.slice none 0 0) HR1.out
 have hB5:=aW (v0:=.int .i64 0) (v1:=.slice none 0 0) HB1.out (B:=w.heap.size+3) aF
 have hk:=(Below.heap_alloc _ (.cells #[.slice none 0 0,.slice none 0 0,.slice none 0 0,.slice none 0 0,.slice none 0 0,.slice none 0 0] 159) _ (aD hk0)).trans hk0
 have k0:=aA hk 0
 have k1:=aA hk 1
 simp at k0 k1
 exact bodyPost_ret (v:=.tuple #[.agg #[.int .i64 0,.slice none 0 0],.int .i64 C]) (by simp [results,Tryz.results103,go_sem,k0,k1]) rfl ⟨rfl,hB5.alloc hB5.size _⟩
theorem XW (r:Int) (b off cap:Nat) (ns:List Nd) (t:Tm) (pa ta:Option Addr) (pc tc:Nat) (put tak:List Bool) (w:World) (hN:aH w b off ns) (hc:iP r ns t=0) (e1:put.length=ns.length) (e2:tak.length=ns.length) (hp:aJ w pa put) (ht:aJ w ta tak) (hTk:vU ns t tak) :
 Calls Tryz.prog 103 #[.agg #[.int .i64 r,.slice (some ⟨b,off,none⟩) ns.length cap],.agg #[.int .i64 t.op,.int .i64 t.a,.int .i64 t.b],.agg #[.slice pa ns.length pc,.slice ta ns.length tc]] w fun e w' =>((256<(qJ ns t put tak r).length∨63<r)∧e=.returned (.tuple #[.agg #[.int .i64 0,.slice none 0 0],.int .i64 2])∨((qJ ns t put tak r).length≤256∧r≤63)∧∃ gb gc,e=.returned (.tuple #[.agg #[.int .i64 (r+1),.slice (some ⟨gb,0,none⟩) (qJ ns t put tak r).length gc],.int .i64 0])∧w'.ownsRow w.heap.size 42 6 (.slice (some ⟨gb,0,none⟩) (qJ ns t put tak r).length gc) (qJ ns t put tak r).length ((qJ ns t put tak r).flatMap aP))∧Below w.heap.size w w' :=by
 obtain ⟨hcr,hto,_⟩:=qG hc
 have hl:=(bE hcr).1
 have hrb:0≤r∧r≤64:=by have:=bE hcr;omega
 have HFT:=aB (fun W (h:Below w.heap.size w W)=>aOM r b off cap ns t pa ta pc tc put tak W (hN.below h hN.lt) aF hto e1 e2 (ht.below h) hTk)
 rw [e1,e2] at HFT
 have HWT:=aB (fun W (h:Below w.heap.size w W)=>JK b off cap ns ta tc tak r W (hN.below h hN.lt) aF (ht.below h) e2)
 have HWP:=aB (fun (U:World) (hU:Below w.heap.size w U) (g0 cap0:Nat) (W:World) (h:Below U.heap.size U W) (hO:W.ownsRow U.heap.size 42 6 (.slice (some ⟨g0,0,none⟩) ns.length cap0) ns.length (((List.range ns.length).map (uW ns tak r)).flatMap aP))=>XU g0 cap0 ns pa pc put tak t r U W h hO aF (hp.below hU) e1)
 have VX:Hid ((qJ ns t put tak r).length≤512):=by have h1:=fM ns t put tak r ns.length;have h2:=mX put ns.length;rw [Hid,qJ,h1];omega
 have HOF:=aB (fun W (h:Below w.heap.size w W)=>XC r b off cap ns t W (hN.below h hN.lt) hc)
 obtain ⟨W,zW,hbA,p0,p1,p2,p3⟩:=bx4 w (.cells #[.int .i64 r,.slice (some ⟨b,off,none⟩) ns.length cap] 24) (.cells #[.int .i64 t.op,.int .i64 t.a,.int .i64 t.b] 59) (.cells #[.slice pa ns.length pc,.slice ta ns.length tc] 126) (.cells #[.int .i64 0,.slice none 0 0] 24)
 go_enter Tryz.func103,Tryz.ntmps103
 go_upto_region 1 with fail
 rw [zW.out]
 clear zW
 try rw [show w.heap.size+1+1=w.heap.size+2 from rfl]
 try rw [show w.heap.size+2+1=w.heap.size+3 from rfl]
 have q0:=aA p0 0
 have q1:=aA p0 1
 simp at q0 q1
 have t0:=aA p1 0
 have t1:=aA p1 1
 have t2:=aA p1 2
 simp at t0 t1 t2
 have pl:=aD p0
 have tl:=aD p1
 have HB:=aB hbA
 have HP:=aB p0
 have HT:=aB p1
 have HU:=aB p2
 have HR:=aB p3
 clear hbA p0 p1 p2 p3
 go_wp2_with fail
 refine (HOF.out _ HB.out).mono ?_
 rintro e w1 ⟨a0,a1,a2,a3,a4,a5,c0,c1,c2,c3,c4,c5,rfl,_,hb1⟩
 obtain ⟨V,HV5,hbF,-⟩:=bx1 w1 (.cells #[.slice a0 ns.length c0,.slice a1 ns.length c1,.slice a2 ns.length c2,.slice a3 ns.length c3,.slice a4 ns.length c4,.slice a5 ns.length c5] 159)
 have iX:=aB (bG hb1 hbF)
 have HB2:=aB (bG HB.out iX.out)
 have hP:=(iX.out.block _ pl).trans HP.out
 have hT:=(iX.out.block _ tl).trans HT.out
 have hU:=bP iX.out HU.out
 have hR:=bP iX.out HR.out
 clear hb1 q0 q1 t0 t1 t2 pl tl HB HR HP HT HU HOF iX
 go_upto_region 4 with fail
 rw [HV5.out]
 clear HV5
 generalize w1.heap.size=FB at *
 clear hbF
 have q0:=aA hP 0
 have q1:=aA hP 1
 simp at q0 q1
 have t0:=aA hT 0
 have t1:=aA hT 1
 have t2:=aA hT 2
 simp at t0 t1 t2
 have u0:=aA hU 0
 have u1:=aA hU 1
 simp at u0 u1
 have pl:=aD hP
 have tl:=aD hT
 have ul:=aD hU
 have HP:=aB hP
 have HT:=aB hT
 have HU:=aB hU
 have HR:=aB hR
 clear hP hT hU hR
 clear hp ht hTk e1 e2 hto hcr hc hN
 go_wp2_with fail
 refine (HFT.out _ HB2.out).mono ?_
 rintro e w2 ⟨rfl,hb2⟩
 have hP:=(hb2.block _ pl).trans HP.out
 have hT:=(hb2.block _ tl).trans HT.out
 have hU:=(hb2.block _ ul).trans HU.out
 have HR2:=aB (bP hb2 HR.out)
 have HB3:=aB (bG HB2.out hb2)
 clear q0 q1 t0 t1 t2 u0 u1 pl tl ul HP HT HU HR HB2 hb2 HFT
 have q0:=aA hP 0
 have q1:=aA hP 1
 simp at q0 q1
 have pl:=aD hP
 go_upto_region 7 with fail
 have tl:=aD hT
 have ul:=aD hU
 have HH:Hid (∀ u:World,Below w2.heap.size w2 u→u.cell? ⟨w.heap.size,0,none⟩=some (.int .i64 r)∧u.cell? ⟨w.heap.size,1,none⟩=some (.slice (some ⟨b,off,none⟩) ns.length cap)∧u.cell? ⟨w.heap.size+1,0,none⟩=some (.int .i64 t.op)∧u.cell? ⟨w.heap.size+1,1,none⟩=some (.int .i64 t.a)∧u.cell? ⟨w.heap.size+1,2,none⟩=some (.int .i64 t.b)∧u.cell? ⟨w.heap.size+2,0,none⟩=some (.slice pa ns.length pc)∧u.cell? ⟨w.heap.size+2,1,none⟩=some (.slice ta ns.length tc)):=fun u h=>by
  have k1:=(h.block _ pl).trans hP
  have k2:=(h.block _ tl).trans hT
  have k3:=(h.block _ ul).trans hU
  refine ⟨?_,?_,?_,?_,?_,?_,?_⟩
  ·rw [aA k1];rfl
  ·rw [aA k1];rfl
  ·rw [aA k2];rfl
  ·rw [aA k2];rfl
  ·rw [aA k2];rfl
  ·rw [aA k3];rfl
  ·rw [aA k3];rfl
 clear hP hT hU q0 q1
 go_region_held3 (fun u=>u.cell? ⟨w.heap.size,0,none⟩=some (.int .i64 r)∧u.cell? ⟨w.heap.size,1,none⟩=some (.slice (some ⟨b,off,none⟩) ns.length cap)∧u.cell? ⟨w.heap.size+1,0,none⟩=some (.int .i64 t.op)∧u.cell? ⟨w.heap.size+1,1,none⟩=some (.int .i64 t.a)∧u.cell? ⟨w.heap.size+1,2,none⟩=some (.int .i64 t.b)∧u.cell? ⟨w.heap.size+2,0,none⟩=some (.slice pa ns.length pc)∧u.cell? ⟨w.heap.size+2,1,none⟩=some (.slice ta ns.length tc)) (with_reducible refine HH.out _ ?_;first | with_reducible exact hB5 | with_reducible exact hB4 | with_reducible exact (Below.refl _ w2).drew | with_reducible exact (Below.refl _ w2)) (first
  | (go_at_call 132;refine (HWP.out w2 HB3.out _ _ _ hB4 hV).mono ?_;rintro e w5 ⟨gb,gc,rfl,hV5,hB5⟩)
  | (go_at_call 133;refine (HWT.out _ (by first | exact HB3.out.trans ((Below.refl _ w2).drew.mono HB3.out.size) | exact HB3.out)).mono ?_;rintro e w4 ⟨cb,cc,rfl,hV,hb4⟩;have hB4:Below w2.heap.size w2 w4:=(by first | exact (Below.refl _ w2).drew.trans hb4 | exact hb4)))
 all_goals have BQ:=bP hB5 HR2.out
 all_goals have y0:=aA BQ 0
 all_goals have y1:=aA BQ 1
 all_goals simp at y0 y1
 all_goals have z0:=aC BQ 0
 all_goals have z1:=aC BQ 1
 all_goals have ylt:=aD BQ
 all_goals have HR5:=aB BQ
 all_goals have HV5:=aB (aK hV5 (base' :=w.heap.size) HB3.out.size)
 all_goals have AL:=aB (bG HB3.out hB5)
 all_goals clear BQ hV5 hV hb4 hB4 hB5 HH pl tl ul
 all_goals generalize hL:(qJ ns t put tak r).length=L at VX HV5 ⊢
 all_goals have hLi:L≤512:=VX.out
 all_goals have HL:=aB hL
 all_goals clear hL
 all_goals by_cases h256:256<L
 ·have a3T:(256:Int)<(L:Int):=by omega
  go_wp2
  have hk:=bQ (v0:=.int .i64 0) (v1:=.slice none 0 0) HR5.out
  have k0:=aA hk 0
  have k1:=aA hk 1
  simp at k0 k1
  exact bodyPost_ret (v:=.tuple #[.agg #[.int .i64 0,.slice none 0 0],.int .i64 2]) (by simp [results,Tryz.results103,go_sem,k0,k1]) rfl ⟨Or.inl ⟨Or.inl (by rw [HL.out];exact h256),rfl⟩,aW AL.out aF⟩
 ·have a3T:¬ (256:Int)<(L:Int):=by omega
  by_cases h64:64<r+1
  ·go_wp2
   have hk:=bQ (v0:=.int .i64 0) (v1:=.slice none 0 0) HR5.out
   have k0:=aA hk 0
   have k1:=aA hk 1
   simp at k0 k1
   exact bodyPost_ret (v:=.tuple #[.agg #[.int .i64 0,.slice none 0 0],.int .i64 2]) (by simp [results,Tryz.results103,go_sem,k0,k1]) rfl ⟨Or.inl ⟨Or.inr aF,rfl⟩,aW AL.out aF⟩
  ·go_wp2
   have hk:=bQ (v0:=.int .i64 (r+1)) (v1:=.slice (some ⟨gb,0,none⟩) L gc) HR5.out
   have k0:=aA hk 0
   have k1:=aA hk 1
   simp at k0 k1
   exact bodyPost_ret (v:=.tuple #[.agg #[.int .i64 (r+1),.slice (some ⟨gb,0,none⟩) L gc],.int .i64 0]) (by simp [results,Tryz.results103,go_sem,k0,k1]) rfl ⟨Or.inr ⟨⟨by rw [HL.out];omega,aF⟩,gb,gc,by rw [HL.out],by rw [HL.out];exact aI (o:=1) (u:=.slice (some ⟨gb,0,none⟩) L gc) (aI (o:=0) (u:=.int .i64 (r+1)) HV5.out HR5.out aL) (aG (i:=0) (.int .i64 (r+1)) HR5.out) aL⟩,aW AL.out aF⟩
end Go.Proofs.YtegloodcbfalfaaGreatDoor
namespace Go.Proofs.YtegloodcbfalfaaGreatDoor
def aS (ns:List Nd):List Nd:=splitN (cB ns)
def rW (ns:List Nd) (t:Tm):Bool:=(bK (aS ns) t).any id||(aZ (aS ns) t).any id
def iG (ns:List Nd) (t:Tm) (r:Int):List Nd:=if rW ns t then qJ (aS ns) t (bK (aS ns) t) (aZ (aS ns) t) r else ns
def kU (ns:List Nd) (t:Tm) (r:Int):Int:=if rW ns t then r+1 else r
theorem tN (ns:List Nd) (t:Tm):vU ns t (aZ ns t):=fun n hn h=>by
 have ht:aM (aZ ns t) n=(aM (nC ns t) n&&!(aM (dI ns t) n&&aM (fA ns t) n)):=by unfold aZ;rw [mM _ hn]
 rw [ht,aSO hn] at h
 simp only [Bool.and_eq_true] at h
 exact h.1
theorem aTC {r:Int} {ns:List Nd} (hc:bM r ns=0) {t:Tm} (ht:JJ r t) (hl:(aS ns).length≤256) (h1:(iG ns t r).length≤256) (h2:kU ns t r≤64):bM (kU ns t r) (iG ns t r)=0:=by
 have hcs:=iI (fC hc) hl
 unfold iG kU at *
 split
 ·rename_i hb
  rw [if_pos hb] at h1 h2
  exact aYB hcs ht (tN _ t) h1 h2
 ·exact hc
end Go.Proofs.YtegloodcbfalfaaGreatDoor
namespace Go.Proofs.YtegloodcbfalfaaGreatDoor
open Go.RowKit Go.Shelf
theorem aH.iE {w:World} {b off B o:Nat} {ns:List Nd} {v:Value} (h:aH w b off ns) (hne:b≠B):aH (w.setCell ⟨B,o,none⟩ v) b off ns:=by
 have e:∀ k,(w.setCell ⟨B,o,none⟩ v).cell? ⟨b,k,none⟩=w.cell? ⟨b,k,none⟩:=fun k=>World.cell?_of_block (bJ hne _ _)
 exact ⟨by simpa using h.lt,fun i x hx=>(e _).trans (h.c0 i x hx),fun i x hx=>(e _).trans (h.c1 i x hx),fun i x hx=>(e _).trans (h.c2 i x hx),fun i x hx=>(e _).trans (h.c3 i x hx),fun i x hx=>(e _).trans (h.c4 i x hx),fun i x hx=>(e _).trans (h.c5 i x hx)⟩
theorem vW (r:Int) (b off cap:Nat) (ns:List Nd) (w:World) (hN:aH w b off ns) (hc:bM r ns=0) (hl:(splitN ns).length≤256) :
 Calls Tryz.prog 36 #[.agg #[.int .i64 r,.slice (some ⟨b,off,none⟩) ns.length cap]] w fun e w' =>∃ tb tq tc,e=.returned (.tuple #[.agg #[.int .i64 r,.slice (some ⟨tb,tq,none⟩) (splitN ns).length tc],.int .i64 0])∧aH w' tb tq (splitN ns)∧w.heap.size≤tb∧Below w.heap.size w w' :=by
 refine (callsIn_wide.1 (EP r b off cap ns w hN hc)).mono ?_
 rintro e w' ⟨v1,v2,er,rfl,h,hB⟩
 rcases h with ⟨_,rfl,rfl,hv⟩ | ⟨h,_⟩
 ·obtain ⟨ta,tc,rfl,hs⟩:=lI hv
  obtain ⟨tb,tq,rfl,hn⟩:=hs.some (bB (iI hc hl)).1.1
  rcases hv.2 with ⟨q,_⟩ | ⟨g', c,cur,q,a1,a2,_⟩
  ·cases q
  ·cases q;exact ⟨tb,0,tc,rfl,hn,a1,hB⟩
 ·omega
theorem aHY (r:Int) (a:Option Addr) (cap:Nat) (ns:List Nd) (t:Tm) (w:World) (hN:pI w a ns) (hc:bM r ns≠0) :
 Calls Tryz.prog 65 #[.agg #[.int .i64 r,.slice a ns.length cap],.agg #[.int .i64 t.op,.int .i64 t.a,.int .i64 t.b]] w fun e w' =>e=.returned (.tuple #[.agg #[.int .i64 0,.slice none 0 0],.int .i64 (bM r ns)])∧Below w.heap.size w w' :=by
 have IW:=aB (fun W (h:Below w.heap.size w W)=>aMS r a cap ns W (hN.below h) hc)
 have hCb:(bM r ns==0)=false:=by simp [hc]
 have hCn:(bM r ns != 0)=true:=by simp [hc]
 clear hc hN
 generalize bM r ns=C at *
 obtain ⟨W,jU,hbA,p0,p1,p2⟩:=JE w (.cells #[.int .i64 r,.slice a ns.length cap] 24) (.cells #[.int .i64 t.op,.int .i64 t.a,.int .i64 t.b] 59) (.cells #[.int .i64 0,.slice none 0 0] 24)
 go_enter Tryz.func65,Tryz.ntmps65
 go_upto_region 1 with fail
 rw [jU.out]
 clear jU
 try rw [show w.heap.size+1+1=w.heap.size+2 from rfl]
 have q0:=aA p0 0
 have q1:=aA p0 1
 simp at q0 q1
 have pl:=aD p0
 have HB:=aB hbA
 have HP:=aB p0
 have HT:=aB p1
 have HR:=aB p2
 clear hbA p0 p1 p2
 go_wp2_with fail
 refine (IW.out _ HB.out).mono ?_
 rintro e w1 ⟨rfl,hb1⟩
 have HR1:=aB (bP hb1 HR.out)
 have HB1:=aB (bG HB.out hb1)
 clear hb1 q0 q1 pl HB HR HP HT IW
 have hR:=HR1.out
 have y0:=aA hR 0
 have y1:=aA hR 1
 simp at y0 y1
 have z0:=aC hR 0
 have z1:=aC hR 1
 have ylt:=aD hR
 clear hR
 go_wp2
 have hk0:=bQ (v0:=.int .i64 0) (v1:=.slice none 0 0) HR1.out
 have hB5:=aW (v0:=.int .i64 0) (v1:=.slice none 0 0) HB1.out (B:=w.heap.size+2) aF
 have hk:=(Below.heap_alloc _ (.cells #[.int .i64 0,.slice none 0 0] 24) _ (aD hk0)).trans hk0
 have k0:=aA hk 0
 have k1:=aA hk 1
 simp at k0 k1
 exact bodyPost_ret (v:=.tuple #[.agg #[.int .i64 0,.slice none 0 0],.int .i64 C]) (by simp [results,Tryz.results65,go_sem,k0,k1]) rfl ⟨rfl,hB5.alloc hB5.size _⟩
theorem aON (r:Int) (b off cap:Nat) (ns:List Nd) (t:Tm) (w:World) (hN:aH w b off ns) (hc:bM r ns=0) (hl:256<(aS ns).length) :
 Calls Tryz.prog 65 #[.agg #[.int .i64 r,.slice (some ⟨b,off,none⟩) ns.length cap],.agg #[.int .i64 t.op,.int .i64 t.a,.int .i64 t.b]] w fun e w' =>e=.returned (.tuple #[.agg #[.int .i64 0,.slice none 0 0],.int .i64 2])∧Below w.heap.size w w' :=by
 have rU:=aB (fun (W:World) (tb tq tc:Nat) (h:aH W tb tq (cB ns))=>aBH r tb tq tc (cB ns) W h (fC hc) hl)
 have IW:=aB (fun W (h:Below w.heap.size w W)=>wY r b off cap ns W (hN.below h hN.lt) hc)
 obtain ⟨W,oG,hbA,p0,p1,p2⟩:=JE w (.cells #[.int .i64 r,.slice (some ⟨b,off,none⟩) ns.length cap] 24) (.cells #[.int .i64 t.op,.int .i64 t.a,.int .i64 t.b] 59) (.cells #[.int .i64 0,.slice none 0 0] 24)
 go_enter Tryz.func65,Tryz.ntmps65
 go_upto_region 1 with fail
 rw [oG.out]
 clear oG
 try rw [show w.heap.size+1+1=w.heap.size+2 from rfl]
 have q0:=aA p0 0
 have q1:=aA p0 1
 simp at q0 q1
 have pl:=aD p0
 have HB:=aB hbA
 have HP:=aB p0
 have HT:=aB p1
 have HR:=aB p2
 clear hbA p0 p1 p2
 go_wp2_with fail
 refine (IW.out _ HB.out).mono ?_
 rintro e w1 ⟨tb,tq,tc,rfl,hN1,hb1⟩
 obtain ⟨V,yL,hbF,hQ⟩:=bx1 w1 (.cells #[.int .i64 r,.slice (some ⟨tb,tq,none⟩) (cB ns).length tc] 24)
 have iX:=aB (bG hb1 hbF)
 have HB2:=aB (bG HB.out iX.out)
 have ZU:=aB (hN1.below hbF hN1.lt)
 have rT:=aB (bP iX.out HP.out)
 have HT2:=aB (bP iX.out HT.out)
 have HR2:=aB (bP iX.out HR.out)
 have hQs:w.heap.size+2<w1.heap.size:=by have h1:=aD HR.out;have h2:=hb1.size;omega
 clear hb1 q0 q1 pl HB HR HP HT IW iX hN1
 go_upto_region 4 with fail
 rw [yL.out]
 clear yL
 generalize w1.heap.size=QB at *
 clear hbF
 have q0:=aA hQ 0
 have q1:=aA hQ 1
 simp at q0 q1
 have ql:=aD hQ
 have HQ:=aB hQ
 clear hQ
 have z0:=aC HQ.out 0
 have z1:=aC HQ.out 1
 clear z0 z1
 go_wp2_with fail
 refine (rU.out _ tb tq tc ZU.out).mono ?_
 rintro e w2 ⟨rfl,hb2⟩
 have rX:=(hb2.block _ ql).trans HQ.out
 clear q0 q1 ql
 have q0:=aA rX 0
 have q1:=aA rX 1
 simp at q0 q1
 have f0:=aC rX 0
 have f1:=aC rX 1
 have ql:=aD rX
 have hR2:=bP hb2 HR2.out
 have hne:w.heap.size+2≠QB:=by omega
 have HR1:Hid (((w2.setCell ⟨QB,0,none⟩ (.int .i64 0)).setCell ⟨QB,1,none⟩ (.slice none 0 0)).heap[w.heap.size+2]?=some (.cells #[.int .i64 0,.slice none 0 0] 24 (0,0))):=(bJ hne _ _).trans ((bJ hne _ _).trans hR2)
 have HB1:=aB (aW (v0:=.int .i64 0) (v1:=.slice none 0 0) (bG HB2.out hb2) (B:=QB) aF)
 have hx:((w2.setCell ⟨QB,0,none⟩ (.int .i64 0)).setCell ⟨QB,1,none⟩ (.slice none 0 0)).heap.size=w2.heap.size:=by simp
 clear hb2 rX hR2 HR2 HB2 HQ ZU rT HT2 rU
 go_upto_region 5 with fail
 clear q0 q1 f0 f1
 generalize ((w2.setCell ⟨QB,0,none⟩ (.int .i64 0)).setCell ⟨QB,1,none⟩ (.slice none 0 0))=U at HR1 HB1 hx ⊢
 have hR:=HR1.out
 have y0:=aA hR 0
 have y1:=aA hR 1
 simp at y0 y1
 have z0:=aC hR 0
 have z1:=aC hR 1
 have ylt:=aD hR
 clear hR
 go_wp2
 have hk0:=bQ (v0:=.int .i64 0) (v1:=.slice none 0 0) HR1.out
 have hB5:=aW (v0:=.int .i64 0) (v1:=.slice none 0 0) HB1.out (B:=w.heap.size+2) aF
 have k0:=aA hk0 0
 have k1:=aA hk0 1
 simp at k0 k1
 exact bodyPost_ret (v:=.tuple #[.agg #[.int .i64 0,.slice none 0 0],.int .i64 2]) (by simp [results,Tryz.results65,go_sem,k0,k1]) rfl ⟨rfl,hB5⟩
theorem aOO (r:Int) (b off cap:Nat) (ns:List Nd) (t:Tm) (w:World) (hN:aH w b off ns) (hc:bM r ns=0) (hl:(aS ns).length≤256) (ht:iP r (aS ns) t≠0) :
 Calls Tryz.prog 65 #[.agg #[.int .i64 r,.slice (some ⟨b,off,none⟩) ns.length cap],.agg #[.int .i64 t.op,.int .i64 t.a,.int .i64 t.b]] w fun e w' =>e=.returned (.tuple #[.agg #[.int .i64 0,.slice none 0 0],.int .i64 (iP r (aS ns) t)])∧Below w.heap.size w w' :=by
 have HLZ:=aB (fun (W:World) (sb sq sc:Nat) (h:aH W sb sq (aS ns))=>aCC r (some ⟨sb,sq,none⟩) sc (aS ns) t W (Or.inr ⟨sb,sq,rfl,h⟩) ht)
 have hCb:(iP r (aS ns) t==0)=false:=by simp [ht]
 have hCn:(iP r (aS ns) t != 0)=true:=by simp [ht]
 clear ht
 generalize iP r (aS ns) t=C at *
 have hl' :(splitN (cB ns)).length≤256:=hl
 have hch:bM r (aS ns)=0:=iI (fC hc) hl'
 have rU:=aB (fun (W:World) (tb tq tc:Nat) (h:aH W tb tq (cB ns))=>vW r tb tq tc (cB ns) W h (fC hc) hl)
 rw [show splitN (cB ns)=aS ns from rfl] at rU
 have IW:=aB (fun W (h:Below w.heap.size w W)=>wY r b off cap ns W (hN.below h hN.lt) hc)
 obtain ⟨W,zW,hbA,p0,p1,p2⟩:=JE w (.cells #[.int .i64 r,.slice (some ⟨b,off,none⟩) ns.length cap] 24) (.cells #[.int .i64 t.op,.int .i64 t.a,.int .i64 t.b] 59) (.cells #[.int .i64 0,.slice none 0 0] 24)
 go_enter Tryz.func65,Tryz.ntmps65
 go_upto_region 1 with fail
 rw [zW.out]
 clear zW
 try rw [show w.heap.size+1+1=w.heap.size+2 from rfl]
 have q0:=aA p0 0
 have q1:=aA p0 1
 simp at q0 q1
 have pl:=aD p0
 have HB:=aB hbA
 have HP:=aB p0
 have HT:=aB p1
 have HR:=aB p2
 clear hbA p0 p1 p2
 go_wp2_with fail
 refine (IW.out _ HB.out).mono ?_
 rintro e w1 ⟨tb,tq,tc,rfl,hN1,hb1⟩
 obtain ⟨V,HV5,hbF,hQ⟩:=bx1 w1 (.cells #[.int .i64 r,.slice (some ⟨tb,tq,none⟩) (cB ns).length tc] 24)
 have iX:=aB (bG hb1 hbF)
 have HB2:=aB (bG HB.out iX.out)
 have ZU:=aB (hN1.below hbF hN1.lt)
 have rT:=aB (bP iX.out HP.out)
 have HT2:=aB (bP iX.out HT.out)
 have HR2:=aB (bP iX.out HR.out)
 have hQs:w.heap.size+2<w1.heap.size:=by have h1:=aD HR.out;have h2:=hb1.size;omega
 clear hb1 q0 q1 pl HB HR HP HT IW iX hN1
 go_upto_region 4 with fail
 rw [HV5.out]
 clear HV5
 generalize w1.heap.size=QB at *
 clear hbF
 have q0:=aA hQ 0
 have q1:=aA hQ 1
 simp at q0 q1
 have ql:=aD hQ
 have HQ:=aB hQ
 clear hQ
 go_wp2_with fail
 refine (rU.out _ tb tq tc ZU.out).mono ?_
 rintro e w2 ⟨sb,sq,sc,rfl,hN3,hsb,hb2⟩
 have hsq:sb≠QB:=by omega
 have rX:=(hb2.block _ ql).trans HQ.out
 clear q0 q1 ql
 have q0:=aA rX 0
 have q1:=aA rX 1
 simp at q0 q1
 have f0:=aC rX 0
 have f1:=aC rX 1
 have ql:=aD rX
 have hne:w.heap.size+2≠QB:=by omega
 have hne1:w.heap.size+1≠QB:=by omega
 have hne0:w.heap.size≠QB:=by omega
 have HR1:Hid (((w2.setCell ⟨QB,0,none⟩ (.int .i64 r)).setCell ⟨QB,1,none⟩ (.slice (some ⟨sb,sq,none⟩) (aS ns).length sc)).heap[w.heap.size+2]?=some (.cells #[.int .i64 0,.slice none 0 0] 24 (0,0))):=(bJ hne _ _).trans ((bJ hne _ _).trans (bP hb2 HR2.out))
 have HT1:Hid (((w2.setCell ⟨QB,0,none⟩ (.int .i64 r)).setCell ⟨QB,1,none⟩ (.slice (some ⟨sb,sq,none⟩) (aS ns).length sc)).heap[w.heap.size+1]?=some (.cells #[.int .i64 t.op,.int .i64 t.a,.int .i64 t.b] 59 (0,0))):=(bJ hne1 _ _).trans ((bJ hne1 _ _).trans (bP hb2 HT2.out))
 have kH:Hid (((w2.setCell ⟨QB,0,none⟩ (.int .i64 r)).setCell ⟨QB,1,none⟩ (.slice (some ⟨sb,sq,none⟩) (aS ns).length sc)).heap[w.heap.size]?=some (.cells #[.int .i64 r,.slice (some ⟨b,off,none⟩) ns.length cap] 24 (0,0))):=(bJ hne0 _ _).trans ((bJ hne0 _ _).trans (bP hb2 rT.out))
 have HQ1:Hid (((w2.setCell ⟨QB,0,none⟩ (.int .i64 r)).setCell ⟨QB,1,none⟩ (.slice (some ⟨sb,sq,none⟩) (aS ns).length sc)).heap[QB]?=some (.cells #[.int .i64 r,.slice (some ⟨sb,sq,none⟩) (aS ns).length sc] 24 (0,0))):=bQ rX
 have XX:Hid (aH ((w2.setCell ⟨QB,0,none⟩ (.int .i64 r)).setCell ⟨QB,1,none⟩ (.slice (some ⟨sb,sq,none⟩) (aS ns).length sc)) sb sq (aS ns)):=(hN3.iE hsq).iE hsq
 have HB1:=aB (aW (v0:=.int .i64 r) (v1:=.slice (some ⟨sb,sq,none⟩) (aS ns).length sc) (bG HB2.out hb2) (B:=QB) aF)
 have hQU:QB<((w2.setCell ⟨QB,0,none⟩ (.int .i64 r)).setCell ⟨QB,1,none⟩ (.slice (some ⟨sb,sq,none⟩) (aS ns).length sc)).heap.size:=by simp;exact ql
 clear hb2 rX HR2 HB2 HQ ZU rT HT2 rU hN3 hne hne1 hne0 hsb hsq
 go_upto_region 5 with fail
 clear q0 q1 f0 f1 ql
 generalize ((w2.setCell ⟨QB,0,none⟩ (.int .i64 r)).setCell ⟨QB,1,none⟩ (.slice (some ⟨sb,sq,none⟩) (aS ns).length sc))=U at HR1 HT1 kH HQ1 XX HB1 hQU ⊢
 have hQ:=HQ1.out
 have q0:=aA hQ 0
 have q1:=aA hQ 1
 simp at q0 q1
 have ql:=aD hQ
 have hT:=HT1.out
 have t0:=aA hT 0
 have t1:=aA hT 1
 have t2:=aA hT 2
 simp at t0 t1 t2
 have tl:=aD hT
 clear hQ hT
 go_upto_region 7 with fail
 go_wp2_with fail
 refine (HLZ.out _ sb sq sc XX.out).mono ?_
 rintro e w3 ⟨rfl,hb3⟩
 have HR3:=aB (bP hb3 HR1.out)
 have HB3:=aB (bG HB1.out hb3)
 clear q0 q1 t0 t1 t2 ql tl hb3 HR1 HB1 HQ1 HT1 kH XX HLZ
 have hR:=HR3.out
 have y0:=aA hR 0
 have y1:=aA hR 1
 simp at y0 y1
 have z0:=aC hR 0
 have z1:=aC hR 1
 have ylt:=aD hR
 clear hR
 go_wp2
 have hk0:=bQ (v0:=.int .i64 0) (v1:=.slice none 0 0) HR3.out
 have hB5:=aW (v0:=.int .i64 0) (v1:=.slice none 0 0) HB3.out (B:=w.heap.size+2) aF
 have hk:=(Below.heap_alloc _ (.cells #[.slice none 0 0,.slice none 0 0] 126) _ (aD hk0)).trans hk0
 have k0:=aA hk 0
 have k1:=aA hk 1
 simp at k0 k1
 exact bodyPost_ret (v:=.tuple #[.agg #[.int .i64 0,.slice none 0 0],.int .i64 C]) (by simp [results,Tryz.results65,go_sem,k0,k1]) rfl ⟨rfl,hB5.alloc hB5.size _⟩
theorem aOR (r:Int) (b off cap:Nat) (ns:List Nd) (t:Tm) (w:World) (hN:aH w b off ns) (hc:bM r ns=0) (hl:(aS ns).length≤256) (ht:iP r (aS ns) t=0) (hbb:rW ns t=false) :
 Calls Tryz.prog 65 #[.agg #[.int .i64 r,.slice (some ⟨b,off,none⟩) ns.length cap],.agg #[.int .i64 t.op,.int .i64 t.a,.int .i64 t.b]] w fun e w' =>∃ gb gc,e=.returned (.tuple #[.agg #[.int .i64 r,.slice (some ⟨gb,0,none⟩) ns.length gc],.int .i64 0])∧w'.ownsRow w.heap.size 42 6 (.slice (some ⟨gb,0,none⟩) ns.length gc) ns.length (ns.flatMap aP)∧Below w.heap.size w w' :=by
 have hbp:(bK (aS ns) t).any id=false:=by rw [rW,Bool.or_eq_false_iff] at hbb;exact hbb.1
 have hbt:(aZ (aS ns) t).any id=false:=by rw [rW,Bool.or_eq_false_iff] at hbb;exact hbb.2
 have hl0:=(bE hc).1
 have HN:=aB hN
 have HLZ:=aB (fun (W:World) (sb sq sc:Nat) (h:aH W sb sq (aS ns))=>FY r sb sq sc (aS ns) t W h ht)
 have hl' :(splitN (cB ns)).length≤256:=hl
 have hch:bM r (aS ns)=0:=iI (fC hc) hl'
 have rU:=aB (fun (W:World) (tb tq tc:Nat) (h:aH W tb tq (cB ns))=>vW r tb tq tc (cB ns) W h (fC hc) hl)
 rw [show splitN (cB ns)=aS ns from rfl] at rU
 have IW:=aB (fun W (h:Below w.heap.size w W)=>wY r b off cap ns W (hN.below h hN.lt) hc)
 obtain ⟨W,HV6,hbA,p0,p1,p2⟩:=JE w (.cells #[.int .i64 r,.slice (some ⟨b,off,none⟩) ns.length cap] 24) (.cells #[.int .i64 t.op,.int .i64 t.a,.int .i64 t.b] 59) (.cells #[.int .i64 0,.slice none 0 0] 24)
 go_enter Tryz.func65,Tryz.ntmps65
 go_upto_region 1 with fail
 rw [HV6.out]
 clear HV6
 try rw [show w.heap.size+1+1=w.heap.size+2 from rfl]
 have q0:=aA p0 0
 have q1:=aA p0 1
 simp at q0 q1
 have pl:=aD p0
 have HB:=aB hbA
 have HP:=aB p0
 have HT:=aB p1
 have HR:=aB p2
 clear hbA p0 p1 p2
 go_wp2_with fail
 refine (IW.out _ HB.out).mono ?_
 rintro e w1 ⟨tb,tq,tc,rfl,hN1,hb1⟩
 obtain ⟨V,HV7,hbF,hQ⟩:=bx1 w1 (.cells #[.int .i64 r,.slice (some ⟨tb,tq,none⟩) (cB ns).length tc] 24)
 have iX:=aB (bG hb1 hbF)
 have HB2:=aB (bG HB.out iX.out)
 have ZU:=aB (hN1.below hbF hN1.lt)
 have rT:=aB (bP iX.out HP.out)
 have HT2:=aB (bP iX.out HT.out)
 have HR2:=aB (bP iX.out HR.out)
 have hQs:w.heap.size+2<w1.heap.size:=by have h1:=aD HR.out;have h2:=hb1.size;omega
 clear hb1 q0 q1 pl HB HR HP HT IW iX hN1
 go_upto_region 4 with fail
 rw [HV7.out]
 clear HV7
 generalize w1.heap.size=QB at *
 clear hbF
 have q0:=aA hQ 0
 have q1:=aA hQ 1
 simp at q0 q1
 have ql:=aD hQ
 have HQ:=aB hQ
 clear hQ
 go_wp2_with fail
 refine (rU.out _ tb tq tc ZU.out).mono ?_
 rintro e w2 ⟨sb,sq,sc,rfl,hN3,hsb,hb2⟩
 have hsq:sb≠QB:=by omega
 have rX:=(hb2.block _ ql).trans HQ.out
 clear q0 q1 ql
 have q0:=aA rX 0
 have q1:=aA rX 1
 simp at q0 q1
 have f0:=aC rX 0
 have f1:=aC rX 1
 have ql:=aD rX
 have hne:w.heap.size+2≠QB:=by omega
 have hne1:w.heap.size+1≠QB:=by omega
 have hne0:w.heap.size≠QB:=by omega
 have HR1:Hid (((w2.setCell ⟨QB,0,none⟩ (.int .i64 r)).setCell ⟨QB,1,none⟩ (.slice (some ⟨sb,sq,none⟩) (aS ns).length sc)).heap[w.heap.size+2]?=some (.cells #[.int .i64 0,.slice none 0 0] 24 (0,0))):=(bJ hne _ _).trans ((bJ hne _ _).trans (bP hb2 HR2.out))
 have HT1:Hid (((w2.setCell ⟨QB,0,none⟩ (.int .i64 r)).setCell ⟨QB,1,none⟩ (.slice (some ⟨sb,sq,none⟩) (aS ns).length sc)).heap[w.heap.size+1]?=some (.cells #[.int .i64 t.op,.int .i64 t.a,.int .i64 t.b] 59 (0,0))):=(bJ hne1 _ _).trans ((bJ hne1 _ _).trans (bP hb2 HT2.out))
 have kH:Hid (((w2.setCell ⟨QB,0,none⟩ (.int .i64 r)).setCell ⟨QB,1,none⟩ (.slice (some ⟨sb,sq,none⟩) (aS ns).length sc)).heap[w.heap.size]?=some (.cells #[.int .i64 r,.slice (some ⟨b,off,none⟩) ns.length cap] 24 (0,0))):=(bJ hne0 _ _).trans ((bJ hne0 _ _).trans (bP hb2 rT.out))
 have HQ1:Hid (((w2.setCell ⟨QB,0,none⟩ (.int .i64 r)).setCell ⟨QB,1,none⟩ (.slice (some ⟨sb,sq,none⟩) (aS ns).length sc)).heap[QB]?=some (.cells #[.int .i64 r,.slice (some ⟨sb,sq,none⟩) (aS ns).length sc] 24 (0,0))):=bQ rX
 have XX:Hid (aH ((w2.setCell ⟨QB,0,none⟩ (.int .i64 r)).setCell ⟨QB,1,none⟩ (.slice (some ⟨sb,sq,none⟩) (aS ns).length sc)) sb sq (aS ns)):=(hN3.iE hsq).iE hsq
 have HB1:=aB (aW (v0:=.int .i64 r) (v1:=.slice (some ⟨sb,sq,none⟩) (aS ns).length sc) (bG HB2.out hb2) (B:=QB) aF)
 have hQU:QB<((w2.setCell ⟨QB,0,none⟩ (.int .i64 r)).setCell ⟨QB,1,none⟩ (.slice (some ⟨sb,sq,none⟩) (aS ns).length sc)).heap.size:=by simp;exact ql
 clear hb2 rX HR2 HB2 HQ ZU rT HT2 rU hN3 hne hne1 hne0 hsb hsq
 go_upto_region 5 with fail
 clear q0 q1 f0 f1 ql
 generalize ((w2.setCell ⟨QB,0,none⟩ (.int .i64 r)).setCell ⟨QB,1,none⟩ (.slice (some ⟨sb,sq,none⟩) (aS ns).length sc))=U at HR1 HT1 kH HQ1 XX HB1 hQU ⊢
 have hQ:=HQ1.out
 have q0:=aA hQ 0
 have q1:=aA hQ 1
 simp at q0 q1
 have ql:=aD hQ
 have hT:=HT1.out
 have t0:=aA hT 0
 have t1:=aA hT 1
 have t2:=aA hT 2
 simp at t0 t1 t2
 have tl:=aD hT
 clear hQ hT
 go_upto_region 7 with fail
 go_wp2_with fail
 refine (HLZ.out _ sb sq sc XX.out).mono ?_
 rintro e w3 ⟨x1,d1,x2,d2,rfl,hV1,hV2,hb3⟩
 have hbF:Below w3.heap.size w3 (w3.alloc (.cells #[.slice x1 (aS ns).length d1,.slice x2 (aS ns).length d2] 126)):=dY
 have hL:(w3.alloc (.cells #[.slice x1 (aS ns).length d1,.slice x2 (aS ns).length d2] 126)).heap[w3.heap.size]?=some (.cells #[.slice x1 (aS ns).length d1,.slice x2 (aS ns).length d2] 126 (0,0)):=World.alloc_heap_new w3 _
 have iX:=aB (bG hb3 hbF)
 have Y1:Hid (aJ (w3.alloc (.cells #[.slice x1 (aS ns).length d1,.slice x2 (aS ns).length d2] 126)) x1 (bK (aS ns) t)):=(bC hV1 (by simp [bK])).below hbF
 have Y2:Hid (aJ (w3.alloc (.cells #[.slice x1 (aS ns).length d1,.slice x2 (aS ns).length d2] 126)) x2 (aZ (aS ns) t)):=(bC hV2 (by simp [aZ])).below hbF
 have HR4:=aB (bP iX.out HR1.out)
 have AQ:=aB (bP iX.out kH.out)
 have HT4:=aB (bP iX.out HT1.out)
 have HQ4:=aB (bP iX.out HQ1.out)
 have HN4:=aB (XX.out.below iX.out XX.out.lt)
 have kP:=aB (bG HB1.out iX.out)
 have hLB:QB<w3.heap.size:=by have:=hb3.size;omega
 clear q0 q1 t0 t1 t2 ql tl hV1 hV2 hb3 HR1 HB1 HQ1 HT1 kH XX HLZ iX hQU
 go_upto_region 10 with fail
 generalize (w3.alloc (.cells #[.slice x1 (aS ns).length d1,.slice x2 (aS ns).length d2] 126))=V3 at hbF hL Y1 Y2 HR4 AQ HT4 HQ4 HN4 kP ⊢
 generalize w3.heap.size=LB at *
 clear hbF
 have l0:=aA hL 0
 have l1:=aA hL 1
 simp at l0 l1
 have ll:=aD hL
 have HL:=aB hL
 clear hL
 have HC1:=aB (lK x1 d1 (bK (aS ns) t) V3 Y1.out (by simp [bK];omega))
 have HC2:=aB (lK x2 d2 (aZ (aS ns) t) V3 Y2.out (by simp [aZ];omega))
 rw [show (bK (aS ns) t).length=(aS ns).length by simp [bK]] at HC1
 rw [show (aZ (aS ns) t).length=(aS ns).length by simp [aZ]] at HC2
 rw [hbp] at HC1
 rw [hbt] at HC2
 go_wp2_with fail
 refine HC1.out.mono ?_
 rintro e w5 ⟨rfl,rfl⟩
 go_wp2_with fail
 refine HC2.out.mono ?_
 rintro e w6 ⟨rfl,rfl⟩
 go_upto_region 11 with fail
 have HS:Hid (∀ u:World,Below w6.heap.size w6 u→u.cell? ⟨w.heap.size,0,none⟩=some (.int .i64 r)∧u.cell? ⟨w.heap.size,1,none⟩=some (.slice (some ⟨b,off,none⟩) ns.length cap)):=fun u h=>by
  have k1:=bP h AQ.out
  refine ⟨?_,?_⟩
  ·rw [aA k1];rfl
  ·rw [aA k1];rfl
 have HH:Hid (∀ u:World,Below w6.heap.size w6 u→u.heap[w.heap.size+2]?=some (.cells #[.int .i64 0,.slice none 0 0] 24 (0,0))):=fun u h=>bP h HR4.out
 have WK:Hid (∀ (u:World) (v0 v1:Value),(u.cell? ⟨w.heap.size,0,none⟩=some (.int .i64 r)∧u.cell? ⟨w.heap.size,1,none⟩=some (.slice (some ⟨b,off,none⟩) ns.length cap))→((u.setCell ⟨w.heap.size+2,0,none⟩ v0).setCell ⟨w.heap.size+2,1,none⟩ v1).cell? ⟨w.heap.size,0,none⟩=some (.int .i64 r)∧((u.setCell ⟨w.heap.size+2,0,none⟩ v0).setCell ⟨w.heap.size+2,1,none⟩ v1).cell? ⟨w.heap.size,1,none⟩=some (.slice (some ⟨b,off,none⟩) ns.length cap)):=fun u v0 v1 h=>by
  have e:∀ (B k:Nat),B≠w.heap.size+2→((u.setCell ⟨w.heap.size+2,0,none⟩ v0).setCell ⟨w.heap.size+2,1,none⟩ v1).cell? ⟨B,k,none⟩=u.cell? ⟨B,k,none⟩:=fun B k h=>World.cell?_of_block (by
   show ((u.setCell ⟨w.heap.size+2,0,none⟩ v0).setCell ⟨w.heap.size+2,1,none⟩ v1).heap[B]?=u.heap[B]?
   simp only [bJ h])
  simp only [e w.heap.size _ aF]
  exact h
 have pl:w.heap.size<w6.heap.size:=aD AQ.out
 clear l0 l1 ll
 go_region_held3 (fun u=>u.cell? ⟨w.heap.size,0,none⟩=some (.int .i64 r)∧u.cell? ⟨w.heap.size,1,none⟩=some (.slice (some ⟨b,off,none⟩) ns.length cap)) (first
  | (with_reducible refine WK.out _ _ _ ?_;exact HS.out _ uV)
  | (with_reducible refine HS.out _ ?_;first | with_reducible exact uV | with_reducible exact (Below.refl _ w6).drew | with_reducible exact (Below.refl _ w6))) (first
  | (go_at_call 14;refine (rM b off cap ns _ (by first | exact (HN.out.below kP.out HN.out.lt).below (Below.refl _ w6).drew (Nat.lt_of_lt_of_le HN.out.lt kP.out.size) | exact HN.out.below kP.out HN.out.lt) aF).mono ?_;rintro e w7 ⟨gb,gc,rfl,hV7,hb7⟩;have uV:Below w6.heap.size w6 w7:=(by first | exact (Below.refl _ w6).drew.trans hb7 | exact hb7);have x0:=aA (HH.out _ uV) 0;have x1:=aA (HH.out _ uV) 1;simp at x0 x1;have f0:=aC (HH.out _ uV) 0;have f1:=aC (HH.out _ uV) 1;have xl:=aD (HH.out _ uV)))
 all_goals have HV7:=aB (aK hV7 (base' :=w.heap.size) (by have:=kP.out.size;first | exact this | (simp;omega)))
 all_goals have hk:=bQ (v0:=.int .i64 r) (v1:=.slice (some ⟨gb,0,none⟩) ns.length gc) (HH.out _ uV)
 all_goals have T1:=aI (o:=1) (u:=.slice (some ⟨gb,0,none⟩) ns.length gc) (aI (o:=0) (u:=.int .i64 r) HV7.out (HH.out _ uV) aL) (aG (i:=0) (.int .i64 r) (HH.out _ uV)) aL
 all_goals have nA:=aW (v0:=.int .i64 r) (v1:=.slice (some ⟨gb,0,none⟩) ns.length gc) (bG kP.out uV) (B:=w.heap.size+2) aF
 all_goals clear hV7 x0 x1 f0 f1 xl
 all_goals go_wp2_with fail
 all_goals generalize ((w7.setCell ⟨w.heap.size+2,0,none⟩ (.int .i64 r)).setCell ⟨w.heap.size+2,1,none⟩ (.slice (some ⟨gb,0,none⟩) ns.length gc))=Wf at hk T1 nA ⊢
 all_goals have k0:=aA hk 0
 all_goals have k1:=aA hk 1
 all_goals simp at k0 k1
 all_goals exact bodyPost_ret (v:=.tuple #[.agg #[.int .i64 r,.slice (some ⟨gb,0,none⟩) ns.length gc],.int .i64 0]) (by simp [results,Tryz.results65,go_sem,k0,k1]) rfl ⟨gb,gc,rfl,T1,nA⟩
theorem aIB (r:Int) (b off cap:Nat) (ns:List Nd) (t:Tm) (w:World) (hN:aH w b off ns) (hc:bM r ns=0) (hl:(aS ns).length≤256) (ht:iP r (aS ns) t=0) (hbb:rW ns t=true) :
 Calls Tryz.prog 65 #[.agg #[.int .i64 r,.slice (some ⟨b,off,none⟩) ns.length cap],.agg #[.int .i64 t.op,.int .i64 t.a,.int .i64 t.b]] w fun e w' =>((256<(qJ (aS ns) t (bK (aS ns) t) (aZ (aS ns) t) r).length∨63<r)∧e=.returned (.tuple #[.agg #[.int .i64 0,.slice none 0 0],.int .i64 2])∨((qJ (aS ns) t (bK (aS ns) t) (aZ (aS ns) t) r).length≤256∧r≤63)∧∃ gb gc,e=.returned (.tuple #[.agg #[.int .i64 (r+1),.slice (some ⟨gb,0,none⟩) (qJ (aS ns) t (bK (aS ns) t) (aZ (aS ns) t) r).length gc],.int .i64 0])∧w'.ownsRow w.heap.size 42 6 (.slice (some ⟨gb,0,none⟩) (qJ (aS ns) t (bK (aS ns) t) (aZ (aS ns) t) r).length gc) (qJ (aS ns) t (bK (aS ns) t) (aZ (aS ns) t) r).length ((qJ (aS ns) t (bK (aS ns) t) (aZ (aS ns) t) r).flatMap aP))∧Below w.heap.size w w' :=by
 have HAP:=aB (fun (W:World) (sb sq sc:Nat) (x1 x2:Option Addr) (d1 d2:Nat) (h:aH W sb sq (aS ns)) (h1:aJ W x1 (bK (aS ns) t)) (h2:aJ W x2 (aZ (aS ns) t))=>XW r sb sq sc (aS ns) t x1 x2 d1 d2 (bK (aS ns) t) (aZ (aS ns) t) W h ht (by simp [bK]) (by simp [aZ]) h1 h2 (tN _ _))
 have QN:=aB hbb
 clear hbb
 generalize (qJ (aS ns) t (bK (aS ns) t) (aZ (aS ns) t) r)=A at HAP ⊢
 have HLZ:=aB (fun (W:World) (sb sq sc:Nat) (h:aH W sb sq (aS ns))=>FY r sb sq sc (aS ns) t W h ht)
 have hl' :(splitN (cB ns)).length≤256:=hl
 have hch:bM r (aS ns)=0:=iI (fC hc) hl'
 have rU:=aB (fun (W:World) (tb tq tc:Nat) (h:aH W tb tq (cB ns))=>vW r tb tq tc (cB ns) W h (fC hc) hl)
 rw [show splitN (cB ns)=aS ns from rfl] at rU
 have IW:=aB (fun W (h:Below w.heap.size w W)=>wY r b off cap ns W (hN.below h hN.lt) hc)
 obtain ⟨W,HV8,hbA,p0,p1,p2⟩:=JE w (.cells #[.int .i64 r,.slice (some ⟨b,off,none⟩) ns.length cap] 24) (.cells #[.int .i64 t.op,.int .i64 t.a,.int .i64 t.b] 59) (.cells #[.int .i64 0,.slice none 0 0] 24)
 go_enter Tryz.func65,Tryz.ntmps65
 go_upto_region 1 with fail
 rw [HV8.out]
 clear HV8
 try rw [show w.heap.size+1+1=w.heap.size+2 from rfl]
 have q0:=aA p0 0
 have q1:=aA p0 1
 simp at q0 q1
 have pl:=aD p0
 have HB:=aB hbA
 have HP:=aB p0
 have HT:=aB p1
 have HR:=aB p2
 clear hbA p0 p1 p2
 go_wp2_with fail
 refine (IW.out _ HB.out).mono ?_
 rintro e w1 ⟨tb,tq,tc,rfl,hN1,hb1⟩
 obtain ⟨V,HV9,hbF,hQ⟩:=bx1 w1 (.cells #[.int .i64 r,.slice (some ⟨tb,tq,none⟩) (cB ns).length tc] 24)
 have iX:=aB (bG hb1 hbF)
 have HB2:=aB (bG HB.out iX.out)
 have ZU:=aB (hN1.below hbF hN1.lt)
 have rT:=aB (bP iX.out HP.out)
 have HT2:=aB (bP iX.out HT.out)
 have HR2:=aB (bP iX.out HR.out)
 have hQs:w.heap.size+2<w1.heap.size:=by have h1:=aD HR.out;have h2:=hb1.size;omega
 clear hb1 q0 q1 pl HB HR HP HT IW iX hN1
 go_upto_region 4 with fail
 rw [HV9.out]
 clear HV9
 generalize w1.heap.size=QB at *
 clear hbF
 have q0:=aA hQ 0
 have q1:=aA hQ 1
 simp at q0 q1
 have ql:=aD hQ
 have HQ:=aB hQ
 clear hQ
 go_wp2_with fail
 refine (rU.out _ tb tq tc ZU.out).mono ?_
 rintro e w2 ⟨sb,sq,sc,rfl,hN3,hsb,hb2⟩
 have hsq:sb≠QB:=by omega
 have rX:=(hb2.block _ ql).trans HQ.out
 clear q0 q1 ql
 have q0:=aA rX 0
 have q1:=aA rX 1
 simp at q0 q1
 have f0:=aC rX 0
 have f1:=aC rX 1
 have ql:=aD rX
 have hne:w.heap.size+2≠QB:=by omega
 have hne1:w.heap.size+1≠QB:=by omega
 have hne0:w.heap.size≠QB:=by omega
 have HR1:Hid (((w2.setCell ⟨QB,0,none⟩ (.int .i64 r)).setCell ⟨QB,1,none⟩ (.slice (some ⟨sb,sq,none⟩) (aS ns).length sc)).heap[w.heap.size+2]?=some (.cells #[.int .i64 0,.slice none 0 0] 24 (0,0))):=(bJ hne _ _).trans ((bJ hne _ _).trans (bP hb2 HR2.out))
 have HT1:Hid (((w2.setCell ⟨QB,0,none⟩ (.int .i64 r)).setCell ⟨QB,1,none⟩ (.slice (some ⟨sb,sq,none⟩) (aS ns).length sc)).heap[w.heap.size+1]?=some (.cells #[.int .i64 t.op,.int .i64 t.a,.int .i64 t.b] 59 (0,0))):=(bJ hne1 _ _).trans ((bJ hne1 _ _).trans (bP hb2 HT2.out))
 have kH:Hid (((w2.setCell ⟨QB,0,none⟩ (.int .i64 r)).setCell ⟨QB,1,none⟩ (.slice (some ⟨sb,sq,none⟩) (aS ns).length sc)).heap[w.heap.size]?=some (.cells #[.int .i64 r,.slice (some ⟨b,off,none⟩) ns.length cap] 24 (0,0))):=(bJ hne0 _ _).trans ((bJ hne0 _ _).trans (bP hb2 rT.out))
 have HQ1:Hid (((w2.setCell ⟨QB,0,none⟩ (.int .i64 r)).setCell ⟨QB,1,none⟩ (.slice (some ⟨sb,sq,none⟩) (aS ns).length sc)).heap[QB]?=some (.cells #[.int .i64 r,.slice (some ⟨sb,sq,none⟩) (aS ns).length sc] 24 (0,0))):=bQ rX
 have XX:Hid (aH ((w2.setCell ⟨QB,0,none⟩ (.int .i64 r)).setCell ⟨QB,1,none⟩ (.slice (some ⟨sb,sq,none⟩) (aS ns).length sc)) sb sq (aS ns)):=(hN3.iE hsq).iE hsq
 have HB1:=aB (aW (v0:=.int .i64 r) (v1:=.slice (some ⟨sb,sq,none⟩) (aS ns).length sc) (bG HB2.out hb2) (B:=QB) aF)
 have hQU:QB<((w2.setCell ⟨QB,0,none⟩ (.int .i64 r)).setCell ⟨QB,1,none⟩ (.slice (some ⟨sb,sq,none⟩) (aS ns).length sc)).heap.size:=by simp;exact ql
 clear hb2 rX HR2 HB2 HQ ZU rT HT2 rU hN3 hne hne1 hne0 hsb hsq
 go_upto_region 5 with fail
 clear q0 q1 f0 f1 ql
 generalize ((w2.setCell ⟨QB,0,none⟩ (.int .i64 r)).setCell ⟨QB,1,none⟩ (.slice (some ⟨sb,sq,none⟩) (aS ns).length sc))=U at HR1 HT1 kH HQ1 XX HB1 hQU ⊢
 have hQ:=HQ1.out
 have q0:=aA hQ 0
 have q1:=aA hQ 1
 simp at q0 q1
 have ql:=aD hQ
 have hT:=HT1.out
 have t0:=aA hT 0
 have t1:=aA hT 1
 have t2:=aA hT 2
 simp at t0 t1 t2
 have tl:=aD hT
 clear hQ hT
 go_upto_region 7 with fail
 go_wp2_with fail
 refine (HLZ.out _ sb sq sc XX.out).mono ?_
 rintro e w3 ⟨x1,d1,x2,d2,rfl,hV1,hV2,hb3⟩
 have hbF:Below w3.heap.size w3 (w3.alloc (.cells #[.slice x1 (aS ns).length d1,.slice x2 (aS ns).length d2] 126)):=dY
 have hL:(w3.alloc (.cells #[.slice x1 (aS ns).length d1,.slice x2 (aS ns).length d2] 126)).heap[w3.heap.size]?=some (.cells #[.slice x1 (aS ns).length d1,.slice x2 (aS ns).length d2] 126 (0,0)):=World.alloc_heap_new w3 _
 have iX:=aB (bG hb3 hbF)
 have Y1:Hid (aJ (w3.alloc (.cells #[.slice x1 (aS ns).length d1,.slice x2 (aS ns).length d2] 126)) x1 (bK (aS ns) t)):=(bC hV1 (by simp [bK])).below hbF
 have Y2:Hid (aJ (w3.alloc (.cells #[.slice x1 (aS ns).length d1,.slice x2 (aS ns).length d2] 126)) x2 (aZ (aS ns) t)):=(bC hV2 (by simp [aZ])).below hbF
 have HR4:=aB (bP iX.out HR1.out)
 have AQ:=aB (bP iX.out kH.out)
 have HT4:=aB (bP iX.out HT1.out)
 have HQ4:=aB (bP iX.out HQ1.out)
 have HN4:=aB (XX.out.below iX.out XX.out.lt)
 have kP:=aB (bG HB1.out iX.out)
 have hLB:QB<w3.heap.size:=by have:=hb3.size;omega
 clear q0 q1 t0 t1 t2 ql tl hV1 hV2 hb3 HR1 HB1 HQ1 HT1 kH XX HLZ iX hQU
 go_upto_region 10 with fail
 generalize (w3.alloc (.cells #[.slice x1 (aS ns).length d1,.slice x2 (aS ns).length d2] 126))=V3 at hbF hL Y1 Y2 HR4 AQ HT4 HQ4 HN4 kP ⊢
 generalize w3.heap.size=LB at *
 clear hbF
 have l0:=aA hL 0
 have l1:=aA hL 1
 simp at l0 l1
 have ll:=aD hL
 have HL:=aB hL
 clear hL
 have HC1:=aB (lK x1 d1 (bK (aS ns) t) V3 Y1.out (by simp [bK];omega))
 have HC2:=aB (lK x2 d2 (aZ (aS ns) t) V3 Y2.out (by simp [aZ];omega))
 rw [show (bK (aS ns) t).length=(aS ns).length by simp [bK]] at HC1
 rw [show (aZ (aS ns) t).length=(aS ns).length by simp [aZ]] at HC2
 cases hp:(bK (aS ns) t).any id
 ·have hq:(aZ (aS ns) t).any id=true:=by have:=QN.out;rw [rW,hp,Bool.false_or] at this;exact this
  rw [hp] at HC1
  rw [hq] at HC2
  clear hp hq
  go_wp2_with fail
  refine HC1.out.mono ?_
  rintro e w5 ⟨rfl,rfl⟩
  go_wp2_with fail
  refine HC2.out.mono ?_
  rintro e w6 ⟨rfl,rfl⟩
  go_upto_region 12 with fail
  have hQ:=HQ4.out
  have q0:=aA hQ 0
  have q1:=aA hQ 1
  simp at q0 q1
  have ql:=aD hQ
  have hT:=HT4.out
  have t0:=aA hT 0
  have t1:=aA hT 1
  have t2:=aA hT 2
  simp at t0 t1 t2
  have tl:=aD hT
  clear hQ hT
  go_wp2_with fail
  refine (HAP.out _ sb sq sc x1 x2 d1 d2 HN4.out Y1.out Y2.out).mono ?_
  rintro e w7 ⟨hres,hb7⟩
  have hR:=bP hb7 HR4.out
  have y0:=aA hR 0
  have y1:=aA hR 1
  simp at y0 y1
  have z0:=aC hR 0
  have z1:=aC hR 1
  have ylt:=aD hR
  have HR7:=aB hR
  have HB7:=aB (bG kP.out hb7)
  clear hR hb7 q0 q1 t0 t1 t2 ql tl l0 l1 ll
  rcases hres with ⟨hx,rfl⟩ | ⟨hx,gb,gc,rfl,hV⟩
  ·have HX:=aB hx
   clear hx
   go_wp2
   have hk:=bQ (v0:=.int .i64 0) (v1:=.slice none 0 0) HR7.out
   have k0:=aA hk 0
   have k1:=aA hk 1
   simp at k0 k1
   exact bodyPost_ret (v:=.tuple #[.agg #[.int .i64 0,.slice none 0 0],.int .i64 2]) (by simp [results,Tryz.results65,go_sem,k0,k1]) rfl ⟨Or.inl ⟨HX.out,rfl⟩,aW HB7.out aF⟩
  ·have HX:=aB hx
   have HV:=aB (aK hV (base' :=w.heap.size) kP.out.size)
   clear hx hV
   go_wp2
   have hk:=bQ (v0:=.int .i64 (r+1)) (v1:=.slice (some ⟨gb,0,none⟩) A.length gc) HR7.out
   have k0:=aA hk 0
   have k1:=aA hk 1
   simp at k0 k1
   exact bodyPost_ret (v:=.tuple #[.agg #[.int .i64 (r+1),.slice (some ⟨gb,0,none⟩) A.length gc],.int .i64 0]) (by simp [results,Tryz.results65,go_sem,k0,k1]) rfl ⟨Or.inr ⟨HX.out,gb,gc,rfl,aI (o:=1) (u:=.slice (some ⟨gb,0,none⟩) A.length gc) (aI (o:=0) (u:=.int .i64 (r+1)) HV.out HR7.out aL) (aG (i:=0) (.int .i64 (r+1)) HR7.out) aL⟩,aW HB7.out aF⟩
 ·rw [hp] at HC1
  clear hp
  go_wp2_with fail
  refine HC1.out.mono ?_
  rintro e w5 ⟨rfl,rfl⟩
  go_upto_region 12 with fail
  have hQ:=HQ4.out
  have q0:=aA hQ 0
  have q1:=aA hQ 1
  simp at q0 q1
  have ql:=aD hQ
  have hT:=HT4.out
  have t0:=aA hT 0
  have t1:=aA hT 1
  have t2:=aA hT 2
  simp at t0 t1 t2
  have tl:=aD hT
  clear hQ hT
  go_wp2_with fail
  refine (HAP.out _ sb sq sc x1 x2 d1 d2 HN4.out Y1.out Y2.out).mono ?_
  rintro e w7 ⟨hres,hb7⟩
  have hR:=bP hb7 HR4.out
  have y0:=aA hR 0
  have y1:=aA hR 1
  simp at y0 y1
  have z0:=aC hR 0
  have z1:=aC hR 1
  have ylt:=aD hR
  have HR7:=aB hR
  have HB7:=aB (bG kP.out hb7)
  clear hR hb7 q0 q1 t0 t1 t2 ql tl l0 l1 ll
  rcases hres with ⟨hx,rfl⟩ | ⟨hx,gb,gc,rfl,hV⟩
  ·have HX:=aB hx
   clear hx
   go_wp2
   have hk:=bQ (v0:=.int .i64 0) (v1:=.slice none 0 0) HR7.out
   have k0:=aA hk 0
   have k1:=aA hk 1
   simp at k0 k1
   exact bodyPost_ret (v:=.tuple #[.agg #[.int .i64 0,.slice none 0 0],.int .i64 2]) (by simp [results,Tryz.results65,go_sem,k0,k1]) rfl ⟨Or.inl ⟨HX.out,rfl⟩,aW HB7.out aF⟩
  ·have HX:=aB hx
   have HV:=aB (aK hV (base' :=w.heap.size) kP.out.size)
   clear hx hV
   go_wp2
   have hk:=bQ (v0:=.int .i64 (r+1)) (v1:=.slice (some ⟨gb,0,none⟩) A.length gc) HR7.out
   have k0:=aA hk 0
   have k1:=aA hk 1
   simp at k0 k1
   exact bodyPost_ret (v:=.tuple #[.agg #[.int .i64 (r+1),.slice (some ⟨gb,0,none⟩) A.length gc],.int .i64 0]) (by simp [results,Tryz.results65,go_sem,k0,k1]) rfl ⟨Or.inr ⟨HX.out,gb,gc,rfl,aI (o:=1) (u:=.slice (some ⟨gb,0,none⟩) A.length gc) (aI (o:=0) (u:=.int .i64 (r+1)) HV.out HR7.out aL) (aG (i:=0) (.int .i64 (r+1)) HR7.out) aL⟩,aW HB7.out aF⟩
end Go.Proofs.YtegloodcbfalfaaGreatDoor
namespace Go.Proofs.YtegloodcbfalfaaGreatDoor
def xo (ns:List Nd) (put:List Bool) (n:Nat):Nat:=if aM put n=true then ns.length+(bI put n).length else n
section moved
variable {r:Nat} {ns:List Nd} {t:Tm} {put tak:List Bool}
end moved
section once
variable {r:Nat} {ns:List Nd} {t:Tm}
end once
def tmE (r:Int) (t:Tm):Int:=if 3≤t.op∧t.op≤8 then (if (0≤t.a∧t.a<r)∧(0≤t.b∧t.b<r) then 0 else 3) else 4
theorem aYJ {r:Int} {t:Tm} (h:tmE r t=0):JJ r t:=by
 unfold tmE at h
 split at h
 ·split at h
  ·rename_i a b;exact ⟨a,b.1,b.2⟩
  ·omega
 ·omega
theorem aYK {r:Int} {t:Tm} (h:JJ r t):tmE r t=0:=by
 unfold tmE
 rw [if_pos h.op,if_pos ⟨h.a,h.b⟩]
def gV (r:Int) (ns:List Nd) (t:Tm):Int :=
 if bM r ns≠0 then bM r ns else if 256<(aS ns).length then 2 else if tmE r t≠0 then tmE r t
 else if rW ns t=true∧(256<(iG ns t r).length∨63<r) then 2 else 0
structure aOS (r:Int) (ns:List Nd) (t:Tm):Prop where
 ck:bM r ns=0
 len:(aS ns).length≤256
 tm:JJ r t
 fit:rW ns t=true→(iG ns t r).length≤256∧r≤63
theorem QO {r:Int} {ns:List Nd} {t:Tm} (h:gV r ns t=0):aOS r ns t:=by
 unfold gV at h
 by_cases h1:bM r ns=0
 ·rw [if_neg (by simp [h1])] at h
  by_cases h2:256<(aS ns).length
  ·rw [if_pos h2] at h;omega
  ·rw [if_neg h2] at h
   by_cases h3:tmE r t=0
   ·rw [if_neg (by simp [h3])] at h
    refine ⟨h1,aF,aYJ h3,fun hb=>?_⟩
    by_cases h4:rW ns t=true∧(256<(iG ns t r).length∨63<r)
    ·rw [if_pos h4] at h;omega
    ·have:¬ (256<(iG ns t r).length∨63<r):=fun q=>h4 ⟨hb,q⟩
     omega
   ·rw [if_pos (by simpa using h3)] at h;exact absurd h h3
 ·rw [if_pos (by simpa using h1)] at h;exact absurd h h1
theorem aOS.next {r:Int} {ns:List Nd} {t:Tm} (h:aOS r ns t):bM (kU ns t r) (iG ns t r)=0:=by
 have hl:=(bE h.ck).1
 have hr:=(bE h.ck).2.1
 refine aTC h.ck h.tm h.len ?_ ?_
 ·cases hb:rW ns t
  ·unfold iG;rw [hb];simp;omega
  ·exact (h.fit hb).1
 ·cases hb:rW ns t
  ·unfold kU;rw [hb];simp;omega
  ·have:=(h.fit hb).2
   unfold kU;rw [hb];simp;omega
theorem aTF (ns:List Nd) (t:Tm) (r:Int):r≤kU ns t r:=by unfold kU;split <;> omega
def jH (x:Int × Int × List Nd) (t:Tm):Int × Int × List Nd:=if x.1≠0 then x else if gV x.2.1 x.2.2 t=0 then (0,kU x.2.2 t x.2.1,iG x.2.2 t x.2.1) else (gV x.2.1 x.2.2 t,0,[])
def iU (r:Int) (ns:List Nd) (ts:List Tm):Int × Int × List Nd:=ts.foldl jH (0,r,ns)
theorem yZ (r:Int) (ns:List Nd) (ts:List Tm) (t:Tm):iU r ns (ts++[t])=jH (iU r ns ts) t:=by simp [iU,List.foldl_append]
theorem tO:∀ (ts:List Tm) {x:Int × Int × List Nd},x.1≠0→ts.foldl jH x=x
 | [],_,_=>rfl
 | t::ts,x,h=>by
  rw [List.foldl_cons]
  have e:jH x t=x:=by unfold jH;rw [if_pos h]
  rw [e];exact tO ts h
theorem XY {r:Int} {ns:List Nd} {ts us:List Tm} (h:(iU r ns ts).1≠0):iU r ns (ts++us)=iU r ns ts:=by
 unfold iU at *
 rw [List.foldl_append];exact tO us h
end Go.Proofs.YtegloodcbfalfaaGreatDoor
namespace Go.Proofs.YtegloodcbfalfaaGreatDoor
open Go.RowKit Go.Shelf
theorem GQ {r:Int} {ns:List Nd} (hc:bM r ns=0) (t:Tm):iP r ns t=tmE r t:=by
 unfold iP tmE
 rw [if_pos hc]
def aTG (r:Int) (ns:List Nd) (t:Tm) (w:World) (e:Ending) (w' :World):Prop :=
 (gV r ns t≠0∧e=.returned (.tuple #[.agg #[.int .i64 0,.slice none 0 0],.int .i64 (gV r ns t)]) ∨
  gV r ns t=0∧∃ gb gc,e=.returned (.tuple #[.agg #[.int .i64 (kU ns t r),.slice (some ⟨gb,0,none⟩) (iG ns t r).length gc],.int .i64 0])∧w'.ownsRow w.heap.size 42 6 (.slice (some ⟨gb,0,none⟩) (iG ns t r).length gc) (iG ns t r).length ((iG ns t r).flatMap aP))∧Below w.heap.size w w'
theorem aTH (r:Int) (a:Option Addr) (cap:Nat) (ns:List Nd) (t:Tm) (w:World) (hN:pI w a ns) :
 Calls Tryz.prog 65 #[.agg #[.int .i64 r,.slice a ns.length cap],.agg #[.int .i64 t.op,.int .i64 t.a,.int .i64 t.b]] w (aTG r ns t w):=by
 by_cases hc:bM r ns=0
 ·obtain ⟨b,off,rfl,hNb⟩:=hN.some (bB hc).1.1
  by_cases hl:(aS ns).length≤256
  ·have hcs:=iI (fC hc) hl
   have htc:iP r (aS ns) t=tmE r t:=GQ hcs t
   by_cases ht:tmE r t=0
   ·cases hb:rW ns t
    ·have e0:gV r ns t=0:=by
      unfold gV
      rw [if_neg (by simp [hc]),if_neg aF,if_neg (by simp [ht]),if_neg (by simp [hb])]
     have e1:iG ns t r=ns:=by unfold iG;rw [hb];rfl
     have e2:kU ns t r=r:=by unfold kU;rw [hb];rfl
     refine (aOR r b off cap ns t w hNb hc hl (by rw [htc];exact ht) hb).mono ?_
     rintro e w' ⟨gb,gc,rfl,hV,hB⟩
     refine ⟨Or.inr ⟨e0,gb,gc,?_,?_⟩,hB⟩
     ·rw [e1,e2]
     ·rw [e1];exact hV
    ·have e1:iG ns t r=qJ (aS ns) t (bK (aS ns) t) (aZ (aS ns) t) r:=by unfold iG;rw [hb];rfl
     have e2:kU ns t r=r+1:=by unfold kU;rw [hb];rfl
     refine (aIB r b off cap ns t w hNb hc hl (by rw [htc];exact ht) hb).mono ?_
     rintro e w' ⟨h,hB⟩
     refine ⟨?_,hB⟩
     rw [← e1] at h
     rcases h with ⟨h1,rfl⟩ | ⟨h1,gb,gc,rfl,hV⟩
     ·have e0:gV r ns t=2:=by
       unfold gV
       rw [if_neg (by simp [hc]),if_neg aF,if_neg (by simp [ht]),if_pos ⟨hb,h1⟩]
      exact Or.inl ⟨by rw [e0];decide,by rw [e0]⟩
     ·have e0:gV r ns t=0:=by
       unfold gV
       rw [if_neg (by simp [hc]),if_neg aF,if_neg (by simp [ht]),if_neg (by rintro ⟨_,q⟩;omega)]
      exact Or.inr ⟨e0,gb,gc,by rw [e2],hV⟩
   ·have e0:gV r ns t=tmE r t:=by
     unfold gV
     rw [if_neg (by simp [hc]),if_neg aF,if_pos (by simpa using ht)]
    refine (aOO r b off cap ns t w hNb hc hl (by rw [htc];exact ht)).mono ?_
    rintro e w' ⟨rfl,hB⟩
    exact ⟨Or.inl ⟨by rw [e0];exact ht,by rw [e0,htc]⟩,hB⟩
  ·have e0:gV r ns t=2:=by
    unfold gV
    rw [if_neg (by simp [hc]),if_pos aF]
   refine (aON r b off cap ns t w hNb hc aF).mono ?_
   rintro e w' ⟨rfl,hB⟩
   exact ⟨Or.inl ⟨by rw [e0];decide,by rw [e0]⟩,hB⟩
 ·have e0:gV r ns t=bM r ns:=by
   unfold gV
   rw [if_pos (by simpa using hc)]
  refine (aHY r a cap ns t w hN hc).mono ?_
  rintro e w' ⟨rfl,hB⟩
  exact ⟨Or.inl ⟨by rw [e0];exact hc,by rw [e0]⟩,hB⟩
theorem aTI {w:World} {base:Nat} {gb gc:Nat} {ms:List Nd} (h:w.ownsRow base 42 6 (.slice (some ⟨gb,0,none⟩) ms.length gc) ms.length (ms.flatMap aP)) (hl:1≤ms.length):aH w gb 0 ms:=jV h hl
end Go.Proofs.YtegloodcbfalfaaGreatDoor
namespace Go.Proofs.YtegloodcbfalfaaGreatDoor
open Go.RowKit
def kW (t:Tm):List Value:=[.int .i64 t.op,.int .i64 t.a,.int .i64 t.b]
theorem MW (t:Tm):(kW t).length=3:=rfl
theorem a3V:EqlAt Tryz.prog 59 (fun x=>.agg (kW x).toArray) (fun x y=>decide (x=y)):=by
 refine ⟨fun x y w=>?_,GuardAt.agg _ fJ⟩
 have u3:=Tryz.underlying3
 have a3:=Tryz.isAgg3
 have z3:=Tryz.sizeOf3
 have hS:Tryz.prog.underlying 59=some (.struct (Tryz.prog.fieldsOf 59)):=by kernel_rfl
 have hp:Tryz.prog.stoodInHeld 59=false:=by kernel_rfl
 simp only [kW]
 rw [run_eql_struct,show (10000:Nat)=9999+1 from rfl,run_equalIn_agg w 9999 59 _ _ hS hp]
 simp only [Program.fieldsOf,Tryz.underlying59]
 go_simp
 obtain ⟨x1,x2,x3⟩:=x
 obtain ⟨y1,y2,y3⟩:=y
 by_cases h1:x1=y1 <;> by_cases h2:x2=y2 <;> by_cases h3:x3=y3 <;> simp [h1,h2,h3]
def lL (w:World) (a:Option Addr) (ts:List Tm):Prop :=
 ts=[]∨∃ b off,a=some ⟨b,off,none⟩∧b<w.heap.size∧∀ (j:Nat) (t:Tm),ts[j]?=some t→w.cell? ⟨b,off+j*3,none⟩=some (.int .i64 t.op)∧w.cell? ⟨b,off+j*3+1,none⟩=some (.int .i64 t.a)∧w.cell? ⟨b,off+j*3+2,none⟩=some (.int .i64 t.b)
theorem lL.below {w w' :World} {a:Option Addr} {ts:List Tm} (h:lL w a ts) (hb:Below w.heap.size w w'):lL w' a ts:=by
 rcases h with h | ⟨b,off,rfl,hlt,h⟩
 ·exact Or.inl h
 ·refine Or.inr ⟨b,off,rfl,Nat.lt_of_lt_of_le hlt hb.size,fun j t ht=>?_⟩
  rw [hb.cell (p:=⟨b,_,none⟩) hlt,hb.cell (p:=⟨b,_,none⟩) hlt,hb.cell (p:=⟨b,_,none⟩) hlt]
  exact h j t ht
theorem lM {w:World} {base:Nat} {e:TypeId} {v:Value} {ts:List Tm} (h:w.ownsRow base e 3 v ts.length (ts.flatMap kW)):∃ a cap,v=.slice a ts.length cap∧lL w a ts:=by
 have hc:∀ g,v.ownBlock=some g→∀ j u,(ts.flatMap kW)[j]?=some u→w.cell? ((⟨g,0,none⟩:Addr).add j)=some u:=fun g hg=>h.cells hg
 obtain ⟨_,h⟩:=h
 rcases h with ⟨rfl,h0⟩ | ⟨g,cap,cur,rfl,h1,h2,h3,h4,h5,h6⟩
 ·have:ts=[]:=List.eq_nil_of_length_eq_zero h0
  subst this
  exact ⟨none,0,rfl,Or.inl rfl⟩
 ·refine ⟨_,cap,rfl,Or.inr ⟨g,0,rfl,(Array.getElem?_eq_some_iff.1 h2).1,?_⟩⟩
  intro j t ht
  have e:∀ i,(⟨g,0,none⟩:Addr).add i=⟨g,0+i,none⟩:=by intro i;cases i <;> simp [Addr.add]
  have f:∀ i,i<3→∀ u,(kW t)[i]?=some u→w.cell? ⟨g,0+(j*3+i),none⟩=some u:=by
   intro i hi u hu
   have:=hc g rfl (j*3+i) u (by rw [flat3 kW MW ts j i t ht hi];exact hu)
   rwa [e] at this
  exact ⟨f 0 aF _ rfl,f 1 aF _ rfl,f 2 aF _ rfl⟩
theorem MX:(Tryz.prog.info? 59).map (fun i=>(i.zero,i.size,i.bytes))=some (some (.agg #[.int .i64 0,.int .i64 0,.int .i64 0]),3,24):=by kernel_rfl
theorem AU (a:Option Addr) (cap:Nat) (t:Tm) (w:World) :
 Calls Tryz.prog 100 #[.slice a 0 cap,.agg #[.int .i64 t.op,.int .i64 t.a,.int .i64 t.b]] w fun e w' =>e=.returned (.bool false)∧Below w.heap.size w w' :=by
 have hI:∀ w,Calls Tryz.prog 124 #[.slice a 0 cap,.agg #[.int .i64 t.op,.int .i64 t.a,.int .i64 t.b]] w fun e w' =>e=.returned (.int .i64 (-1))∧Below w.heap.size w w' :=by
  intro w
  go_enter Tryz.func124,Tryz.ntmps124
  go_wp2
  refine wp_loop_rounds 1 ?_
  rw [rounds_succ]
  go_wp2
  go_ret
  exact ⟨rfl,dY⟩
 go_enter Tryz.func100,Tryz.ntmps100
 go_wp2_with fail
 refine (hI _).mono ?_
 rintro e w' ⟨rfl,hb⟩
 simp only [World.size_alloc] at hb
 go_wp2
 go_ret
 exact ⟨rfl,(dY).trans (hb.mono aF)⟩
theorem JL (a:Option Addr) (cap:Nat) (ts:List Tm) (t:Tm) (w:World) (h:lL w a ts) (hl:ts.length≤9223372036854775807) :
 Calls Tryz.prog 100 #[.slice a ts.length cap,.agg #[.int .i64 t.op,.int .i64 t.a,.int .i64 t.b]] w fun e w' =>e=.returned (.bool (ts.any fun y=>decide (t=y)))∧Below w.heap.size w w' :=by
 rcases h with rfl | ⟨b,off,rfl,hlt,hc⟩
 ·exact AU a cap t w
 ·have h1:=AnyQ.slices_Contains Tryz.containsTerm 3 Tryz.isAgg59 Tryz.sizeOf59 kW MW _ a3V b off ts.length cap ts t w dD hl (fun j hj i v hi=>by
   have ht:ts[j]?=some ts[j]! :=by rw [List.getElem?_eq_getElem hj,getElem!_pos ts j hj]
   generalize ts[j]! =t' at ht hi
   obtain ⟨q0,q1,q2⟩:=hc j _ ht
   match i,hi with
   | 0,hi=>simp [kW] at hi;subst hi;exact q0
   | 1,hi=>simp [kW] at hi;subst hi;exact q1
   | 2,hi=>simp [kW] at hi;subst hi;exact q2
   | i+3,hi=>simp [kW] at hi)
  rw [List.take_length] at h1
  exact h1
def tQ (r:Int) (ns:List Nd):List Tm:=if bM r ns=0 then mW ns ns.length else []
theorem aIC (r:Int) (a:Option Addr) (cap:Nat) (ns:List Nd) (w:World) (hN:pI w a ns) :
 Calls Tryz.prog 64 #[.agg #[.int .i64 r,.slice a ns.length cap]] w fun e w' =>∃ a' cap', e=.returned (.tuple #[.slice a' (tQ r ns).length cap', .int .i64 (bM r ns)])∧lL w' a' (tQ r ns)∧Below w.heap.size w w' :=by
 have hN1:pI (w.alloc (.cells #[.int .i64 r,.slice a ns.length cap] 24)) a ns:=hN.below ((Below.refl w.heap.size w).alloc dD _)
 by_cases hc:bM r ns=0
 ·obtain ⟨hl2,_,_,_,_⟩:=bB hc
  obtain ⟨b,off,rfl,hNb⟩:=hN.some aF
  have hnx:tQ r ns=mW ns ns.length:=by simp only [tQ,hc,if_true]
  rw [hnx,hc]
  obtain ⟨i0,hi,hz0,hz1,hz2⟩:=info_parts MX
  go_enter Tryz.func64,Tryz.ntmps64
  go_wp2_with fail
  refine (fG r _ cap ns _ hN1).mono ?_
  rintro e w1 ⟨rfl,hb1⟩
  have hs1:=hb1.size
  simp only [World.size_alloc] at hs1 hb1
  have hB1:Below w.heap.size w w1:=(dY).trans (hb1.mono aF)
  have q1:w1.cell? ⟨w.heap.size,1,none⟩=some (.slice (some ⟨b,off,none⟩) ns.length cap):=by rw [hb1.cell (p:=⟨w.heap.size,1,none⟩) aQ];simp
  have UK :w.heap.size<w1.heap.size:=by omega
  have FX:=hNb.below hB1 hNb.lt
  have hblt:=hNb.lt
  clear hb1 hnx hN1 hNb
  rw [hc]
  clear hc
  go_wp2
  go_loopw [5,18] (fun v i wv=>∃ k:Nat,k≤ns.length∧i=.int .i64 k∧wv.ownsRow (w.heap.size+1) 59 3 v (mW ns k).length ((mW ns k).flatMap kW)∧Below (w.heap.size+1) w1 wv) (fun _ i _=>ns.length-(intOf i).toNat)
  case atStart=>exact ⟨0,Nat.zero_le _,rfl,World.ownsRow_nil _ _ _ _,Below.refl _ _⟩
  case round =>
   obtain ⟨k,hk,rfl,hown,hb⟩:=hrel
   have hsz:=hb.size
   have kQ:=FX.below hb aF
   have hlt2:=kQ.lt
   have hsw:w.heap.size<wr.heap.size:=by omega
   by_cases hlt:k<ns.length
   ·obtain ⟨x,hx⟩:=bD hlt
    have c0:=kQ.c0 k x hx
    have c1:=kQ.c1 k x hx
    have c2:=kQ.c2 k x hx
    have c3:=kQ.c3 k x hx
    have c4:=kQ.c4 k x hx
    have c5:=kQ.c5 k x hx
    have HT:=aB (CJ hx)
    have htl:=tZ ns k
    clear hx kQ
    by_cases hop:3≤x.op∧x.op≤8
    ·obtain ⟨ho1,ho2⟩:=hop
     have HW:=aB (dP ho1 ho2)
     go_wp2_with fail
     refine (CG _ _ _ _ _ _ _ ho1 ho2).mono ?_
     rintro e w2 ⟨rfl,hb2⟩
     have hs2:=hb2.size
     simp only [World.size_alloc] at hs2 hb2
     have hown2:=(ownsRow_below (hown.alloc _) hb2 aQ)
     have hB2:Below (w.heap.size+1) w1 w2:=(hb.alloc aF _).trans (hb2.mono aF)
     have hown3:=hown2.alloc (.cells #[.int .i64 x.op,.int .i64 x.a,.int .i64 x.b] 59)
     obtain ⟨a3,a3W,hv3,hT3⟩:=lM hown3
     have HV:=aB hv3
     rw [hv3] at hown3
     clear hown hb2 c0 c1 c2 c3 c4 c5 hown2
     rw [hv3]
     clear hv3
     have hcon:=JL a3 a3W (mW ns k) (gG x) _ hT3 aF
     have hst:=aFH (mW ns k) HW.out
     generalize ((mW ns k).any fun y=>decide (gG x=y))=bb at hcon hst
     simp only [gG] at hcon
     have HS:=aB hst
     clear hst
     go_wp2_with fail
     refine hcon.mono ?_
     rintro e w3 ⟨rfl,hb3⟩
     have hs3:=hb3.size
     have hown4:=ownsRow_below hown3 hb3 dD
     simp only [World.size_alloc] at hs3 hb3
     have hB3:Below (w.heap.size+1) w1 w3:=(hB2.alloc aF _).trans (hb3.mono aF)
     have t0:w3.cell? ⟨w2.heap.size,0,none⟩=some (.int .i64 x.op):=by rw [hb3.cell (p:=⟨w2.heap.size,0,none⟩) aQ];simp
     have t1:w3.cell? ⟨w2.heap.size,1,none⟩=some (.int .i64 x.a):=by rw [hb3.cell (p:=⟨w2.heap.size,1,none⟩) aQ];simp
     have t2:w3.cell? ⟨w2.heap.size,2,none⟩=some (.int .i64 x.b):=by rw [hb3.cell (p:=⟨w2.heap.size,2,none⟩) aQ];simp
     have bKY :w2.heap.size<w3.heap.size:=by omega
     clear hcon hT3 hown3 hb3
     cases bb
     ·go_wp2_with (at_builtin;refine wpList_append_own _ rfl (.tmp 34) (.tmp 36) 68 rfl (w.heap.size+1) 59 i0 _ 3 24 Tryz.underlying68 hi hz0 hz1 hz2 rfl aL _ _ _ rfl (hown4.alloc _) ⟨w3.heap.size,0,none⟩ 1 1 [.int .i64 x.op,.int .i64 x.a,.int .i64 x.b] rfl rfl ?c1 ?c2 ?c3 ?c4 ?c5 ?_)
      case c1 =>
       intro j u hj
       match j,hj with
       | 0,hj=>simp at hj;subst hj;simp [Addr.add]
       | 1,hj=>simp at hj;subst hj;simp [Addr.add]
       | 2,hj=>simp at hj;subst hj;simp [Addr.add]
       | j+3,hj=>simp at hj
      case c2=>intro u hu;simp at hu;rcases hu with rfl | rfl | rfl <;> rfl
      case c3=>unfold maxLen;omega
      case c4=>omega
      case c5=>simp;omega
      intro v' w4 hown5 hg4 _
      have hlt1:=hown4.lt
      have hB4:Below (w.heap.size+1) w1 w4:=(hB3.alloc aF _).grown hg4 bF (fun k hk=>(hlt1 k hk).1)
      have hown6:w4.ownsRow (w.heap.size+1) 59 3 v' (mW ns (k+1)).length ((mW ns (k+1)).flatMap kW):=by
       rw [HT.out,HS.out];simpa [kW,gG] using hown5
      clear hown5 hg4 hlt1 hown4 t0 t1 t2
      go_wp2
      go_roundw
      case rel=>exact ⟨k+1,aF,by go_num,hown6,hB4⟩
      case measure=>simp [intOf];omega
     ·go_wp2
      go_roundw
      case rel=>exact ⟨k+1,aF,by go_num,by rw [HT.out,HS.out];simpa using hown4,hB3⟩
      case measure=>simp [intOf];omega
    ·have hop' :x.op<3∨8<x.op:=by omega
     have HW:=aB (eT hop')
     have HS:=aB (aKB (mW ns k) HW.out)
     clear hop
     go_wp2_with fail
     refine (aCW _ _ _ _ _ _ _ hop').mono ?_
     rintro e w2 ⟨rfl,hb2⟩
     have hs2:=hb2.size
     simp only [World.size_alloc] at hs2 hb2
     have hown2:=(ownsRow_below (hown.alloc _) hb2 aQ)
     have hB2:Below (w.heap.size+1) w1 w2:=(hb.alloc aF _).trans (hb2.mono aF)
     clear hown hb2 c0 c1 c2 c3 c4 c5
     go_wp2
     go_roundw
     case rel=>exact ⟨k+1,aF,by go_num,by rw [HT.out,HS.out];exact hown2.alloc _,hB2.alloc aF _⟩
     case measure=>simp [intOf];omega
   ·have ek:k=ns.length:=by omega
    have HE:=aB ek
    clear ek kQ
    go_wp2
    go_ret2
    rw [HE.out] at hown
    obtain ⟨a2,cap2,hv,hI⟩:=lM hown
    refine ⟨a2,cap2,?_,hI,hB1.trans (hb.mono aF)⟩
    rw [← hv];rfl
 ·have hnx:tQ r ns=[]:=by simp [tQ,hc]
  rw [hnx]
  have hb:(bM r ns != 0)=true:=by simp [hc]
  clear hc hnx
  go_enter Tryz.func64,Tryz.ntmps64
  go_wp2_with fail
  refine (fG r _ cap ns _ hN1).mono ?_
  rintro e w1 ⟨rfl,hb1⟩
  have hs1:=hb1.size
  simp only [World.size_alloc] at hs1 hb1
  have hB1:Below w.heap.size w w1:=(dY).trans (hb1.mono aF)
  go_wp2
  go_ret2
  exact ⟨none,0,rfl,Or.inl rfl,hB1⟩
end Go.Proofs.YtegloodcbfalfaaGreatDoor
namespace Go.Proofs.YtegloodcbfalfaaGreatDoor
open Go.RowKit Go.Shelf
theorem MZ {w:World} {a:Option Addr} {ts:List Tm} (h:lL w a ts) {k:Nat} (hk:k<ts.length):∃ b off,a=some ⟨b,off,none⟩∧b<w.heap.size∧∀ (j:Nat) (t:Tm),ts[j]?=some t→w.cell? ⟨b,off+j*3,none⟩=some (.int .i64 t.op)∧w.cell? ⟨b,off+j*3+1,none⟩=some (.int .i64 t.a)∧w.cell? ⟨b,off+j*3+2,none⟩=some (.int .i64 t.b):=by
 rcases h with rfl | h
 ·simp at hk
 ·exact h
theorem GR (b off cap:Nat) (ns:List Nd) (W:World) (hN:aH W b off ns) (hl:1≤ns.length∧ns.length≤512) :
 Calls Tryz.prog 14 #[.slice (some ⟨b,off,none⟩) ns.length cap] W.drew fun e w' =>∃ gb gc,e=.returned (.slice (some ⟨gb,0,none⟩) ns.length gc)∧aH w' gb 0 ns∧W.heap.size≤gb∧Below W.heap.size W w' :=by
 have hd:=(Below.refl W.heap.size W).drew
 refine (rM b off cap ns W.drew (hN.below hd hN.lt) hl).mono ?_
 rintro e w' ⟨gb,gc,rfl,hV,hb⟩
 refine ⟨gb,gc,rfl,jV hV hl.1,?_,hd.trans hb⟩
 rcases hV.2 with ⟨q,_⟩ | ⟨g', c,cur,q,a1,a2,_⟩
 ·cases q
 ·cases q;exact a1
theorem GU (b off cap:Nat) (ns:List Nd) (W:World) (hN:aH W b off ns) (hl:1≤ns.length∧ns.length≤512) :
 Calls Tryz.prog 14 #[.slice (some ⟨b,off,none⟩) ns.length cap] (W.alloc (.cells #[.int .i64 0,.slice none 0 0] 24)).drew fun e w' =>∃ gb gc,e=.returned (.slice (some ⟨gb,0,none⟩) ns.length gc)∧aH w' gb 0 ns∧W.heap.size+1≤gb∧w'.heap[W.heap.size]?=some (.cells #[.int .i64 0,.slice none 0 0] 24 (0,0))∧Below W.heap.size W w' :=by
 have hd:=((Below.refl W.heap.size W).alloc dD (.cells #[.int .i64 0,.slice none 0 0] 24)).drew
 have hq:(W.alloc (.cells #[.int .i64 0,.slice none 0 0] 24)).drew.heap[W.heap.size]?=some (.cells #[.int .i64 0,.slice none 0 0] 24 (0,0)):=World.alloc_heap_new W _
 have hs:(W.alloc (.cells #[.int .i64 0,.slice none 0 0] 24)).drew.heap.size=W.heap.size+1:=World.size_alloc W _
 refine (rM b off cap ns _ (hN.below hd hN.lt) hl).mono ?_
 rintro e w' ⟨gb,gc,rfl,hV,hb⟩
 refine ⟨gb,gc,rfl,jV hV hl.1,?_,(hb.block _ aF).trans hq,hd.trans (hb.mono aF)⟩
 rcases hV.2 with ⟨q,_⟩ | ⟨g', c,cur,q,a1,a2,_⟩
 ·cases q
 ·cases q;omega
def aET (r:Int) (ns:List Nd) (w:World) (e:Ending) (w' :World):Prop :=
 ((iU r ns (mW ns ns.length)).1≠0∧e=.returned (.tuple #[.agg #[.int .i64 0,.slice none 0 0],.int .i64 (iU r ns (mW ns ns.length)).1]) ∨
  (iU r ns (mW ns ns.length)).1=0∧∃ gb gc,e=.returned (.tuple #[.agg #[.int .i64 (iU r ns (mW ns ns.length)).2.1,.slice (some ⟨gb,0,none⟩) (iU r ns (mW ns ns.length)).2.2.length gc],.int .i64 0])∧aH w' gb 0 (iU r ns (mW ns ns.length)).2.2∧w.heap.size≤gb)∧Below w.heap.size w w'
theorem aID (r:Int) (b off cap:Nat) (ns:List Nd) (w:World) (hN:aH w b off ns) (hc:bM r ns=0) :
 Calls Tryz.prog 37 #[.agg #[.int .i64 r,.slice (some ⟨b,off,none⟩) ns.length cap]] w (aET r ns w):=by
 have hl0:=(bE hc).1
 have HC:=aB hc
 have HN:=aB hN
 have IW:=aB (fun W (h:Below w.heap.size w W)=>aIC r (some ⟨b,off,none⟩) cap ns W (Or.inr ⟨b,off,rfl,hN.below h hN.lt⟩))
 rw [show tQ r ns=mW ns ns.length by simp only [tQ,hc,if_true],hc] at IW
 unfold aET
 have hLl:(mW ns ns.length).length≤256:=by have:=tZ ns ns.length;omega
 generalize mW ns ns.length=L at IW hLl ⊢
 clear hc hN
 obtain ⟨W,oG,hbA,p0,p1⟩:=VP w (.cells #[.int .i64 r,.slice (some ⟨b,off,none⟩) ns.length cap] 24) (.cells #[.int .i64 0,.slice none 0 0] 24)
 go_enter Tryz.func37,Tryz.ntmps37
 go_upto_region 1 with fail
 rw [oG.out]
 clear oG
 have q0:=aA p0 0
 have q1:=aA p0 1
 simp at q0 q1
 have pl:=aD p0
 have HB:=aB hbA
 have HP:=aB p0
 have HR:=aB p1
 clear hbA p0 p1
 go_wp2_with fail
 refine (IW.out _ HB.out).mono ?_
 rintro e w1 ⟨x,xc,rfl,hT1,hb1⟩
 have HB1:=aB (bG HB.out hb1)
 have HR1:=aB (bP hb1 HR.out)
 have kH:=aB (bP hb1 HP.out)
 have HTm:=aB hT1
 have hsz:w.heap.size+1<w1.heap.size:=aD HR1.out
 clear hb1 q0 q1 pl HB HR HP IW hT1
 go_upto_region 4 with fail
 have HS:Hid (∀ u:World,Below w1.heap.size w1 u→u.cell? ⟨w.heap.size,0,none⟩=some (.int .i64 r)∧u.cell? ⟨w.heap.size,1,none⟩=some (.slice (some ⟨b,off,none⟩) ns.length cap)):=fun u h=>by
  have k1:=bP h kH.out
  refine ⟨?_,?_⟩
  ·rw [aA k1];rfl
  ·rw [aA k1];rfl
 have pl:w.heap.size<w1.heap.size:=aD kH.out
 go_cut [6] from 18 to 24 (fun v wx=>∃ QB gb gc,v=.pointer (some ⟨QB,0,none⟩)∧w1.heap.size≤QB∧wx.heap[QB]?=some (.cells #[.int .i64 r,.slice (some ⟨gb,0,none⟩) ns.length gc] 24 (0,0))∧aH wx gb 0 ns∧gb≠QB∧w1.heap.size≤gb∧Below w1.heap.size w1 wx)
 case first =>
  go_region_held3 (fun u=>u.cell? ⟨w.heap.size,0,none⟩=some (.int .i64 r)∧u.cell? ⟨w.heap.size,1,none⟩=some (.slice (some ⟨b,off,none⟩) ns.length cap)) (first
   | (with_reducible refine HS.out _ ?_;first | with_reducible exact uV | with_reducible exact uV.alloc uV.size _ | with_reducible exact (Below.refl _ w1).drew | with_reducible exact (Below.refl _ w1) | with_reducible exact (dY).drew | with_reducible exact (Below.refl _ w1).drew.alloc aQ _ | with_reducible exact dY)
   | (with_reducible refine HS.out _ ?_;exact aW uV dD)) (first
   | (go_at_call 14;refine (GU b off cap ns w1 (HN.out.below HB1.out HN.out.lt) aF).mono ?_;rintro e w7 ⟨gb,gc,rfl,hN7,hg7,hk7,uV⟩;have z0:=aA hk7 0;have z1:=aA hk7 1;simp at z0 z1;have f0:=aC hk7 0;have f1:=aC hk7 1;have zl:=aD hk7;have HX:=aB (And.intro hN7 hk7);clear hN7 hk7)
   | (go_at_call 14;refine (GR b off cap ns w1 (HN.out.below HB1.out HN.out.lt) aF).mono ?_;rintro e w7 ⟨gb,gc,rfl,hN7,hg7,uV⟩;have HX:=aB hN7;clear hN7))
  all_goals (go_wp2;go_meet)
  all_goals first
   | exact ⟨w1.heap.size,gb,gc,rfl,Nat.le_refl _,bQ HX.out.2,(HX.out.1.iE aF).iE aF,aF,aF,aW uV dD⟩
   | exact ⟨w7.heap.size,gb,gc,rfl,uV.size,kL rfl,HX.out.below (dY) HX.out.lt,Nat.ne_of_lt HX.out.lt,hg7,uV.alloc uV.size _⟩
 case rest =>
  obtain ⟨QB,gb,gc,rfl,hQ,hK,hNg,hne,hgb,JM⟩:=hcut
  have HK:=aB hK
  have HNg:=aB hNg
  have HBc:=aB JM
  have aOU:w.heap.size+1≠QB:=by omega
  clear hK hNg JM HS pl kH HN
  generalize hW:wc=V at *
  clear hW
  go_wp2_with fail
  go_loopw [26] (fun i wr=>∃ (k gb gc:Nat),k≤L.length∧i=.int .i64 k∧(iU r ns (L.take k)).1=0∧wr.heap[QB]?=some (.cells #[.int .i64 (iU r ns (L.take k)).2.1,.slice (some ⟨gb,0,none⟩) (iU r ns (L.take k)).2.2.length gc] 24 (0,0))∧aH wr gb 0 (iU r ns (L.take k)).2.2∧gb≠QB∧w1.heap.size≤gb∧Below w1.heap.size w1 wr) (fun i _=>L.length-(intOf i).toNat)
  case atStart=>exact ⟨0,gb,gc,Nat.zero_le _,rfl,rfl,HK.out,HNg.out,hne,hgb,HBc.out⟩
  case round =>
   obtain ⟨k,gb,gc,hk,rfl,h0,hK,hN,hne,hgb,hb⟩:=hrel
   obtain ⟨⟨e0,q,ms⟩,hX⟩:∃ X,iU r ns (L.take k)=X:=⟨_,rfl⟩
   rw [hX] at h0 hK hN
   simp only at h0 hK hN
   subst h0
   have HX:=aB hX
   have HR:=aB (bP hb HR1.out)
   have HBw:=aB (bG HB1.out hb)
   have hwr:w1.heap.size≤wr.heap.size:=hb.size
   clear hX
   by_cases hlt:k<L.length
   ·obtain ⟨t,ht⟩:=bD hlt
    obtain ⟨xb,xo,rfl,xl,hx⟩:=MZ HTm.out hlt
    obtain ⟨d0,d1,d2⟩:=hx k t ht
    have c0:=(hb.cell (p:=⟨xb,xo+k*3,none⟩) xl).trans d0
    have c1:=(hb.cell (p:=⟨xb,xo+k*3+1,none⟩) xl).trans d1
    have c2:=(hb.cell (p:=⟨xb,xo+k*3+2,none⟩) xl).trans d2
    have xl' :xb<wr.heap.size:=by omega
    have hki:(k:Int)<(L.length:Int):=by omega
    have htk:L.take (k+1)=L.take k++[t]:=by rw [List.take_add_one,ht];rfl
    have vJ:=aB htk
    obtain ⟨U,yL,hxA,hTB⟩:=bx1 wr (.cells #[.int .i64 t.op,.int .i64 t.a,.int .i64 t.b] 59)
    have HKu:=aB (bP hxA hK)
    have HRu:=aB (bP hxA HR.out)
    have HNu:=aB (hN.below hxA hN.lt)
    have HBu:=aB (bG hb hxA)
    have a3Z:=aB (bG HBw.out hxA)
    clear d0 d1 d2 hx ht htk hK hN hb
    go_upto_region 8 with fail
    rw [yL.out]
    clear yL
    generalize wr.heap.size=TB at hTB ⊢
    have t0:=aA hTB 0
    have t1:=aA hTB 1
    have t2:=aA hTB 2
    simp at t0 t1 t2
    have tl:=aD hTB
    have q0:=aA HKu.out 0
    have q1:=aA HKu.out 1
    simp at q0 q1
    have ql:=aD HKu.out
    clear hTB hxA c0 c1 c2 HR HBw
    go_wp2_with fail
    refine (aTH q (some ⟨gb,0,none⟩) gc ms t _ (Or.inr ⟨gb,0,rfl,HNu.out⟩)).mono ?_
    rintro e w5 ⟨h,hb5⟩
    have yM:=(hb5.block _ ql).trans HKu.out
    have BQ:=bP hb5 HRu.out
    have AL:=aB (bG HBu.out hb5)
    have aYL:=aB (bG a3Z.out hb5)
    have hl5:=hb5.size
    clear t0 t1 t2 tl q0 q1 HKu HRu HNu HBu a3Z hb5
    have q0:=aA yM 0
    have q1:=aA yM 1
    simp at q0 q1
    have f0:=aC yM 0
    have f1:=aC yM 1
    have ql5:=aD yM
    rcases h with ⟨hne0,rfl⟩ | ⟨hz,nb,nc,rfl,hV⟩
    ·have hCb:(gV q ms t==0)=false:=by simp [hne0]
     have hCn:(gV q ms t != 0)=true:=by simp [hne0]
     have hF:iU r ns L=(gV q ms t,0,[]):=by
      have e1:iU r ns (L.take (k+1))=(gV q ms t,0,[]):=by
       rw [vJ.out,yZ,HX.out]
       unfold jH
       rw [if_neg aQ,if_neg hne0]
      have e2:L=L.take (k+1)++L.drop (k+1):=(List.take_append_drop _ _).symm
      rw [e2,XY (by rw [e1];exact hne0),e1]
     have HF:=aB hF
     have HNE:=aB hne0
     clear hF hne0
     generalize gV q ms t=C at *
     have HR6:Hid (((w5.setCell ⟨QB,0,none⟩ (.int .i64 0)).setCell ⟨QB,1,none⟩ (.slice none 0 0)).heap[w.heap.size+1]?=some (.cells #[.int .i64 0,.slice none 0 0] 24 (0,0))):=(bJ aOU _ _).trans ((bJ aOU _ _).trans BQ)
     have aOV:=aB (aW (v0:=.int .i64 0) (v1:=.slice none 0 0) aYL.out (B:=QB) aF)
     clear yM BQ
     go_upto_region 9 with fail
     clear q0 q1 f0 f1 ql5
     generalize ((w5.setCell ⟨QB,0,none⟩ (.int .i64 0)).setCell ⟨QB,1,none⟩ (.slice none 0 0))=U2 at HR6 aOV ⊢
     have hR:=HR6.out
     have k0:=aA hR 0
     have k1:=aA hR 1
     simp at k0 k1
     have f0:=aC hR 0
     have f1:=aC hR 1
     have kl:=aD hR
     have hk:=bQ (v0:=.int .i64 0) (v1:=.slice none 0 0) hR
     have nA:=aW (v0:=.int .i64 0) (v1:=.slice none 0 0) aOV.out (B:=w.heap.size+1) aF
     clear hR
     go_wp2_with fail
     clear k0 k1 f0 f1 kl
     generalize ((U2.setCell ⟨w.heap.size+1,0,none⟩ (.int .i64 0)).setCell ⟨w.heap.size+1,1,none⟩ (.slice none 0 0))=Wf at hk nA ⊢
     have k0:=aA hk 0
     have k1:=aA hk 1
     simp at k0 k1
     refine bodyPost_ret (v:=.tuple #[.agg #[.int .i64 0,.slice none 0 0],.int .i64 C]) (by simp [results,Tryz.results37,go_sem,k0,k1]) rfl ⟨Or.inl ?_,nA⟩
     rw [HF.out]
     exact ⟨HNE.out,rfl⟩
    ·have ho:=QO hz
     have hlm:=(bE ho.next).1.1
     have hnb:nb≠QB∧w1.heap.size≤nb:=by
      rcases hV.2 with ⟨q,_⟩ | ⟨g', c,cur,q,a1,a2,_⟩
      ·cases q
      ·cases q;exact ⟨aF,aF⟩
     have hF:iU r ns (L.take (k+1))=(0,kU ms t q,iG ms t q):=by
      rw [vJ.out,yZ,HX.out]
      unfold jH
      rw [if_neg aQ,if_pos hz]
     have HF:=aB hF
     have HN6:Hid (aH ((w5.setCell ⟨QB,0,none⟩ (.int .i64 (kU ms t q))).setCell ⟨QB,1,none⟩ (.slice (some ⟨nb,0,none⟩) (iG ms t q).length nc)) nb 0 (iG ms t q)):=((aTI hV hlm).iE hnb.1).iE hnb.1
     have HK6:Hid (((w5.setCell ⟨QB,0,none⟩ (.int .i64 (kU ms t q))).setCell ⟨QB,1,none⟩ (.slice (some ⟨nb,0,none⟩) (iG ms t q).length nc)).heap[QB]?=some (.cells #[.int .i64 (kU ms t q),.slice (some ⟨nb,0,none⟩) (iG ms t q).length nc] 24 (0,0))):=bQ yM
     have HB6:=aB (aW (v0:=.int .i64 (kU ms t q)) (v1:=.slice (some ⟨nb,0,none⟩) (iG ms t q).length nc) AL.out (B:=QB) aF)
     have rY:=aB hnb
     clear hF hz ho hlm hV yM BQ hnb
     generalize iG ms t q=ms' at *
     generalize kU ms t q=q' at *
     go_upto_region 9 with fail
     clear q0 q1 f0 f1 ql5
     generalize ((w5.setCell ⟨QB,0,none⟩ (.int .i64 q')).setCell ⟨QB,1,none⟩ (.slice (some ⟨nb,0,none⟩) ms'.length nc))=U2 at HN6 HK6 HB6 ⊢
     go_wp2_with fail
     go_roundw
     case rel=>exact ⟨k+1,nb,nc,aF,by go_num,by rw [HF.out],by rw [HF.out];exact HK6.out,by rw [HF.out];exact HN6.out,rY.out.1,rY.out.2,HB6.out⟩
     case measure=>simp [intOf];omega
   ·have ek:L.take k=L:=List.take_of_length_le aF
    rw [ek] at HX
    have hki:¬ (k:Int)<(L.length:Int):=by omega
    have q0:=aA hK 0
    have q1:=aA hK 1
    simp at q0 q1
    have ql:=aD hK
    have hR:=HR.out
    have k0:=aA hR 0
    have k1:=aA hR 1
    simp at k0 k1
    have f0:=aC hR 0
    have f1:=aC hR 1
    have kl:=aD hR
    have hk2:=bQ (v0:=.int .i64 q) (v1:=.slice (some ⟨gb,0,none⟩) ms.length gc) hR
    have nA:=aW (v0:=.int .i64 q) (v1:=.slice (some ⟨gb,0,none⟩) ms.length gc) HBw.out (B:=w.heap.size+1) aF
    have hgR:gb≠w.heap.size+1:=by omega
    have HNf:Hid (aH ((wr.setCell ⟨w.heap.size+1,0,none⟩ (.int .i64 q)).setCell ⟨w.heap.size+1,1,none⟩ (.slice (some ⟨gb,0,none⟩) ms.length gc)) gb 0 ms):=(hN.iE hgR).iE hgR
    clear hR hK hN hb
    go_wp2_with fail
    clear q0 q1 ql k0 k1 f0 f1 kl
    generalize ((wr.setCell ⟨w.heap.size+1,0,none⟩ (.int .i64 q)).setCell ⟨w.heap.size+1,1,none⟩ (.slice (some ⟨gb,0,none⟩) ms.length gc))=Wf at hk2 nA HNf ⊢
    have k0:=aA hk2 0
    have k1:=aA hk2 1
    simp at k0 k1
    refine bodyPost_ret (v:=.tuple #[.agg #[.int .i64 q,.slice (some ⟨gb,0,none⟩) ms.length gc],.int .i64 0]) (by simp [results,Tryz.results37,go_sem,k0,k1]) rfl ⟨Or.inr ?_,nA⟩
    rw [HX.out]
    first | exact ⟨rfl,gb,gc,rfl,HNf.out,aF⟩ | exact ⟨rfl,gb,⟨gc,rfl⟩,HNf.out,aF⟩
end Go.Proofs.YtegloodcbfalfaaGreatDoor
