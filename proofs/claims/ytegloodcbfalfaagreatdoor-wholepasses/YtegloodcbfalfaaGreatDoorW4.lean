/-
  Of the proof of WholePasses: RE, RI, RG, RJ, RO, RS.
-/
import Derived.Test.YtegloodcbfalfaaGreatDoorW1
import Derived.Test.YtegloodcbfalfaaGreatDoorW2
import Derived.Test.YtegloodcbfalfaaGreatDoorW3
import Derived.BigRegion
import Derived.BigQuiet
import Derived.Deep.RegionLaw
import Derived.Deep.RegionLawGrows
import Derived.Deep.AppendLies
import Derived.Maps.RangeWalk
import Derived.Sort.Grow
import Derived.Test.YtegloodcbfalfaaGreatDoorSf
import Derived.Deep.CutRange
import Derived.Deep.OwnRows
set_option linter.unusedVariables false
set_option linter.unusedSimpArgs false
set_option maxHeartbeats 40000000
set_option maxRecDepth 100000
namespace Go.Proofs.YtegloodcbfalfaaGreatDoor
open Go.RowKit Go.Maps Go.ChangeMaps
def VG (t:Tm):Prop:=(Lit.int .i64 t.op).wf=true∧(Lit.int .i64 t.a).wf=true∧(Lit.int .i64 t.b).wf=true
def pG (D:DataW Unit) (l:List Ct):Prop :=
 IsMap D∧∀ t:Tm,VG t→∀ z,D.atKey (DW t) z=match jZ l t with | some n=>.lit (.int .i64 n) | none=>z
theorem aDV {t u:Tm} (ht:VG t) (hu:VG u) (h:DW t=DW u):t=u:=by
 have h1:=aRS t ht.1 ht.2.1 ht.2.2
 have h2:=aRS u hu.1 hu.2.1 hu.2.2
 rw [h] at h1
 have:=aWF.inj h1 h2
 simp at this
 obtain ⟨t1,t2,t3⟩:=t
 obtain ⟨u1,u2,u3⟩:=u
 simp at this
 simp [this]
theorem pG.more {D:DataW Unit} {l:List Ct} (h:pG D l) (hs:KQ l) {t:Tm} (ht:VG t) {c:Int} (hc:D.atKey (DW t) (.lit (.int .i64 0))=.lit (.int .i64 c)):c=(jZ l t).getD 0∧pG (D.put (DW t) (.lit (.int .i64 (c+1)))) (nI l t):=by
 have h1:=h.2 t ht (.lit (.int .i64 0))
 rw [hc] at h1
 have hcc:c=(jZ l t).getD 0:=by
  cases hq:jZ l t with
  | none=>rw [hq] at h1;simpa using (Lit.int.inj (DataW.lit.inj h1)).2
  | some n=>rw [hq] at h1;simpa using (Lit.int.inj (DataW.lit.inj h1)).2
 refine ⟨hcc,h.1.put _ _,?_⟩
 intro u hu z
 rw [aLV hs]
 by_cases e:u=t
 ·subst e
  rw [if_pos rfl,atKey_put_same h.1 (by trivial),hcc]
 ·rw [if_neg e,atKey_put_other (fun e' =>e (aDV hu ht e'))]
  exact h.2 u hu z
structure MA (B s mb rb mp nb aV dK rc:Nat) (ns:List Nd) (w:World) (σ:St) (v:Value) (ia:Option Addr) (ic n:Nat) (D:DataW Unit):Prop where
 hm:w.heap[mb]?=some (.cells #[v,.int .i64 σ.ret,.bool σ.ended,.int .i64 σ.steps,.slice none 0 0,.slice (some ⟨nb,aV,none⟩) ns.length dK,.int .i64 σ.pc,.slice ia σ.inp.length ic,.slice (some ⟨rb,0,none⟩) σ.regs.length rc,.map (some mp)] 96 (0,0))
 hr:w.heap[rb]?=some (.cells (σ.regs.map (Value.int .i64)).toArray 3 (0,0))
 ho:w.ownsMap Tryz.prog 59 (plainElem Tryz.prog 3) mp n D
 hout:w.ownsRow s 3 1 v σ.out.length (σ.out.map (Value.int .i64))
 hin:AJ w B ia σ.inp
 hic:σ.inp.length≤ic
 hN:aH w nb aV ns
 hnb:nb<B
 geo:B≤mb∧B≤rb∧B≤mp∧mb<s∧rb<s∧mp<s∧mb≠rb∧mb≠mp∧rb≠mp
 hs:s≤w.heap.size
 hn:n≤σ.steps
 hst:σ.steps≤131072
 hol:σ.out.length≤σ.steps
 hrl:σ.regs.length≤64
 rel:pG D σ.cts
 srt:KQ σ.cts
 cb:∀ c∈σ.cts,0≤c.n∧c.n≤σ.steps
theorem MA.a1M {B s mb rb mp nb aV dK rc:Nat} {ns:List Nd} {w:World} {σ:St} {v:Value} {ia:Option Addr} {ic n:Nat} {D:DataW Unit} (M:MA B s mb rb mp nb aV dK rc ns w σ v ia ic n D):B≤w.heap.size:=by
 have:=M.geo;have:=M.hs;omega
theorem MA.below {B s mb rb mp nb aV dK rc:Nat} {ns:List Nd} {w w' :World} {σ:St} {v:Value} {ia:Option Addr} {ic n:Nat} {D:DataW Unit} (M:MA B s mb rb mp nb aV dK rc ns w σ v ia ic n D) (K:bR [mb,rb,mp] w w'):Below B w w' :=
 K.below (by have:=M.geo;simp;omega) M.a1M
theorem MA.aUT {B s mb rb mp nb aV dK rc:Nat} {ns:List Nd} {w w' :World} {σ σ' :St} {v v' :Value} {ia yA :Option Addr} {ic vN n n' :Nat} {D D' :DataW Unit} (M:MA B s mb rb mp nb aV dK rc ns w σ v ia ic n D) (K:Below B w w')
 (hm:w'.heap[mb]?=some (.cells #[v', .int .i64 σ'.ret,.bool σ'.ended,.int .i64 σ'.steps,.slice none 0 0,.slice (some ⟨nb,aV,none⟩) ns.length dK,.int .i64 σ'.pc,.slice yA σ'.inp.length vN, .slice (some ⟨rb,0,none⟩) σ'.regs.length rc,.map (some mp)] 96 (0,0)))
 (hr:w'.heap[rb]?=some (.cells (σ'.regs.map (Value.int .i64)).toArray 3 (0,0)))
 (ho:w'.ownsMap Tryz.prog 59 (plainElem Tryz.prog 3) mp n' D')
 (hout:w'.ownsRow s 3 1 v' σ'.out.length (σ'.out.map (Value.int .i64)))
 (hin:AJ w B yA σ'.inp) (hic:σ'.inp.length≤vN) (hst:σ'.steps=σ.steps+1) (hlt:σ.steps<131072) (hn:n' ≤σ.steps+1) (hol:σ'.out.length≤σ.out.length+1) (hrl:σ'.regs.length=σ.regs.length)
 (rel:pG D' σ'.cts) (srt:KQ σ'.cts) (cb:∀ c∈σ'.cts,0≤c.n∧c.n≤σ.steps+1):MA B s mb rb mp nb aV dK rc ns w' σ' v' yA vN n' D' :=by
 have hb:=K
 exact ⟨hm,hr,ho,hout,hin.below hb,hic,M.hN.below hb M.hnb,M.hnb,M.geo,Nat.le_trans M.hs K.size,by rw [hst];exact hn,aF,by have:=M.hol;omega,by rw [hrl];exact M.hrl,rel,srt,by rw [hst];exact_mod_cast cb⟩
theorem MA.next {B s mb rb mp nb aV dK rc:Nat} {ns:List Nd} {w w' :World} {σ σ' :St} {v v' :Value} {ia yA :Option Addr} {ic vN n n' :Nat} {D D' :DataW Unit} (M:MA B s mb rb mp nb aV dK rc ns w σ v ia ic n D) (K:bR [mb,rb,mp] w w')
 (hm:w'.heap[mb]?=some (.cells #[v', .int .i64 σ'.ret,.bool σ'.ended,.int .i64 σ'.steps,.slice none 0 0,.slice (some ⟨nb,aV,none⟩) ns.length dK,.int .i64 σ'.pc,.slice yA σ'.inp.length vN, .slice (some ⟨rb,0,none⟩) σ'.regs.length rc,.map (some mp)] 96 (0,0)))
 (hr:w'.heap[rb]?=some (.cells (σ'.regs.map (Value.int .i64)).toArray 3 (0,0)))
 (ho:w'.ownsMap Tryz.prog 59 (plainElem Tryz.prog 3) mp n' D')
 (hout:w'.ownsRow s 3 1 v' σ'.out.length (σ'.out.map (Value.int .i64)))
 (hin:AJ w B yA σ'.inp) (hic:σ'.inp.length≤vN) (hst:σ'.steps=σ.steps+1) (hlt:σ.steps<131072) (hn:n' ≤σ.steps+1) (hol:σ'.out.length≤σ.out.length+1) (hrl:σ'.regs.length=σ.regs.length)
 (rel:pG D' σ'.cts) (srt:KQ σ'.cts) (cb:∀ c∈σ'.cts,0≤c.n∧c.n≤σ.steps+1):MA B s mb rb mp nb aV dK rc ns w' σ' v' yA vN n' D' :=by
 exact M.aUT (M.below K) hm hr ho hout hin hic hst hlt hn hol hrl rel srt cb
def KS (l:List Int) (a:Int):Prop:=0≤a∧a<l.length
theorem uG {l:List Int} {k:Nat} (h:k<l.length):((l.map (Value.int .i64)).toArray)[k]?=some (.int .i64 (dN l k)):=by
 simp [dN];rw [List.getElem?_eq_getElem h];simp
theorem wS (l:List Int) (k:Nat) (z:Int):((l.map (Value.int .i64)).toArray).setIfInBounds k (.int .i64 z)=((mJ l k z).map (Value.int .i64)).toArray:=by
 rw [show mJ l (k:Int) z=l.set k z from rfl,List.map_set];simp
theorem jL (l:List Int) (d z:Int):(mJ l d z).length=l.length:=by simp [mJ]
def W3 (w:World) (mb:Nat) (steps:Int) (op d a b t e:Int):World :=
 (((w.setCell ⟨mb,3,none⟩ (.int .i64 steps)).setCell ⟨mb,6,none⟩ (.int .i64 t)).alloc (.cells #[.int .i64 op,.int .i64 d,.int .i64 a,.int .i64 b,.int .i64 t,.int .i64 e] 42)).drew
theorem kL {w:World} {o:Obj} {n:Nat} (h:w.heap.size=n):(w.alloc o).heap[n]?=some o:=by subst h;exact (MapKept.heap_alloc w o).1
structure Pre (B s mb rb mp nb aV dK rc:Nat) (ns:List Nd) (w W:World) (σ:St) (v:Value) (ia:Option Addr) (ic n:Nat) (D:DataW Unit) (x:Nd):Prop where
 hm:W.heap[mb]?=some (.cells #[v,.int .i64 σ.ret,.bool σ.ended,.int .i64 ((σ.steps:Int)+1),.slice none 0 0,.slice (some ⟨nb,aV,none⟩) ns.length dK,.int .i64 x.t,.slice ia σ.inp.length ic,.slice (some ⟨rb,0,none⟩) σ.regs.length rc,.map (some mp)] 96 (0,0))
 hr:W.heap[rb]?=some (.cells (σ.regs.map (Value.int .i64)).toArray 3 (0,0))
 ho:W.ownsMap Tryz.prog 59 (plainElem Tryz.prog 3) mp n D
 hout:W.ownsRow s 3 1 v σ.out.length (σ.out.map (Value.int .i64))
 hnd:W.heap[w.heap.size]?=some (.cells #[.int .i64 x.op,.int .i64 x.d,.int .i64 x.a,.int .i64 x.b,.int .i64 x.t,.int .i64 x.e] 42 (0,0))
 K:bR [mb,rb,mp] w W
theorem sN {B s mb rb mp nb aV dK rc:Nat} {ns:List Nd} {w:World} {σ:St} {v:Value} {ia:Option Addr} {ic n:Nat} {D:DataW Unit} (M:MA B s mb rb mp nb aV dK rc ns w σ v ia ic n D) (x:Nd) :
 Pre B s mb rb mp nb aV dK rc ns w (W3 w mb ((σ.steps:Int)+1) x.op x.d x.a x.b x.t x.e) σ v ia ic n D x:=by
 obtain ⟨g1,g2,g3,g4,g5,g6,g7,g8,g9⟩:=M.geo
 have hs:=M.hs
 have K:bR [mb,rb,mp] w (W3 w mb ((σ.steps:Int)+1) x.op x.d x.a x.b x.t x.e):=((((bR.refl _ w).setCell (p:=⟨mb,3,none⟩) aQ _).setCell (p:=⟨mb,6,none⟩) aQ _).alloc _).drew
 refine ⟨?_,?_,?_,K.owns M.hout bF,?_,K⟩
 ·have h:=aT (.cells #[.int .i64 x.op,.int .i64 x.d,.int .i64 x.a,.int .i64 x.b,.int .i64 x.t,.int .i64 x.e] 42) (aG (i:=6) (.int .i64 x.t) (aG (i:=3) (.int .i64 ((σ.steps:Int)+1)) M.hm))
  exact h
 ·exact aT _ (aN _ (aN _ M.hr (fun e=>g7 e.symm)) (fun e=>g7 e.symm))
 ·refine pE M.ho ?_
  have hlt:=M.ho.lt
  show ((((w.setCell ⟨mb,3,none⟩ _).setCell ⟨mb,6,none⟩ _).alloc _)).heap[mp]?=_
  rw [Below.heap_alloc _ _ _ (by simpa [World.setCell] using hlt),Below.heap_setCell _ _ _ _ (by exact fun e=>g8 e.symm),Below.heap_setCell _ _ _ _ (by exact fun e=>g8 e.symm)]
 ·have hz:((w.setCell ⟨mb,3,none⟩ (.int .i64 ((σ.steps:Int)+1))).setCell ⟨mb,6,none⟩ (.int .i64 x.t)).heap.size=w.heap.size:=by simp [World.setCell]
  show (((w.setCell ⟨mb,3,none⟩ (.int .i64 ((σ.steps:Int)+1))).setCell ⟨mb,6,none⟩ (.int .i64 x.t)).alloc (.cells #[.int .i64 x.op,.int .i64 x.d,.int .i64 x.a,.int .i64 x.b,.int .i64 x.t,.int .i64 x.e] 42)).heap[w.heap.size]?=_
  exact kL hz
theorem step_skip {B s mb rb mp nb aV dK rc:Nat} {ns:List Nd} {w:World} {σ:St} {v:Value} {ia:Option Addr} {ic n:Nat} {D:DataW Unit} (M:MA B s mb rb mp nb aV dK rc ns w σ v ia ic n D) {x:Nd} (hx:ns[σ.pc]?=some x) (hlen:ns.length≤256) (hlt:σ.steps<131072) (ht:0≤x.t) (hop:x.op=0) :
 Calls Tryz.prog 57 #[.pointer (some ⟨mb,0,none⟩)] w fun e w' =>e=.returned (.tuple #[])∧∃ v' yA vN n' D', MA B s mb rb mp nb aV dK rc ns w' (vM x σ) v' yA vN n' D' ∧Below B w w' :=by
 have hpc:σ.pc<ns.length:=(List.getElem?_eq_some_iff.1 hx).1
 have jP:=aD M.hm
 have sK:=M.hN.lt
 have aAT:=M.hst
 have m3:=aA M.hm 3
 have m5:=aA M.hm 5
 have m6:=aA M.hm 6
 have f3:=aC M.hm 3
 have f6:=aC M.hm 6
 simp at m3 m5 m6
 have c0:=M.hN.c0 σ.pc x hx
 have c1:=M.hN.c1 σ.pc x hx
 have c2:=M.hN.c2 σ.pc x hx
 have c3:=M.hN.c3 σ.pc x hx
 have c4:=M.hN.c4 σ.pc x hx
 have c5:=M.hN.c5 σ.pc x hx
 have P3:=sN M x
 obtain ⟨op,d,a,b,t,e⟩:=x
 simp only at *
 subst hop
 have HS:=aB (And.intro m5 (And.intro m6 (And.intro c0 (And.intro c1 (And.intro c2 (And.intro c3 (And.intro c4 c5)))))))
 have IV:Hid (∀ o,(w.alloc o).cell? ⟨mb,5,none⟩=some (.slice (some ⟨nb,aV,none⟩) ns.length dK)∧(w.alloc o).cell? ⟨mb,6,none⟩=some (.int .i64 σ.pc)∧(w.alloc o).cell? ⟨nb,aV+σ.pc*6,none⟩=some (.int .i64 0)∧(w.alloc o).cell? ⟨nb,aV+σ.pc*6+1,none⟩=some (.int .i64 d)∧(w.alloc o).cell? ⟨nb,aV+σ.pc*6+2,none⟩=some (.int .i64 a)∧(w.alloc o).cell? ⟨nb,aV+σ.pc*6+3,none⟩=some (.int .i64 b)∧(w.alloc o).cell? ⟨nb,aV+σ.pc*6+4,none⟩=some (.int .i64 t)∧(w.alloc o).cell? ⟨nb,aV+σ.pc*6+5,none⟩=some (.int .i64 e)):=by
  intro o
  simp only [World.cell?_alloc_past _ _ _ jP,World.cell?_alloc_past _ _ _ sK]
  exact HS.out
 have hpi:(σ.pc:Int)<(ns.length:Int):=by omega
 have wT:(0:Int)≤(σ.pc:Int):=by omega
 have HM:=aB M
 have HX:=aB hx
 have HP:=aB P3
 clear M hx P3
 go_enter Tryz.func57,Tryz.ntmps57
 go_wp2
 go_region_held3 (fun u=>u.cell? ⟨mb,5,none⟩=some (.slice (some ⟨nb,aV,none⟩) ns.length dK)∧u.cell? ⟨mb,6,none⟩=some (.int .i64 σ.pc)∧u.cell? ⟨nb,aV+σ.pc*6,none⟩=some (.int .i64 0)∧u.cell? ⟨nb,aV+σ.pc*6+1,none⟩=some (.int .i64 d)∧u.cell? ⟨nb,aV+σ.pc*6+2,none⟩=some (.int .i64 a)∧u.cell? ⟨nb,aV+σ.pc*6+3,none⟩=some (.int .i64 b)∧u.cell? ⟨nb,aV+σ.pc*6+4,none⟩=some (.int .i64 t)∧u.cell? ⟨nb,aV+σ.pc*6+5,none⟩=some (.int .i64 e)) (first | exact HS.out | exact IV.out _) (fail)
 go_wp2
 go_end0
 have hW:=HP.out
 rw [show vM ⟨0,d,a,b,t,e⟩ σ={ σ with pc:=t.toNat,steps:=σ.steps+1 } from rfl]
 refine ⟨rfl,v,ia,ic,n,D,HM.out.next hW.K ?_ hW.hr hW.ho hW.hout HM.out.hin HM.out.hic rfl hlt (by have:=HM.out.hn;omega) (Nat.le_succ _) rfl HM.out.rel HM.out.srt (fun c hc=>by have:=HM.out.cb c hc;omega),HM.out.below hW.K⟩
 have:=hW.hm
 show _=some (Obj.cells #[_,_,_,_,_,_,Value.int .i64 ((t.toNat:Nat):Int),_,_,_] _ _)
 rw [show ((t.toNat:Nat):Int)=t from by omega]
 exact this
theorem aLX {B s mb rb mp nb aV dK rc:Nat} {ns:List Nd} {w:World} {σ:St} {v:Value} {ia:Option Addr} {ic n:Nat} {D:DataW Unit} (M:MA B s mb rb mp nb aV dK rc ns w σ v ia ic n D) {x:Nd} (hx:ns[σ.pc]?=some x) (hlen:ns.length≤256) (hlt:σ.steps<131072) (ht:0≤x.t) (hop:x.op=1) (hd:KS σ.regs x.d) :
 Calls Tryz.prog 57 #[.pointer (some ⟨mb,0,none⟩)] w fun e w' =>e=.returned (.tuple #[])∧∃ v' yA vN n' D', MA B s mb rb mp nb aV dK rc ns w' (vM x σ) v' yA vN n' D' ∧Below B w w' :=by
 have hpc:σ.pc<ns.length:=(List.getElem?_eq_some_iff.1 hx).1
 have jP:=aD M.hm
 have sK:=M.hN.lt
 have aAT:=M.hst
 have m3:=aA M.hm 3
 have m5:=aA M.hm 5
 have m6:=aA M.hm 6
 have f3:=aC M.hm 3
 have f6:=aC M.hm 6
 simp at m3 m5 m6
 have c0:=M.hN.c0 σ.pc x hx
 have c1:=M.hN.c1 σ.pc x hx
 have c2:=M.hN.c2 σ.pc x hx
 have c3:=M.hN.c3 σ.pc x hx
 have c4:=M.hN.c4 σ.pc x hx
 have c5:=M.hN.c5 σ.pc x hx
 have P3:=sN M x
 obtain ⟨op,d,a,b,t,e⟩:=x
 simp only at *
 subst hop
 have HS:=aB (And.intro m5 (And.intro m6 (And.intro c0 (And.intro c1 (And.intro c2 (And.intro c3 (And.intro c4 c5)))))))
 have IV:Hid (∀ o,(w.alloc o).cell? ⟨mb,5,none⟩=some (.slice (some ⟨nb,aV,none⟩) ns.length dK)∧(w.alloc o).cell? ⟨mb,6,none⟩=some (.int .i64 σ.pc)∧(w.alloc o).cell? ⟨nb,aV+σ.pc*6,none⟩=some (.int .i64 1)∧(w.alloc o).cell? ⟨nb,aV+σ.pc*6+1,none⟩=some (.int .i64 d)∧(w.alloc o).cell? ⟨nb,aV+σ.pc*6+2,none⟩=some (.int .i64 a)∧(w.alloc o).cell? ⟨nb,aV+σ.pc*6+3,none⟩=some (.int .i64 b)∧(w.alloc o).cell? ⟨nb,aV+σ.pc*6+4,none⟩=some (.int .i64 t)∧(w.alloc o).cell? ⟨nb,aV+σ.pc*6+5,none⟩=some (.int .i64 e)):=by
  intro o
  simp only [World.cell?_alloc_past _ _ _ jP,World.cell?_alloc_past _ _ _ sK]
  exact HS.out
 have hpi:(σ.pc:Int)<(ns.length:Int):=by omega
 have wT:(0:Int)≤(σ.pc:Int):=by omega
 have HM:=aB M
 have HX:=aB hx
 have HP:=aB P3
 clear M hx P3
 go_enter Tryz.func57,Tryz.ntmps57
 go_wp2
 go_region_held3 (fun u=>u.cell? ⟨mb,5,none⟩=some (.slice (some ⟨nb,aV,none⟩) ns.length dK)∧u.cell? ⟨mb,6,none⟩=some (.int .i64 σ.pc)∧u.cell? ⟨nb,aV+σ.pc*6,none⟩=some (.int .i64 1)∧u.cell? ⟨nb,aV+σ.pc*6+1,none⟩=some (.int .i64 d)∧u.cell? ⟨nb,aV+σ.pc*6+2,none⟩=some (.int .i64 a)∧u.cell? ⟨nb,aV+σ.pc*6+3,none⟩=some (.int .i64 b)∧u.cell? ⟨nb,aV+σ.pc*6+4,none⟩=some (.int .i64 t)∧u.cell? ⟨nb,aV+σ.pc*6+5,none⟩=some (.int .i64 e)) (first | exact HS.out | exact IV.out _) (fail)
 go_wp2
 clear m3 m5 m6 f3 f6 c0 c1 c2 c3 c4 c5 HS IV hpi wT
 have hW:=HP.out
 unfold W3 at hW
 generalize (((w.setCell ⟨mb,3,none⟩ (.int .i64 ((σ.steps:Int)+1))).setCell ⟨mb,6,none⟩ (.int .i64 t)).alloc (.cells #[.int .i64 1,.int .i64 d,.int .i64 a,.int .i64 b,.int .i64 t,.int .i64 e] 42)).drew=W at hW ⊢
 clear HP
 have HW:=aB hW
 obtain ⟨g1,g2,g3,g4,g5,g6,g7,g8,g9⟩:=HM.out.geo
 have wml:=aD hW.hm
 have wrl:=aD hW.hr
 have wnl:=aD hW.hnd
 have hss:=HM.out.hs
 obtain ⟨hd0,hd1⟩:=hd
 obtain ⟨dn,rfl⟩:=Int.eq_ofNat_of_zero_le hd0
 have m8:=aA hW.hm 8
 have n1:=aA hW.hnd 1
 have n2:=aA hW.hnd 2
 have rd:=aA hW.hr dn
 rw [uG aF] at rd
 have rf:=aC hW.hr dn
 simp at m8 n1 n2
 clear hW
 refine wp_region_still_tail 9 fJ fJ ?_
 simp only [List.take_succ_cons,List.take_zero,List.drop_succ_cons,List.drop_zero]
 repeat still_step
 refine wpStill_nil ?_
 go_wp2
 go_end0
 have hW:=HW.out
 have K2:bR [mb,rb,mp] w (W.setCell ⟨rb,dn,none⟩ (.int .i64 a)).drew:=(hW.K.setCell (p:=⟨rb,dn,none⟩) aQ _).drew
 rw [show vM ⟨1,dn,a,b,t,e⟩ σ={ σ with pc:=t.toNat,steps:=σ.steps+1,regs:=mJ σ.regs dn a } from rfl]
 refine ⟨rfl,v,ia,ic,n,D,HM.out.next K2 ?_ ?_ ?_ ?_ HM.out.hin HM.out.hic rfl hlt (by have:=HM.out.hn;omega) (Nat.le_succ _) (jL _ _ _) HM.out.rel HM.out.srt (fun c hc=>by have:=HM.out.cb c hc;omega),HM.out.below K2⟩
 ·have:=aN (i:=dn) (.int .i64 a) hW.hm g7
  show _=some (Obj.cells #[_,_,_,_,_,_,Value.int .i64 ((t.toNat:Nat):Int),_,Value.slice _ (mJ σ.regs dn a).length _,_] _ _)
  rw [show ((t.toNat:Nat):Int)=t from by omega,jL]
  exact this
 ·have:=aG (i:=dn) (.int .i64 a) hW.hr
  rw [wS] at this
  exact this
 ·exact pE hW.ho (Below.heap_setCell _ _ _ _ (by exact fun e=>g9 e.symm))
 ·exact ((bR.refl [rb] W).setCell (p:=⟨rb,dn,none⟩) aQ _).drew.owns hW.hout bF
theorem step_end {B s mb rb mp nb aV dK rc:Nat} {ns:List Nd} {w:World} {σ:St} {v:Value} {ia:Option Addr} {ic n:Nat} {D:DataW Unit} (M:MA B s mb rb mp nb aV dK rc ns w σ v ia ic n D) {x:Nd} (hx:ns[σ.pc]?=some x) (hlen:ns.length≤256) (hlt:σ.steps<131072) (ht:0≤x.t) (hop:x.op=12) (ha:KS σ.regs x.a) :
 Calls Tryz.prog 57 #[.pointer (some ⟨mb,0,none⟩)] w fun e w' =>e=.returned (.tuple #[])∧∃ v' yA vN n' D', MA B s mb rb mp nb aV dK rc ns w' (vM x σ) v' yA vN n' D' ∧Below B w w' :=by
 have hpc:σ.pc<ns.length:=(List.getElem?_eq_some_iff.1 hx).1
 have jP:=aD M.hm
 have sK:=M.hN.lt
 have aAT:=M.hst
 have m3:=aA M.hm 3
 have m5:=aA M.hm 5
 have m6:=aA M.hm 6
 have f3:=aC M.hm 3
 have f6:=aC M.hm 6
 simp at m3 m5 m6
 have c0:=M.hN.c0 σ.pc x hx
 have c1:=M.hN.c1 σ.pc x hx
 have c2:=M.hN.c2 σ.pc x hx
 have c3:=M.hN.c3 σ.pc x hx
 have c4:=M.hN.c4 σ.pc x hx
 have c5:=M.hN.c5 σ.pc x hx
 have P3:=sN M x
 obtain ⟨op,d,a,b,t,e⟩:=x
 simp only at *
 subst hop
 have HS:=aB (And.intro m5 (And.intro m6 (And.intro c0 (And.intro c1 (And.intro c2 (And.intro c3 (And.intro c4 c5)))))))
 have IV:Hid (∀ o,(w.alloc o).cell? ⟨mb,5,none⟩=some (.slice (some ⟨nb,aV,none⟩) ns.length dK)∧(w.alloc o).cell? ⟨mb,6,none⟩=some (.int .i64 σ.pc)∧(w.alloc o).cell? ⟨nb,aV+σ.pc*6,none⟩=some (.int .i64 12)∧(w.alloc o).cell? ⟨nb,aV+σ.pc*6+1,none⟩=some (.int .i64 d)∧(w.alloc o).cell? ⟨nb,aV+σ.pc*6+2,none⟩=some (.int .i64 a)∧(w.alloc o).cell? ⟨nb,aV+σ.pc*6+3,none⟩=some (.int .i64 b)∧(w.alloc o).cell? ⟨nb,aV+σ.pc*6+4,none⟩=some (.int .i64 t)∧(w.alloc o).cell? ⟨nb,aV+σ.pc*6+5,none⟩=some (.int .i64 e)):=by
  intro o
  simp only [World.cell?_alloc_past _ _ _ jP,World.cell?_alloc_past _ _ _ sK]
  exact HS.out
 have hpi:(σ.pc:Int)<(ns.length:Int):=by omega
 have wT:(0:Int)≤(σ.pc:Int):=by omega
 have HM:=aB M
 have HX:=aB hx
 have HP:=aB P3
 clear M hx P3
 go_enter Tryz.func57,Tryz.ntmps57
 go_wp2
 go_region_held3 (fun u=>u.cell? ⟨mb,5,none⟩=some (.slice (some ⟨nb,aV,none⟩) ns.length dK)∧u.cell? ⟨mb,6,none⟩=some (.int .i64 σ.pc)∧u.cell? ⟨nb,aV+σ.pc*6,none⟩=some (.int .i64 12)∧u.cell? ⟨nb,aV+σ.pc*6+1,none⟩=some (.int .i64 d)∧u.cell? ⟨nb,aV+σ.pc*6+2,none⟩=some (.int .i64 a)∧u.cell? ⟨nb,aV+σ.pc*6+3,none⟩=some (.int .i64 b)∧u.cell? ⟨nb,aV+σ.pc*6+4,none⟩=some (.int .i64 t)∧u.cell? ⟨nb,aV+σ.pc*6+5,none⟩=some (.int .i64 e)) (first | exact HS.out | exact IV.out _) (fail)
 go_wp2
 clear m3 m5 m6 f3 f6 c0 c1 c2 c3 c4 c5 HS IV hpi wT
 have hW:=HP.out
 unfold W3 at hW
 generalize (((w.setCell ⟨mb,3,none⟩ (.int .i64 ((σ.steps:Int)+1))).setCell ⟨mb,6,none⟩ (.int .i64 t)).alloc (.cells #[.int .i64 12,.int .i64 d,.int .i64 a,.int .i64 b,.int .i64 t,.int .i64 e] 42)).drew=W at hW ⊢
 clear HP
 have HW:=aB hW
 obtain ⟨g1,g2,g3,g4,g5,g6,g7,g8,g9⟩:=HM.out.geo
 have wml:=aD hW.hm
 have wrl:=aD hW.hr
 have wnl:=aD hW.hnd
 have hss:=HM.out.hs
 obtain ⟨ha0,ha1⟩:=ha
 obtain ⟨an,rfl⟩:=Int.eq_ofNat_of_zero_le ha0
 have m1:=aA hW.hm 1
 have m2:=aA hW.hm 2
 have m8:=aA hW.hm 8
 have f1:=aC hW.hm 1
 have f2:=aC hW.hm 2
 have n2:=aA hW.hnd 2
 have ra:=aA hW.hr an
 rw [uG aF] at ra
 simp at m1 m2 m8 n2
 clear hW
 go_region
 go_wp2
 go_end0
 have hW:=HW.out
 rw [show vM ⟨12,d,an,b,t,e⟩ σ={ σ with pc:=t.toNat,steps:=σ.steps+1,ret:=dN σ.regs an,ended:=true } from rfl]
 have K2:bR [mb,rb,mp] w ((W.setCell ⟨mb,1,none⟩ (.int .i64 (dN σ.regs an))).setCell ⟨mb,2,none⟩ (.bool true)).drew:=((hW.K.setCell (p:=⟨mb,1,none⟩) aQ _).setCell (p:=⟨mb,2,none⟩) aQ _).drew
 refine ⟨rfl,v,ia,ic,n,D,HM.out.next K2 ?_ ?_ ?_ ?_ HM.out.hin HM.out.hic rfl hlt (by have:=HM.out.hn;omega) (Nat.le_succ _) rfl HM.out.rel HM.out.srt (fun c hc=>by have:=HM.out.cb c hc;omega),HM.out.below K2⟩
 ·have:=aG (i:=2) (.bool true) (aG (i:=1) (.int .i64 (dN σ.regs an)) hW.hm)
  show _=some (Obj.cells #[_,_,_,_,_,_,Value.int .i64 ((t.toNat:Nat):Int),_,_,_] _ _)
  rw [show ((t.toNat:Nat):Int)=t from by omega]
  exact this
 ·exact aN _ (aN _ hW.hr (fun e=>g7 e.symm)) (fun e=>g7 e.symm)
 ·refine pE hW.ho ?_
  show ((W.setCell ⟨mb,1,none⟩ _).setCell ⟨mb,2,none⟩ _).heap[mp]?=_
  rw [Below.heap_setCell _ _ _ _ (by exact fun e=>g8 e.symm),Below.heap_setCell _ _ _ _ (by exact fun e=>g8 e.symm)]
 ·exact (((bR.refl [mb] W).setCell (p:=⟨mb,1,none⟩) aQ _).setCell (p:=⟨mb,2,none⟩) aQ _).drew.owns hW.hout bF
theorem aLY {B s mb rb mp nb aV dK rc:Nat} {ns:List Nd} {w:World} {σ:St} {v:Value} {ia:Option Addr} {ic n:Nat} {D:DataW Unit} (M:MA B s mb rb mp nb aV dK rc ns w σ v ia ic n D) {x:Nd} (hx:ns[σ.pc]?=some x) (hlen:ns.length≤256) (hlt:σ.steps<131072) (ht:0≤x.t) (hop:x.op=9) (hd:KS σ.regs x.d) :
 Calls Tryz.prog 57 #[.pointer (some ⟨mb,0,none⟩)] w fun e w' =>e=.returned (.tuple #[])∧∃ v' yA vN n' D', MA B s mb rb mp nb aV dK rc ns w' (vM x σ) v' yA vN n' D' ∧Below B w w' :=by
 have hpc:σ.pc<ns.length:=(List.getElem?_eq_some_iff.1 hx).1
 have jP:=aD M.hm
 have sK:=M.hN.lt
 have aAT:=M.hst
 have m3:=aA M.hm 3
 have m5:=aA M.hm 5
 have m6:=aA M.hm 6
 have f3:=aC M.hm 3
 have f6:=aC M.hm 6
 simp at m3 m5 m6
 have c0:=M.hN.c0 σ.pc x hx
 have c1:=M.hN.c1 σ.pc x hx
 have c2:=M.hN.c2 σ.pc x hx
 have c3:=M.hN.c3 σ.pc x hx
 have c4:=M.hN.c4 σ.pc x hx
 have c5:=M.hN.c5 σ.pc x hx
 have P3:=sN M x
 obtain ⟨op,d,a,b,t,e⟩:=x
 simp only at *
 subst hop
 have HS:=aB (And.intro m5 (And.intro m6 (And.intro c0 (And.intro c1 (And.intro c2 (And.intro c3 (And.intro c4 c5)))))))
 have IV:Hid (∀ o,(w.alloc o).cell? ⟨mb,5,none⟩=some (.slice (some ⟨nb,aV,none⟩) ns.length dK)∧(w.alloc o).cell? ⟨mb,6,none⟩=some (.int .i64 σ.pc)∧(w.alloc o).cell? ⟨nb,aV+σ.pc*6,none⟩=some (.int .i64 9)∧(w.alloc o).cell? ⟨nb,aV+σ.pc*6+1,none⟩=some (.int .i64 d)∧(w.alloc o).cell? ⟨nb,aV+σ.pc*6+2,none⟩=some (.int .i64 a)∧(w.alloc o).cell? ⟨nb,aV+σ.pc*6+3,none⟩=some (.int .i64 b)∧(w.alloc o).cell? ⟨nb,aV+σ.pc*6+4,none⟩=some (.int .i64 t)∧(w.alloc o).cell? ⟨nb,aV+σ.pc*6+5,none⟩=some (.int .i64 e)):=by
  intro o
  simp only [World.cell?_alloc_past _ _ _ jP,World.cell?_alloc_past _ _ _ sK]
  exact HS.out
 have hpi:(σ.pc:Int)<(ns.length:Int):=by omega
 have wT:(0:Int)≤(σ.pc:Int):=by omega
 have HM:=aB M
 have HX:=aB hx
 have HP:=aB P3
 clear M hx P3
 go_enter Tryz.func57,Tryz.ntmps57
 go_wp2
 go_region_held3 (fun u=>u.cell? ⟨mb,5,none⟩=some (.slice (some ⟨nb,aV,none⟩) ns.length dK)∧u.cell? ⟨mb,6,none⟩=some (.int .i64 σ.pc)∧u.cell? ⟨nb,aV+σ.pc*6,none⟩=some (.int .i64 9)∧u.cell? ⟨nb,aV+σ.pc*6+1,none⟩=some (.int .i64 d)∧u.cell? ⟨nb,aV+σ.pc*6+2,none⟩=some (.int .i64 a)∧u.cell? ⟨nb,aV+σ.pc*6+3,none⟩=some (.int .i64 b)∧u.cell? ⟨nb,aV+σ.pc*6+4,none⟩=some (.int .i64 t)∧u.cell? ⟨nb,aV+σ.pc*6+5,none⟩=some (.int .i64 e)) (first | exact HS.out | exact IV.out _) (fail)
 go_wp2
 clear m3 m5 m6 f3 f6 c0 c1 c2 c3 c4 c5 HS IV hpi wT
 have hW:=HP.out
 unfold W3 at hW
 generalize (((w.setCell ⟨mb,3,none⟩ (.int .i64 ((σ.steps:Int)+1))).setCell ⟨mb,6,none⟩ (.int .i64 t)).alloc (.cells #[.int .i64 9,.int .i64 d,.int .i64 a,.int .i64 b,.int .i64 t,.int .i64 e] 42)).drew=W at hW ⊢
 clear HP
 have HW:=aB hW
 obtain ⟨g1,g2,g3,g4,g5,g6,g7,g8,g9⟩:=HM.out.geo
 have wml:=aD hW.hm
 have wrl:=aD hW.hr
 have wnl:=aD hW.hnd
 have hss:=HM.out.hs
 obtain ⟨hd0,hd1⟩:=hd
 obtain ⟨dn,rfl⟩:=Int.eq_ofNat_of_zero_le hd0
 have m8:=aA hW.hm 8
 have n1:=aA hW.hnd 1
 simp at m8 n1
 have rd:=aA hW.hr dn
 rw [uG aF] at rd
 have rf:=aC hW.hr dn
 have hgr:W.heap.size≠rb:=by omega
 have hin:=HM.out.hin
 have hic:=HM.out.hic
 have a7O:w.heap.size≠mb:=by have:=aD HM.out.hm;omega
 have Ke:=hW.K
 have HS3:=aB (And.intro m8 n1)
 cases ED:σ.inp with
 | nil =>
  have hm' :=hW.hm
  rw [ED] at hm'
  have hmd:W.drew.heap[mb]?=_:=hm'
  have a7P:=aB ED
  clear ED hW
  have S4:Hid ((W.setCell ⟨rb,dn,none⟩ (.int .i64 0)).cell? ⟨mb,8,none⟩=some (.slice (some ⟨rb,0,none⟩) σ.regs.length rc)∧(W.setCell ⟨rb,dn,none⟩ (.int .i64 0)).cell? ⟨w.heap.size,1,none⟩=some (.int .i64 dn)):=⟨(World.cell?_of_block (w:=W) (Below.heap_setCell _ _ _ _ (by exact g7))).trans m8,(World.cell?_of_block (w:=W) (Below.heap_setCell _ _ _ _ (by show w.heap.size≠rb;omega))).trans n1⟩
  go_region_held3 (fun u=>u.cell? ⟨mb,8,none⟩=some (.slice (some ⟨rb,0,none⟩) σ.regs.length rc)∧u.cell? ⟨w.heap.size,1,none⟩=some (.int .i64 dn)) (first | exact HS3.out | exact S4.out) (first
   | (go_at_call 92;refine (aAE mb _ _ _ _ _ _ _ _ _ _ _ _ hmd).mono ?_;rintro e1 w5 ⟨rfl,rfl⟩))
  all_goals go_wp2
  all_goals go_end0
  all_goals
   have hW:=HW.out
   have ED:=a7P.out
   rw [show vM ⟨9,dn,a,b,t,e⟩ σ={ σ with pc:=t.toNat,steps:=σ.steps+1,regs:=mJ σ.regs dn 0 } from by
    show ({ σ with pc:=t.toNat,steps:=σ.steps+1,regs:=mJ σ.regs dn (σ.inp.headD 0),inp:=σ.inp.tail }:St)=_
    rw [ED];rfl]
   have K2:bR [mb,rb,mp] w (W.setCell ⟨rb,dn,none⟩ (.int .i64 0)).drew:=(Ke.setCell (p:=⟨rb,dn,none⟩) aQ _).drew
   refine ⟨rfl,v,ia,ic,n,D,HM.out.next K2 ?_ ?_ ?_ ?_ HM.out.hin HM.out.hic rfl hlt (by have:=HM.out.hn;omega) (Nat.le_succ _) (jL _ _ _) HM.out.rel HM.out.srt (fun c hc=>by have:=HM.out.cb c hc;omega),HM.out.below K2⟩
   ·have:=aN (i:=dn) (.int .i64 0) hW.hm g7
    show _=some (Obj.cells #[_,_,_,_,_,_,Value.int .i64 ((t.toNat:Nat):Int),_,Value.slice _ (mJ σ.regs dn 0).length _,_] _ _)
    rw [show ((t.toNat:Nat):Int)=t from by omega,jL]
    exact this
   ·have:=aG (i:=dn) (.int .i64 0) hW.hr
    rw [wS] at this
    exact this
   ·exact pE hW.ho (Below.heap_setCell _ _ _ _ (by exact fun e=>g9 e.symm))
   ·exact ((bR.refl [rb] W).setCell (p:=⟨rb,dn,none⟩) aQ _).drew.owns hW.hout bF
 | cons z zs =>
  rw [ED] at hin hic
  rcases hin with hin | ⟨bi,oi,hia,hbi,hci⟩
  ·cases hin
  subst hia
  have hm' :=hW.hm
  rw [ED] at hm'
  have hmd:W.drew.heap[mb]?=some (.cells #[v,.int .i64 σ.ret,.bool σ.ended,.int .i64 ((σ.steps:Int)+1),.slice none 0 0,.slice (some ⟨nb,aV,none⟩) ns.length dK,.int .i64 t,.slice (some ⟨bi,oi,none⟩) (zs.length+1) ic,.slice (some ⟨rb,0,none⟩) σ.regs.length rc,.map (some mp)] 96 (0,0)):=hm'
  have hz0:W.drew.cell? ⟨bi,oi,none⟩=some (.int .i64 z):=by
   have:=hci 0 z rfl
   show W.cell? _=_
   rw [Ke.cell (by have:=HM.out.a1M;omega) bF];exact this
  have HC:=aB ED
  have S4:Hid (∀ X:Value,(W.setCell ⟨mb,7,none⟩ X).cell? ⟨mb,8,none⟩=some (.slice (some ⟨rb,0,none⟩) σ.regs.length rc)∧(W.setCell ⟨mb,7,none⟩ X).cell? ⟨w.heap.size,1,none⟩=some (.int .i64 dn)):=by
   intro X
   refine ⟨?_,(World.cell?_of_block (w:=W) (Below.heap_setCell _ _ _ _ (by exact a7O))).trans n1⟩
   have:=aA (aG (i:=7) X hW.hm) 8
   rw [this];rfl
  have S5:Hid (∀ X Y:Value,((W.setCell ⟨mb,7,none⟩ X).setCell ⟨rb,dn,none⟩ Y).cell? ⟨mb,8,none⟩=some (.slice (some ⟨rb,0,none⟩) σ.regs.length rc)∧((W.setCell ⟨mb,7,none⟩ X).setCell ⟨rb,dn,none⟩ Y).cell? ⟨w.heap.size,1,none⟩=some (.int .i64 dn)):=by
   intro X Y
   exact ⟨(World.cell?_of_block (w:=W.setCell ⟨mb,7,none⟩ X) (Below.heap_setCell _ _ _ _ (by exact g7))).trans (S4.out X).1,(World.cell?_of_block (w:=W.setCell ⟨mb,7,none⟩ X) (Below.heap_setCell _ _ _ _ (by show w.heap.size≠rb;omega))).trans (S4.out X).2⟩
  have rd' :∀ X:Value,(W.setCell ⟨mb,7,none⟩ X).cell? ⟨rb,dn,none⟩=some (.int .i64 (dN σ.regs dn)):=fun X=>(World.cell?_of_block (w:=W) (Below.heap_setCell _ _ _ _ (by exact fun e=>g7 e.symm))).trans rd
  have rf' :∀ X:Value,(W.setCell ⟨mb,7,none⟩ X).frozen? ⟨rb,dn,none⟩=false:=fun X=>(World.frozen?_of_block (w:=W) (Below.heap_setCell _ _ _ _ (by exact fun e=>g7 e.symm))).trans rf
  have HCI:=aB hci
  have a7R:zs.length+1≤ic:=by simpa using hic
  clear ED hW hci hic
  go_region_held3 (fun u=>u.cell? ⟨mb,8,none⟩=some (.slice (some ⟨rb,0,none⟩) σ.regs.length rc)∧u.cell? ⟨w.heap.size,1,none⟩=some (.int .i64 dn)) (first | exact HS3.out | exact S4.out _ | exact S5.out _ _) (first
   | (go_at_call 92;refine (UN mb _ _ _ _ _ _ _ _ _ bi oi zs.length ic z _ a7R hmd hz0).mono ?_;rintro e1 w5 ⟨rfl,ia5,ic5,rfl,hl5,ho5⟩))
  all_goals go_wp2
  all_goals go_end0
  all_goals
   have hW:=HW.out
   have ED:=HC.out
   rw [show vM ⟨9,dn,a,b,t,e⟩ σ={ σ with pc:=t.toNat,steps:=σ.steps+1,regs:=mJ σ.regs dn z,inp:=zs } from by
    show ({ σ with pc:=t.toNat,steps:=σ.steps+1,regs:=mJ σ.regs dn (σ.inp.headD 0),inp:=σ.inp.tail }:St)=_
    rw [ED];rfl]
   have K2:bR [mb,rb,mp] w ((W.setCell ⟨mb,7,none⟩ (.slice ia5 zs.length ic5)).setCell ⟨rb,dn,none⟩ (.int .i64 z)).drew:=((Ke.setCell (p:=⟨mb,7,none⟩) aQ _).setCell (p:=⟨rb,dn,none⟩) aQ _).drew
   have a7S:AJ w B ia5 zs:=by
    rcases ho5 with ho5 | ho5
    ·exact Or.inl (List.eq_nil_of_length_eq_zero ho5)
    ·refine Or.inr ⟨bi,oi+1,ho5,hbi,fun j y hy=>?_⟩
     have:=HCI.out (j+1) y (by simpa using hy)
     rw [show oi+1+j=oi+(j+1) by omega];exact this
   refine ⟨rfl,v,ia5,ic5,n,D,HM.out.next K2 ?_ ?_ ?_ ?_ a7S hl5 rfl hlt (by have:=HM.out.hn;omega) (Nat.le_succ _) (jL _ _ _) HM.out.rel HM.out.srt (fun c hc=>by have:=HM.out.cb c hc;omega),HM.out.below K2⟩
   ·have:=aN (i:=dn) (.int .i64 z) (aG (i:=7) (.slice ia5 zs.length ic5) hW.hm) g7
    show _=some (Obj.cells #[_,_,_,_,_,_,Value.int .i64 ((t.toNat:Nat):Int),_,Value.slice _ (mJ σ.regs dn z).length _,_] _ _)
    rw [show ((t.toNat:Nat):Int)=t from by omega,jL]
    exact this
   ·have:=aG (i:=dn) (.int .i64 z) (aN (i:=7) (.slice ia5 zs.length ic5) hW.hr (fun e=>g7 e.symm))
    rw [wS] at this
    exact this
   ·refine pE hW.ho ?_
    show ((W.setCell ⟨mb,7,none⟩ _).setCell ⟨rb,dn,none⟩ _).heap[mp]?=_
    rw [Below.heap_setCell _ _ _ _ (by exact fun e=>g9 e.symm),Below.heap_setCell _ _ _ _ (by exact fun e=>g8 e.symm)]
   ·exact (((bR.refl [mb,rb] W).setCell (p:=⟨mb,7,none⟩) aQ _).setCell (p:=⟨rb,dn,none⟩) aQ _).drew.owns hW.hout bF
theorem aGH {B s mb rb mp nb aV dK rc:Nat} {ns:List Nd} {w:World} {σ:St} {v:Value} {ia:Option Addr} {ic n:Nat} {D:DataW Unit} (M:MA B s mb rb mp nb aV dK rc ns w σ v ia ic n D) {x:Nd} (hx:ns[σ.pc]?=some x) (hlen:ns.length≤256) (hlt:σ.steps<131072) (ht:0≤x.t) (hop:x.op=2) (hd:KS σ.regs x.d) (ha:KS σ.regs x.a) :
 Calls Tryz.prog 57 #[.pointer (some ⟨mb,0,none⟩)] w fun e w' =>e=.returned (.tuple #[])∧∃ v' yA vN n' D', MA B s mb rb mp nb aV dK rc ns w' (vM x σ) v' yA vN n' D' ∧Below B w w' :=by
 have hpc:σ.pc<ns.length:=(List.getElem?_eq_some_iff.1 hx).1
 have jP:=aD M.hm
 have sK:=M.hN.lt
 have aAT:=M.hst
 have m3:=aA M.hm 3
 have m5:=aA M.hm 5
 have m6:=aA M.hm 6
 have f3:=aC M.hm 3
 have f6:=aC M.hm 6
 simp at m3 m5 m6
 have c0:=M.hN.c0 σ.pc x hx
 have c1:=M.hN.c1 σ.pc x hx
 have c2:=M.hN.c2 σ.pc x hx
 have c3:=M.hN.c3 σ.pc x hx
 have c4:=M.hN.c4 σ.pc x hx
 have c5:=M.hN.c5 σ.pc x hx
 have P3:=sN M x
 obtain ⟨op,d,a,b,t,e⟩:=x
 simp only at *
 subst hop
 have HS:=aB (And.intro m5 (And.intro m6 (And.intro c0 (And.intro c1 (And.intro c2 (And.intro c3 (And.intro c4 c5)))))))
 have IV:Hid (∀ o,(w.alloc o).cell? ⟨mb,5,none⟩=some (.slice (some ⟨nb,aV,none⟩) ns.length dK)∧(w.alloc o).cell? ⟨mb,6,none⟩=some (.int .i64 σ.pc)∧(w.alloc o).cell? ⟨nb,aV+σ.pc*6,none⟩=some (.int .i64 2)∧(w.alloc o).cell? ⟨nb,aV+σ.pc*6+1,none⟩=some (.int .i64 d)∧(w.alloc o).cell? ⟨nb,aV+σ.pc*6+2,none⟩=some (.int .i64 a)∧(w.alloc o).cell? ⟨nb,aV+σ.pc*6+3,none⟩=some (.int .i64 b)∧(w.alloc o).cell? ⟨nb,aV+σ.pc*6+4,none⟩=some (.int .i64 t)∧(w.alloc o).cell? ⟨nb,aV+σ.pc*6+5,none⟩=some (.int .i64 e)):=by
  intro o
  simp only [World.cell?_alloc_past _ _ _ jP,World.cell?_alloc_past _ _ _ sK]
  exact HS.out
 have hpi:(σ.pc:Int)<(ns.length:Int):=by omega
 have wT:(0:Int)≤(σ.pc:Int):=by omega
 have HM:=aB M
 have HX:=aB hx
 have HP:=aB P3
 clear M hx P3
 go_enter Tryz.func57,Tryz.ntmps57
 go_wp2
 go_region_held3 (fun u=>u.cell? ⟨mb,5,none⟩=some (.slice (some ⟨nb,aV,none⟩) ns.length dK)∧u.cell? ⟨mb,6,none⟩=some (.int .i64 σ.pc)∧u.cell? ⟨nb,aV+σ.pc*6,none⟩=some (.int .i64 2)∧u.cell? ⟨nb,aV+σ.pc*6+1,none⟩=some (.int .i64 d)∧u.cell? ⟨nb,aV+σ.pc*6+2,none⟩=some (.int .i64 a)∧u.cell? ⟨nb,aV+σ.pc*6+3,none⟩=some (.int .i64 b)∧u.cell? ⟨nb,aV+σ.pc*6+4,none⟩=some (.int .i64 t)∧u.cell? ⟨nb,aV+σ.pc*6+5,none⟩=some (.int .i64 e)) (first | exact HS.out | exact IV.out _) (fail)
 go_wp2
 clear m3 m5 m6 f3 f6 c0 c1 c2 c3 c4 c5 HS IV hpi wT
 have hW:=HP.out
 unfold W3 at hW
 generalize (((w.setCell ⟨mb,3,none⟩ (.int .i64 ((σ.steps:Int)+1))).setCell ⟨mb,6,none⟩ (.int .i64 t)).alloc (.cells #[.int .i64 2,.int .i64 d,.int .i64 a,.int .i64 b,.int .i64 t,.int .i64 e] 42)).drew=W at hW ⊢
 clear HP
 have HW:=aB hW
 obtain ⟨g1,g2,g3,g4,g5,g6,g7,g8,g9⟩:=HM.out.geo
 have wml:=aD hW.hm
 have wrl:=aD hW.hr
 have wnl:=aD hW.hnd
 have hss:=HM.out.hs
 obtain ⟨hd0,hd1⟩:=hd
 obtain ⟨ha0,ha1⟩:=ha
 obtain ⟨dn,rfl⟩:=Int.eq_ofNat_of_zero_le hd0
 obtain ⟨an,rfl⟩:=Int.eq_ofNat_of_zero_le ha0
 have m8:=aA hW.hm 8
 have n1:=aA hW.hnd 1
 have n2:=aA hW.hnd 2
 have rd:=aA hW.hr dn
 have ra:=aA hW.hr an
 rw [uG aF] at rd ra
 have rf:=aC hW.hr dn
 simp at m8 n1 n2
 clear hW
 refine wp_region_still_tail 15 fJ fJ ?_
 simp only [List.take_succ_cons,List.take_zero,List.drop_succ_cons,List.drop_zero]
 repeat still_step
 refine wpStill_nil ?_
 go_wp2
 go_end0
 have hW:=HW.out
 have K2:bR [mb,rb,mp] w (W.setCell ⟨rb,dn,none⟩ (.int .i64 (dN σ.regs an))).drew:=(hW.K.setCell (p:=⟨rb,dn,none⟩) aQ _).drew
 rw [show vM ⟨2,dn,an,b,t,e⟩ σ={ σ with pc:=t.toNat,steps:=σ.steps+1,regs:=mJ σ.regs dn (dN σ.regs an) } from rfl]
 refine ⟨rfl,v,ia,ic,n,D,HM.out.next K2 ?_ ?_ ?_ ?_ HM.out.hin HM.out.hic rfl hlt (by have:=HM.out.hn;omega) (Nat.le_succ _) (jL _ _ _) HM.out.rel HM.out.srt (fun c hc=>by have:=HM.out.cb c hc;omega),HM.out.below K2⟩
 ·have:=aN (i:=dn) (.int .i64 (dN σ.regs an)) hW.hm g7
  show _=some (Obj.cells #[_,_,_,_,_,_,Value.int .i64 ((t.toNat:Nat):Int),_,Value.slice _ (mJ σ.regs dn (dN σ.regs an)).length _,_] _ _)
  rw [show ((t.toNat:Nat):Int)=t from by omega,jL]
  exact this
 ·have:=aG (i:=dn) (.int .i64 (dN σ.regs an)) hW.hr
  rw [wS] at this
  exact this
 ·exact pE hW.ho (Below.heap_setCell _ _ _ _ (by exact fun e=>g9 e.symm))
 ·exact ((bR.refl [rb] W).setCell (p:=⟨rb,dn,none⟩) aQ _).drew.owns hW.hout bF
theorem aAU {B s mb rb mp nb aV dK rc:Nat} {ns:List Nd} {w:World} {σ:St} {v:Value} {ia:Option Addr} {ic n:Nat} {D:DataW Unit} (M:MA B s mb rb mp nb aV dK rc ns w σ v ia ic n D) {x:Nd} (hx:ns[σ.pc]?=some x) (hlen:ns.length≤256) (hlt:σ.steps<131072) (ht:0≤x.t) (hop:3≤x.op∧x.op≤8) (hd:KS σ.regs x.d) (ha:KS σ.regs x.a) (hb:KS σ.regs x.b) :
 Calls Tryz.prog 57 #[.pointer (some ⟨mb,0,none⟩)] w fun e w' =>e=.returned (.tuple #[])∧∃ v' yA vN n' D', MA B s mb rb mp nb aV dK rc ns w' (vM x σ) v' yA vN n' D' ∧Below B w w' :=by
 have hpc:σ.pc<ns.length:=(List.getElem?_eq_some_iff.1 hx).1
 have jP:=aD M.hm
 have sK:=M.hN.lt
 have aAT:=M.hst
 have m3:=aA M.hm 3
 have m5:=aA M.hm 5
 have m6:=aA M.hm 6
 have f3:=aC M.hm 3
 have f6:=aC M.hm 6
 simp at m3 m5 m6
 have c0:=M.hN.c0 σ.pc x hx
 have c1:=M.hN.c1 σ.pc x hx
 have c2:=M.hN.c2 σ.pc x hx
 have c3:=M.hN.c3 σ.pc x hx
 have c4:=M.hN.c4 σ.pc x hx
 have c5:=M.hN.c5 σ.pc x hx
 have P3:=sN M x
 obtain ⟨op,d,a,b,t,e⟩:=x
 simp only at *
 obtain ⟨ho1,ho2⟩:=hop
 have HS:=aB (And.intro m5 (And.intro m6 (And.intro c0 (And.intro c1 (And.intro c2 (And.intro c3 (And.intro c4 c5)))))))
 have IV:Hid (∀ o,(w.alloc o).cell? ⟨mb,5,none⟩=some (.slice (some ⟨nb,aV,none⟩) ns.length dK)∧(w.alloc o).cell? ⟨mb,6,none⟩=some (.int .i64 σ.pc)∧(w.alloc o).cell? ⟨nb,aV+σ.pc*6,none⟩=some (.int .i64 op)∧(w.alloc o).cell? ⟨nb,aV+σ.pc*6+1,none⟩=some (.int .i64 d)∧(w.alloc o).cell? ⟨nb,aV+σ.pc*6+2,none⟩=some (.int .i64 a)∧(w.alloc o).cell? ⟨nb,aV+σ.pc*6+3,none⟩=some (.int .i64 b)∧(w.alloc o).cell? ⟨nb,aV+σ.pc*6+4,none⟩=some (.int .i64 t)∧(w.alloc o).cell? ⟨nb,aV+σ.pc*6+5,none⟩=some (.int .i64 e)):=by
  intro o
  simp only [World.cell?_alloc_past _ _ _ jP,World.cell?_alloc_past _ _ _ sK]
  exact HS.out
 have hpi:(σ.pc:Int)<(ns.length:Int):=by omega
 have wT:(0:Int)≤(σ.pc:Int):=by omega
 have HM:=aB M
 have HX:=aB hx
 have HP:=aB P3
 clear M hx P3
 go_enter Tryz.func57,Tryz.ntmps57
 go_wp2
 go_region_held3 (fun u=>u.cell? ⟨mb,5,none⟩=some (.slice (some ⟨nb,aV,none⟩) ns.length dK)∧u.cell? ⟨mb,6,none⟩=some (.int .i64 σ.pc)∧u.cell? ⟨nb,aV+σ.pc*6,none⟩=some (.int .i64 op)∧u.cell? ⟨nb,aV+σ.pc*6+1,none⟩=some (.int .i64 d)∧u.cell? ⟨nb,aV+σ.pc*6+2,none⟩=some (.int .i64 a)∧u.cell? ⟨nb,aV+σ.pc*6+3,none⟩=some (.int .i64 b)∧u.cell? ⟨nb,aV+σ.pc*6+4,none⟩=some (.int .i64 t)∧u.cell? ⟨nb,aV+σ.pc*6+5,none⟩=some (.int .i64 e)) (first | exact HS.out | exact IV.out _) (fail)
 go_wp2_with fail
 clear m3 m5 m6 f3 f6 c0 c1 c2 c3 c4 c5 HS IV hpi wT
 have hW:=HP.out
 unfold W3 at hW
 generalize (((w.setCell ⟨mb,3,none⟩ (.int .i64 ((σ.steps:Int)+1))).setCell ⟨mb,6,none⟩ (.int .i64 t)).alloc (.cells #[.int .i64 op,.int .i64 d,.int .i64 a,.int .i64 b,.int .i64 t,.int .i64 e] 42)).drew=W at hW ⊢
 clear HP
 obtain ⟨g1,g2,g3,g4,g5,g6,g7,g8,g9⟩:=HM.out.geo
 have hss:=HM.out.hs
 have hnn:=HM.out.hn
 refine (VD mb rb mp _ _ _ _ _ _ _ _ rc #[] σ.regs n D ⟨op,d,a,b,t,e⟩ W hW.hm hW.hr hW.ho aF ⟨g7,g8,g9⟩ ⟨ho1,ho2⟩ hd ha hb HM.out.hrl).mono ?_
 rintro e1 w4 ⟨rfl,hr4,⟨c,hat,ho4⟩,K4⟩
 go_wp2
 go_end0
 have hsz:=hW.K.size
 have K2:bR [mb,rb,mp] w w4:=hW.K.trans (K4.mono aQ)
 have htw:VG (gG ⟨op,d,a,b,t,e⟩):=⟨kJ (by simp [gG];omega) (by simp [gG];omega),kJ (by simp [gG];exact ha.1) (by have h1:a<(σ.regs.length:Int):=ha.2;have h2:=HM.out.hrl;show a≤1000000;omega),kJ (by simp [gG];exact hb.1) (by have h1:b<(σ.regs.length:Int):=hb.2;have h2:=HM.out.hrl;show b≤1000000;omega)⟩
 obtain ⟨hcc,hrel⟩:=HM.out.rel.more HM.out.srt htw hat
 have hcb:0≤c∧c≤131072:=by
  rw [hcc]
  cases hq:jZ σ.cts (gG ⟨op,d,a,b,t,e⟩) with
  | none=>simp
  | some m=>have:=HM.out.cb _ (VF hq);simp at this ⊢;omega
 have hwr:wrap64 (c+1)=c+1:=by unfold wrap64;omega
 rw [hwr] at ho4
 rw [show vM ⟨op,d,a,b,t,e⟩ σ={ σ with pc:=t.toNat,steps:=σ.steps+1,regs:=mJ σ.regs d (rk op (dN σ.regs a) (dN σ.regs b)),cts:=nI σ.cts (gG ⟨op,d,a,b,t,e⟩) } from by
  simp only [vM];rw [if_neg aF,if_neg aF,if_neg aF,if_neg aF,if_neg aF,if_neg aF,if_neg aF]]
 refine ⟨rfl,v,ia,ic,n+1,_,HM.out.next K2 ?_ hr4 ho4 (K4.owns hW.hout bF) HM.out.hin HM.out.hic rfl hlt aF (Nat.le_succ _) (jL _ _ _) hrel (aGG HM.out.srt _) (aLW aF (fun c hc=>by have:=HM.out.cb c hc;omega)),HM.out.below K2⟩
 have PD:w4.heap[mb]?=_:=(K4.block mb (aD hW.hm) bF).trans hW.hm
 show _=some (Obj.cells #[_,_,_,_,_,_,Value.int .i64 ((t.toNat:Nat):Int),_,Value.slice _ (mJ σ.regs d (rk op (dN σ.regs a) (dN σ.regs b))).length _,_] _ _)
 rw [show ((t.toNat:Nat):Int)=t from by omega,jL]
 exact PD
theorem aLZ {B s mb rb mp nb aV dK rc:Nat} {ns:List Nd} {w:World} {σ:St} {v:Value} {ia:Option Addr} {ic n:Nat} {D:DataW Unit} (M:MA B s mb rb mp nb aV dK rc ns w σ v ia ic n D) {x:Nd} (hx:ns[σ.pc]?=some x) (hlen:ns.length≤256) (hlt:σ.steps<131072) (ht:0≤x.t) (hop:x.op=11) (ha:KS σ.regs x.a) (he:0≤x.e) :
 Calls Tryz.prog 57 #[.pointer (some ⟨mb,0,none⟩)] w fun e w' =>e=.returned (.tuple #[])∧∃ v' yA vN n' D', MA B s mb rb mp nb aV dK rc ns w' (vM x σ) v' yA vN n' D' ∧Below B w w' :=by
 have hpc:σ.pc<ns.length:=(List.getElem?_eq_some_iff.1 hx).1
 have jP:=aD M.hm
 have sK:=M.hN.lt
 have aAT:=M.hst
 have m3:=aA M.hm 3
 have m5:=aA M.hm 5
 have m6:=aA M.hm 6
 have f3:=aC M.hm 3
 have f6:=aC M.hm 6
 simp at m3 m5 m6
 have c0:=M.hN.c0 σ.pc x hx
 have c1:=M.hN.c1 σ.pc x hx
 have c2:=M.hN.c2 σ.pc x hx
 have c3:=M.hN.c3 σ.pc x hx
 have c4:=M.hN.c4 σ.pc x hx
 have c5:=M.hN.c5 σ.pc x hx
 have P3:=sN M x
 obtain ⟨op,d,a,b,t,e⟩:=x
 simp only at *
 subst hop
 have HS:=aB (And.intro m5 (And.intro m6 (And.intro c0 (And.intro c1 (And.intro c2 (And.intro c3 (And.intro c4 c5)))))))
 have IV:Hid (∀ o,(w.alloc o).cell? ⟨mb,5,none⟩=some (.slice (some ⟨nb,aV,none⟩) ns.length dK)∧(w.alloc o).cell? ⟨mb,6,none⟩=some (.int .i64 σ.pc)∧(w.alloc o).cell? ⟨nb,aV+σ.pc*6,none⟩=some (.int .i64 11)∧(w.alloc o).cell? ⟨nb,aV+σ.pc*6+1,none⟩=some (.int .i64 d)∧(w.alloc o).cell? ⟨nb,aV+σ.pc*6+2,none⟩=some (.int .i64 a)∧(w.alloc o).cell? ⟨nb,aV+σ.pc*6+3,none⟩=some (.int .i64 b)∧(w.alloc o).cell? ⟨nb,aV+σ.pc*6+4,none⟩=some (.int .i64 t)∧(w.alloc o).cell? ⟨nb,aV+σ.pc*6+5,none⟩=some (.int .i64 e)):=by
  intro o
  simp only [World.cell?_alloc_past _ _ _ jP,World.cell?_alloc_past _ _ _ sK]
  exact HS.out
 have hpi:(σ.pc:Int)<(ns.length:Int):=by omega
 have wT:(0:Int)≤(σ.pc:Int):=by omega
 have HM:=aB M
 have HX:=aB hx
 have HP:=aB P3
 clear M hx P3
 go_enter Tryz.func57,Tryz.ntmps57
 go_wp2
 go_region_held3 (fun u=>u.cell? ⟨mb,5,none⟩=some (.slice (some ⟨nb,aV,none⟩) ns.length dK)∧u.cell? ⟨mb,6,none⟩=some (.int .i64 σ.pc)∧u.cell? ⟨nb,aV+σ.pc*6,none⟩=some (.int .i64 11)∧u.cell? ⟨nb,aV+σ.pc*6+1,none⟩=some (.int .i64 d)∧u.cell? ⟨nb,aV+σ.pc*6+2,none⟩=some (.int .i64 a)∧u.cell? ⟨nb,aV+σ.pc*6+3,none⟩=some (.int .i64 b)∧u.cell? ⟨nb,aV+σ.pc*6+4,none⟩=some (.int .i64 t)∧u.cell? ⟨nb,aV+σ.pc*6+5,none⟩=some (.int .i64 e)) (first | exact HS.out | exact IV.out _) (fail)
 go_wp2
 clear m3 m5 m6 f3 f6 c0 c1 c2 c3 c4 c5 HS IV hpi wT
 have hW:=HP.out
 unfold W3 at hW
 generalize (((w.setCell ⟨mb,3,none⟩ (.int .i64 ((σ.steps:Int)+1))).setCell ⟨mb,6,none⟩ (.int .i64 t)).alloc (.cells #[.int .i64 11,.int .i64 d,.int .i64 a,.int .i64 b,.int .i64 t,.int .i64 e] 42)).drew=W at hW ⊢
 clear HP
 have HW:=aB hW
 obtain ⟨g1,g2,g3,g4,g5,g6,g7,g8,g9⟩:=HM.out.geo
 have wml:=aD hW.hm
 have wrl:=aD hW.hr
 have wnl:=aD hW.hnd
 have hss:=HM.out.hs
 obtain ⟨ha0,ha1⟩:=ha
 obtain ⟨an,rfl⟩:=Int.eq_ofNat_of_zero_le ha0
 have m6:=aA hW.hm 6
 have m8:=aA hW.hm 8
 have f6:=aC hW.hm 6
 have n2:=aA hW.hnd 2
 have n5:=aA hW.hnd 5
 have ra:=aA hW.hr an
 rw [uG aF] at ra
 simp at m6 m8 n2 n5
 clear hW
 by_cases hz:dN σ.regs an=0
 ·have hzb:(dN σ.regs (an:Int)==0)=true:=by simp [hz]
  have HZ:=aB hz
  clear hz
  go_quiet (fail)
  go_wp2
  go_end0
  have hW:=HW.out
  rw [show vM ⟨11,d,an,b,t,e⟩ σ={ σ with pc:=e.toNat,steps:=σ.steps+1 } from by
   show ({ σ with pc:=(if dN σ.regs an=0 then e else t).toNat,steps:=σ.steps+1 }:St)=_;rw [if_pos HZ.out]]
  have K2:bR [mb,rb,mp] w ((W.setCell ⟨mb,6,none⟩ (.int .i64 e)).drewN nq):=(hW.K.setCell (p:=⟨mb,6,none⟩) aQ _).drewN nq
  refine ⟨rfl,v,ia,ic,n,D,HM.out.next K2 ?_ ?_ ?_ ?_ HM.out.hin HM.out.hic rfl hlt (by have:=HM.out.hn;omega) (Nat.le_succ _) rfl HM.out.rel HM.out.srt (fun c hc=>by have:=HM.out.cb c hc;omega),HM.out.below K2⟩
  ·have:=aG (i:=6) (.int .i64 e) hW.hm
   show _=some (Obj.cells #[_,_,_,_,_,_,Value.int .i64 ((e.toNat:Nat):Int),_,_,_] _ _)
   rw [show ((e.toNat:Nat):Int)=e from by omega]
   exact this
  ·exact aN _ hW.hr (fun e=>g7 e.symm)
  ·exact pE hW.ho (Below.heap_setCell _ _ _ _ (by exact fun e=>g8 e.symm))
  ·exact ((bR.refl [mb] W).setCell (p:=⟨mb,6,none⟩) aQ _).owns hW.hout bF
 ·have hzb:(dN σ.regs (an:Int)==0)=false:=by simp [hz]
  have HZ:=aB hz
  clear hz
  go_quiet (fail)
  go_wp2
  go_end0
  have hW:=HW.out
  rw [show vM ⟨11,d,an,b,t,e⟩ σ={ σ with pc:=t.toNat,steps:=σ.steps+1 } from by
   show ({ σ with pc:=(if dN σ.regs an=0 then e else t).toNat,steps:=σ.steps+1 }:St)=_;rw [if_neg HZ.out]]
  have K2:bR [mb,rb,mp] w (W.drewN nq):=hW.K.drewN nq
  refine ⟨rfl,v,ia,ic,n,D,HM.out.next K2 ?_ hW.hr hW.ho hW.hout HM.out.hin HM.out.hic rfl hlt (by have:=HM.out.hn;omega) (Nat.le_succ _) rfl HM.out.rel HM.out.srt (fun c hc=>by have:=HM.out.cb c hc;omega),HM.out.below K2⟩
  have:=hW.hm
  show _=some (Obj.cells #[_,_,_,_,_,_,Value.int .i64 ((t.toNat:Nat):Int),_,_,_] _ _)
  rw [show ((t.toNat:Nat):Int)=t from by omega]
  exact this
theorem aMA {B s mb rb mp nb aV dK rc:Nat} {ns:List Nd} {w:World} {σ:St} {v:Value} {ia:Option Addr} {ic n:Nat} {D:DataW Unit} (M:MA B s mb rb mp nb aV dK rc ns w σ v ia ic n D) {x:Nd} (hx:ns[σ.pc]?=some x) (hlen:ns.length≤256) (hlt:σ.steps<131072) (ht:0≤x.t) (hop:x.op=10) (ha:KS σ.regs x.a) :
 Calls Tryz.prog 57 #[.pointer (some ⟨mb,0,none⟩)] w fun e w' =>e=.returned (.tuple #[])∧∃ v' yA vN n' D', MA B s mb rb mp nb aV dK rc ns w' (vM x σ) v' yA vN n' D' ∧Below B w w' :=by
 obtain ⟨i0,hi,hz0,hz1,hz2⟩:=info_parts fZ
 have hpc:σ.pc<ns.length:=(List.getElem?_eq_some_iff.1 hx).1
 have jP:=aD M.hm
 have sK:=M.hN.lt
 have aAT:=M.hst
 have m3:=aA M.hm 3
 have m5:=aA M.hm 5
 have m6:=aA M.hm 6
 have f3:=aC M.hm 3
 have f6:=aC M.hm 6
 simp at m3 m5 m6
 have c0:=M.hN.c0 σ.pc x hx
 have c1:=M.hN.c1 σ.pc x hx
 have c2:=M.hN.c2 σ.pc x hx
 have c3:=M.hN.c3 σ.pc x hx
 have c4:=M.hN.c4 σ.pc x hx
 have c5:=M.hN.c5 σ.pc x hx
 have P3:=sN M x
 obtain ⟨op,d,a,b,t,e⟩:=x
 simp only at *
 subst hop
 have HS:=aB (And.intro m5 (And.intro m6 (And.intro c0 (And.intro c1 (And.intro c2 (And.intro c3 (And.intro c4 c5)))))))
 have IV:Hid (∀ o,(w.alloc o).cell? ⟨mb,5,none⟩=some (.slice (some ⟨nb,aV,none⟩) ns.length dK)∧(w.alloc o).cell? ⟨mb,6,none⟩=some (.int .i64 σ.pc)∧(w.alloc o).cell? ⟨nb,aV+σ.pc*6,none⟩=some (.int .i64 10)∧(w.alloc o).cell? ⟨nb,aV+σ.pc*6+1,none⟩=some (.int .i64 d)∧(w.alloc o).cell? ⟨nb,aV+σ.pc*6+2,none⟩=some (.int .i64 a)∧(w.alloc o).cell? ⟨nb,aV+σ.pc*6+3,none⟩=some (.int .i64 b)∧(w.alloc o).cell? ⟨nb,aV+σ.pc*6+4,none⟩=some (.int .i64 t)∧(w.alloc o).cell? ⟨nb,aV+σ.pc*6+5,none⟩=some (.int .i64 e)):=by
  intro o
  simp only [World.cell?_alloc_past _ _ _ jP,World.cell?_alloc_past _ _ _ sK]
  exact HS.out
 have hpi:(σ.pc:Int)<(ns.length:Int):=by omega
 have wT:(0:Int)≤(σ.pc:Int):=by omega
 have HM:=aB M
 have HX:=aB hx
 have HP:=aB P3
 clear M hx P3
 go_enter Tryz.func57,Tryz.ntmps57
 go_wp2
 go_region_held3 (fun u=>u.cell? ⟨mb,5,none⟩=some (.slice (some ⟨nb,aV,none⟩) ns.length dK)∧u.cell? ⟨mb,6,none⟩=some (.int .i64 σ.pc)∧u.cell? ⟨nb,aV+σ.pc*6,none⟩=some (.int .i64 10)∧u.cell? ⟨nb,aV+σ.pc*6+1,none⟩=some (.int .i64 d)∧u.cell? ⟨nb,aV+σ.pc*6+2,none⟩=some (.int .i64 a)∧u.cell? ⟨nb,aV+σ.pc*6+3,none⟩=some (.int .i64 b)∧u.cell? ⟨nb,aV+σ.pc*6+4,none⟩=some (.int .i64 t)∧u.cell? ⟨nb,aV+σ.pc*6+5,none⟩=some (.int .i64 e)) (first | exact HS.out | exact IV.out _) (fail)
 go_wp2
 clear m3 m5 m6 f3 f6 c0 c1 c2 c3 c4 c5 HS IV hpi wT
 have hW:=HP.out
 unfold W3 at hW
 generalize (((w.setCell ⟨mb,3,none⟩ (.int .i64 ((σ.steps:Int)+1))).setCell ⟨mb,6,none⟩ (.int .i64 t)).alloc (.cells #[.int .i64 10,.int .i64 d,.int .i64 a,.int .i64 b,.int .i64 t,.int .i64 e] 42)).drew=W at hW ⊢
 clear HP
 have HW:=aB hW
 obtain ⟨g1,g2,g3,g4,g5,g6,g7,g8,g9⟩:=HM.out.geo
 have wml:=aD hW.hm
 have wrl:=aD hW.hr
 have wnl:=aD hW.hnd
 have hss:=HM.out.hs
 obtain ⟨ha0,ha1⟩:=ha
 obtain ⟨an,rfl⟩:=Int.eq_ofNat_of_zero_le ha0
 have m0:=aA hW.hm 0
 have m8:=aA hW.hm 8
 have f0:=aC hW.hm 0
 have n2:=aA hW.hnd 2
 have ra:=aA hW.hr an
 rw [uG aF] at ra
 simp at m0 m8 n2
 have hown:=hW.hout
 have hol:=HM.out.hol
 have hsW:s≤W.heap.size:=Nat.le_trans hss hW.K.size
 have aFV:=HM.out.hout.lt
 have hneq:∀ q,q<s→some q≠v.ownBlock:=fun q hq e=>by have:=aFV q e.symm;omega
 have bIC:some w.heap.size≠v.ownBlock:=fun e=>by have:=aFV _ e.symm;omega
 clear hW
 go_region_law (first
  | ((refine step_append_lies _ (by rfl) _ _ _ (by rfl) s 3 i0 (.int .i64 0) 1 8 Tryz.underlying25 hi hz0 hz1 hz2 rfl aF v σ.out.length (σ.out.map (Value.int .i64)) (by rfl) ((hown.alloc _)) ⟨W.heap.size,0,none⟩ 1 1 [.int .i64 (dN σ.regs an)] (by rfl) (by rfl) (World.news_of_block (cs:=#[.int .i64 (dN σ.regs an)]) (t:=3) (fr:=(0,0)) (heap_alloc_new W _)) (by simp [Value.oneCell']) aF (by unfold maxLen;omega) aF bF (W.heap.size+1) aQ ?_;intro gg jM w5 hown5 hgrow hat aRT;have hb5:w5.heap[mb]?=W.heap[mb]? :=(hgrow.block mb bF (hneq mb g4)).trans (Below.heap_alloc _ _ _ wml);have x0:w5.cell? ⟨mb,0,none⟩=some v:=(World.cell?_of_block hb5).trans m0;have x1:w5.frozen? ⟨mb,0,none⟩=false:=(World.frozen?_of_block hb5).trans f0;have HG:=aB (And.intro hown5 (And.intro hgrow (And.intro hat aRT)));clear hown5 hgrow hat aRT hb5)))
 all_goals go_wp2
 all_goals go_end0
 all_goals
  have hW:=HW.out
  obtain ⟨hown5,hgrow,hat,aRT⟩:=HG.out
  have hk:∀ q,q<W.heap.size→some q≠v.ownBlock→w5.heap[q]?=W.heap[q]? :=fun q h1 h2=>(hgrow.block q bF h2).trans (Below.heap_alloc _ _ _ h1)
  have hs5:W.heap.size≤w5.heap.size:=by have:=hgrow.size;simp at this;omega
  have Kb:Below B w w5:=(HM.out.below hW.K).trans ⟨hgrow.os,hgrow.tape,hgrow.output,hs5,fun k hk0=>hk k aF (hneq k aF)⟩
  have Kc:=Kb.setCell (p:=⟨mb,0,none⟩) g1 (.slice (some ⟨gg,0,none⟩) (σ.out.length+1) jM)
  have ho5:=((bR.refl [mb] w5).setCell (p:=⟨mb,0,none⟩) aQ (.slice (some ⟨gg,0,none⟩) (σ.out.length+1) jM)).owns hown5 bF
  rw [show vM ⟨10,d,an,b,t,e⟩ σ={ σ with pc:=t.toNat,steps:=σ.steps+1,out:=σ.out++[dN σ.regs an] } from rfl]
  refine ⟨rfl,.slice (some ⟨gg,0,none⟩) (σ.out.length+1) jM,ia,ic,n,D,HM.out.aUT Kc ?_ ?_ ?_ (by simpa using ho5) HM.out.hin HM.out.hic rfl hlt (by have:=HM.out.hn;omega) aQ rfl HM.out.rel HM.out.srt (fun c hc=>by have:=HM.out.cb c hc;omega),Kc⟩
  ·have:=aG (i:=0) (.slice (some ⟨gg,0,none⟩) (σ.out.length+1) jM) ((hk mb wml (hneq mb g4)).trans hW.hm)
   show _=some (Obj.cells #[_,_,_,_,_,_,Value.int .i64 ((t.toNat:Nat):Int),_,_,_] _ _)
   rw [show ((t.toNat:Nat):Int)=t from by omega]
   exact this
  ·exact aN _ ((hk rb wrl (hneq rb g5)).trans hW.hr) (fun e=>g7 e.symm)
  ·refine pE hW.ho ?_
   rw [Below.heap_setCell _ _ _ _ (by exact fun e=>g8 e.symm)]
   exact hk mp hW.ho.lt (hneq mp g6)
theorem rD {d:Nat} {u:Value} {ls:List Lit} (h:Tryz.prog.keyLits (d+1) 3 [u]=some ls):∃ n,u=.int .i64 n∧(Lit.int .i64 n).wf=true:=by
 cases u <;> simp [Program.keyLits,Tryz.underlying3] at h
 obtain ⟨⟨rfl,hw⟩,rfl⟩:=h
 exact ⟨_,rfl,hw⟩
theorem VH {key:Value} {kl:Lit} (h:keyOf Tryz.prog 59 key=some kl):∃ t:Tm,key=.agg #[.int .i64 t.op,.int .i64 t.a,.int .i64 t.b]∧VG t∧kl=DW t:=by
 have hk:Tryz.prog.keyType 59=true:=by kernel_rfl
 have hc:Tryz.prog.cellsOf 59=3:=by kernel_rfl
 have hci:Tryz.prog.cellsOf 3=1:=by kernel_rfl
 obtain ⟨m,hm⟩:=KJ
 have h' :=h
 unfold keyOf at h
 rw [Tryz.underlying59] at h
 simp only [hk,Bool.true_and] at h
 split at h
 ·rename_i hf
  cases key <;> simp [Value.formed,Tryz.underlying59] at hf
  rename_i cs
  rw [hc] at hf
  obtain ⟨l⟩:=cs
  match l,hf with
  | [a,b,c],_ =>
   rw [hm] at h
   unfold Program.keyLits at h
   simp [Tryz.underlying59,hc,hci,Value.cells] at h
   have q1:∃ l1,Tryz.prog.keyLits (m+1) 3 [a]=some l1:=by
    cases e:Tryz.prog.keyLits (m+1) 3 [a] with
    | none=>simp [e] at h
    | some l1=>exact ⟨l1,rfl⟩
   obtain ⟨l1,q1⟩:=q1
   rw [q1] at h
   have q2:∃ l1,Tryz.prog.keyLits (m+1) 3 [b]=some l1:=by
    cases e:Tryz.prog.keyLits (m+1) 3 [b] with
    | none=>simp [e] at h
    | some l1=>exact ⟨l1,rfl⟩
   obtain ⟨l2,q2⟩:=q2
   rw [q2] at h
   have q3:∃ l1,Tryz.prog.keyLits (m+1) 3 [c]=some l1:=by
    cases e:Tryz.prog.keyLits (m+1) 3 [c] with
    | none=>simp [e] at h
    | some l1=>exact ⟨l1,rfl⟩
   obtain ⟨l3,q3⟩:=q3
   obtain ⟨n1,rfl,w1⟩:=rD q1
   obtain ⟨n2,rfl,w2⟩:=rD q2
   obtain ⟨n3,rfl,w3⟩:=rD q3
   refine ⟨⟨n1,n2,n3⟩,rfl,⟨w1,w2,w3⟩,?_⟩
   have:=aRS ⟨n1,n2,n3⟩ w1 w2 w3
   rw [h'] at this
   exact Option.some.inj this
 ·exact absurd h aQ
def fP (c:Ct):List Value:=[.int .i64 c.t.op,.int .i64 c.t.a,.int .i64 c.t.b,.int .i64 c.n]
structure Gone (l:List Ct) (left:Lit→Bool) (L:List Ct):Prop where
 mem:∀ c∈L,jZ l c.t=some c.n∧left (DW c.t)=false∧VG c.t
 nd:(L.map (·.t)).Nodup
 all:∀ t,VG t→(jZ l t).isSome=true→left (DW t)=false→t∈L.map (·.t)
theorem Gone.start {l:List Ct} {D:DataW Unit} (rel:pG D l):Gone l (Maps.has D) []:=by
 refine ⟨aQ,aQ,fun t ht h1 h2=>?_⟩
 exfalso
 cases e:jZ l t with
 | none=>simp [e] at h1
 | some n =>
  have:=has_true_of_atKey (D:=D) (k:=DW t) (y:=.lit (.int .i64 n)) fun z=>by rw [rel.2 t ht z,e]
  rw [this] at h2;exact absurd h2 aQ
theorem pG.found {D:DataW Unit} {l:List Ct} (rel:pG D l) {t:Tm} (ht:VG t) {n:Int} (h:∀ z,D.atKey (DW t) z=.lit (.int .i64 n)):jZ l t=some n:=by
 have h1:=rel.2 t ht (.lit (.int .i64 (n+1)))
 rw [h] at h1
 cases e:jZ l t with
 | none=>rw [e] at h1;have:=(Lit.int.inj (DataW.lit.inj h1)).2;omega
 | some m=>rw [e] at h1;have:=(Lit.int.inj (DataW.lit.inj h1)).2;rw [this]
theorem Gone.more {l:List Ct} {left:Lit→Bool} {L:List Ct} (h:Gone l left L) {t:Tm} {n:Int} (ht:VG t) (hl:left (DW t)=true) (hc:jZ l t=some n):Gone l (fun z=>left z&&!z.sameKey (DW t)) (L++[⟨t,n⟩]):=by
 have hkl:(DW t).sameKey (DW t)=true:=by simp [DW,Lit.sameKey]
 have hne:∀ u,VG u→u≠t→(DW u).sameKey (DW t)=false:=fun u hu e=>by
  cases q:(DW u).sameKey (DW t)
  ·rfl
  ·exfalso
   apply e
   apply aDV hu ht
   simpa [DW,Lit.sameKey] using q
 have hnot:t∉L.map (·.t):=fun hm=>by
  obtain ⟨c,hc1,hc2⟩:=List.mem_map.1 hm
  have:=(h.mem c hc1).2.1
  rw [hc2,hl] at this;exact absurd this aQ
 refine ⟨fun c hcm=>?_,?_,fun u hu hs hf=>?_⟩
 ·rw [List.mem_append] at hcm
  rcases hcm with hcm | hcm
  ·obtain ⟨a,b,c⟩:=h.mem c hcm
   exact ⟨a,by rw [b];rfl,c⟩
  ·simp at hcm;subst hcm
   exact ⟨hc,by simp [hkl],ht⟩
 ·rw [List.map_append,List.nodup_append]
  refine ⟨h.nd,aQ,fun a ha b hb=>?_⟩
  simp at hb;subst hb
  exact fun e=>hnot (e ▸ ha)
 ·rw [List.map_append,List.mem_append]
  by_cases e:u=t
  ·subst e;right;simp
  ·left
   refine h.all u hu hs ?_
   simpa [hne u hu e] using hf
theorem aAV:(Tryz.prog.info? 99).map (fun i=>(i.zero,i.size,i.bytes))=some (some (.agg #[.int .i64 0,.int .i64 0,.int .i64 0,.int .i64 0]),4,32):=by kernel_rfl
def aDW:Prop:=∀ (v:Value) (L:List Ct) (W:World) (base:Nat),base≤W.heap.size→W.ownsRow base 99 4 v L.length (L.flatMap fP)→(L.map (·.t)).Nodup→L.length≤131072 →
 Calls Tryz.prog 94 #[v,.func (.func 95) #[] #[]] W fun e w' =>e=.returned (.tuple #[])∧∃ L', L'.Perm L∧KQ L' ∧w'.ownsRow base 99 4 v L'.length (L'.flatMap fP)∧Below base W w'
theorem aAW {w:World} {k:TypeId} {R:Value→Option (DataW Unit × List MemPlace)} {b r n:Nat} {D:DataW Unit} {left:Lit→Bool} {cnt:Nat} (h:w.ranges Tryz.prog k R b r n D left cnt):cnt≤n:=by
 obtain ⟨es,clock,since,seen,c0,h1,h2,h3,h4,h5,h6,h7,h8⟩:=h
 have:(leftOf es seen).size≤es.size:=by unfold leftOf;exact Array.size_filter_le
 omega
theorem aWK {a:List Ct}:∀ {b:List Ct},a.Perm b→KQ a→KQ b→a=b:=by
 induction a with
 | nil=>intro b h _ _;exact h.nil_eq
 | cons x a ih =>
  intro b h ha hb
  cases b with
  | nil=>exact absurd h.symm.nil_eq aQ
  | cons y b =>
   unfold KQ at ha hb
   rw [List.pairwise_cons] at ha hb
   have e:x=y:=by
    have h1:x∈y::b:=h.mem_iff.1 (List.mem_cons_self ..)
    have h2:y∈x::a:=h.mem_iff.2 (List.mem_cons_self ..)
    rcases List.mem_cons.1 h1 with e | h1
    ·exact e
    ·rcases List.mem_cons.1 h2 with e | h2
     ·exact e.symm
     ·have:=pU (hb.1 x h1) (ha.1 y h2)
      rw [kY] at this;cases this
   subst e
   rw [ih (List.perm_cons x |>.1 h) ha.2 hb.2]
theorem aWL {l:List Ct} (h:KQ l):∀ c∈l,jZ l c.t=some c.n:=by
 induction l with
 | nil=>intro c hc;cases hc
 | cons d l ih =>
  unfold KQ at h
  rw [List.pairwise_cons] at h
  intro c hc
  rw [fH]
  rcases List.mem_cons.1 hc with e | hc
  ·subst e;simp
  ·rw [if_neg,ih h.2 c hc]
   intro e
   have:=h.1 c hc
   rw [e,kY] at this;cases this
theorem aWM {l:List Ct} (h:KQ l):l.Nodup:=by
 unfold KQ at h
 refine List.Pairwise.imp (fun {a b} hab e=>?_) h
 rw [e,kY] at hab;cases hab
theorem Gone.perm {l:List Ct} {left:Lit→Bool} {L:List Ct} (h:Gone l left L) (srt:KQ l) (hwf:∀ c∈l,VG c.t) (hl:∀ z,left z=false):L.Perm l:=by
 have hnd:L.Nodup:=by
  have:=h.nd
  exact (List.pairwise_map.1 this).imp fun hab e=>hab (by rw [e])
 rw [List.perm_ext_iff_of_nodup hnd (aWM srt)]
 intro c
 constructor
 ·intro hc
  have:=VF (h.mem c hc).1
  exact this
 ·intro hc
  have h1:=aWL srt c hc
  have h2:=h.all c.t (hwf c hc) (by rw [h1];rfl) (hl _)
  obtain ⟨d,hd1,hd2⟩:=List.mem_map.1 h2
  have h3:=(h.mem d hd1).1
  rw [hd2,h1] at h3
  have:d=c:=by
   cases d;cases c;simp at hd2 h3;subst hd2 h3;rfl
  exact this ▸ hd1
theorem EE (hS:aDW) (mp n:Nat) (D:DataW Unit) (l:List Ct) (w:World) (ho:w.ownsMap Tryz.prog 59 (plainElem Tryz.prog 3) mp n D) (rel:pG D l) (srt:KQ l) (hwf:∀ c∈l,VG c.t) (hn:n≤131072) :
 Calls Tryz.prog 58 #[.map (some mp)] w fun e w' =>∃ v', e=.returned v' ∧w'.ownsRow w.heap.size 99 4 v' l.length (l.flatMap fP)∧Below w.heap.size w w' :=by
 obtain ⟨i0,hi,hz0,hz1,hz2⟩:=info_parts aAV
 have KK:=Keyed.of_law aWF
 have aRU:=ho.lt
 go_enter Tryz.func58,Tryz.ntmps58
 go_wp2_with (first | (at_range;refine wpList_range_own _ rfl _ 94 rfl 59 3 KK Tryz.underlying94 _ mp n D rfl ho ?_;intro w0 hrg0 hg0 hs0) | go_in)
 go_frame
 go_loopw [3] (fun v wr=>∃ left cnt L,wr.ranges Tryz.prog 59 (plainElem Tryz.prog 3) mp w.heap.size n D left cnt∧Gone l left L∧wr.ownsRow (w.heap.size+1) 99 4 v L.length (L.flatMap fP)∧L.length+cnt≤n∧Below w.heap.size w wr) (fun _ wr=>wr.rangeLeft mp w.heap.size)
 case atStart=>exact ⟨Maps.has D,Maps.size D,[],hrg0,Gone.start rel,World.ownsRow_nil _ _ _ _,by have:=aAW hrg0;simpa using this,⟨hg0.os,hg0.tape,hg0.output,hg0.size,fun k hk=>hg0.block k hk aQ⟩⟩
 case round =>
  obtain ⟨left,cnt,L,hrg,hG,hown,hcnt,hB⟩:=hrel
  have HG:=aB hG
  have hsz:=hB.size
  have aFT:=hrg.lt
  clear hG hrg0 hg0 hs0
  go_wp2_with (first | (at_next;refine wpList_next_ranges _ rfl _ rfl 59 KK (plainElem Tryz.prog 3) (fun t:Tm=>Value.agg #[.int .i64 t.op,.int .i64 t.a,.int .i64 t.b]) (Value.int .i64) (fun key kl hkey=>by obtain ⟨t,rfl,_⟩:=VH hkey;exact ⟨t,rfl⟩) (fun v y hv=>by obtain ⟨c,rfl,_⟩:=plainElem_int_inv Tryz.underlying3 hv;exact ⟨c,rfl⟩) mp w.heap.size n D left cnt rfl hrg ?_ ?_) | go_in)
  ·intro hc0 hl0
   go_wp2_with fail
   have hp:=HG.out.perm srt hwf hl0
   refine (hS _ L wr (w.heap.size+1) aF hown HG.out.nd aF).mono ?_
   rintro e w' ⟨rfl,L', hp', hs', ho', hb'⟩
   have eL:L' =l:=aWK (hp'.trans hp) hs' srt
   subst eL
   go_wp2
   go_ret
   exact ⟨_,rfl,aK ho' aF,hB.trans (hb'.mono aF)⟩
  ·intro t c kl y1 y2 w1 cnt1 hkey hlk hv hat hrg1 hlt1 hg1 hs1 hen
   obtain ⟨t', et,htw,rfl⟩:=VH hkey
   have et' :t=t' :=by cases t;cases t'; simpa using et
   subst et'
   obtain ⟨c', ec,ey,hcw⟩:=plainElem_int_inv Tryz.underlying3 hv
   cases ec
   have hb1:Below w.heap.size w w1:=hB.trans ⟨hg1.os,hg1.tape,hg1.output,hg1.size,fun k hk=>hg1.block k aF bF⟩
   have hown1:w1.ownsRow (w.heap.size+1) 99 4 u3 L.length (L.flatMap fP):=by
    have K1:bR [w.heap.size] wr w1:=⟨hg1.os,hg1.tape,hg1.output,hg1.size,fun k hk hn=>hg1.block k hk (by simp at hn;simp;omega)⟩
    exact K1.owns hown aQ
   clear hg1
   have hct:jZ l t=some c:=rel.found htw (fun z=>by rw [hat z];exact (Prod.mk.inj ey).1)
   have hG1:=HG.out.more htw hlk hct
   have HG1:=aB hG1
   clear hG1 HG
   go_wp2_with (at_builtin;refine wpList_append_own _ rfl (.tmp 13) (.tmp 17) 51 rfl (w.heap.size+1) 99 i0 _ 4 32 Tryz.underlying51 hi hz0 hz1 hz2 rfl aL _ _ _ rfl ((hown1.alloc _).alloc _) ⟨wr.heap.size+1,0,none⟩ 1 1 [.int .i64 t.op,.int .i64 t.a,.int .i64 t.b,.int .i64 c] rfl rfl ?c1 ?c2 ?c3 ?c4 ?c5 ?_)
   case c1 =>
    intro j u hj
    match j,hj with
    | 0,hj=>simp at hj;subst hj;rw [← hs1];simp [Addr.add]
    | 1,hj=>simp at hj;subst hj;rw [← hs1];simp [Addr.add]
    | 2,hj=>simp at hj;subst hj;rw [← hs1];simp [Addr.add]
    | 3,hj=>simp at hj;subst hj;rw [← hs1];simp [Addr.add]
    | j+4,hj=>simp at hj
   case c2=>intro u hu;simp at hu;rcases hu with rfl | rfl | rfl | rfl <;> rfl
   case c3=>unfold maxLen;omega
   case c4=>omega
   case c5=>simp;omega
   intro v' w4 hown5 hg4 _
   have hltb:=hown1.lt
   have hB4:Below w.heap.size w w4:=((hb1.alloc aF _).alloc bF _).grown hg4 bF (fun k hk=>by have:=(hltb k hk).1;omega)
   have a1Q:=((hrg1.alloc _).alloc _).kept hg4 (fun e=>by have:=(hltb mp e.symm).1;omega) (fun e=>by have:=(hltb _ e.symm).1;omega)
   have hown6:w4.ownsRow (w.heap.size+1) 99 4 v' (L++[(⟨t,c⟩:Ct)]).length ((L++[(⟨t,c⟩:Ct)]).flatMap fP):=by
    simpa [fP] using hown5
   have hm:=hrg.left_eq
   clear hown5 hg4 hltb hown1
   go_wp2
   go_roundw
   case rel=>exact ⟨_,cnt1,_,a1Q,HG1.out,hown6,by simp;omega,hB4⟩
   case measure=>rw [a1Q.left_eq,hm];exact hlt1
def cp (a b:Int):Int:=if a<b then -1 else if b<a then 1 else 0
theorem aRV (a:Int) (w:World):Calls Tryz.prog 123 #[.int .i64 a] w fun e w' =>e=.returned (.bool false)∧w' =w:=by
 go_enter Tryz.func123,Tryz.ntmps123
 go_wp2
 go_ret
 exact ⟨aQ,rfl⟩
theorem sO (a b:Int) (w:World):Calls Tryz.prog 97 #[.int .i64 a,.int .i64 b] w fun e w' =>e=.returned (.int .i64 (cp a b))∧w' =w:=by
 go_enter Tryz.func97,Tryz.ntmps97
 go_wp2_with (go_at_call 123;refine (aRV _ _).mono ?_;rintro e w' ⟨rfl,rfl⟩)
 all_goals go_ret
 all_goals refine ⟨bU ?_,rfl⟩
 all_goals (unfold cp;repeat' split)
 all_goals omega
def or3 (a b c:Int):Int:=if a≠0 then a else if b≠0 then b else c
theorem aWN (b:Nat) (x y z:Int) (w:World) (h0:w.cell? ⟨b,0,none⟩=some (.int .i64 x)) (h1:w.cell? ⟨b,1,none⟩=some (.int .i64 y)) (h2:w.cell? ⟨b,2,none⟩=some (.int .i64 z)) :
 Calls Tryz.prog 96 #[.slice (some ⟨b,0,none⟩) 3 3] w fun e w' =>e=.returned (.int .i64 (or3 x y z))∧w' =w:=by
 go_enter Tryz.func96,Tryz.ntmps96
 go_wp2
 refine wp_loop_rounds 4 ?_
 rw [rounds_succ]
 go_wp2
 all_goals (first | (rw [rounds_succ];go_wp2) | skip)
 all_goals (first | (rw [rounds_succ];go_wp2) | skip)
 all_goals (first | (rw [rounds_succ];go_wp2) | skip)
 all_goals go_ret
 all_goals refine ⟨bU ?_,rfl⟩
 all_goals simp_all [or3]
def cpC (x y:Ct):Int:=or3 (cp x.t.op y.t.op) (cp x.t.a y.t.a) (cp x.t.b y.t.b)
theorem PP (x y:Ct):decide (cpC x y<0)=OG y.t x.t:=by
 obtain ⟨⟨a1,a2,a3⟩,n⟩:=x
 obtain ⟨⟨b1,b2,b3⟩,m⟩:=y
 simp only [cpC,or3,cp,OG]
 repeat' split
 all_goals (first | omega | (simp;done) | (simp;omega) | simp_all)
open Go.Lib Go.Sort in
theorem VI (x y:Ct) (w:World) :
 Calls Tryz.prog 95 #[.agg #[.int .i64 x.t.op,.int .i64 x.t.a,.int .i64 x.t.b,.int .i64 x.n],.agg #[.int .i64 y.t.op,.int .i64 y.t.a,.int .i64 y.t.b,.int .i64 y.n]] w fun e w' =>e=.returned (.int .i64 (cpC x y))∧∃ q os', w' =grow (w.drewN q) os' :=by
 go_enter Tryz.func95,Tryz.ntmps95
 go_wp2
 have x0:((w.alloc (.cells #[.int .i64 x.t.op,.int .i64 x.t.a,.int .i64 x.t.b,.int .i64 x.n] 99)).alloc (.cells #[.int .i64 y.t.op,.int .i64 y.t.a,.int .i64 y.t.b,.int .i64 y.n] 99)).cell? ⟨w.heap.size,0,none⟩=some (.int .i64 x.t.op):=by simp
 have x1:((w.alloc (.cells #[.int .i64 x.t.op,.int .i64 x.t.a,.int .i64 x.t.b,.int .i64 x.n] 99)).alloc (.cells #[.int .i64 y.t.op,.int .i64 y.t.a,.int .i64 y.t.b,.int .i64 y.n] 99)).cell? ⟨w.heap.size,1,none⟩=some (.int .i64 x.t.a):=by simp
 have x2:((w.alloc (.cells #[.int .i64 x.t.op,.int .i64 x.t.a,.int .i64 x.t.b,.int .i64 x.n] 99)).alloc (.cells #[.int .i64 y.t.op,.int .i64 y.t.a,.int .i64 y.t.b,.int .i64 y.n] 99)).cell? ⟨w.heap.size,2,none⟩=some (.int .i64 x.t.b):=by simp
 have y0:((w.alloc (.cells #[.int .i64 x.t.op,.int .i64 x.t.a,.int .i64 x.t.b,.int .i64 x.n] 99)).alloc (.cells #[.int .i64 y.t.op,.int .i64 y.t.a,.int .i64 y.t.b,.int .i64 y.n] 99)).cell? ⟨w.heap.size+1,0,none⟩=some (.int .i64 y.t.op):=by simp
 have y1:((w.alloc (.cells #[.int .i64 x.t.op,.int .i64 x.t.a,.int .i64 x.t.b,.int .i64 x.n] 99)).alloc (.cells #[.int .i64 y.t.op,.int .i64 y.t.a,.int .i64 y.t.b,.int .i64 y.n] 99)).cell? ⟨w.heap.size+1,1,none⟩=some (.int .i64 y.t.a):=by simp
 have y2:((w.alloc (.cells #[.int .i64 x.t.op,.int .i64 x.t.a,.int .i64 x.t.b,.int .i64 x.n] 99)).alloc (.cells #[.int .i64 y.t.op,.int .i64 y.t.a,.int .i64 y.t.b,.int .i64 y.n] 99)).cell? ⟨w.heap.size+1,2,none⟩=some (.int .i64 y.t.b):=by simp
 have HW:Hid (∃ os', (w.alloc (.cells #[.int .i64 x.t.op,.int .i64 x.t.a,.int .i64 x.t.b,.int .i64 x.n] 99)).alloc (.cells #[.int .i64 y.t.op,.int .i64 y.t.a,.int .i64 y.t.b,.int .i64 y.n] 99)=grow w os'):=⟨_,by rw [alloc_eq_grow,alloc_eq_grow,grow_grow]⟩
 generalize (w.alloc (.cells #[.int .i64 x.t.op,.int .i64 x.t.a,.int .i64 x.t.b,.int .i64 x.n] 99)).alloc (.cells #[.int .i64 y.t.op,.int .i64 y.t.a,.int .i64 y.t.b,.int .i64 y.n] 99)=W at x0 x1 x2 y0 y1 y2 HW ⊢
 refine wp_region_still_tail 21 fJ fJ ?_
 simp only [List.take_succ_cons,List.take_zero,List.drop_succ_cons,List.drop_zero]
 repeat still_step
 still_call (sO _ _ _)
 repeat still_step
 still_call (sO _ _ _)
 repeat still_step
 still_call (sO _ _ _)
 repeat still_step
 refine wpStill_nil ?_
 go_wp2_with fail
 refine (aWN _ (cp x.t.op y.t.op) (cp x.t.a y.t.a) (cp x.t.b y.t.b) _ aQ aQ aQ).mono ?_
 rintro e w' ⟨rfl,rfl⟩
 go_wp2
 go_ret
 obtain ⟨os', e⟩:=HW.out
 subst e
 exact ⟨rfl,1,_,(alloc_eq_grow _ _).trans (grow_grow (w.drewN 1) os' _)⟩
theorem aMB:∀ (L:List Ct) (j i:Nat) (c:Ct),L[j]?=some c→i<4→(L.flatMap fP)[j*4+i]?=(fP c)[i]?
 | [],j,i,c,h,_=>by simp at h
 | d::L,0,i,c,h,hi=>by
  simp at h;subst h
  rw [List.flatMap_cons,List.getElem?_append_left (by simp [fP];omega)];simp
 | d::L,j+1,i,c,h,hi=>by
  simp at h
  rw [List.flatMap_cons,List.getElem?_append_right (by simp [fP];omega),show (j+1)*4+i-(fP d).length=j*4+i by simp [fP];omega]
  exact aMB L j i c h hi
theorem EF (L:List Ct):(L.flatMap fP).length=L.length*4:=by
 induction L with
 | nil=>rfl
 | cons c L ih=>rw [List.flatMap_cons,List.length_append,ih];simp [fP];omega
open Go.Sort in
theorem aMC (L:List Ct):(Go.Sort.flatK fP 4 L.toArray).toList=L.flatMap fP:=by
 apply List.ext_getElem?
 intro t
 by_cases h:t<L.length*4
 ·have hi:t / 4<L.length:=by omega
  have h1:=aMB L (t / 4) (t % 4) L[t / 4] (List.getElem?_eq_getElem hi) aF
  rw [show t / 4*4+t % 4=t by omega] at h1
  rw [h1]
  have hz:t % 4<(fP L[t / 4]).length:=by simp [fP];omega
  rw [List.getElem?_eq_getElem hz]
  simp [Go.Sort.flatK,h,hi]
  rw [List.getElem?_eq_getElem hz];rfl
 ·rw [List.getElem?_eq_none bF,List.getElem?_eq_none (by rw [EF];omega)]
open Go.Sort Go.Lib in
theorem a7T:SWO (ltOf cpC) where
 irrefl x:=by show decide (cpC x x<0)=false;rw [PP,kY]
 trans x y z h1 h2:=by
  have h1' :decide (cpC x y<0)=true:=h1
  have h2' :decide (cpC y z<0)=true:=h2
  show decide (cpC x z<0)=true
  rw [PP] at *
  exact pU h2' h1'
 ntrans x y z h1 h2:=by
  have h1' :decide (cpC x y<0)=false:=h1
  have h2' :decide (cpC y z<0)=false:=h2
  show decide (cpC x z<0)=false
  rw [PP] at *
  cases q:OG z.t x.t
  ·rfl
  ·exfalso
   by_cases e:y.t=x.t
   ·rw [e] at h2'; rw [q] at h2'; cases h2'
   ·have:=uF h1' e
    rw [pU q this] at h2'; cases h2'
open Go.Sort Go.Lib in
theorem PQ {w:World} {g n:Nat} {os:Array Obj} {cur:Array Value} {e:TypeId} {fr:Nat × Nat} (d:Array Value) (hb:w.heap[g]?=some (.cells cur e fr)) :
 (grow (putRow id (Sort.ahead w n) g 0 d) os).heap[g]?=some (.cells (putCells id 0 d cur) e fr):=by
 have hg:g<w.heap.size:=(Array.getElem?_eq_some_iff.1 hb).1
 rw [heap_grow_old _ _ (by simpa using hg)]
 simp [putRow,mapBlock,Sort.ahead,Array.getElem?_modify,hb,onCells]
open Go.Sort Go.Lib in
theorem JD {w:World} {g n base:Nat} {os:Array Obj} (d:Array Value) (hg:base≤g) (hs:base≤w.heap.size):Below base w (grow (putRow id (Sort.ahead w n) g 0 d) os):=by
 refine ⟨rfl,rfl,rfl,aQ,fun k hk=>?_⟩
 rw [heap_grow_old _ _ bF]
 have:g≠k:=by omega
 simp [putRow,mapBlock,Sort.ahead,Array.getElem?_modify,this]
open Go.Sort Go.Lib in
theorem EG (cur:Array Value) (d:Array Value) (h:d.size≤cur.size):(putCells id 0 d cur).toList.take d.size=d.toList:=by
 apply List.ext_getElem?
 intro j
 by_cases hj:j<d.size
 ·rw [List.getElem?_take_of_lt hj,Array.getElem?_toList]
  simp [putCells,hj,show j<cur.size by omega]
 ·rw [List.getElem?_take_eq_none aF,List.getElem?_eq_none bF]
open Go.Sort Go.Lib in
theorem VJ:aDW:=by
 intro v L W base hb ho hnd hlen
 obtain ⟨hxl,ho⟩:=ho
 rcases ho with ⟨rfl,h0⟩ | ⟨g,cap,cur,rfl,hg,hblk,h1,h2,h3,h4⟩
 ·have:L=[]:=List.length_eq_zero_iff.1 h0
  subst this
  refine (AnyF.slices_SortFunc_none Tryz.sortCt none 0 _ W).mono ?_
  rintro e w' ⟨rfl,rfl⟩
  exact ⟨rfl,[],.refl _,List.Pairwise.nil,World.ownsRow_nil _ _ _ _,Below.refl _ _⟩
 ·have eg:∀ args w,(callFunc 95 args).run Tryz.prog w=.ok (.enter 95 args) w:=enters_of Tryz.func95 fJ rfl
  have hH:HoldsK fP 4 W g 0 L.toArray:=by
   intro j hj
   refine ⟨?_,by rw [Nat.zero_add];exact aC hblk j⟩
   rw [Nat.zero_add,aA hblk]
   have hj' :j<L.length*4:=by simpa using hj
   have q:(cur.toList.take (L.length*4))[j]?=(Go.Sort.flatK fP 4 L.toArray).toList[j]? :=by rw [h4,aMC]
   rw [List.getElem?_take_of_lt hj', Array.getElem?_toList,Array.getElem?_toList,Array.getElem?_eq_getElem hj] at q
   rw [q,getElem!_pos (Go.Sort.flatK fP 4 L.toArray) j hj];rfl
  refine (AnyQ.slices_SortFunc Tryz.sortCt 4 Tryz.isAgg99 Tryz.sizeOf99 fP (fun _=>rfl) (fun x u hu=>by simp [fP] at hu;rcases hu with rfl | rfl | rfl | rfl <;> rfl) cpC a7T 95 #[] g 0 cap L.toArray W eg (fun _ _ _ _ x y=>VI x y _) hH (aD hblk) bF).mono ?_
  rintro e w' ⟨rfl,d', n,os,hp,hs,rfl⟩
  obtain ⟨hp1,hp2,hp3⟩:=hp
  have hsz:d'.size=L.length:=by simpa using hp1
  have hperm:d'.toList.Perm L:=by
   have:(L.toArray.extract 0 L.toArray.size).toList=L:=by simp
   rw [this] at hp3
   have q:(d'.extract 0 L.toArray.size)=d' :=by rw [← hp1];simp
   rw [q] at hp3
   exact hp3
  have hd:d' =d'.toList.toArray:=by simp
  refine ⟨rfl,d'.toList,hperm,?_,⟨by rw [EF],Or.inr ⟨g,cap,putCells id 0 (Go.Sort.flatK fP 4 d') cur,?_,hg,PQ _ hblk,?_,h2,?_,?_⟩⟩,JD _ hg hb⟩
  ·have hnd' :(d'.toList.map (·.t)).Nodup:=(hperm.map _).nodup_iff.2 hnd
   unfold KQ
   rw [List.pairwise_iff_getElem]
   intro i j hi hj hij
   have q:=hs i j aF hij (by simp at hj;omega)
   simp at hi hj
   rw [getElem!_pos d' j hj,getElem!_pos d' i hi] at q
   have q' :decide (cpC d'[j] d'[i]<0)=false:=q
   rw [PP] at q'
   refine uF q' fun e=>?_
   have:=(List.pairwise_iff_getElem.1 hnd') i j (by simpa using hi) (by simpa using hj) hij
   simp at this
   exact this e
  ·simp [hsz]
  ·simp [hsz,h1]
  ·simp [putCells,h3]
  ·have q:=EG cur (Go.Sort.flatK fP 4 d') (by simp [h3,hsz];omega)
   rw [size_flatK] at q
   have q2:=aMC d'.toList
   rw [← hd] at q2
   rw [← q2,← q]
   simp
theorem aMD (x:Nd) (s:St):(vM x s).regs.length=s.regs.length:=by
 unfold vM;repeat' split
 all_goals simp [mJ]
theorem aWO {r:Int} {ns:List Nd} {x:Nd} (h:sF r ns.length x) (s:St):(vM x s).pc<ns.length:=by
 have ht:=h.t
 unfold vM;repeat' split
 all_goals (try (simp only;omega))
 rename_i h11 _
 have he:=h.e h11
 simp only;omega
theorem aME {r:Int} {B s mb rb mp nb aV dK rc:Nat} {ns:List Nd} {w:World} {σ:St} {v:Value} {ia:Option Addr} {ic n:Nat} {D:DataW Unit} (M:MA B s mb rb mp nb aV dK rc ns w σ v ia ic n D) {x:Nd} (hx:ns[σ.pc]?=some x) (hlen:ns.length≤256) (hlt:σ.steps<131072) (hk:sF r ns.length x) (hr:r=σ.regs.length) :
 Calls Tryz.prog 57 #[.pointer (some ⟨mb,0,none⟩)] w fun e w' =>e=.returned (.tuple #[])∧∃ v' yA vN n' D', MA B s mb rb mp nb aV dK rc ns w' (vM x σ) v' yA vN n' D' ∧Below B w w' :=by
 have ht:=hk.t.1
 have hop:=hk.op
 by_cases h0:x.op=0
 ·exact step_skip M hx hlen hlt ht h0
 by_cases h1:x.op=1
 ·exact aLX M hx hlen hlt ht h1 (by have:=hk.d;unfold KS;omega)
 by_cases h2:x.op=2
 ·exact aGH M hx hlen hlt ht h2 (by have:=hk.d;unfold KS;omega) (by have:=hk.a;unfold KS;omega)
 by_cases h9:x.op=9
 ·exact aLY M hx hlen hlt ht h9 (by have:=hk.d;unfold KS;omega)
 by_cases h10:x.op=10
 ·exact aMA M hx hlen hlt ht h10 (by have:=hk.a;unfold KS;omega)
 by_cases h11:x.op=11
 ·exact aLZ M hx hlen hlt ht h11 (by have:=hk.a;unfold KS;omega) (hk.e h11).1
 by_cases h12:x.op=12
 ·exact step_end M hx hlen hlt ht h12 (by have:=hk.a;unfold KS;omega)
 ·exact aAU M hx hlen hlt ht aF (by have:=hk.d;unfold KS;omega) (by have:=hk.a;unfold KS;omega) (by have:=hk.b;unfold KS;omega)
theorem BG {r:Int} {ns:List Nd} (ok:∀ x∈ns,sF r ns.length x):∀ (n:Nat) (s:St),s.pc<ns.length→(runN ns n s).pc<ns.length
 | 0,s,h=>h
 | n+1,s,h=>by
  simp only [runN]
  split
  ·exact h
  ·rw [List.getElem?_eq_getElem h]
   exact BG ok n _ (aWO (ok _ (List.getElem_mem h)) s)
theorem KU {ns:List Nd}:∀ (n:Nat) (s:St),(runN ns n s).regs.length=s.regs.length
 | 0,s=>rfl
 | n+1,s=>by
  simp only [runN]
  split
  ·rfl
  ·split
   ·rw [KU n,aMD]
   ·rfl
theorem aRW {r:Int} {len:Nat} (hlen:r≤64) {x:Nd} (h:sF r len x) {s:St} (hs:∀ c∈s.cts,VG c.t):∀ c∈(vM x s).cts,VG c.t:=by
 unfold vM;repeat' split
 all_goals (try exact hs)
 intro c hc
 rcases KR hc with hc | hc
 ·exact hs c hc
 ·rw [hc]
  have ho:=h.op
  have ha:=h.a
  have hb:=h.b
  refine ⟨kJ (by simp [gG];omega) (by simp [gG];omega),kJ (by simp [gG];omega) (by simp [gG];omega),kJ (by simp [gG];omega) (by simp [gG];omega)⟩
theorem VK {r:Int} {ns:List Nd} (hr:r≤64) (ok:∀ x∈ns,sF r ns.length x):∀ (n:Nat) (s:St),(∀ c∈s.cts,VG c.t)→∀ c∈(runN ns n s).cts,VG c.t
 | 0,s,h=>h
 | n+1,s,h=>by
  simp only [runN]
  split
  ·exact h
  ·split
   ·rename_i x hx
    exact VK hr ok n _ (aRW hr (ok _ (List.mem_of_getElem? hx)) h)
   ·exact h
theorem aGJ {r:Int} {ns:List Nd} (ok:∀ x∈ns,sF r ns.length x) (n:Nat) (s:St) (hs:s.pc<ns.length) (he:(runN ns n s).ended=false) {x:Nd} (hx:ns[(runN ns n s).pc]?=some x):runN ns (n+1) s=vM x (runN ns n s):=by
 rw [runN_add n 1 s (fun k _=>BG ok k s hs)]
 simp [runN,he,hx]
theorem aGK {r:Int} {ns:List Nd} (ok:∀ x∈ns,sF r ns.length x) (n m:Nat) (hnm:n≤m) (s:St) (hs:s.pc<ns.length) (he:(runN ns n s).ended=true):runN ns m s=runN ns n s:=by
 rw [show m=n+(m-n) by omega,runN_add n (m-n) s (fun k _=>BG ok k s hs),runN_ended he]
def uT (r:Int) (ns:List Nd) (il:Nat) (fuel:Int):Int:=if bM r ns=0 then if 256<il then 2 else if fuel<0∨131072<fuel then 3 else 0 else bM r ns
def aDX (w:World) (b:Nat) (v0 v1 v2 v3 v4:Value):World:=((((w.setCell ⟨b,0,none⟩ v0).setCell ⟨b,1,none⟩ v1).setCell ⟨b,2,none⟩ v2).setCell ⟨b,3,none⟩ v3).setCell ⟨b,4,none⟩ v4
theorem mZ {w:World} {b:Nat} {a0 a1 a2 a3 a4:Value} {t:TypeId} (h:w.heap[b]?=some (.cells #[a0,a1,a2,a3,a4] t (0,0))) (v0 v1 v2 v3 v4:Value):(aDX w b v0 v1 v2 v3 v4).heap[b]?=some (.cells #[v0,v1,v2,v3,v4] t (0,0)):=by
 unfold aDX
 rw [aG v4 (aG v3 (aG v2 (aG v1 (aG v0 h))))]
 simp
theorem sP (w:World) (b:Nat) (v0 v1 v2 v3 v4:Value):bR [b] w (aDX w b v0 v1 v2 v3 v4):=(((((bR.refl [b] w).setCell (p:=⟨b,0,none⟩) aQ v0).setCell (p:=⟨b,1,none⟩) aQ v1).setCell (p:=⟨b,2,none⟩) aQ v2).setCell (p:=⟨b,3,none⟩) aQ v3).setCell (p:=⟨b,4,none⟩) aQ v4
theorem oK {w:World} {b B:Nat} (hb:B≤b) (hB:B≤w.heap.size) (v0 v1 v2 v3 v4:Value):Below B w (aDX w b v0 v1 v2 v3 v4):=by
 exact (sP w b v0 v1 v2 v3 v4).below bF hB
theorem pV {b:Nat} {v0 v1 v2 v3 v4:Value} {er:Int} {w:World} {tm:Array Value} {Q:Ending→World→Prop} (h:w.heap[b]?=some (.cells #[v0,v1,v2,v3,v4] 53 (0,0))) (h6:tm[6]?=some (.pointer (some ⟨b,0,none⟩))) (h7:tm[7]?=some (.int .i64 er))
 (hq:Q (.returned (.tuple #[.agg #[v0,v1,v2,v3,v4],.int .i64 er])) w):bodyPost Tryz.prog Tryz.f27 Q .ret ⟨tm,[]⟩ w:=by
 have c0:=aA h 0
 have c1:=aA h 1
 have c2:=aA h 2
 have c3:=aA h 3
 have c4:=aA h 4
 simp at c0 c1 c2 c3 c4
 refine bodyPost_ret (v:=.tuple #[.agg #[v0,v1,v2,v3,v4],.int .i64 er]) ?_ rfl hq
 simp [results,Tryz.results27,go_sem,c0,c1,c2,c3,c4,h6,h7]
theorem aZZ (r:Int) (a:Option Addr) (cap:Nat) (ns:List Nd) (ia:Option Addr) (il ic:Nat) (fuel:Int) (w:World) (hN:pI w a ns) (hil:il≤9223372036854775807) (hw:uT r ns il fuel≠0) :
 Calls Tryz.prog 27 #[.agg #[.int .i64 r,.slice a ns.length cap],.slice ia il ic,.int .i64 fuel] w fun e w' =>e=.returned (.tuple #[.agg #[.slice none 0 0,.int .i64 0,.bool false,.int .i64 0,.slice none 0 0],.int .i64 (uT r ns il fuel)])∧Below w.heap.size w w' :=by
 go_enter Tryz.func27,Tryz.ntmps27
 go_wp2_with fail
 have hN1:pI ((w.alloc (.cells #[.int .i64 r,.slice a ns.length cap] 24)).alloc (.cells #[.slice none 0 0,.int .i64 0,.bool false,.int .i64 0,.slice none 0 0] 53)) a ns:=hN.below ((dY).alloc aQ _)
 refine (fG r a cap ns _ hN1).mono ?_
 rintro e w1 ⟨rfl,hb1⟩
 have hs1:=hb1.size
 simp only [World.size_alloc] at hs1 hb1
 have hB1:Below w.heap.size w w1:=((dY).alloc aQ _).trans (hb1.mono aF)
 have hk:w1.heap[w.heap.size+1]?=some (.cells #[.slice none 0 0,.int .i64 0,.bool false,.int .i64 0,.slice none 0 0] 53 (0,0)):=by
  rw [hb1.block _ aF]
  exact kL aQ
 have c0:=aA hk 0
 have c1:=aA hk 1
 have c2:=aA hk 2
 have c3:=aA hk 3
 have c4:=aA hk 4
 have f0:=aC hk 0
 have f1:=aC hk 1
 have f2:=aC hk 2
 have f3:=aC hk 3
 have f4:=aC hk 4
 simp at c0 c1 c2 c3 c4
 have hsz:w.heap.size+1<w1.heap.size:=by omega
 have HK:=aB hk
 clear hk hb1 hN1
 have HB:=aB hB1
 clear hB1
 by_cases hc:bM r ns=0
 ·rw [hc]
  by_cases hi:256<il
  ·have hi' :(256:Int)<(il:Int):=by omega
   have HE:=aB (show uT r ns il fuel=2 by simp [uT,hc,hi])
   clear hc
   go_wp2
   have hk' :=mZ HK.out (.slice none 0 0) (.int .i64 0) (.bool false) (.int .i64 0) (.slice none 0 0)
   refine pV hk' rfl rfl ⟨by rw [HE.out],HB.out.trans (oK aF aF _ _ _ _ _)⟩
  ·have hi' :¬ (256:Int)<(il:Int):=by omega
   have hf:fuel<0∨131072<fuel:=by
    unfold uT at hw
    rw [if_pos hc,if_neg hi] at hw
    by_cases q:fuel<0∨131072<fuel
    ·exact q
    ·rw [if_neg q] at hw;exact absurd rfl hw
   have HE:=aB (show uT r ns il fuel=3 by rw [uT,if_pos hc,if_neg hi,if_pos hf])
   clear hc
   by_cases h0:fuel<0
   ·go_wp2
    have hk' :=mZ HK.out (.slice none 0 0) (.int .i64 0) (.bool false) (.int .i64 0) (.slice none 0 0)
    refine pV hk' rfl rfl ⟨by rw [HE.out],HB.out.trans (oK aF aF _ _ _ _ _)⟩
   ·have h1:131072<fuel:=by omega
    go_wp2
    have hk' :=mZ HK.out (.slice none 0 0) (.int .i64 0) (.bool false) (.int .i64 0) (.slice none 0 0)
    refine pV hk' rfl rfl ⟨by rw [HE.out],HB.out.trans (oK aF aF _ _ _ _ _)⟩
 ·have hcb:(bM r ns != 0)=true:=by simpa using hc
  have HE:=aB (show uT r ns il fuel=bM r ns by simp [uT,hc])
  generalize bM r ns=ch at *
  go_wp2
  have hk' :=mZ HK.out (.slice none 0 0) (.int .i64 0) (.bool false) (.int .i64 0) (.slice none 0 0)
  refine pV hk' rfl rfl ⟨by rw [HE.out],HB.out.trans (oK aF aF _ _ _ _ _)⟩
def fin (r:Int) (ns:List Nd) (inp:List Int) (fuel:Int):St:=runN ns fuel.toNat (st0 r.toNat inp)
structure Start (B:Nat) (r:Int) (ns:List Nd) (inp:List Int) (nb aV cap:Nat) (ia:Option Addr) (ic:Nat) (w wx:World) (v9:Value):Prop where
 ma:∃ mb rb mp,v9=.pointer (some ⟨mb,0,none⟩)∧MA B (B+3) mb rb mp nb aV cap r.toNat ns wx (st0 r.toNat inp) (.slice none 0 0) ia ic 0 (.map [])
 below:Below B w wx
def PK (b:Nat) (v0 v1:Value) (u:World):Prop:=u.cell? ⟨b,0,none⟩=some v0∧u.cell? ⟨b,1,none⟩=some v1∧b<u.heap.size
theorem PK.drew {b:Nat} {v0 v1:Value} {u:World} (h:PK b v0 v1 u):PK b v0 v1 u.drew:=h
theorem PK.alloc {b:Nat} {v0 v1:Value} {u:World} (h:PK b v0 v1 u) (o:Obj):PK b v0 v1 (u.alloc o):=by
 obtain ⟨h0,h1,h2⟩:=h
 refine ⟨?_,?_,by simp;omega⟩
 ·rw [World.cell?_alloc_past _ _ _ aF];exact h0
 ·rw [World.cell?_alloc_past _ _ _ aF];exact h1
theorem yO (w:World) (A B C:Obj):(((w.alloc A).alloc B).alloc C).drew.heap[w.heap.size]?=some A:=lU (aT _ (aT _ (kL rfl)))
theorem yP (w:World) (A B C:Obj):(((w.alloc A).alloc B).alloc C).drew.heap[w.heap.size+1]?=some B:=lU (aT _ (kL aQ))
theorem yQ (w:World) (A B C:Obj):(((w.alloc A).alloc B).alloc C).drew.heap[w.heap.size+1+1]?=some C:=lU (kL aQ)
theorem jW (w:World) (A B C:Obj):Below w.heap.size w (((w.alloc A).alloc B).alloc C).drew:=(((dY).alloc aQ _).alloc bF _).drew
theorem aMF (n:Nat):madeCells #[Value.int .i64 0] n=((List.replicate n (0:Int)).map (Value.int .i64)).toArray:=by
 apply Array.ext'
 rw [toList_madeCells_one]
 simp
theorem pW {w1 wx:World} {B mb rb mp rn nb aV cap ic:Nat} {ns:List Nd} {inp:List Int} {ia:Option Addr} (hB:B≤w1.heap.size)
 (hm:wx.heap[mb]?=some (.cells #[.slice none 0 0,.int .i64 0,.bool false,.int .i64 0,.slice none 0 0,.slice (some ⟨nb,aV,none⟩) ns.length cap,.int .i64 0,.slice ia inp.length ic,.slice (some ⟨rb,0,none⟩) rn rn,.map (some mp)] 96 (0,0)))
 (hr:wx.heap[rb]?=some (.cells (madeCells #[.int .i64 0] rn) 3 (0,0))) (hp:wx.heap[mp]?=some (.map #[] 0))
 (hg:w1.heap.size≤mb∧w1.heap.size≤rb∧w1.heap.size≤mp∧mb<w1.heap.size+3∧rb<w1.heap.size+3∧mp<w1.heap.size+3∧mb≠rb∧mb≠mp∧rb≠mp)
 (hb:Below w1.heap.size w1 wx) (hs:w1.heap.size+3≤wx.heap.size) (hN:aH w1 nb aV ns) (hI:AJ w1 B ia inp) (hic:inp.length≤ic) (hrn:rn≤64) :
 Start w1.heap.size rn ns inp nb aV cap ia ic w1 wx (.pointer (some ⟨mb,0,none⟩)):=by
 have hI' :AJ wx w1.heap.size ia inp:=by
  rcases hI with h | ⟨b,off,rfl,hlt,h⟩
  ·exact Or.inl h
  ·exact Or.inr ⟨b,off,rfl,aF,fun j z hz=>by rw [hb.cell (p:=⟨b,_,none⟩) bF];exact h j z hz⟩
 have ho:wx.ownsMap Tryz.prog 59 (plainElem (H:=Unit) Tryz.prog 3) mp 0 (.map []):=by
  obtain ⟨es,clock,hb', F,hs', hD⟩:=World.ownsMap_made w1 Tryz.prog 59 (plainElem (H:=Unit) Tryz.prog 3)
  rw [kL rfl] at hb'
  cases hb'
  exact ⟨#[],0,hp,F,hs', hD⟩
 refine ⟨⟨mb,rb,mp,rfl,?_⟩,hb⟩
 exact {
  hm:=by simpa [st0] using hm
  hr:=by rw [hr,aMF];simp [st0]
  ho:=ho
  hout:=World.ownsRow_nil _ _ _ _
  hin:=hI'
  hic:=hic
  hN:=hN.below hb hN.lt
  hnb:=hN.lt
  geo:=hg
  hs:=hs
  hn:=Nat.zero_le _
  hst:=by simp [st0]
  hol:=by simp [st0]
  hrl:=by simp [st0];exact hrn
  rel:=⟨⟨_,rfl⟩,fun t ht z=>by simp [st0,jZ];rfl⟩
  srt:=List.Pairwise.nil
  cb:=by simp [st0] }
theorem wU {w:World} {base:Nat} {e:TypeId} {size:Nat} {v:Value} {n:Nat} {xs:List Value} (h:w.ownsRow base e size v n xs):∃ a c,v=.slice a n c:=by
 rcases h.2 with ⟨q,rfl⟩ | ⟨g,cap,cur,q,_⟩
 ·exact ⟨_,_,q⟩
 ·exact ⟨_,_,q⟩
theorem aWP (r:Int) (nb aV cap:Nat) (ns:List Nd) (ia:Option Addr) (ic:Nat) (inp:List Int) (fuel:Int) (w:World) (hN:aH w nb aV ns) (hI:AJ w w.heap.size ia inp) (hic:inp.length≤ic) (hw:uT r ns inp.length fuel=0) :
 Calls Tryz.prog 27 #[.agg #[.int .i64 r,.slice (some ⟨nb,aV,none⟩) ns.length cap],.slice ia inp.length ic,.int .i64 fuel] w fun e w' =>∃ vo vc,e=.returned (.tuple #[.agg #[vo,.int .i64 (fin r ns inp fuel).ret,.bool (fin r ns inp fuel).ended,.int .i64 (fin r ns inp fuel).steps,vc],.int .i64 0]) ∧
  w'.ownsRow w.heap.size 3 1 vo (fin r ns inp fuel).out.length ((fin r ns inp fuel).out.map (Value.int .i64))∧w'.ownsRow w.heap.size 99 4 vc (fin r ns inp fuel).cts.length ((fin r ns inp fuel).cts.flatMap fP)∧Below w.heap.size w w' :=by
 have hc:bM r ns=0:=by
  by_cases hc:bM r ns=0
  ·exact hc
  ·rw [uT,if_neg hc] at hw;exact hw
 have hi:¬ 256<inp.length:=by
  intro q;rw [uT,if_pos hc,if_pos q] at hw;omega
 have hf:¬ (fuel<0∨131072<fuel):=by
  intro q;rw [uT,if_pos hc,if_neg hi,if_pos q] at hw;omega
 have hf0:¬ fuel<0:=fun q=>hf (Or.inl q)
 have hf1:¬ 131072<fuel:=fun q=>hf (Or.inr q)
 have hi' :¬ (256:Int)<(inp.length:Int):=by omega
 have CZ:=aB (bB hc)
 have hr1:1≤r∧r≤64:=CZ.out.2.1
 have hl1:1≤ns.length∧ns.length≤256:=CZ.out.1
 have OK:=aB (fun x hx=>aRB hc (x:=x) hx)
 clear hf
 go_enter Tryz.func27,Tryz.ntmps27
 go_wp2_with fail
 have hb0:Below w.heap.size w ((w.alloc (.cells #[.int .i64 r,.slice (some ⟨nb,aV,none⟩) ns.length cap] 24)).alloc (.cells #[.slice none 0 0,.int .i64 0,.bool false,.int .i64 0,.slice none 0 0] 53)):=(dY).alloc aQ _
 refine (fG r _ cap ns _ (Or.inr ⟨nb,aV,rfl,hN.below hb0 hN.lt⟩)).mono ?_
 rintro e w1 ⟨rfl,hb1⟩
 have hs1:=hb1.size
 simp only [World.size_alloc] at hs1 hb1
 have hB1:Below w.heap.size w w1:=hb0.trans (hb1.mono aF)
 have hp:w1.heap[w.heap.size]?=some (.cells #[.int .i64 r,.slice (some ⟨nb,aV,none⟩) ns.length cap] 24 (0,0)):=by
  rw [hb1.block _ aF]
  exact aT _ (kL rfl)
 have hk:w1.heap[w.heap.size+1]?=some (.cells #[.slice none 0 0,.int .i64 0,.bool false,.int .i64 0,.slice none 0 0] 53 (0,0)):=by
  rw [hb1.block _ aF]
  exact kL aQ
 have c0:=aA hp 0
 have c1:=aA hp 1
 simp at c0 c1
 have hsz:w.heap.size+1<w1.heap.size:=by omega
 have HK:=aB hk
 have HB:=aB hB1
 have HN:=aB (hN.below hB1 hN.lt)
 have HI:=aB (hI.below hB1)
 clear hk hb1 hb0 hB1 hN hI hp
 rw [hc]
 clear hc
 obtain ⟨rn,hrn⟩:=Int.eq_ofNat_of_zero_le (show 0≤r by omega)
 have aGL:rn≤64:=by omega
 have hrp:1≤rn:=by omega
 subst hrn
 go_wp2
 go_cut [9] from 27 to 34 (fun v9 wx=>Start w1.heap.size rn ns inp nb aV cap ia ic w1 wx v9)
 case first =>
  have hmk:∀ W:World,Sem.run Tryz.prog (Instr.makeMap 94 none) W=.ok (.map (some W.heap.size)) (W.alloc (.map #[] 0)):=fun W=>rfl
  have hms:∀ W:World,Sem.run Tryz.prog (Instr.makeSlice 25 (.int .i64 (rn:Int)) (.int .i64 (rn:Int))) W=.ok (.slice (some ⟨W.heap.size,0,none⟩) rn rn) (W.alloc (.cells (madeCells #[.int .i64 0] rn) 3)):=fun W=>run_make_row' 25 3 _ 8 Tryz.underlying25 fZ rfl .i64 .i64 rn aF aF W
  have PK1:=aB (show PK w.heap.size (.int .i64 (rn:Int)) (.slice (some ⟨nb,aV,none⟩) ns.length cap) w1 from ⟨c0,c1,aF⟩)
  go_region_held3 (fun u=>u.cell? ⟨w.heap.size,0,none⟩=some (.int .i64 (rn:Int))∧u.cell? ⟨w.heap.size,1,none⟩=some (.slice (some ⟨nb,aV,none⟩) ns.length cap)∧w.heap.size<u.heap.size) (first | exact PK1.out | exact PK1.out.drew | exact (PK1.out.drew.alloc _) | exact ((PK1.out.drew.alloc _).alloc _) | exact (((PK1.out.drew.alloc _).alloc _).alloc _) | exact (PK1.out.alloc _).drew | exact ((PK1.out.alloc _).alloc _).drew | exact (((PK1.out.alloc _).alloc _).alloc _).drew) (fail)
  all_goals (go_wp2;go_meet)
  all_goals first
   | exact pW aF (yQ _ _ _ _) (yO _ _ _ _) (yP _ _ _ _) aF (jW _ _ _ _) aQ HN.out HI.out hic aGL
   | exact pW aF (yP _ _ _ _) (yO _ _ _ _) (yQ _ _ _ _) aF (jW _ _ _ _) aQ HN.out HI.out hic aGL
   | exact pW aF (yQ _ _ _ _) (yP _ _ _ _) (yO _ _ _ _) aF (jW _ _ _ _) aQ HN.out HI.out hic aGL
   | exact pW aF (yP _ _ _ _) (yQ _ _ _ _) (yO _ _ _ _) aF (jW _ _ _ _) aQ HN.out HI.out hic aGL
   | exact pW aF (yO _ _ _ _) (yP _ _ _ _) (yQ _ _ _ _) aF (jW _ _ _ _) aQ HN.out HI.out hic aGL
   | exact pW aF (yO _ _ _ _) (yQ _ _ _ _) (yP _ _ _ _) aF (jW _ _ _ _) aQ HN.out HI.out hic aGL
 case rest =>
  obtain ⟨⟨mb,rb,mp,rfl,M⟩,hBx⟩:=hcut
  have hkc:wc.heap[w.heap.size+1]?=some (.cells #[.slice none 0 0,.int .i64 0,.bool false,.int .i64 0,.slice none 0 0] 53 (0,0)):=by rw [hBx.block _ aF];exact HK.out
  have HKc:=aB hkc
  have HBx:=aB hBx
  have HM:=aB M
  clear hkc M hBx c0 c1
  go_wp2
  go_loopw [] (fun wr=>∃ k v yA vN n D,MA w1.heap.size (w1.heap.size+3) mb rb mp nb aV cap rn ns wr (runN ns k (st0 rn inp)) v yA vN n D∧(runN ns k (st0 rn inp)).steps=k∧k≤fuel.toNat∧Below w1.heap.size w1 wr) (fun wr=>fuel.toNat-(intOf ((wr.cell? ⟨mb,3,none⟩).getD undef)).toNat)
  case atStart=>exact ⟨0,_,_,_,_,_,HM.out,rfl,Nat.zero_le _,HBx.out⟩
  case round =>
   obtain ⟨k,v,yA, vN, n,D,M,hst,hk,hB⟩:=hrel
   have hpc:=BG OK.out k (st0 rn inp) (by simp [st0];omega)
   have hrg:(rn:Int)=(runN ns k (st0 rn inp)).regs.length:=by rw [KU];simp [st0]
   have HW:=aB (VK (r:=rn) aF OK.out k (st0 rn inp) (by simp [st0]))
   have HS:=aB (fun x hx he=>aGJ OK.out k (st0 rn inp) (by simp [st0];omega) he (x:=x) hx)
   have HF:=aB (fun he=>aGK OK.out k fuel.toNat hk (st0 rn inp) (by simp [st0];omega) he)
   have HFin:=aB (show fin rn ns inp fuel=runN ns fuel.toNat (st0 rn inp) by simp [fin])
   generalize hσ:runN ns k (st0 rn inp)=σ at M hst hpc hrg HW HS HF
   have HRG:=aB hrg
   clear hrg
   have Hσ:=aB hσ
   clear hσ
   have m2:=aA M.hm 2
   have m3:=aA M.hm 3
   have m9:=aA M.hm 9
   simp at m2 m3 m9
   have qV:=aB M
   have HB1:=aB hB
   have hBs:=hB.size
   have hme:=m3
   clear M hB
   cases he:σ.ended
   ·rw [he] at m2
    by_cases hlt:(σ.steps:Int)<fuel
    ·go_wp2_with fail
     obtain ⟨x,hx⟩:=bD hpc
     refine (aME qV.out hx hl1.2 aF (OK.out x (List.mem_of_getElem? hx)) HRG.out).mono ?_
     rintro e w2 ⟨rfl,v', ia2,ic2,n2,D2,M2,hb2⟩
     have HS2:=aB (HS.out x hx he)
     have YZ:=aB M2
     have HB2:=aB (HB1.out.trans hb2)
     clear M2 hb2 m2 m3 m9 hx
     go_wp2
     go_roundw
     case rel=>exact ⟨k+1,v', ia2,ic2,n2,D2,by rw [HS2.out];exact YZ.out,by rw [HS2.out,JQ,hst],aF,HB2.out⟩
     case measure =>
      have q:=aA YZ.out.hm 3
      simp at q
      rw [q,hme]
      simp [intOf,JQ]
      omega
    ·have hlt' :fuel≤(σ.steps:Int):=by omega
     go_wp2_with fail
     have hfin:fin rn ns inp fuel=σ:=by
      rw [HFin.out]
      rw [show fuel.toNat=k by omega];exact Hσ.out
     have HZ:=aB hfin
     clear hfin
     refine (EE VJ mp n D σ.cts wr qV.out.ho qV.out.rel qV.out.srt HW.out (by have:=qV.out.hn;have:=qV.out.hst;omega)).mono ?_
     rintro e w3 ⟨vc,rfl,hoc,hb3⟩
     obtain ⟨av,cv,rfl⟩:=wU hoc
     have hs3:=hb3.size
     have aRU:=aD qV.out.hm
     have hm3:w3.heap[mb]?=_:=(hb3.block mb aRU).trans qV.out.hm
     have hk3:w3.heap[w.heap.size+1]?=some (.cells #[.slice none 0 0,.int .i64 0,.bool false,.int .i64 0,.slice none 0 0] 53 (0,0)):=by
      rw [hb3.block _ aF,HB1.out.block _ aF];exact HK.out
     have ho3:=ownsRow_below qV.out.hout hb3 aF
     have HFX:=aB (And.intro hm3 (And.intro hk3 (And.intro ho3 (And.intro hoc hb3))))
     have d4:=aA hm3 4
     have g4:=aC hm3 4
     simp at d4
     clear hm3 hk3 ho3 hoc hb3 m2 m3 m9 hme
     go_upto_region 12 with fail
     have PD:=aG (i:=4) (.slice av σ.cts.length cv) HFX.out.1
     have hne:w.heap.size+1≠mb:=by have:=qV.out.geo;omega
     have hk4:=aN (i:=4) (.slice av σ.cts.length cv) HFX.out.2.1 hne
     have ho4:=(ownsRow_below (B:=w3.heap.size) HFX.out.2.2.1 (Below.refl _ _) dD)
     have K4:bR [mb] w3 (w3.setCell ⟨mb,4,none⟩ (.slice av σ.cts.length cv)):=(bR.refl [mb] w3).setCell (p:=⟨mb,4,none⟩) aQ _
     have ho5:=K4.owns HFX.out.2.2.1 (by have:=qV.out.geo;simp;omega)
     have ho6:=K4.owns HFX.out.2.2.2.1 bF
     have hB4:Below w.heap.size w (w3.setCell ⟨mb,4,none⟩ (.slice av σ.cts.length cv)):=HB.out.trans ((HB1.out.mono aF).trans ((HFX.out.2.2.2.2.mono aF).trans (K4.below (by have:=qV.out.geo;simp;omega) aF)))
     simp at PD
     have d0:=aA PD 0
     have d1:=aA PD 1
     have d2:=aA PD 2
     have d3:=aA PD 3
     have d4' :=aA PD 4
     have e0:=aA hk4 0
     have e1:=aA hk4 1
     have e2:=aA hk4 2
     have e3:=aA hk4 3
     have e4:=aA hk4 4
     have f0:=aC hk4 0
     have f1:=aC hk4 1
     have f2:=aC hk4 2
     have f3:=aC hk4 3
     have f4:=aC hk4 4
     simp only [List.getElem?_toArray,List.getElem?_cons_zero,List.getElem?_cons_succ] at d0 d1 d2 d3 d4' e0 e1 e2 e3 e4
     have HY:=aB (And.intro hk4 (And.intro ho5 (And.intro ho6 hB4)))
     clear PD hk4 ho4 K4 ho5 ho6 hB4 d4 g4
     generalize w3.setCell ⟨mb,4,none⟩ (.slice av σ.cts.length cv)=W4 at *
     obtain ⟨ao,co,hvo⟩:=wU HY.out.2.1
     subst hvo
     go_wp2
     refine pV (mZ HY.out.1 _ _ _ _ _) rfl rfl ?_
     rw [HZ.out]
     have KF:=sP W4 (w.heap.size+1) (.slice ao σ.out.length co) (.int .i64 σ.ret) (.bool false) (.int .i64 (k:Int)) (.slice av σ.cts.length cv)
     exact ⟨_,_,by rw [he,hst],aK (KF.owns HY.out.2.1 bF) aF,aK (KF.owns HY.out.2.2.1 bF) aF,HY.out.2.2.2.trans (KF.below aQ HY.out.2.2.2.size)⟩
   ·rw [he] at m2
    go_wp2_with fail
    have hfin:fin rn ns inp fuel=σ:=by
     rw [HFin.out]
     rw [HF.out he]
    have HZ:=aB hfin
    clear hfin
    refine (EE VJ mp n D σ.cts wr qV.out.ho qV.out.rel qV.out.srt HW.out (by have:=qV.out.hn;have:=qV.out.hst;omega)).mono ?_
    rintro e w3 ⟨vc,rfl,hoc,hb3⟩
    obtain ⟨av,cv,rfl⟩:=wU hoc
    have hs3:=hb3.size
    have aRU:=aD qV.out.hm
    have hm3:w3.heap[mb]?=_:=(hb3.block mb aRU).trans qV.out.hm
    have hk3:w3.heap[w.heap.size+1]?=some (.cells #[.slice none 0 0,.int .i64 0,.bool false,.int .i64 0,.slice none 0 0] 53 (0,0)):=by
     rw [hb3.block _ aF,HB1.out.block _ aF];exact HK.out
    have ho3:=ownsRow_below qV.out.hout hb3 aF
    have HFX:=aB (And.intro hm3 (And.intro hk3 (And.intro ho3 (And.intro hoc hb3))))
    have d4:=aA hm3 4
    have g4:=aC hm3 4
    simp at d4
    clear hm3 hk3 ho3 hoc hb3 m2 m3 m9 hme
    go_upto_region 12 with fail
    have PD:=aG (i:=4) (.slice av σ.cts.length cv) HFX.out.1
    have hne:w.heap.size+1≠mb:=by have:=qV.out.geo;omega
    have hk4:=aN (i:=4) (.slice av σ.cts.length cv) HFX.out.2.1 hne
    have ho4:=(ownsRow_below (B:=w3.heap.size) HFX.out.2.2.1 (Below.refl _ _) dD)
    have K4:bR [mb] w3 (w3.setCell ⟨mb,4,none⟩ (.slice av σ.cts.length cv)):=(bR.refl [mb] w3).setCell (p:=⟨mb,4,none⟩) aQ _
    have ho5:=K4.owns HFX.out.2.2.1 (by have:=qV.out.geo;simp;omega)
    have ho6:=K4.owns HFX.out.2.2.2.1 bF
    have hB4:Below w.heap.size w (w3.setCell ⟨mb,4,none⟩ (.slice av σ.cts.length cv)):=HB.out.trans ((HB1.out.mono aF).trans ((HFX.out.2.2.2.2.mono aF).trans (K4.below (by have:=qV.out.geo;simp;omega) aF)))
    simp at PD
    have d0:=aA PD 0
    have d1:=aA PD 1
    have d2:=aA PD 2
    have d3:=aA PD 3
    have d4' :=aA PD 4
    have e0:=aA hk4 0
    have e1:=aA hk4 1
    have e2:=aA hk4 2
    have e3:=aA hk4 3
    have e4:=aA hk4 4
    have f0:=aC hk4 0
    have f1:=aC hk4 1
    have f2:=aC hk4 2
    have f3:=aC hk4 3
    have f4:=aC hk4 4
    simp only [List.getElem?_toArray,List.getElem?_cons_zero,List.getElem?_cons_succ] at d0 d1 d2 d3 d4' e0 e1 e2 e3 e4
    have HY:=aB (And.intro hk4 (And.intro ho5 (And.intro ho6 hB4)))
    clear PD hk4 ho4 K4 ho5 ho6 hB4 d4 g4
    generalize w3.setCell ⟨mb,4,none⟩ (.slice av σ.cts.length cv)=W4 at *
    obtain ⟨ao,co,hvo⟩:=wU HY.out.2.1
    subst hvo
    go_wp2
    refine pV (mZ HY.out.1 _ _ _ _ _) rfl rfl ?_
    rw [HZ.out]
    have KF:=sP W4 (w.heap.size+1) (.slice ao σ.out.length co) (.int .i64 σ.ret) (.bool true) (.int .i64 (k:Int)) (.slice av σ.cts.length cv)
    exact ⟨_,_,by rw [he,hst],aK (KF.owns HY.out.2.1 bF) aF,aK (KF.owns HY.out.2.2.1 bF) aF,HY.out.2.2.2.trans (KF.below aQ HY.out.2.2.2.size)⟩
end Go.Proofs.YtegloodcbfalfaaGreatDoor
