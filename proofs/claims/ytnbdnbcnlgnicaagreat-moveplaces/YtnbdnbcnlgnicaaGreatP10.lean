/-
  Of the proof of MovePlaces: RG, RJ, RO, RS, GW, LM.
-/
import Derived.Test.YtnbdnbcnlgnicaaGreatP1
import Derived.Test.YtnbdnbcnlgnicaaGreatP3
import Derived.Test.YtnbdnbcnlgnicaaGreatP7
import Derived.Test.YtnbdnbcnlgnicaaGreatP9
import Derived.Deep.AppendLies
import Derived.Maps.RangeWalk
import Derived.Sort.Grow
import Derived.Test.YtnbdnbcnlgnicaaGreatSf
import Derived.Deep.CutRange
import Derived.Deep.OwnRows
import Derived.Deep.RegionWith
import Derived.RangeFuncBox
import Derived.Deep.DeepCutAuto
set_option linter.unusedVariables false
set_option linter.unusedSimpArgs false
set_option maxHeartbeats 40000000
namespace Go.Proofs.YtnbdnbcnlgnicaaGreat
open Go.RowKit Go.Maps Go.ChangeMaps
set_option maxRecDepth 100000 in
theorem step_copy {B s mb rb mp nb noff ncap rc:Nat} {ns:List Nd} {w:World} {σ:St} {v:Value} {ia:Option Addr} {ic n:Nat} {D:DataW Unit} (M:MA B s mb rb mp nb noff ncap rc ns w σ v ia ic n D) {x:Nd} (hx:ns[σ.pc]?=some x) (hlen:ns.length≤256) (hlt:σ.steps<131072) (ht:0≤x.t) (hop:x.op=2) (hd:InR σ.regs x.d) (ha:InR σ.regs x.a) :
 Calls Tryz.prog 62 #[.pointer (some ⟨mb,0,none⟩)] w fun e w' =>e=.returned (.tuple #[])∧∃ v' ia' ic' n' D', MA B s mb rb mp nb noff ncap rc ns w' (stp x σ) v' ia' ic' n' D' ∧Below B w w' :=by
 have hpc:σ.pc<ns.length:=(List.getElem?_eq_some_iff.1 hx).1
 have hml:=blk_lt M.hm
 have hnlt:=M.hN.lt
 have hst0:=M.hst
 have m3:=blk_cell M.hm 3
 have m5:=blk_cell M.hm 5
 have m6:=blk_cell M.hm 6
 have f3:=blk_frozen M.hm 3
 have f6:=blk_frozen M.hm 6
 simp at m3 m5 m6
 have c0:=M.hN.c0 σ.pc x hx
 have c1:=M.hN.c1 σ.pc x hx
 have c2:=M.hN.c2 σ.pc x hx
 have c3:=M.hN.c3 σ.pc x hx
 have c4:=M.hN.c4 σ.pc x hx
 have c5:=M.hN.c5 σ.pc x hx
 have P3:=pre_of M x
 obtain ⟨op,d,a,b,t,e⟩:=x
 simp only at *
 subst hop
 have HS:=hide (And.intro m5 (And.intro m6 (And.intro c0 (And.intro c1 (And.intro c2 (And.intro c3 (And.intro c4 c5)))))))
 have HSa:Hid (∀ o,(w.alloc o).cell? ⟨mb,5,none⟩=some (.slice (some ⟨nb,noff,none⟩) ns.length ncap)∧(w.alloc o).cell? ⟨mb,6,none⟩=some (.int .i64 σ.pc)∧(w.alloc o).cell? ⟨nb,noff+σ.pc*6,none⟩=some (.int .i64 2)∧(w.alloc o).cell? ⟨nb,noff+σ.pc*6+1,none⟩=some (.int .i64 d)∧(w.alloc o).cell? ⟨nb,noff+σ.pc*6+2,none⟩=some (.int .i64 a)∧(w.alloc o).cell? ⟨nb,noff+σ.pc*6+3,none⟩=some (.int .i64 b)∧(w.alloc o).cell? ⟨nb,noff+σ.pc*6+4,none⟩=some (.int .i64 t)∧(w.alloc o).cell? ⟨nb,noff+σ.pc*6+5,none⟩=some (.int .i64 e)):=by
  intro o
  simp only [World.cell?_alloc_past _ _ _ hml,World.cell?_alloc_past _ _ _ hnlt]
  exact HS.out
 have hpi:(σ.pc:Int)<(ns.length:Int):=by omega
 have hpi0:(0:Int)≤(σ.pc:Int):=by omega
 have HM:=hide M
 have HX:=hide hx
 have HP:=hide P3
 clear M hx P3
 go_enter Tryz.func62,Tryz.ntmps62
 go_wp2
 go_region_held3 (fun u=>u.cell? ⟨mb,5,none⟩=some (.slice (some ⟨nb,noff,none⟩) ns.length ncap)∧u.cell? ⟨mb,6,none⟩=some (.int .i64 σ.pc)∧u.cell? ⟨nb,noff+σ.pc*6,none⟩=some (.int .i64 2)∧u.cell? ⟨nb,noff+σ.pc*6+1,none⟩=some (.int .i64 d)∧u.cell? ⟨nb,noff+σ.pc*6+2,none⟩=some (.int .i64 a)∧u.cell? ⟨nb,noff+σ.pc*6+3,none⟩=some (.int .i64 b)∧u.cell? ⟨nb,noff+σ.pc*6+4,none⟩=some (.int .i64 t)∧u.cell? ⟨nb,noff+σ.pc*6+5,none⟩=some (.int .i64 e)) (first | exact HS.out | exact HSa.out _) (fail)
 go_wp2
 clear m3 m5 m6 f3 f6 c0 c1 c2 c3 c4 c5 HS HSa hpi hpi0
 have hW:=HP.out
 unfold W3 at hW
 generalize (((w.setCell ⟨mb,3,none⟩ (.int .i64 ((σ.steps:Int)+1))).setCell ⟨mb,6,none⟩ (.int .i64 t)).alloc (.cells #[.int .i64 2,.int .i64 d,.int .i64 a,.int .i64 b,.int .i64 t,.int .i64 e] 47)).drew=W at hW ⊢
 clear HP
 have HW:=hide hW
 obtain ⟨g1,g2,g3,g4,g5,g6,g7,g8,g9⟩:=HM.out.geo
 have wml:=blk_lt hW.hm
 have wrl:=blk_lt hW.hr
 have wnl:=blk_lt hW.hnd
 have hss:=HM.out.hs
 obtain ⟨hd0,hd1⟩:=hd
 obtain ⟨ha0,ha1⟩:=ha
 obtain ⟨dn,rfl⟩:=Int.eq_ofNat_of_zero_le hd0
 obtain ⟨an,rfl⟩:=Int.eq_ofNat_of_zero_le ha0
 have m8:=blk_cell hW.hm 8
 have n1:=blk_cell hW.hnd 1
 have n2:=blk_cell hW.hnd 2
 have rd:=blk_cell hW.hr dn
 have ra:=blk_cell hW.hr an
 rw [regs_at (by omega)] at rd ra
 have rf:=blk_frozen hW.hr dn
 simp at m8 n1 n2
 clear hW
 refine wp_region_still_tail 15 (by kernel_rfl) (by kernel_rfl) ?_
 simp only [List.take_succ_cons,List.take_zero,List.drop_succ_cons,List.drop_zero]
 repeat still_step
 refine wpStill_nil ?_
 go_wp2
 go_end0
 have hW:=HW.out
 have K2:Keeps [mb,rb,mp] w (W.setCell ⟨rb,dn,none⟩ (.int .i64 (getR σ.regs an))).drew:=(hW.K.setCell (p:=⟨rb,dn,none⟩) (by simp) _).drew
 rw [show stp ⟨2,dn,an,b,t,e⟩ σ={ σ with pc:=t.toNat,steps:=σ.steps+1,regs:=setR σ.regs dn (getR σ.regs an) } from rfl]
 refine ⟨rfl,v,ia,ic,n,D,HM.out.next K2 ?_ ?_ ?_ ?_ HM.out.hin HM.out.hic rfl hlt (by have:=HM.out.hn;omega) (Nat.le_succ _) (setR_len _ _ _) HM.out.rel HM.out.srt (fun c hc=>by have:=HM.out.cb c hc;omega),HM.out.below K2⟩
 ·have:=blk_set_ne (i:=dn) (.int .i64 (getR σ.regs an)) hW.hm g7
  show _=some (Obj.cells #[_,_,_,_,_,_,Value.int .i64 ((t.toNat:Nat):Int),_,Value.slice _ (setR σ.regs dn (getR σ.regs an)).length _,_] _ _)
  rw [show ((t.toNat:Nat):Int)=t from by omega,setR_len]
  exact this
 ·have:=blk_set (i:=dn) (.int .i64 (getR σ.regs an)) hW.hr
  rw [regs_set] at this
  exact this
 ·exact own_at hW.ho (Below.heap_setCell _ _ _ _ (by exact fun e=>g9 e.symm))
 ·exact ((Keeps.refl [rb] W).setCell (p:=⟨rb,dn,none⟩) (by simp) _).drew.owns hW.hout (by simp;omega)
set_option maxRecDepth 100000 in
theorem step_arith {B s mb rb mp nb noff ncap rc:Nat} {ns:List Nd} {w:World} {σ:St} {v:Value} {ia:Option Addr} {ic n:Nat} {D:DataW Unit} (M:MA B s mb rb mp nb noff ncap rc ns w σ v ia ic n D) {x:Nd} (hx:ns[σ.pc]?=some x) (hlen:ns.length≤256) (hlt:σ.steps<131072) (ht:0≤x.t) (hop:3≤x.op∧x.op≤8) (hd:InR σ.regs x.d) (ha:InR σ.regs x.a) (hb:InR σ.regs x.b) :
 Calls Tryz.prog 62 #[.pointer (some ⟨mb,0,none⟩)] w fun e w' =>e=.returned (.tuple #[])∧∃ v' ia' ic' n' D', MA B s mb rb mp nb noff ncap rc ns w' (stp x σ) v' ia' ic' n' D' ∧Below B w w' :=by
 have hpc:σ.pc<ns.length:=(List.getElem?_eq_some_iff.1 hx).1
 have hml:=blk_lt M.hm
 have hnlt:=M.hN.lt
 have hst0:=M.hst
 have m3:=blk_cell M.hm 3
 have m5:=blk_cell M.hm 5
 have m6:=blk_cell M.hm 6
 have f3:=blk_frozen M.hm 3
 have f6:=blk_frozen M.hm 6
 simp at m3 m5 m6
 have c0:=M.hN.c0 σ.pc x hx
 have c1:=M.hN.c1 σ.pc x hx
 have c2:=M.hN.c2 σ.pc x hx
 have c3:=M.hN.c3 σ.pc x hx
 have c4:=M.hN.c4 σ.pc x hx
 have c5:=M.hN.c5 σ.pc x hx
 have P3:=pre_of M x
 obtain ⟨op,d,a,b,t,e⟩:=x
 simp only at *
 obtain ⟨ho1,ho2⟩:=hop
 have HS:=hide (And.intro m5 (And.intro m6 (And.intro c0 (And.intro c1 (And.intro c2 (And.intro c3 (And.intro c4 c5)))))))
 have HSa:Hid (∀ o,(w.alloc o).cell? ⟨mb,5,none⟩=some (.slice (some ⟨nb,noff,none⟩) ns.length ncap)∧(w.alloc o).cell? ⟨mb,6,none⟩=some (.int .i64 σ.pc)∧(w.alloc o).cell? ⟨nb,noff+σ.pc*6,none⟩=some (.int .i64 op)∧(w.alloc o).cell? ⟨nb,noff+σ.pc*6+1,none⟩=some (.int .i64 d)∧(w.alloc o).cell? ⟨nb,noff+σ.pc*6+2,none⟩=some (.int .i64 a)∧(w.alloc o).cell? ⟨nb,noff+σ.pc*6+3,none⟩=some (.int .i64 b)∧(w.alloc o).cell? ⟨nb,noff+σ.pc*6+4,none⟩=some (.int .i64 t)∧(w.alloc o).cell? ⟨nb,noff+σ.pc*6+5,none⟩=some (.int .i64 e)):=by
  intro o
  simp only [World.cell?_alloc_past _ _ _ hml,World.cell?_alloc_past _ _ _ hnlt]
  exact HS.out
 have hpi:(σ.pc:Int)<(ns.length:Int):=by omega
 have hpi0:(0:Int)≤(σ.pc:Int):=by omega
 have HM:=hide M
 have HX:=hide hx
 have HP:=hide P3
 clear M hx P3
 go_enter Tryz.func62,Tryz.ntmps62
 go_wp2
 go_region_held3 (fun u=>u.cell? ⟨mb,5,none⟩=some (.slice (some ⟨nb,noff,none⟩) ns.length ncap)∧u.cell? ⟨mb,6,none⟩=some (.int .i64 σ.pc)∧u.cell? ⟨nb,noff+σ.pc*6,none⟩=some (.int .i64 op)∧u.cell? ⟨nb,noff+σ.pc*6+1,none⟩=some (.int .i64 d)∧u.cell? ⟨nb,noff+σ.pc*6+2,none⟩=some (.int .i64 a)∧u.cell? ⟨nb,noff+σ.pc*6+3,none⟩=some (.int .i64 b)∧u.cell? ⟨nb,noff+σ.pc*6+4,none⟩=some (.int .i64 t)∧u.cell? ⟨nb,noff+σ.pc*6+5,none⟩=some (.int .i64 e)) (first | exact HS.out | exact HSa.out _) (fail)
 go_wp2_with fail
 clear m3 m5 m6 f3 f6 c0 c1 c2 c3 c4 c5 HS HSa hpi hpi0
 have hW:=HP.out
 unfold W3 at hW
 generalize (((w.setCell ⟨mb,3,none⟩ (.int .i64 ((σ.steps:Int)+1))).setCell ⟨mb,6,none⟩ (.int .i64 t)).alloc (.cells #[.int .i64 op,.int .i64 d,.int .i64 a,.int .i64 b,.int .i64 t,.int .i64 e] 47)).drew=W at hW ⊢
 clear HP
 obtain ⟨g1,g2,g3,g4,g5,g6,g7,g8,g9⟩:=HM.out.geo
 have hss:=HM.out.hs
 have hnn:=HM.out.hn
 refine (reckonM_any mb rb mp _ _ _ _ _ _ _ _ rc #[] σ.regs n D ⟨op,d,a,b,t,e⟩ W hW.hm hW.hr hW.ho (by omega) ⟨g7,g8,g9⟩ ⟨ho1,ho2⟩ hd ha hb HM.out.hrl).mono ?_
 rintro e1 w4 ⟨rfl,hr4,⟨c,hat,ho4⟩,K4⟩
 go_wp2
 go_end0
 have hsz:=hW.K.size
 have K2:Keeps [mb,rb,mp] w w4:=hW.K.trans (K4.mono (by simp))
 have htw:twf (tmOf ⟨op,d,a,b,t,e⟩):=⟨small_wf (by simp [tmOf];omega) (by simp [tmOf];omega),small_wf (by simp [tmOf];exact ha.1) (by have h1:a<(σ.regs.length:Int):=ha.2;have h2:=HM.out.hrl;show a≤1000000;omega),small_wf (by simp [tmOf];exact hb.1) (by have h1:b<(σ.regs.length:Int):=hb.2;have h2:=HM.out.hrl;show b≤1000000;omega)⟩
 obtain ⟨hcc,hrel⟩:=HM.out.rel.more HM.out.srt htw hat
 have hcb:0≤c∧c≤131072:=by
  rw [hcc]
  cases hq:ctOf σ.cts (tmOf ⟨op,d,a,b,t,e⟩) with
  | none=>simp
  | some m=>have:=HM.out.cb _ (ctOf_mem hq);simp at this ⊢;omega
 have hwr:wrap64 (c+1)=c+1:=by unfold wrap64;omega
 rw [hwr] at ho4
 rw [show stp ⟨op,d,a,b,t,e⟩ σ={ σ with pc:=t.toNat,steps:=σ.steps+1,regs:=setR σ.regs d (rk op (getR σ.regs a) (getR σ.regs b)),cts:=omore σ.cts (tmOf ⟨op,d,a,b,t,e⟩) } from by
  simp only [stp];rw [if_neg (by omega),if_neg (by omega),if_neg (by omega),if_neg (by omega),if_neg (by omega),if_neg (by omega),if_neg (by omega)]]
 refine ⟨rfl,v,ia,ic,n+1,_,HM.out.next K2 ?_ hr4 ho4 (K4.owns hW.hout (by simp;omega)) HM.out.hin HM.out.hic rfl hlt (by omega) (Nat.le_succ _) (setR_len _ _ _) hrel (omore_srt HM.out.srt _) (omore_le (by omega) (fun c hc=>by have:=HM.out.cb c hc;omega)),HM.out.below K2⟩
 have hm4:w4.heap[mb]?=_:=(K4.block mb (blk_lt hW.hm) (by simp;omega)).trans hW.hm
 show _=some (Obj.cells #[_,_,_,_,_,_,Value.int .i64 ((t.toNat:Nat):Int),_,Value.slice _ (setR σ.regs d (rk op (getR σ.regs a) (getR σ.regs b))).length _,_] _ _)
 rw [show ((t.toNat:Nat):Int)=t from by omega,setR_len]
 exact hm4
set_option maxRecDepth 100000 in
theorem step_iff {B s mb rb mp nb noff ncap rc:Nat} {ns:List Nd} {w:World} {σ:St} {v:Value} {ia:Option Addr} {ic n:Nat} {D:DataW Unit} (M:MA B s mb rb mp nb noff ncap rc ns w σ v ia ic n D) {x:Nd} (hx:ns[σ.pc]?=some x) (hlen:ns.length≤256) (hlt:σ.steps<131072) (ht:0≤x.t) (hop:x.op=11) (ha:InR σ.regs x.a) (he:0≤x.e) :
 Calls Tryz.prog 62 #[.pointer (some ⟨mb,0,none⟩)] w fun e w' =>e=.returned (.tuple #[])∧∃ v' ia' ic' n' D', MA B s mb rb mp nb noff ncap rc ns w' (stp x σ) v' ia' ic' n' D' ∧Below B w w' :=by
 have hpc:σ.pc<ns.length:=(List.getElem?_eq_some_iff.1 hx).1
 have hml:=blk_lt M.hm
 have hnlt:=M.hN.lt
 have hst0:=M.hst
 have m3:=blk_cell M.hm 3
 have m5:=blk_cell M.hm 5
 have m6:=blk_cell M.hm 6
 have f3:=blk_frozen M.hm 3
 have f6:=blk_frozen M.hm 6
 simp at m3 m5 m6
 have c0:=M.hN.c0 σ.pc x hx
 have c1:=M.hN.c1 σ.pc x hx
 have c2:=M.hN.c2 σ.pc x hx
 have c3:=M.hN.c3 σ.pc x hx
 have c4:=M.hN.c4 σ.pc x hx
 have c5:=M.hN.c5 σ.pc x hx
 have P3:=pre_of M x
 obtain ⟨op,d,a,b,t,e⟩:=x
 simp only at *
 subst hop
 have HS:=hide (And.intro m5 (And.intro m6 (And.intro c0 (And.intro c1 (And.intro c2 (And.intro c3 (And.intro c4 c5)))))))
 have HSa:Hid (∀ o,(w.alloc o).cell? ⟨mb,5,none⟩=some (.slice (some ⟨nb,noff,none⟩) ns.length ncap)∧(w.alloc o).cell? ⟨mb,6,none⟩=some (.int .i64 σ.pc)∧(w.alloc o).cell? ⟨nb,noff+σ.pc*6,none⟩=some (.int .i64 11)∧(w.alloc o).cell? ⟨nb,noff+σ.pc*6+1,none⟩=some (.int .i64 d)∧(w.alloc o).cell? ⟨nb,noff+σ.pc*6+2,none⟩=some (.int .i64 a)∧(w.alloc o).cell? ⟨nb,noff+σ.pc*6+3,none⟩=some (.int .i64 b)∧(w.alloc o).cell? ⟨nb,noff+σ.pc*6+4,none⟩=some (.int .i64 t)∧(w.alloc o).cell? ⟨nb,noff+σ.pc*6+5,none⟩=some (.int .i64 e)):=by
  intro o
  simp only [World.cell?_alloc_past _ _ _ hml,World.cell?_alloc_past _ _ _ hnlt]
  exact HS.out
 have hpi:(σ.pc:Int)<(ns.length:Int):=by omega
 have hpi0:(0:Int)≤(σ.pc:Int):=by omega
 have HM:=hide M
 have HX:=hide hx
 have HP:=hide P3
 clear M hx P3
 go_enter Tryz.func62,Tryz.ntmps62
 go_wp2
 go_region_held3 (fun u=>u.cell? ⟨mb,5,none⟩=some (.slice (some ⟨nb,noff,none⟩) ns.length ncap)∧u.cell? ⟨mb,6,none⟩=some (.int .i64 σ.pc)∧u.cell? ⟨nb,noff+σ.pc*6,none⟩=some (.int .i64 11)∧u.cell? ⟨nb,noff+σ.pc*6+1,none⟩=some (.int .i64 d)∧u.cell? ⟨nb,noff+σ.pc*6+2,none⟩=some (.int .i64 a)∧u.cell? ⟨nb,noff+σ.pc*6+3,none⟩=some (.int .i64 b)∧u.cell? ⟨nb,noff+σ.pc*6+4,none⟩=some (.int .i64 t)∧u.cell? ⟨nb,noff+σ.pc*6+5,none⟩=some (.int .i64 e)) (first | exact HS.out | exact HSa.out _) (fail)
 go_wp2
 clear m3 m5 m6 f3 f6 c0 c1 c2 c3 c4 c5 HS HSa hpi hpi0
 have hW:=HP.out
 unfold W3 at hW
 generalize (((w.setCell ⟨mb,3,none⟩ (.int .i64 ((σ.steps:Int)+1))).setCell ⟨mb,6,none⟩ (.int .i64 t)).alloc (.cells #[.int .i64 11,.int .i64 d,.int .i64 a,.int .i64 b,.int .i64 t,.int .i64 e] 47)).drew=W at hW ⊢
 clear HP
 have HW:=hide hW
 obtain ⟨g1,g2,g3,g4,g5,g6,g7,g8,g9⟩:=HM.out.geo
 have wml:=blk_lt hW.hm
 have wrl:=blk_lt hW.hr
 have wnl:=blk_lt hW.hnd
 have hss:=HM.out.hs
 obtain ⟨ha0,ha1⟩:=ha
 obtain ⟨an,rfl⟩:=Int.eq_ofNat_of_zero_le ha0
 have m6:=blk_cell hW.hm 6
 have m8:=blk_cell hW.hm 8
 have f6:=blk_frozen hW.hm 6
 have n2:=blk_cell hW.hnd 2
 have n5:=blk_cell hW.hnd 5
 have ra:=blk_cell hW.hr an
 rw [regs_at (by omega)] at ra
 simp at m6 m8 n2 n5
 clear hW
 by_cases hz:getR σ.regs an=0
 ·have hzb:(getR σ.regs (an:Int)==0)=true:=by simp [hz]
  have HZ:=hide hz
  clear hz
  go_quiet (fail)
  go_wp2
  go_end0
  have hW:=HW.out
  rw [show stp ⟨11,d,an,b,t,e⟩ σ={ σ with pc:=e.toNat,steps:=σ.steps+1 } from by
   show ({ σ with pc:=(if getR σ.regs an=0 then e else t).toNat,steps:=σ.steps+1 }:St)=_;rw [if_pos HZ.out]]
  have K2:Keeps [mb,rb,mp] w ((W.setCell ⟨mb,6,none⟩ (.int .i64 e)).drewN nq):=(hW.K.setCell (p:=⟨mb,6,none⟩) (by simp) _).drewN nq
  refine ⟨rfl,v,ia,ic,n,D,HM.out.next K2 ?_ ?_ ?_ ?_ HM.out.hin HM.out.hic rfl hlt (by have:=HM.out.hn;omega) (Nat.le_succ _) rfl HM.out.rel HM.out.srt (fun c hc=>by have:=HM.out.cb c hc;omega),HM.out.below K2⟩
  ·have:=blk_set (i:=6) (.int .i64 e) hW.hm
   show _=some (Obj.cells #[_,_,_,_,_,_,Value.int .i64 ((e.toNat:Nat):Int),_,_,_] _ _)
   rw [show ((e.toNat:Nat):Int)=e from by omega]
   exact this
  ·exact blk_set_ne _ hW.hr (fun e=>g7 e.symm)
  ·exact own_at hW.ho (Below.heap_setCell _ _ _ _ (by exact fun e=>g8 e.symm))
  ·exact ((Keeps.refl [mb] W).setCell (p:=⟨mb,6,none⟩) (by simp) _).owns hW.hout (by simp;omega)
 ·have hzb:(getR σ.regs (an:Int)==0)=false:=by simp [hz]
  have HZ:=hide hz
  clear hz
  go_quiet (fail)
  go_wp2
  go_end0
  have hW:=HW.out
  rw [show stp ⟨11,d,an,b,t,e⟩ σ={ σ with pc:=t.toNat,steps:=σ.steps+1 } from by
   show ({ σ with pc:=(if getR σ.regs an=0 then e else t).toNat,steps:=σ.steps+1 }:St)=_;rw [if_neg HZ.out]]
  have K2:Keeps [mb,rb,mp] w (W.drewN nq):=hW.K.drewN nq
  refine ⟨rfl,v,ia,ic,n,D,HM.out.next K2 ?_ hW.hr hW.ho hW.hout HM.out.hin HM.out.hic rfl hlt (by have:=HM.out.hn;omega) (Nat.le_succ _) rfl HM.out.rel HM.out.srt (fun c hc=>by have:=HM.out.cb c hc;omega),HM.out.below K2⟩
  have:=hW.hm
  show _=some (Obj.cells #[_,_,_,_,_,_,Value.int .i64 ((t.toNat:Nat):Int),_,_,_] _ _)
  rw [show ((t.toNat:Nat):Int)=t from by omega]
  exact this
set_option maxRecDepth 100000 in
theorem step_out {B s mb rb mp nb noff ncap rc:Nat} {ns:List Nd} {w:World} {σ:St} {v:Value} {ia:Option Addr} {ic n:Nat} {D:DataW Unit} (M:MA B s mb rb mp nb noff ncap rc ns w σ v ia ic n D) {x:Nd} (hx:ns[σ.pc]?=some x) (hlen:ns.length≤256) (hlt:σ.steps<131072) (ht:0≤x.t) (hop:x.op=10) (ha:InR σ.regs x.a) :
 Calls Tryz.prog 62 #[.pointer (some ⟨mb,0,none⟩)] w fun e w' =>e=.returned (.tuple #[])∧∃ v' ia' ic' n' D', MA B s mb rb mp nb noff ncap rc ns w' (stp x σ) v' ia' ic' n' D' ∧Below B w w' :=by
 obtain ⟨i0,hi,hz0,hz1,hz2⟩:=info_parts info_int
 have hpc:σ.pc<ns.length:=(List.getElem?_eq_some_iff.1 hx).1
 have hml:=blk_lt M.hm
 have hnlt:=M.hN.lt
 have hst0:=M.hst
 have m3:=blk_cell M.hm 3
 have m5:=blk_cell M.hm 5
 have m6:=blk_cell M.hm 6
 have f3:=blk_frozen M.hm 3
 have f6:=blk_frozen M.hm 6
 simp at m3 m5 m6
 have c0:=M.hN.c0 σ.pc x hx
 have c1:=M.hN.c1 σ.pc x hx
 have c2:=M.hN.c2 σ.pc x hx
 have c3:=M.hN.c3 σ.pc x hx
 have c4:=M.hN.c4 σ.pc x hx
 have c5:=M.hN.c5 σ.pc x hx
 have P3:=pre_of M x
 obtain ⟨op,d,a,b,t,e⟩:=x
 simp only at *
 subst hop
 have HS:=hide (And.intro m5 (And.intro m6 (And.intro c0 (And.intro c1 (And.intro c2 (And.intro c3 (And.intro c4 c5)))))))
 have HSa:Hid (∀ o,(w.alloc o).cell? ⟨mb,5,none⟩=some (.slice (some ⟨nb,noff,none⟩) ns.length ncap)∧(w.alloc o).cell? ⟨mb,6,none⟩=some (.int .i64 σ.pc)∧(w.alloc o).cell? ⟨nb,noff+σ.pc*6,none⟩=some (.int .i64 10)∧(w.alloc o).cell? ⟨nb,noff+σ.pc*6+1,none⟩=some (.int .i64 d)∧(w.alloc o).cell? ⟨nb,noff+σ.pc*6+2,none⟩=some (.int .i64 a)∧(w.alloc o).cell? ⟨nb,noff+σ.pc*6+3,none⟩=some (.int .i64 b)∧(w.alloc o).cell? ⟨nb,noff+σ.pc*6+4,none⟩=some (.int .i64 t)∧(w.alloc o).cell? ⟨nb,noff+σ.pc*6+5,none⟩=some (.int .i64 e)):=by
  intro o
  simp only [World.cell?_alloc_past _ _ _ hml,World.cell?_alloc_past _ _ _ hnlt]
  exact HS.out
 have hpi:(σ.pc:Int)<(ns.length:Int):=by omega
 have hpi0:(0:Int)≤(σ.pc:Int):=by omega
 have HM:=hide M
 have HX:=hide hx
 have HP:=hide P3
 clear M hx P3
 go_enter Tryz.func62,Tryz.ntmps62
 go_wp2
 go_region_held3 (fun u=>u.cell? ⟨mb,5,none⟩=some (.slice (some ⟨nb,noff,none⟩) ns.length ncap)∧u.cell? ⟨mb,6,none⟩=some (.int .i64 σ.pc)∧u.cell? ⟨nb,noff+σ.pc*6,none⟩=some (.int .i64 10)∧u.cell? ⟨nb,noff+σ.pc*6+1,none⟩=some (.int .i64 d)∧u.cell? ⟨nb,noff+σ.pc*6+2,none⟩=some (.int .i64 a)∧u.cell? ⟨nb,noff+σ.pc*6+3,none⟩=some (.int .i64 b)∧u.cell? ⟨nb,noff+σ.pc*6+4,none⟩=some (.int .i64 t)∧u.cell? ⟨nb,noff+σ.pc*6+5,none⟩=some (.int .i64 e)) (first | exact HS.out | exact HSa.out _) (fail)
 go_wp2
 clear m3 m5 m6 f3 f6 c0 c1 c2 c3 c4 c5 HS HSa hpi hpi0
 have hW:=HP.out
 unfold W3 at hW
 generalize (((w.setCell ⟨mb,3,none⟩ (.int .i64 ((σ.steps:Int)+1))).setCell ⟨mb,6,none⟩ (.int .i64 t)).alloc (.cells #[.int .i64 10,.int .i64 d,.int .i64 a,.int .i64 b,.int .i64 t,.int .i64 e] 47)).drew=W at hW ⊢
 clear HP
 have HW:=hide hW
 obtain ⟨g1,g2,g3,g4,g5,g6,g7,g8,g9⟩:=HM.out.geo
 have wml:=blk_lt hW.hm
 have wrl:=blk_lt hW.hr
 have wnl:=blk_lt hW.hnd
 have hss:=HM.out.hs
 obtain ⟨ha0,ha1⟩:=ha
 obtain ⟨an,rfl⟩:=Int.eq_ofNat_of_zero_le ha0
 have m0:=blk_cell hW.hm 0
 have m8:=blk_cell hW.hm 8
 have f0:=blk_frozen hW.hm 0
 have n2:=blk_cell hW.hnd 2
 have ra:=blk_cell hW.hr an
 rw [regs_at (by omega)] at ra
 simp at m0 m8 n2
 have hown:=hW.hout
 have hol:=HM.out.hol
 have hsW:s≤W.heap.size:=Nat.le_trans hss hW.K.size
 have hlt0:=HM.out.hout.lt
 have hneq:∀ q,q<s→some q≠v.ownBlock:=fun q hq e=>by have:=hlt0 q e.symm;omega
 have hnnd:some w.heap.size≠v.ownBlock:=fun e=>by have:=hlt0 _ e.symm;omega
 clear hW
 go_region_law (first
  | ((refine step_append_lies _ (by rfl) _ _ _ (by rfl) s 3 i0 (.int .i64 0) 1 8 Tryz.underlying54 hi hz0 hz1 hz2 rfl (by omega) v σ.out.length (σ.out.map (Value.int .i64)) (by rfl) ((hown.alloc _)) ⟨W.heap.size,0,none⟩ 1 1 [.int .i64 (getR σ.regs an)] (by rfl) (by rfl) (World.news_of_block (cs:=#[.int .i64 (getR σ.regs an)]) (t:=3) (fr:=(0,0)) (heap_alloc_new W _)) (by simp [Value.oneCell']) (by omega) (by unfold maxLen;omega) (by omega) (by simp;omega) (W.heap.size+1) (by simp) ?_;intro gg cap1 w5 hown5 hgrow hat hlt5;have hb5:w5.heap[mb]?=W.heap[mb]? :=(hgrow.block mb (by simp;omega) (hneq mb g4)).trans (Below.heap_alloc _ _ _ wml);have x0:w5.cell? ⟨mb,0,none⟩=some v:=(World.cell?_of_block hb5).trans m0;have x1:w5.frozen? ⟨mb,0,none⟩=false:=(World.frozen?_of_block hb5).trans f0;have HG:=hide (And.intro hown5 (And.intro hgrow (And.intro hat hlt5)));clear hown5 hgrow hat hlt5 hb5)))
 all_goals go_wp2
 all_goals go_end0
 all_goals
  have hW:=HW.out
  obtain ⟨hown5,hgrow,hat,hlt5⟩:=HG.out
  have hk:∀ q,q<W.heap.size→some q≠v.ownBlock→w5.heap[q]?=W.heap[q]? :=fun q h1 h2=>(hgrow.block q (by simp;omega) h2).trans (Below.heap_alloc _ _ _ h1)
  have hs5:W.heap.size≤w5.heap.size:=by have:=hgrow.size;simp at this;omega
  have Kb:Below B w w5:=(HM.out.below hW.K).trans ⟨hgrow.os,hgrow.tape,hgrow.output,hs5,fun k hk0=>hk k (by omega) (hneq k (by omega))⟩
  have Kc:=Kb.setCell (p:=⟨mb,0,none⟩) g1 (.slice (some ⟨gg,0,none⟩) (σ.out.length+1) cap1)
  have ho5:=((Keeps.refl [mb] w5).setCell (p:=⟨mb,0,none⟩) (by simp) (.slice (some ⟨gg,0,none⟩) (σ.out.length+1) cap1)).owns hown5 (by simp;omega)
  rw [show stp ⟨10,d,an,b,t,e⟩ σ={ σ with pc:=t.toNat,steps:=σ.steps+1,out:=σ.out++[getR σ.regs an] } from rfl]
  refine ⟨rfl,.slice (some ⟨gg,0,none⟩) (σ.out.length+1) cap1,ia,ic,n,D,HM.out.nextB Kc ?_ ?_ ?_ (by simpa using ho5) HM.out.hin HM.out.hic rfl hlt (by have:=HM.out.hn;omega) (by simp) rfl HM.out.rel HM.out.srt (fun c hc=>by have:=HM.out.cb c hc;omega),Kc⟩
  ·have:=blk_set (i:=0) (.slice (some ⟨gg,0,none⟩) (σ.out.length+1) cap1) ((hk mb wml (hneq mb g4)).trans hW.hm)
   show _=some (Obj.cells #[_,_,_,_,_,_,Value.int .i64 ((t.toNat:Nat):Int),_,_,_] _ _)
   rw [show ((t.toNat:Nat):Int)=t from by omega]
   exact this
  ·exact blk_set_ne _ ((hk rb wrl (hneq rb g5)).trans hW.hr) (fun e=>g7 e.symm)
  ·refine own_at hW.ho ?_
   rw [Below.heap_setCell _ _ _ _ (by exact fun e=>g8 e.symm)]
   exact hk mp hW.ho.lt (hneq mp g6)
theorem lits_int_inv {d:Nat} {u:Value} {ls:List Lit} (h:Tryz.prog.keyLits (d+1) 3 [u]=some ls):∃ n,u=.int .i64 n∧(Lit.int .i64 n).wf=true:=by
 cases u <;> simp [Program.keyLits,Tryz.underlying3] at h
 obtain ⟨⟨rfl,hw⟩,rfl⟩:=h
 exact ⟨_,rfl,hw⟩
set_option maxRecDepth 100000 in
theorem tkey_inv {key:Value} {kl:Lit} (h:keyOf Tryz.prog 26 key=some kl):∃ t:Tm,key=.agg #[.int .i64 t.op,.int .i64 t.a,.int .i64 t.b]∧twf t∧kl=tkl t:=by
 have hk:Tryz.prog.keyType 26=true:=by kernel_rfl
 have hc:Tryz.prog.cellsOf 26=3:=by kernel_rfl
 have hci:Tryz.prog.cellsOf 3=1:=by kernel_rfl
 obtain ⟨m,hm⟩:=types_pos
 have h' :=h
 unfold keyOf at h
 rw [Tryz.underlying26] at h
 simp only [hk,Bool.true_and] at h
 split at h
 ·rename_i hf
  cases key <;> simp [Value.formed,Tryz.underlying26] at hf
  rename_i cs
  rw [hc] at hf
  obtain ⟨l⟩:=cs
  match l,hf with
  | [a,b,c],_ =>
   rw [hm] at h
   unfold Program.keyLits at h
   simp [Tryz.underlying26,hc,hci,Value.cells] at h
   have q1:∃ l1,Tryz.prog.keyLits (m+1) 3 [a]=some l1:=by
    cases e:Tryz.prog.keyLits (m+1) 3 [a] with
    | none=>simp [e] at h
    | some l1=>exact ⟨l1,rfl⟩
   obtain ⟨l1,q1⟩:=q1
   rw [q1] at h
   have q2:∃ l1,Tryz.prog.keyLits (m+1) 3 [b]=some l1:=by
    cases e:Tryz.prog.keyLits (m+1) 3 [b] with
    | none=>simp [e] at h
    | some l1=>exact ⟨l1,rfl⟩
   obtain ⟨l2,q2⟩:=q2
   rw [q2] at h
   have q3:∃ l1,Tryz.prog.keyLits (m+1) 3 [c]=some l1:=by
    cases e:Tryz.prog.keyLits (m+1) 3 [c] with
    | none=>simp [e] at h
    | some l1=>exact ⟨l1,rfl⟩
   obtain ⟨l3,q3⟩:=q3
   obtain ⟨n1,rfl,w1⟩:=lits_int_inv q1
   obtain ⟨n2,rfl,w2⟩:=lits_int_inv q2
   obtain ⟨n3,rfl,w3⟩:=lits_int_inv q3
   refine ⟨⟨n1,n2,n3⟩,rfl,⟨w1,w2,w3⟩,?_⟩
   have:=tkey ⟨n1,n2,n3⟩ w1 w2 w3
   rw [h'] at this
   exact Option.some.inj this
 ·exact absurd h (by simp)
def encCt (c:Ct):List Value:=[.int .i64 c.t.op,.int .i64 c.t.a,.int .i64 c.t.b,.int .i64 c.n]
structure Gone (l:List Ct) (left:Lit→Bool) (L:List Ct):Prop where
 mem:∀ c∈L,ctOf l c.t=some c.n∧left (tkl c.t)=false∧twf c.t
 nd:(L.map (·.t)).Nodup
 all:∀ t,twf t→(ctOf l t).isSome=true→left (tkl t)=false→t∈L.map (·.t)
theorem Gone.start {l:List Ct} {D:DataW Unit} (rel:MapRel D l):Gone l (Maps.has D) []:=by
 refine ⟨by simp,by simp,fun t ht h1 h2=>?_⟩
 exfalso
 cases e:ctOf l t with
 | none=>simp [e] at h1
 | some n =>
  have:=has_true_of_atKey (D:=D) (k:=tkl t) (y:=.lit (.int .i64 n)) fun z=>by rw [rel.2 t ht z,e]
  rw [this] at h2;exact absurd h2 (by simp)
theorem MapRel.found {D:DataW Unit} {l:List Ct} (rel:MapRel D l) {t:Tm} (ht:twf t) {n:Int} (h:∀ z,D.atKey (tkl t) z=.lit (.int .i64 n)):ctOf l t=some n:=by
 have h1:=rel.2 t ht (.lit (.int .i64 (n+1)))
 rw [h] at h1
 cases e:ctOf l t with
 | none=>rw [e] at h1;have:=(Lit.int.inj (DataW.lit.inj h1)).2;omega
 | some m=>rw [e] at h1;have:=(Lit.int.inj (DataW.lit.inj h1)).2;rw [this]
theorem Gone.more {l:List Ct} {left:Lit→Bool} {L:List Ct} (h:Gone l left L) {t:Tm} {n:Int} (ht:twf t) (hl:left (tkl t)=true) (hc:ctOf l t=some n):Gone l (fun z=>left z&&!z.sameKey (tkl t)) (L++[⟨t,n⟩]):=by
 have hkl:(tkl t).sameKey (tkl t)=true:=by simp [tkl,Lit.sameKey]
 have hne:∀ u,twf u→u≠t→(tkl u).sameKey (tkl t)=false:=fun u hu e=>by
  cases q:(tkl u).sameKey (tkl t)
  ·rfl
  ·exfalso
   apply e
   apply tkl_inj hu ht
   simpa [tkl,Lit.sameKey] using q
 have hnot:t∉L.map (·.t):=fun hm=>by
  obtain ⟨c,hc1,hc2⟩:=List.mem_map.1 hm
  have:=(h.mem c hc1).2.1
  rw [hc2,hl] at this;exact absurd this (by simp)
 refine ⟨fun c hcm=>?_,?_,fun u hu hs hf=>?_⟩
 ·rw [List.mem_append] at hcm
  rcases hcm with hcm | hcm
  ·obtain ⟨a,b,c⟩:=h.mem c hcm
   exact ⟨a,by rw [b];rfl,c⟩
  ·simp at hcm;subst hcm
   exact ⟨hc,by simp [hkl],ht⟩
 ·rw [List.map_append,List.nodup_append]
  refine ⟨h.nd,by simp,fun a ha b hb=>?_⟩
  simp at hb;subst hb
  exact fun e=>hnot (e ▸ ha)
 ·rw [List.map_append,List.mem_append]
  by_cases e:u=t
  ·subst e;right;simp
  ·left
   refine h.all u hu hs ?_
   simpa [hne u hu e] using hf
theorem info_count:(Tryz.prog.info? 92).map (fun i=>(i.zero,i.size,i.bytes))=some (some (.agg #[.int .i64 0,.int .i64 0,.int .i64 0,.int .i64 0]),4,32):=by kernel_rfl
def SortsCt:Prop:=∀ (v:Value) (L:List Ct) (W:World) (base:Nat),base≤W.heap.size→W.ownsRow base 92 4 v L.length (L.flatMap encCt)→(L.map (·.t)).Nodup→L.length≤131072 →
 Calls Tryz.prog 98 #[v,.func (.func 99) #[] #[]] W fun e w' =>e=.returned (.tuple #[])∧∃ L', L'.Perm L∧Srt L' ∧w'.ownsRow base 92 4 v L'.length (L'.flatMap encCt)∧Below base W w'
theorem ranges_cnt {w:World} {k:TypeId} {R:Value→Option (DataW Unit × List MemPlace)} {b r n:Nat} {D:DataW Unit} {left:Lit→Bool} {cnt:Nat} (h:w.ranges Tryz.prog k R b r n D left cnt):cnt≤n:=by
 obtain ⟨es,clock,since,seen,c0,h1,h2,h3,h4,h5,h6,h7,h8⟩:=h
 have:(leftOf es seen).size≤es.size:=by unfold leftOf;exact Array.size_filter_le
 omega
theorem srt_eq {a:List Ct}:∀ {b:List Ct},a.Perm b→Srt a→Srt b→a=b:=by
 induction a with
 | nil=>intro b h _ _;exact h.nil_eq
 | cons x a ih =>
  intro b h ha hb
  cases b with
  | nil=>exact absurd h.symm.nil_eq (by simp)
  | cons y b =>
   unfold Srt at ha hb
   rw [List.pairwise_cons] at ha hb
   have e:x=y:=by
    have h1:x∈y::b:=h.mem_iff.1 (List.mem_cons_self ..)
    have h2:y∈x::a:=h.mem_iff.2 (List.mem_cons_self ..)
    rcases List.mem_cons.1 h1 with e | h1
    ·exact e
    ·rcases List.mem_cons.1 h2 with e | h2
     ·exact e.symm
     ·have:=abv_trans (hb.1 x h1) (ha.1 y h2)
      rw [abv_irrefl] at this;cases this
   subst e
   rw [ih (List.perm_cons x |>.1 h) ha.2 hb.2]
theorem srt_ct {l:List Ct} (h:Srt l):∀ c∈l,ctOf l c.t=some c.n:=by
 induction l with
 | nil=>intro c hc;cases hc
 | cons d l ih =>
  unfold Srt at h
  rw [List.pairwise_cons] at h
  intro c hc
  rw [ctOf_cons]
  rcases List.mem_cons.1 hc with e | hc
  ·subst e;simp
  ·rw [if_neg,ih h.2 c hc]
   intro e
   have:=h.1 c hc
   rw [e,abv_irrefl] at this;cases this
theorem srt_nd {l:List Ct} (h:Srt l):l.Nodup:=by
 unfold Srt at h
 refine List.Pairwise.imp (fun {a b} hab e=>?_) h
 rw [e,abv_irrefl] at hab;cases hab
theorem Gone.perm {l:List Ct} {left:Lit→Bool} {L:List Ct} (h:Gone l left L) (srt:Srt l) (hwf:∀ c∈l,twf c.t) (hl:∀ z,left z=false):L.Perm l:=by
 have hnd:L.Nodup:=by
  have:=h.nd
  exact (List.pairwise_map.1 this).imp fun hab e=>hab (by rw [e])
 rw [List.perm_ext_iff_of_nodup hnd (srt_nd srt)]
 intro c
 constructor
 ·intro hc
  have:=ctOf_mem (h.mem c hc).1
  exact this
 ·intro hc
  have h1:=srt_ct srt c hc
  have h2:=h.all c.t (hwf c hc) (by rw [h1];rfl) (hl _)
  obtain ⟨d,hd1,hd2⟩:=List.mem_map.1 h2
  have h3:=(h.mem d hd1).1
  rw [hd2,h1] at h3
  have:d=c:=by
   cases d;cases c;simp at hd2 h3;subst hd2 h3;rfl
  exact this ▸ hd1
set_option maxRecDepth 100000 in
theorem counts_any (hS:SortsCt) (mp n:Nat) (D:DataW Unit) (l:List Ct) (w:World) (ho:w.ownsMap Tryz.prog 26 (plainElem Tryz.prog 3) mp n D) (rel:MapRel D l) (srt:Srt l) (hwf:∀ c∈l,twf c.t) (hn:n≤131072) :
 Calls Tryz.prog 63 #[.map (some mp)] w fun e w' =>∃ v', e=.returned v' ∧w'.ownsRow w.heap.size 92 4 v' l.length (l.flatMap encCt)∧Below w.heap.size w w' :=by
 obtain ⟨i0,hi,hz0,hz1,hz2⟩:=info_parts info_count
 have KK:=Keyed.of_law tlaw
 have hmlt:=ho.lt
 go_enter Tryz.func63,Tryz.ntmps63
 go_wp2_with (first | (at_range;refine wpList_range_own _ rfl _ 87 rfl 26 3 KK Tryz.underlying87 _ mp n D rfl ho ?_;intro w0 hrg0 hg0 hs0) | go_in)
 go_frame
 go_loopw [3] (fun v wr=>∃ left cnt L,wr.ranges Tryz.prog 26 (plainElem Tryz.prog 3) mp w.heap.size n D left cnt∧Gone l left L∧wr.ownsRow (w.heap.size+1) 92 4 v L.length (L.flatMap encCt)∧L.length+cnt≤n∧Below w.heap.size w wr) (fun _ wr=>wr.rangeLeft mp w.heap.size)
 case atStart=>exact ⟨Maps.has D,Maps.size D,[],hrg0,Gone.start rel,World.ownsRow_nil _ _ _ _,by have:=ranges_cnt hrg0;simpa using this,⟨hg0.os,hg0.tape,hg0.output,hg0.size,fun k hk=>hg0.block k hk (by simp)⟩⟩
 case round =>
  obtain ⟨left,cnt,L,hrg,hG,hown,hcnt,hB⟩:=hrel
  have HG:=hide hG
  have hsz:=hB.size
  have hrlt:=hrg.lt
  clear hG hrg0 hg0 hs0
  go_wp2_with (first | (at_next;refine wpList_next_ranges _ rfl _ rfl 26 KK (plainElem Tryz.prog 3) (fun t:Tm=>Value.agg #[.int .i64 t.op,.int .i64 t.a,.int .i64 t.b]) (Value.int .i64) (fun key kl hkey=>by obtain ⟨t,rfl,_⟩:=tkey_inv hkey;exact ⟨t,rfl⟩) (fun v y hv=>by obtain ⟨c,rfl,_⟩:=plainElem_int_inv Tryz.underlying3 hv;exact ⟨c,rfl⟩) mp w.heap.size n D left cnt rfl hrg ?_ ?_) | go_in)
  ·intro hc0 hl0
   go_wp2_with fail
   have hp:=HG.out.perm srt hwf hl0
   refine (hS _ L wr (w.heap.size+1) (by omega) hown HG.out.nd (by omega)).mono ?_
   rintro e w' ⟨rfl,L', hp', hs', ho', hb'⟩
   have eL:L' =l:=srt_eq (hp'.trans hp) hs' srt
   subst eL
   go_wp2
   go_ret
   exact ⟨_,rfl,ownsRow_base ho' (by omega),hB.trans (hb'.mono (by omega))⟩
  ·intro t c kl y1 y2 w1 cnt1 hkey hlk hv hat hrg1 hlt1 hg1 hs1 hen
   obtain ⟨t', et,htw,rfl⟩:=tkey_inv hkey
   have et' :t=t' :=by cases t;cases t'; simpa using et
   subst et'
   obtain ⟨c', ec,ey,hcw⟩:=plainElem_int_inv Tryz.underlying3 hv
   cases ec
   have hb1:Below w.heap.size w w1:=hB.trans ⟨hg1.os,hg1.tape,hg1.output,hg1.size,fun k hk=>hg1.block k (by omega) (by simp;omega)⟩
   have hown1:w1.ownsRow (w.heap.size+1) 92 4 u3 L.length (L.flatMap encCt):=by
    have K1:Keeps [w.heap.size] wr w1:=⟨hg1.os,hg1.tape,hg1.output,hg1.size,fun k hk hn=>hg1.block k hk (by simp at hn;simp;omega)⟩
    exact K1.owns hown (by simp)
   clear hg1
   have hct:ctOf l t=some c:=rel.found htw (fun z=>by rw [hat z];exact (Prod.mk.inj ey).1)
   have hG1:=HG.out.more htw hlk hct
   have HG1:=hide hG1
   clear hG1 HG
   go_wp2_with (at_builtin;refine wpList_append_own _ rfl (.tmp 13) (.tmp 17) 60 rfl (w.heap.size+1) 92 i0 _ 4 32 Tryz.underlying60 hi hz0 hz1 hz2 rfl (by decide) _ _ _ rfl ((hown1.alloc _).alloc _) ⟨wr.heap.size+1,0,none⟩ 1 1 [.int .i64 t.op,.int .i64 t.a,.int .i64 t.b,.int .i64 c] rfl rfl ?c1 ?c2 ?c3 ?c4 ?c5 ?_)
   case c1 =>
    intro j u hj
    match j,hj with
    | 0,hj=>simp at hj;subst hj;rw [← hs1];simp [Addr.add]
    | 1,hj=>simp at hj;subst hj;rw [← hs1];simp [Addr.add]
    | 2,hj=>simp at hj;subst hj;rw [← hs1];simp [Addr.add]
    | 3,hj=>simp at hj;subst hj;rw [← hs1];simp [Addr.add]
    | j+4,hj=>simp at hj
   case c2=>intro u hu;simp at hu;rcases hu with rfl | rfl | rfl | rfl <;> rfl
   case c3=>unfold maxLen;omega
   case c4=>omega
   case c5=>simp;omega
   intro v' w4 hown5 hg4 _
   have hltb:=hown1.lt
   have hB4:Below w.heap.size w w4:=((hb1.alloc (by omega) _).alloc (by simp;omega) _).grown hg4 (by simp;omega) (fun k hk=>by have:=(hltb k hk).1;omega)
   have hrg4:=((hrg1.alloc _).alloc _).kept hg4 (fun e=>by have:=(hltb mp e.symm).1;omega) (fun e=>by have:=(hltb _ e.symm).1;omega)
   have hown6:w4.ownsRow (w.heap.size+1) 92 4 v' (L++[(⟨t,c⟩:Ct)]).length ((L++[(⟨t,c⟩:Ct)]).flatMap encCt):=by
    simpa [encCt] using hown5
   have hm:=hrg.left_eq
   clear hown5 hg4 hltb hown1
   go_wp2
   go_roundw
   case rel=>exact ⟨_,cnt1,_,hrg4,HG1.out,hown6,by simp;omega,hB4⟩
   case measure=>rw [hrg4.left_eq,hm];exact hlt1
def cp (a b:Int):Int:=if a<b then -1 else if b<a then 1 else 0
theorem nan_any (a:Int) (w:World):Calls Tryz.prog 115 #[.int .i64 a] w fun e w' =>e=.returned (.bool false)∧w' =w:=by
 go_enter Tryz.func115,Tryz.ntmps115
 go_wp2
 go_ret
 exact ⟨by simp,rfl⟩
theorem compare_any (a b:Int) (w:World):Calls Tryz.prog 101 #[.int .i64 a,.int .i64 b] w fun e w' =>e=.returned (.int .i64 (cp a b))∧w' =w:=by
 go_enter Tryz.func101,Tryz.ntmps101
 go_wp2_with (go_at_call 115;refine (nan_any _ _).mono ?_;rintro e w' ⟨rfl,rfl⟩)
 all_goals go_ret
 all_goals refine ⟨ret_int ?_,rfl⟩
 all_goals (unfold cp;repeat' split)
 all_goals omega
def or3 (a b c:Int):Int:=if a≠0 then a else if b≠0 then b else c
theorem or_any (b:Nat) (x y z:Int) (w:World) (h0:w.cell? ⟨b,0,none⟩=some (.int .i64 x)) (h1:w.cell? ⟨b,1,none⟩=some (.int .i64 y)) (h2:w.cell? ⟨b,2,none⟩=some (.int .i64 z)) :
 Calls Tryz.prog 100 #[.slice (some ⟨b,0,none⟩) 3 3] w fun e w' =>e=.returned (.int .i64 (or3 x y z))∧w' =w:=by
 go_enter Tryz.func100,Tryz.ntmps100
 go_wp2
 refine wp_loop_rounds 4 ?_
 rw [rounds_succ]
 go_wp2
 all_goals (first | (rw [rounds_succ];go_wp2) | skip)
 all_goals (first | (rw [rounds_succ];go_wp2) | skip)
 all_goals (first | (rw [rounds_succ];go_wp2) | skip)
 all_goals go_ret
 all_goals refine ⟨ret_int ?_,rfl⟩
 all_goals simp_all [or3]
def cpC (x y:Ct):Int:=or3 (cp x.t.op y.t.op) (cp x.t.a y.t.a) (cp x.t.b y.t.b)
theorem cpC_lt (x y:Ct):decide (cpC x y<0)=abv y.t x.t:=by
 obtain ⟨⟨a1,a2,a3⟩,n⟩:=x
 obtain ⟨⟨b1,b2,b3⟩,m⟩:=y
 simp only [cpC,or3,cp,abv]
 repeat' split
 all_goals (first | omega | (simp;done) | (simp;omega) | simp_all)
open Go.Lib Go.Sort in
set_option maxRecDepth 100000 in
theorem closure_any (x y:Ct) (w:World) :
 Calls Tryz.prog 99 #[.agg #[.int .i64 x.t.op,.int .i64 x.t.a,.int .i64 x.t.b,.int .i64 x.n],.agg #[.int .i64 y.t.op,.int .i64 y.t.a,.int .i64 y.t.b,.int .i64 y.n]] w fun e w' =>e=.returned (.int .i64 (cpC x y))∧∃ q os', w' =grow (w.drewN q) os' :=by
 go_enter Tryz.func99,Tryz.ntmps99
 go_wp2
 have x0:((w.alloc (.cells #[.int .i64 x.t.op,.int .i64 x.t.a,.int .i64 x.t.b,.int .i64 x.n] 92)).alloc (.cells #[.int .i64 y.t.op,.int .i64 y.t.a,.int .i64 y.t.b,.int .i64 y.n] 92)).cell? ⟨w.heap.size,0,none⟩=some (.int .i64 x.t.op):=by simp
 have x1:((w.alloc (.cells #[.int .i64 x.t.op,.int .i64 x.t.a,.int .i64 x.t.b,.int .i64 x.n] 92)).alloc (.cells #[.int .i64 y.t.op,.int .i64 y.t.a,.int .i64 y.t.b,.int .i64 y.n] 92)).cell? ⟨w.heap.size,1,none⟩=some (.int .i64 x.t.a):=by simp
 have x2:((w.alloc (.cells #[.int .i64 x.t.op,.int .i64 x.t.a,.int .i64 x.t.b,.int .i64 x.n] 92)).alloc (.cells #[.int .i64 y.t.op,.int .i64 y.t.a,.int .i64 y.t.b,.int .i64 y.n] 92)).cell? ⟨w.heap.size,2,none⟩=some (.int .i64 x.t.b):=by simp
 have y0:((w.alloc (.cells #[.int .i64 x.t.op,.int .i64 x.t.a,.int .i64 x.t.b,.int .i64 x.n] 92)).alloc (.cells #[.int .i64 y.t.op,.int .i64 y.t.a,.int .i64 y.t.b,.int .i64 y.n] 92)).cell? ⟨w.heap.size+1,0,none⟩=some (.int .i64 y.t.op):=by simp
 have y1:((w.alloc (.cells #[.int .i64 x.t.op,.int .i64 x.t.a,.int .i64 x.t.b,.int .i64 x.n] 92)).alloc (.cells #[.int .i64 y.t.op,.int .i64 y.t.a,.int .i64 y.t.b,.int .i64 y.n] 92)).cell? ⟨w.heap.size+1,1,none⟩=some (.int .i64 y.t.a):=by simp
 have y2:((w.alloc (.cells #[.int .i64 x.t.op,.int .i64 x.t.a,.int .i64 x.t.b,.int .i64 x.n] 92)).alloc (.cells #[.int .i64 y.t.op,.int .i64 y.t.a,.int .i64 y.t.b,.int .i64 y.n] 92)).cell? ⟨w.heap.size+1,2,none⟩=some (.int .i64 y.t.b):=by simp
 have HW:Hid (∃ os', (w.alloc (.cells #[.int .i64 x.t.op,.int .i64 x.t.a,.int .i64 x.t.b,.int .i64 x.n] 92)).alloc (.cells #[.int .i64 y.t.op,.int .i64 y.t.a,.int .i64 y.t.b,.int .i64 y.n] 92)=grow w os'):=⟨_,by rw [alloc_eq_grow,alloc_eq_grow,grow_grow]⟩
 generalize (w.alloc (.cells #[.int .i64 x.t.op,.int .i64 x.t.a,.int .i64 x.t.b,.int .i64 x.n] 92)).alloc (.cells #[.int .i64 y.t.op,.int .i64 y.t.a,.int .i64 y.t.b,.int .i64 y.n] 92)=W at x0 x1 x2 y0 y1 y2 HW ⊢
 refine wp_region_still_tail 21 (by kernel_rfl) (by kernel_rfl) ?_
 simp only [List.take_succ_cons,List.take_zero,List.drop_succ_cons,List.drop_zero]
 repeat still_step
 still_call (compare_any _ _ _)
 repeat still_step
 still_call (compare_any _ _ _)
 repeat still_step
 still_call (compare_any _ _ _)
 repeat still_step
 refine wpStill_nil ?_
 go_wp2_with fail
 refine (or_any _ (cp x.t.op y.t.op) (cp x.t.a y.t.a) (cp x.t.b y.t.b) _ (by simp) (by simp) (by simp)).mono ?_
 rintro e w' ⟨rfl,rfl⟩
 go_wp2
 go_ret
 obtain ⟨os', e⟩:=HW.out
 subst e
 exact ⟨rfl,1,_,(alloc_eq_grow _ _).trans (grow_grow (w.drewN 1) os' _)⟩
theorem flat4:∀ (L:List Ct) (j i:Nat) (c:Ct),L[j]?=some c→i<4→(L.flatMap encCt)[j*4+i]?=(encCt c)[i]?
 | [],j,i,c,h,_=>by simp at h
 | d::L,0,i,c,h,hi=>by
  simp at h;subst h
  rw [List.flatMap_cons,List.getElem?_append_left (by simp [encCt];omega)];simp
 | d::L,j+1,i,c,h,hi=>by
  simp at h
  rw [List.flatMap_cons,List.getElem?_append_right (by simp [encCt];omega),show (j+1)*4+i-(encCt d).length=j*4+i by simp [encCt];omega]
  exact flat4 L j i c h hi
theorem flatCt_len (L:List Ct):(L.flatMap encCt).length=L.length*4:=by
 induction L with
 | nil=>rfl
 | cons c L ih=>rw [List.flatMap_cons,List.length_append,ih];simp [encCt];omega
open Go.Sort in
theorem flatCt (L:List Ct):(Go.Sort.flatK encCt 4 L.toArray).toList=L.flatMap encCt:=by
 apply List.ext_getElem?
 intro t
 by_cases h:t<L.length*4
 ·have hi:t / 4<L.length:=by omega
  have h1:=flat4 L (t / 4) (t % 4) L[t / 4] (List.getElem?_eq_getElem hi) (by omega)
  rw [show t / 4*4+t % 4=t by omega] at h1
  rw [h1]
  have hz:t % 4<(encCt L[t / 4]).length:=by simp [encCt];omega
  rw [List.getElem?_eq_getElem hz]
  simp [Go.Sort.flatK,h,hi]
  rw [List.getElem?_eq_getElem hz];rfl
 ·rw [List.getElem?_eq_none (by simp;omega),List.getElem?_eq_none (by rw [flatCt_len];omega)]
open Go.Sort Go.Lib in
theorem swoC:SWO (ltOf cpC) where
 irrefl x:=by show decide (cpC x x<0)=false;rw [cpC_lt,abv_irrefl]
 trans x y z h1 h2:=by
  have h1' :decide (cpC x y<0)=true:=h1
  have h2' :decide (cpC y z<0)=true:=h2
  show decide (cpC x z<0)=true
  rw [cpC_lt] at *
  exact abv_trans h2' h1'
 ntrans x y z h1 h2:=by
  have h1' :decide (cpC x y<0)=false:=h1
  have h2' :decide (cpC y z<0)=false:=h2
  show decide (cpC x z<0)=false
  rw [cpC_lt] at *
  cases q:abv z.t x.t
  ·rfl
  ·exfalso
   by_cases e:y.t=x.t
   ·rw [e] at h2'; rw [q] at h2'; cases h2'
   ·have:=abv_total h1' e
    rw [abv_trans q this] at h2'; cases h2'
open Go.Sort Go.Lib in
theorem heap_sortedV {w:World} {g n:Nat} {os:Array Obj} {cur:Array Value} {e:TypeId} {fr:Nat × Nat} (d:Array Value) (hb:w.heap[g]?=some (.cells cur e fr)) :
 (grow (putRow id (Sort.ahead w n) g 0 d) os).heap[g]?=some (.cells (putCells id 0 d cur) e fr):=by
 have hg:g<w.heap.size:=(Array.getElem?_eq_some_iff.1 hb).1
 rw [heap_grow_old _ _ (by simpa using hg)]
 simp [putRow,mapBlock,Sort.ahead,Array.getElem?_modify,hb,onCells]
open Go.Sort Go.Lib in
theorem below_sortedV {w:World} {g n base:Nat} {os:Array Obj} (d:Array Value) (hg:base≤g) (hs:base≤w.heap.size):Below base w (grow (putRow id (Sort.ahead w n) g 0 d) os):=by
 refine ⟨rfl,rfl,rfl,by simp,fun k hk=>?_⟩
 rw [heap_grow_old _ _ (by simp;omega)]
 have:g≠k:=by omega
 simp [putRow,mapBlock,Sort.ahead,Array.getElem?_modify,this]
open Go.Sort Go.Lib in
theorem take_putCellsV (cur:Array Value) (d:Array Value) (h:d.size≤cur.size):(putCells id 0 d cur).toList.take d.size=d.toList:=by
 apply List.ext_getElem?
 intro j
 by_cases hj:j<d.size
 ·rw [List.getElem?_take_of_lt hj,Array.getElem?_toList]
  simp [putCells,hj,show j<cur.size by omega]
 ·rw [List.getElem?_take_eq_none (by omega),List.getElem?_eq_none (by simp;omega)]
open Go.Sort Go.Lib in
theorem sorts_ct:SortsCt:=by
 intro v L W base hb ho hnd hlen
 obtain ⟨hxl,ho⟩:=ho
 rcases ho with ⟨rfl,h0⟩ | ⟨g,cap,cur,rfl,hg,hblk,h1,h2,h3,h4⟩
 ·have:L=[]:=List.length_eq_zero_iff.1 h0
  subst this
  refine (AnyF.slices_SortFunc_none Tryz.sortCt none 0 _ W).mono ?_
  rintro e w' ⟨rfl,rfl⟩
  exact ⟨rfl,[],.refl _,List.Pairwise.nil,World.ownsRow_nil _ _ _ _,Below.refl _ _⟩
 ·have eg:∀ args w,(callFunc 99 args).run Tryz.prog w=.ok (.enter 99 args) w:=enters_of Tryz.func99 (by kernel_rfl) rfl
  have hH:HoldsK encCt 4 W g 0 L.toArray:=by
   intro j hj
   refine ⟨?_,by rw [Nat.zero_add];exact blk_frozen hblk j⟩
   rw [Nat.zero_add,blk_cell hblk]
   have hj' :j<L.length*4:=by simpa using hj
   have q:(cur.toList.take (L.length*4))[j]?=(Go.Sort.flatK encCt 4 L.toArray).toList[j]? :=by rw [h4,flatCt]
   rw [List.getElem?_take_of_lt hj', Array.getElem?_toList,Array.getElem?_toList,Array.getElem?_eq_getElem hj] at q
   rw [q,getElem!_pos (Go.Sort.flatK encCt 4 L.toArray) j hj];rfl
  refine (AnyQ.slices_SortFunc Tryz.sortCt 4 Tryz.isAgg92 Tryz.sizeOf92 encCt (fun _=>rfl) (fun x u hu=>by simp [encCt] at hu;rcases hu with rfl | rfl | rfl | rfl <;> rfl) cpC swoC 99 #[] g 0 cap L.toArray W eg (fun _ _ _ _ x y=>closure_any x y _) hH (blk_lt hblk) (by simp;omega)).mono ?_
  rintro e w' ⟨rfl,d', n,os,hp,hs,rfl⟩
  obtain ⟨hp1,hp2,hp3⟩:=hp
  have hsz:d'.size=L.length:=by simpa using hp1
  have hperm:d'.toList.Perm L:=by
   have:(L.toArray.extract 0 L.toArray.size).toList=L:=by simp
   rw [this] at hp3
   have q:(d'.extract 0 L.toArray.size)=d' :=by rw [← hp1];simp
   rw [q] at hp3
   exact hp3
  have hd:d' =d'.toList.toArray:=by simp
  refine ⟨rfl,d'.toList,hperm,?_,⟨by rw [flatCt_len],Or.inr ⟨g,cap,putCells id 0 (Go.Sort.flatK encCt 4 d') cur,?_,hg,heap_sortedV _ hblk,?_,h2,?_,?_⟩⟩,below_sortedV _ hg hb⟩
  ·have hnd' :(d'.toList.map (·.t)).Nodup:=(hperm.map _).nodup_iff.2 hnd
   unfold Srt
   rw [List.pairwise_iff_getElem]
   intro i j hi hj hij
   have q:=hs i j (by omega) hij (by simp at hj;omega)
   simp at hi hj
   rw [getElem!_pos d' j hj,getElem!_pos d' i hi] at q
   have q' :decide (cpC d'[j] d'[i]<0)=false:=q
   rw [cpC_lt] at q'
   refine abv_total q' fun e=>?_
   have:=(List.pairwise_iff_getElem.1 hnd') i j (by simpa using hi) (by simpa using hj) hij
   simp at this
   exact this e
  ·simp [hsz]
  ·simp [hsz,h1]
  ·simp [putCells,h3]
  ·have q:=take_putCellsV cur (Go.Sort.flatK encCt 4 d') (by simp [h3,hsz];omega)
   rw [size_flatK] at q
   have q2:=flatCt d'.toList
   rw [← hd] at q2
   rw [← q2,← q]
   simp
theorem stp_regs (x:Nd) (s:St):(stp x s).regs.length=s.regs.length:=by
 unfold stp;repeat' split
 all_goals simp [setR]
theorem stp_pc {r:Int} {ns:List Nd} {x:Nd} (h:NodeOk r ns.length x) (s:St):(stp x s).pc<ns.length:=by
 have ht:=h.t
 unfold stp;repeat' split
 all_goals (try (simp only;omega))
 rename_i h11 _
 have he:=h.e h11
 simp only;omega
theorem step_any {r:Int} {B s mb rb mp nb noff ncap rc:Nat} {ns:List Nd} {w:World} {σ:St} {v:Value} {ia:Option Addr} {ic n:Nat} {D:DataW Unit} (M:MA B s mb rb mp nb noff ncap rc ns w σ v ia ic n D) {x:Nd} (hx:ns[σ.pc]?=some x) (hlen:ns.length≤256) (hlt:σ.steps<131072) (hk:NodeOk r ns.length x) (hr:r=σ.regs.length) :
 Calls Tryz.prog 62 #[.pointer (some ⟨mb,0,none⟩)] w fun e w' =>e=.returned (.tuple #[])∧∃ v' ia' ic' n' D', MA B s mb rb mp nb noff ncap rc ns w' (stp x σ) v' ia' ic' n' D' ∧Below B w w' :=by
 have ht:=hk.t.1
 have hop:=hk.op
 by_cases h0:x.op=0
 ·exact step_skip M hx hlen hlt ht h0
 by_cases h1:x.op=1
 ·exact step_set M hx hlen hlt ht h1 (by have:=hk.d;unfold InR;omega)
 by_cases h2:x.op=2
 ·exact step_copy M hx hlen hlt ht h2 (by have:=hk.d;unfold InR;omega) (by have:=hk.a;unfold InR;omega)
 by_cases h9:x.op=9
 ·exact step_inn M hx hlen hlt ht h9 (by have:=hk.d;unfold InR;omega)
 by_cases h10:x.op=10
 ·exact step_out M hx hlen hlt ht h10 (by have:=hk.a;unfold InR;omega)
 by_cases h11:x.op=11
 ·exact step_iff M hx hlen hlt ht h11 (by have:=hk.a;unfold InR;omega) (hk.e h11).1
 by_cases h12:x.op=12
 ·exact step_end M hx hlen hlt ht h12 (by have:=hk.a;unfold InR;omega)
 ·exact step_arith M hx hlen hlt ht (by omega) (by have:=hk.d;unfold InR;omega) (by have:=hk.a;unfold InR;omega) (by have:=hk.b;unfold InR;omega)
theorem runN_pc {r:Int} {ns:List Nd} (ok:∀ x∈ns,NodeOk r ns.length x):∀ (n:Nat) (s:St),s.pc<ns.length→(runN ns n s).pc<ns.length
 | 0,s,h=>h
 | n+1,s,h=>by
  simp only [runN]
  split
  ·exact h
  ·rw [List.getElem?_eq_getElem h]
   exact runN_pc ok n _ (stp_pc (ok _ (List.getElem_mem h)) s)
theorem runN_regs {ns:List Nd}:∀ (n:Nat) (s:St),(runN ns n s).regs.length=s.regs.length
 | 0,s=>rfl
 | n+1,s=>by
  simp only [runN]
  split
  ·rfl
  ·split
   ·rw [runN_regs n,stp_regs]
   ·rfl
theorem stp_twf {r:Int} {len:Nat} (hlen:r≤64) {x:Nd} (h:NodeOk r len x) {s:St} (hs:∀ c∈s.cts,twf c.t):∀ c∈(stp x s).cts,twf c.t:=by
 unfold stp;repeat' split
 all_goals (try exact hs)
 intro c hc
 rcases omore_mem hc with hc | hc
 ·exact hs c hc
 ·rw [hc]
  have ho:=h.op
  have ha:=h.a
  have hb:=h.b
  refine ⟨small_wf (by simp [tmOf];omega) (by simp [tmOf];omega),small_wf (by simp [tmOf];omega) (by simp [tmOf];omega),small_wf (by simp [tmOf];omega) (by simp [tmOf];omega)⟩
theorem runN_twf {r:Int} {ns:List Nd} (hr:r≤64) (ok:∀ x∈ns,NodeOk r ns.length x):∀ (n:Nat) (s:St),(∀ c∈s.cts,twf c.t)→∀ c∈(runN ns n s).cts,twf c.t
 | 0,s,h=>h
 | n+1,s,h=>by
  simp only [runN]
  split
  ·exact h
  ·split
   ·rename_i x hx
    exact runN_twf hr ok n _ (stp_twf hr (ok _ (List.mem_of_getElem? hx)) h)
   ·exact h
theorem runN_succ {r:Int} {ns:List Nd} (ok:∀ x∈ns,NodeOk r ns.length x) (n:Nat) (s:St) (hs:s.pc<ns.length) (he:(runN ns n s).ended=false) {x:Nd} (hx:ns[(runN ns n s).pc]?=some x):runN ns (n+1) s=stp x (runN ns n s):=by
 rw [runN_add n 1 s (fun k _=>runN_pc ok k s hs)]
 simp [runN,he,hx]
theorem runN_stop {r:Int} {ns:List Nd} (ok:∀ x∈ns,NodeOk r ns.length x) (n m:Nat) (hnm:n≤m) (s:St) (hs:s.pc<ns.length) (he:(runN ns n s).ended=true):runN ns m s=runN ns n s:=by
 rw [show m=n+(m-n) by omega,runN_add n (m-n) s (fun k _=>runN_pc ok k s hs),runN_ended he]
def rerr (r:Int) (ns:List Nd) (il:Nat) (fuel:Int):Int:=if chk r ns=0 then if 256<il then 2 else if fuel<0∨131072<fuel then 3 else 0 else chk r ns
def fill5 (w:World) (b:Nat) (v0 v1 v2 v3 v4:Value):World:=((((w.setCell ⟨b,0,none⟩ v0).setCell ⟨b,1,none⟩ v1).setCell ⟨b,2,none⟩ v2).setCell ⟨b,3,none⟩ v3).setCell ⟨b,4,none⟩ v4
theorem fill5_blk {w:World} {b:Nat} {a0 a1 a2 a3 a4:Value} {t:TypeId} (h:w.heap[b]?=some (.cells #[a0,a1,a2,a3,a4] t (0,0))) (v0 v1 v2 v3 v4:Value):(fill5 w b v0 v1 v2 v3 v4).heap[b]?=some (.cells #[v0,v1,v2,v3,v4] t (0,0)):=by
 unfold fill5
 rw [blk_set v4 (blk_set v3 (blk_set v2 (blk_set v1 (blk_set v0 h))))]
 simp
theorem fill5_keeps (w:World) (b:Nat) (v0 v1 v2 v3 v4:Value):Keeps [b] w (fill5 w b v0 v1 v2 v3 v4):=(((((Keeps.refl [b] w).setCell (p:=⟨b,0,none⟩) (by simp) v0).setCell (p:=⟨b,1,none⟩) (by simp) v1).setCell (p:=⟨b,2,none⟩) (by simp) v2).setCell (p:=⟨b,3,none⟩) (by simp) v3).setCell (p:=⟨b,4,none⟩) (by simp) v4
theorem fill5_below {w:World} {b B:Nat} (hb:B≤b) (hB:B≤w.heap.size) (v0 v1 v2 v3 v4:Value):Below B w (fill5 w b v0 v1 v2 v3 v4):=by
 exact (fill5_keeps w b v0 v1 v2 v3 v4).below (by simp;omega) hB
theorem ret_cell {b:Nat} {v0 v1 v2 v3 v4:Value} {er:Int} {w:World} {tm:Array Value} {Q:Ending→World→Prop} (h:w.heap[b]?=some (.cells #[v0,v1,v2,v3,v4] 62 (0,0))) (h6:tm[6]?=some (.pointer (some ⟨b,0,none⟩))) (h7:tm[7]?=some (.int .i64 er))
 (hq:Q (.returned (.tuple #[.agg #[v0,v1,v2,v3,v4],.int .i64 er])) w):bodyPost Tryz.prog Tryz.f33 Q .ret ⟨tm,[]⟩ w:=by
 have c0:=blk_cell h 0
 have c1:=blk_cell h 1
 have c2:=blk_cell h 2
 have c3:=blk_cell h 3
 have c4:=blk_cell h 4
 simp at c0 c1 c2 c3 c4
 refine bodyPost_ret (v:=.tuple #[.agg #[v0,v1,v2,v3,v4],.int .i64 er]) ?_ rfl hq
 simp [results,Tryz.results33,go_sem,c0,c1,c2,c3,c4,h6,h7]
theorem run_wrong (r:Int) (a:Option Addr) (cap:Nat) (ns:List Nd) (ia:Option Addr) (il ic:Nat) (fuel:Int) (w:World) (hN:SlN w a ns) (hil:il≤9223372036854775807) (hw:rerr r ns il fuel≠0) :
 Calls Tryz.prog 33 #[.agg #[.int .i64 r,.slice a ns.length cap],.slice ia il ic,.int .i64 fuel] w fun e w' =>e=.returned (.tuple #[.agg #[.slice none 0 0,.int .i64 0,.bool false,.int .i64 0,.slice none 0 0],.int .i64 (rerr r ns il fuel)])∧Below w.heap.size w w' :=by
 go_enter Tryz.func33,Tryz.ntmps33
 go_wp2_with fail
 have hN1:SlN ((w.alloc (.cells #[.int .i64 r,.slice a ns.length cap] 24)).alloc (.cells #[.slice none 0 0,.int .i64 0,.bool false,.int .i64 0,.slice none 0 0] 62)) a ns:=hN.below (((Below.refl _ w).alloc (Nat.le_refl _) _).alloc (by simp) _)
 refine (check_any r a cap ns _ hN1).mono ?_
 rintro e w1 ⟨rfl,hb1⟩
 have hs1:=hb1.size
 simp only [World.size_alloc] at hs1 hb1
 have hB1:Below w.heap.size w w1:=(((Below.refl _ w).alloc (Nat.le_refl _) _).alloc (by simp) _).trans (hb1.mono (by omega))
 have hk:w1.heap[w.heap.size+1]?=some (.cells #[.slice none 0 0,.int .i64 0,.bool false,.int .i64 0,.slice none 0 0] 62 (0,0)):=by
  rw [hb1.block _ (by omega)]
  exact blk_new (by simp)
 have c0:=blk_cell hk 0
 have c1:=blk_cell hk 1
 have c2:=blk_cell hk 2
 have c3:=blk_cell hk 3
 have c4:=blk_cell hk 4
 have f0:=blk_frozen hk 0
 have f1:=blk_frozen hk 1
 have f2:=blk_frozen hk 2
 have f3:=blk_frozen hk 3
 have f4:=blk_frozen hk 4
 simp at c0 c1 c2 c3 c4
 have hsz:w.heap.size+1<w1.heap.size:=by omega
 have HK:=hide hk
 clear hk hb1 hN1
 have HB:=hide hB1
 clear hB1
 by_cases hc:chk r ns=0
 ·rw [hc]
  by_cases hi:256<il
  ·have hi' :(256:Int)<(il:Int):=by omega
   have HE:=hide (show rerr r ns il fuel=2 by simp [rerr,hc,hi])
   clear hc
   go_wp2
   have hk' :=fill5_blk HK.out (.slice none 0 0) (.int .i64 0) (.bool false) (.int .i64 0) (.slice none 0 0)
   refine ret_cell hk' rfl rfl ⟨by rw [HE.out],HB.out.trans (fill5_below (by omega) (by omega) _ _ _ _ _)⟩
  ·have hi' :¬ (256:Int)<(il:Int):=by omega
   have hf:fuel<0∨131072<fuel:=by
    unfold rerr at hw
    rw [if_pos hc,if_neg hi] at hw
    by_cases q:fuel<0∨131072<fuel
    ·exact q
    ·rw [if_neg q] at hw;exact absurd rfl hw
   have HE:=hide (show rerr r ns il fuel=3 by rw [rerr,if_pos hc,if_neg hi,if_pos hf])
   clear hc
   by_cases h0:fuel<0
   ·go_wp2
    have hk' :=fill5_blk HK.out (.slice none 0 0) (.int .i64 0) (.bool false) (.int .i64 0) (.slice none 0 0)
    refine ret_cell hk' rfl rfl ⟨by rw [HE.out],HB.out.trans (fill5_below (by omega) (by omega) _ _ _ _ _)⟩
   ·have h1:131072<fuel:=by omega
    go_wp2
    have hk' :=fill5_blk HK.out (.slice none 0 0) (.int .i64 0) (.bool false) (.int .i64 0) (.slice none 0 0)
    refine ret_cell hk' rfl rfl ⟨by rw [HE.out],HB.out.trans (fill5_below (by omega) (by omega) _ _ _ _ _)⟩
 ·have hcb:(chk r ns != 0)=true:=by simpa using hc
  have HE:=hide (show rerr r ns il fuel=chk r ns by simp [rerr,hc])
  generalize chk r ns=ch at *
  go_wp2
  have hk' :=fill5_blk HK.out (.slice none 0 0) (.int .i64 0) (.bool false) (.int .i64 0) (.slice none 0 0)
  refine ret_cell hk' rfl rfl ⟨by rw [HE.out],HB.out.trans (fill5_below (by omega) (by omega) _ _ _ _ _)⟩
def fin (r:Int) (ns:List Nd) (inp:List Int) (fuel:Int):St:=runN ns fuel.toNat (st0 r.toNat inp)
structure Start (B:Nat) (r:Int) (ns:List Nd) (inp:List Int) (nb noff cap:Nat) (ia:Option Addr) (ic:Nat) (w wx:World) (v9:Value):Prop where
 ma:∃ mb rb mp,v9=.pointer (some ⟨mb,0,none⟩)∧MA B (B+3) mb rb mp nb noff cap r.toNat ns wx (st0 r.toNat inp) (.slice none 0 0) ia ic 0 (.map [])
 below:Below B w wx
def PK (b:Nat) (v0 v1:Value) (u:World):Prop:=u.cell? ⟨b,0,none⟩=some v0∧u.cell? ⟨b,1,none⟩=some v1∧b<u.heap.size
theorem PK.drew {b:Nat} {v0 v1:Value} {u:World} (h:PK b v0 v1 u):PK b v0 v1 u.drew:=h
theorem PK.alloc {b:Nat} {v0 v1:Value} {u:World} (h:PK b v0 v1 u) (o:Obj):PK b v0 v1 (u.alloc o):=by
 obtain ⟨h0,h1,h2⟩:=h
 refine ⟨?_,?_,by simp;omega⟩
 ·rw [World.cell?_alloc_past _ _ _ (by omega)];exact h0
 ·rw [World.cell?_alloc_past _ _ _ (by omega)];exact h1
theorem three0 (w:World) (A B C:Obj):(((w.alloc A).alloc B).alloc C).drew.heap[w.heap.size]?=some A:=blk_drew (blk_alloc _ (blk_alloc _ (blk_new rfl)))
theorem three1 (w:World) (A B C:Obj):(((w.alloc A).alloc B).alloc C).drew.heap[w.heap.size+1]?=some B:=blk_drew (blk_alloc _ (blk_new (by simp)))
theorem three2 (w:World) (A B C:Obj):(((w.alloc A).alloc B).alloc C).drew.heap[w.heap.size+1+1]?=some C:=blk_drew (blk_new (by simp))
theorem three_below (w:World) (A B C:Obj):Below w.heap.size w (((w.alloc A).alloc B).alloc C).drew:=((((Below.refl _ w).alloc (Nat.le_refl _) _).alloc (by simp) _).alloc (by simp;omega) _).drew
theorem made_row (n:Nat):madeCells #[Value.int .i64 0] n=((List.replicate n (0:Int)).map (Value.int .i64)).toArray:=by
 apply Array.ext'
 rw [toList_madeCells_one]
 simp
theorem start_of {w1 wx:World} {B mb rb mp rn nb noff cap ic:Nat} {ns:List Nd} {inp:List Int} {ia:Option Addr} (hB:B≤w1.heap.size)
 (hm:wx.heap[mb]?=some (.cells #[.slice none 0 0,.int .i64 0,.bool false,.int .i64 0,.slice none 0 0,.slice (some ⟨nb,noff,none⟩) ns.length cap,.int .i64 0,.slice ia inp.length ic,.slice (some ⟨rb,0,none⟩) rn rn,.map (some mp)] 89 (0,0)))
 (hr:wx.heap[rb]?=some (.cells (madeCells #[.int .i64 0] rn) 3 (0,0))) (hp:wx.heap[mp]?=some (.map #[] 0))
 (hg:w1.heap.size≤mb∧w1.heap.size≤rb∧w1.heap.size≤mp∧mb<w1.heap.size+3∧rb<w1.heap.size+3∧mp<w1.heap.size+3∧mb≠rb∧mb≠mp∧rb≠mp)
 (hb:Below w1.heap.size w1 wx) (hs:w1.heap.size+3≤wx.heap.size) (hN:NodesAt w1 nb noff ns) (hI:InAt w1 B ia inp) (hic:inp.length≤ic) (hrn:rn≤64) :
 Start w1.heap.size rn ns inp nb noff cap ia ic w1 wx (.pointer (some ⟨mb,0,none⟩)):=by
 have hI' :InAt wx w1.heap.size ia inp:=by
  rcases hI with h | ⟨b,off,rfl,hlt,h⟩
  ·exact Or.inl h
  ·exact Or.inr ⟨b,off,rfl,by omega,fun j z hz=>by rw [hb.cell (p:=⟨b,_,none⟩) (by simp;omega)];exact h j z hz⟩
 have ho:wx.ownsMap Tryz.prog 26 (plainElem (H:=Unit) Tryz.prog 3) mp 0 (.map []):=by
  obtain ⟨es,clock,hb', F,hs', hD⟩:=World.ownsMap_made w1 Tryz.prog 26 (plainElem (H:=Unit) Tryz.prog 3)
  rw [blk_new rfl] at hb'
  cases hb'
  exact ⟨#[],0,hp,F,hs', hD⟩
 refine ⟨⟨mb,rb,mp,rfl,?_⟩,hb⟩
 exact {
  hm:=by simpa [st0] using hm
  hr:=by rw [hr,made_row];simp [st0]
  ho:=ho
  hout:=World.ownsRow_nil _ _ _ _
  hin:=hI'
  hic:=hic
  hN:=hN.below hb hN.lt
  hnb:=hN.lt
  geo:=hg
  hs:=hs
  hn:=Nat.zero_le _
  hst:=by simp [st0]
  hol:=by simp [st0]
  hrl:=by simp [st0];exact hrn
  rel:=⟨⟨_,rfl⟩,fun t ht z=>by simp [st0,ctOf];rfl⟩
  srt:=List.Pairwise.nil
  cb:=by simp [st0] }
theorem owns_val {w:World} {base:Nat} {e:TypeId} {size:Nat} {v:Value} {n:Nat} {xs:List Value} (h:w.ownsRow base e size v n xs):∃ a c,v=.slice a n c:=by
 rcases h.2 with ⟨q,rfl⟩ | ⟨g,cap,cur,q,_⟩
 ·exact ⟨_,_,q⟩
 ·exact ⟨_,_,q⟩
theorem run_ok (r:Int) (nb noff cap:Nat) (ns:List Nd) (ia:Option Addr) (ic:Nat) (inp:List Int) (fuel:Int) (w:World) (hN:NodesAt w nb noff ns) (hI:InAt w w.heap.size ia inp) (hic:inp.length≤ic) (hw:rerr r ns inp.length fuel=0) :
 Calls Tryz.prog 33 #[.agg #[.int .i64 r,.slice (some ⟨nb,noff,none⟩) ns.length cap],.slice ia inp.length ic,.int .i64 fuel] w fun e w' =>∃ vo vc,e=.returned (.tuple #[.agg #[vo,.int .i64 (fin r ns inp fuel).ret,.bool (fin r ns inp fuel).ended,.int .i64 (fin r ns inp fuel).steps,vc],.int .i64 0]) ∧
  w'.ownsRow w.heap.size 3 1 vo (fin r ns inp fuel).out.length ((fin r ns inp fuel).out.map (Value.int .i64))∧w'.ownsRow w.heap.size 92 4 vc (fin r ns inp fuel).cts.length ((fin r ns inp fuel).cts.flatMap encCt)∧Below w.heap.size w w' :=by
 have hc:chk r ns=0:=by
  by_cases hc:chk r ns=0
  ·exact hc
  ·rw [rerr,if_neg hc] at hw;exact hw
 have hi:¬ 256<inp.length:=by
  intro q;rw [rerr,if_pos hc,if_pos q] at hw;omega
 have hf:¬ (fuel<0∨131072<fuel):=by
  intro q;rw [rerr,if_pos hc,if_neg hi,if_pos q] at hw;omega
 have hf0:¬ fuel<0:=fun q=>hf (Or.inl q)
 have hf1:¬ 131072<fuel:=fun q=>hf (Or.inr q)
 have hi' :¬ (256:Int)<(inp.length:Int):=by omega
 have CZ:=hide (chk_zero hc)
 have hr1:1≤r∧r≤64:=CZ.out.2.1
 have hl1:1≤ns.length∧ns.length≤256:=CZ.out.1
 have OK:=hide (fun x hx=>node_ok hc (x:=x) hx)
 clear hf
 go_enter Tryz.func33,Tryz.ntmps33
 go_wp2_with fail
 have hb0:Below w.heap.size w ((w.alloc (.cells #[.int .i64 r,.slice (some ⟨nb,noff,none⟩) ns.length cap] 24)).alloc (.cells #[.slice none 0 0,.int .i64 0,.bool false,.int .i64 0,.slice none 0 0] 62)):=((Below.refl _ w).alloc (Nat.le_refl _) _).alloc (by simp) _
 refine (check_any r _ cap ns _ (Or.inr ⟨nb,noff,rfl,hN.below hb0 hN.lt⟩)).mono ?_
 rintro e w1 ⟨rfl,hb1⟩
 have hs1:=hb1.size
 simp only [World.size_alloc] at hs1 hb1
 have hB1:Below w.heap.size w w1:=hb0.trans (hb1.mono (by omega))
 have hp:w1.heap[w.heap.size]?=some (.cells #[.int .i64 r,.slice (some ⟨nb,noff,none⟩) ns.length cap] 24 (0,0)):=by
  rw [hb1.block _ (by omega)]
  exact blk_alloc _ (blk_new rfl)
 have hk:w1.heap[w.heap.size+1]?=some (.cells #[.slice none 0 0,.int .i64 0,.bool false,.int .i64 0,.slice none 0 0] 62 (0,0)):=by
  rw [hb1.block _ (by omega)]
  exact blk_new (by simp)
 have c0:=blk_cell hp 0
 have c1:=blk_cell hp 1
 simp at c0 c1
 have hsz:w.heap.size+1<w1.heap.size:=by omega
 have HK:=hide hk
 have HB:=hide hB1
 have HN:=hide (hN.below hB1 hN.lt)
 have HI:=hide (hI.below hB1)
 clear hk hb1 hb0 hB1 hN hI hp
 rw [hc]
 clear hc
 obtain ⟨rn,hrn⟩:=Int.eq_ofNat_of_zero_le (show 0≤r by omega)
 have hr64:rn≤64:=by omega
 have hrp:1≤rn:=by omega
 subst hrn
 go_wp2
 go_cut [9] from 27 to 34 (fun v9 wx=>Start w1.heap.size rn ns inp nb noff cap ia ic w1 wx v9)
 case first =>
  have hmk:∀ W:World,Sem.run Tryz.prog (Instr.makeMap 87 none) W=.ok (.map (some W.heap.size)) (W.alloc (.map #[] 0)):=fun W=>rfl
  have hms:∀ W:World,Sem.run Tryz.prog (Instr.makeSlice 54 (.int .i64 (rn:Int)) (.int .i64 (rn:Int))) W=.ok (.slice (some ⟨W.heap.size,0,none⟩) rn rn) (W.alloc (.cells (madeCells #[.int .i64 0] rn) 3)):=fun W=>run_make_row' 54 3 _ 8 Tryz.underlying54 info_int rfl .i64 .i64 rn (by omega) (by omega) W
  have PK1:=hide (show PK w.heap.size (.int .i64 (rn:Int)) (.slice (some ⟨nb,noff,none⟩) ns.length cap) w1 from ⟨c0,c1,by omega⟩)
  go_region_held3 (fun u=>u.cell? ⟨w.heap.size,0,none⟩=some (.int .i64 (rn:Int))∧u.cell? ⟨w.heap.size,1,none⟩=some (.slice (some ⟨nb,noff,none⟩) ns.length cap)∧w.heap.size<u.heap.size) (first | exact PK1.out | exact PK1.out.drew | exact (PK1.out.drew.alloc _) | exact ((PK1.out.drew.alloc _).alloc _) | exact (((PK1.out.drew.alloc _).alloc _).alloc _) | exact (PK1.out.alloc _).drew | exact ((PK1.out.alloc _).alloc _).drew | exact (((PK1.out.alloc _).alloc _).alloc _).drew) (fail)
  all_goals (go_wp2;go_meet)
  all_goals first
   | exact start_of (by omega) (three2 _ _ _ _) (three0 _ _ _ _) (three1 _ _ _ _) (by omega) (three_below _ _ _ _) (by simp) HN.out HI.out hic hr64
   | exact start_of (by omega) (three1 _ _ _ _) (three0 _ _ _ _) (three2 _ _ _ _) (by omega) (three_below _ _ _ _) (by simp) HN.out HI.out hic hr64
   | exact start_of (by omega) (three2 _ _ _ _) (three1 _ _ _ _) (three0 _ _ _ _) (by omega) (three_below _ _ _ _) (by simp) HN.out HI.out hic hr64
   | exact start_of (by omega) (three1 _ _ _ _) (three2 _ _ _ _) (three0 _ _ _ _) (by omega) (three_below _ _ _ _) (by simp) HN.out HI.out hic hr64
   | exact start_of (by omega) (three0 _ _ _ _) (three1 _ _ _ _) (three2 _ _ _ _) (by omega) (three_below _ _ _ _) (by simp) HN.out HI.out hic hr64
   | exact start_of (by omega) (three0 _ _ _ _) (three2 _ _ _ _) (three1 _ _ _ _) (by omega) (three_below _ _ _ _) (by simp) HN.out HI.out hic hr64
 case rest =>
  obtain ⟨⟨mb,rb,mp,rfl,M⟩,hBx⟩:=hcut
  have hkc:wc.heap[w.heap.size+1]?=some (.cells #[.slice none 0 0,.int .i64 0,.bool false,.int .i64 0,.slice none 0 0] 62 (0,0)):=by rw [hBx.block _ (by omega)];exact HK.out
  have HKc:=hide hkc
  have HBx:=hide hBx
  have HM:=hide M
  clear hkc M hBx c0 c1
  go_wp2
  go_loopw [] (fun wr=>∃ k v ia' ic' n D,MA w1.heap.size (w1.heap.size+3) mb rb mp nb noff cap rn ns wr (runN ns k (st0 rn inp)) v ia' ic' n D∧(runN ns k (st0 rn inp)).steps=k∧k≤fuel.toNat∧Below w1.heap.size w1 wr) (fun wr=>fuel.toNat-(intOf ((wr.cell? ⟨mb,3,none⟩).getD undef)).toNat)
  case atStart=>exact ⟨0,_,_,_,_,_,HM.out,rfl,Nat.zero_le _,HBx.out⟩
  case round =>
   obtain ⟨k,v,ia', ic', n,D,M,hst,hk,hB⟩:=hrel
   have hpc:=runN_pc OK.out k (st0 rn inp) (by simp [st0];omega)
   have hrg:(rn:Int)=(runN ns k (st0 rn inp)).regs.length:=by rw [runN_regs];simp [st0]
   have HW:=hide (runN_twf (r:=rn) (by omega) OK.out k (st0 rn inp) (by simp [st0]))
   have HS:=hide (fun x hx he=>runN_succ OK.out k (st0 rn inp) (by simp [st0];omega) he (x:=x) hx)
   have HF:=hide (fun he=>runN_stop OK.out k fuel.toNat hk (st0 rn inp) (by simp [st0];omega) he)
   have HFin:=hide (show fin rn ns inp fuel=runN ns fuel.toNat (st0 rn inp) by simp [fin])
   generalize hσ:runN ns k (st0 rn inp)=σ at M hst hpc hrg HW HS HF
   have HRG:=hide hrg
   clear hrg
   have Hσ:=hide hσ
   clear hσ
   have m2:=blk_cell M.hm 2
   have m3:=blk_cell M.hm 3
   have m9:=blk_cell M.hm 9
   simp at m2 m3 m9
   have HM1:=hide M
   have HB1:=hide hB
   have hBs:=hB.size
   have hme:=m3
   clear M hB
   cases he:σ.ended
   ·rw [he] at m2
    by_cases hlt:(σ.steps:Int)<fuel
    ·go_wp2_with fail
     obtain ⟨x,hx⟩:=get_lt hpc
     refine (step_any HM1.out hx hl1.2 (by omega) (OK.out x (List.mem_of_getElem? hx)) HRG.out).mono ?_
     rintro e w2 ⟨rfl,v', ia2,ic2,n2,D2,M2,hb2⟩
     have HS2:=hide (HS.out x hx he)
     have HM2:=hide M2
     have HB2:=hide (HB1.out.trans hb2)
     clear M2 hb2 m2 m3 m9 hx
     go_wp2
     go_roundw
     case rel=>exact ⟨k+1,v', ia2,ic2,n2,D2,by rw [HS2.out];exact HM2.out,by rw [HS2.out,stp_steps,hst],by omega,HB2.out⟩
     case measure =>
      have q:=blk_cell HM2.out.hm 3
      simp at q
      rw [q,hme]
      simp [intOf,stp_steps]
      omega
    ·have hlt' :fuel≤(σ.steps:Int):=by omega
     go_wp2_with fail
     have hfin:fin rn ns inp fuel=σ:=by
      rw [HFin.out]
      rw [show fuel.toNat=k by omega];exact Hσ.out
     have HZ:=hide hfin
     clear hfin
     refine (counts_any sorts_ct mp n D σ.cts wr HM1.out.ho HM1.out.rel HM1.out.srt HW.out (by have:=HM1.out.hn;have:=HM1.out.hst;omega)).mono ?_
     rintro e w3 ⟨vc,rfl,hoc,hb3⟩
     obtain ⟨av,cv,rfl⟩:=owns_val hoc
     have hs3:=hb3.size
     have hmlt:=blk_lt HM1.out.hm
     have hm3:w3.heap[mb]?=_:=(hb3.block mb hmlt).trans HM1.out.hm
     have hk3:w3.heap[w.heap.size+1]?=some (.cells #[.slice none 0 0,.int .i64 0,.bool false,.int .i64 0,.slice none 0 0] 62 (0,0)):=by
      rw [hb3.block _ (by omega),HB1.out.block _ (by omega)];exact HK.out
     have ho3:=ownsRow_below HM1.out.hout hb3 (by omega)
     have HFX:=hide (And.intro hm3 (And.intro hk3 (And.intro ho3 (And.intro hoc hb3))))
     have d4:=blk_cell hm3 4
     have g4:=blk_frozen hm3 4
     simp at d4
     clear hm3 hk3 ho3 hoc hb3 m2 m3 m9 hme
     go_upto_region 12 with fail
     have hm4:=blk_set (i:=4) (.slice av σ.cts.length cv) HFX.out.1
     have hne:w.heap.size+1≠mb:=by have:=HM1.out.geo;omega
     have hk4:=blk_set_ne (i:=4) (.slice av σ.cts.length cv) HFX.out.2.1 hne
     have ho4:=(ownsRow_below (B:=w3.heap.size) HFX.out.2.2.1 (Below.refl _ _) (Nat.le_refl _))
     have K4:Keeps [mb] w3 (w3.setCell ⟨mb,4,none⟩ (.slice av σ.cts.length cv)):=(Keeps.refl [mb] w3).setCell (p:=⟨mb,4,none⟩) (by simp) _
     have ho5:=K4.owns HFX.out.2.2.1 (by have:=HM1.out.geo;simp;omega)
     have ho6:=K4.owns HFX.out.2.2.2.1 (by simp;omega)
     have hB4:Below w.heap.size w (w3.setCell ⟨mb,4,none⟩ (.slice av σ.cts.length cv)):=HB.out.trans ((HB1.out.mono (by omega)).trans ((HFX.out.2.2.2.2.mono (by omega)).trans (K4.below (by have:=HM1.out.geo;simp;omega) (by omega))))
     simp at hm4
     have d0:=blk_cell hm4 0
     have d1:=blk_cell hm4 1
     have d2:=blk_cell hm4 2
     have d3:=blk_cell hm4 3
     have d4' :=blk_cell hm4 4
     have e0:=blk_cell hk4 0
     have e1:=blk_cell hk4 1
     have e2:=blk_cell hk4 2
     have e3:=blk_cell hk4 3
     have e4:=blk_cell hk4 4
     have f0:=blk_frozen hk4 0
     have f1:=blk_frozen hk4 1
     have f2:=blk_frozen hk4 2
     have f3:=blk_frozen hk4 3
     have f4:=blk_frozen hk4 4
     simp only [List.getElem?_toArray,List.getElem?_cons_zero,List.getElem?_cons_succ] at d0 d1 d2 d3 d4' e0 e1 e2 e3 e4
     have HY:=hide (And.intro hk4 (And.intro ho5 (And.intro ho6 hB4)))
     clear hm4 hk4 ho4 K4 ho5 ho6 hB4 d4 g4
     generalize w3.setCell ⟨mb,4,none⟩ (.slice av σ.cts.length cv)=W4 at *
     obtain ⟨ao,co,hvo⟩:=owns_val HY.out.2.1
     subst hvo
     go_wp2
     refine ret_cell (fill5_blk HY.out.1 _ _ _ _ _) rfl rfl ?_
     rw [HZ.out]
     have KF:=fill5_keeps W4 (w.heap.size+1) (.slice ao σ.out.length co) (.int .i64 σ.ret) (.bool false) (.int .i64 (k:Int)) (.slice av σ.cts.length cv)
     exact ⟨_,_,by rw [he,hst],ownsRow_base (KF.owns HY.out.2.1 (by simp;omega)) (by omega),ownsRow_base (KF.owns HY.out.2.2.1 (by simp;omega)) (by omega),HY.out.2.2.2.trans (KF.below (by simp) HY.out.2.2.2.size)⟩
   ·rw [he] at m2
    go_wp2_with fail
    have hfin:fin rn ns inp fuel=σ:=by
     rw [HFin.out]
     rw [HF.out he]
    have HZ:=hide hfin
    clear hfin
    refine (counts_any sorts_ct mp n D σ.cts wr HM1.out.ho HM1.out.rel HM1.out.srt HW.out (by have:=HM1.out.hn;have:=HM1.out.hst;omega)).mono ?_
    rintro e w3 ⟨vc,rfl,hoc,hb3⟩
    obtain ⟨av,cv,rfl⟩:=owns_val hoc
    have hs3:=hb3.size
    have hmlt:=blk_lt HM1.out.hm
    have hm3:w3.heap[mb]?=_:=(hb3.block mb hmlt).trans HM1.out.hm
    have hk3:w3.heap[w.heap.size+1]?=some (.cells #[.slice none 0 0,.int .i64 0,.bool false,.int .i64 0,.slice none 0 0] 62 (0,0)):=by
     rw [hb3.block _ (by omega),HB1.out.block _ (by omega)];exact HK.out
    have ho3:=ownsRow_below HM1.out.hout hb3 (by omega)
    have HFX:=hide (And.intro hm3 (And.intro hk3 (And.intro ho3 (And.intro hoc hb3))))
    have d4:=blk_cell hm3 4
    have g4:=blk_frozen hm3 4
    simp at d4
    clear hm3 hk3 ho3 hoc hb3 m2 m3 m9 hme
    go_upto_region 12 with fail
    have hm4:=blk_set (i:=4) (.slice av σ.cts.length cv) HFX.out.1
    have hne:w.heap.size+1≠mb:=by have:=HM1.out.geo;omega
    have hk4:=blk_set_ne (i:=4) (.slice av σ.cts.length cv) HFX.out.2.1 hne
    have ho4:=(ownsRow_below (B:=w3.heap.size) HFX.out.2.2.1 (Below.refl _ _) (Nat.le_refl _))
    have K4:Keeps [mb] w3 (w3.setCell ⟨mb,4,none⟩ (.slice av σ.cts.length cv)):=(Keeps.refl [mb] w3).setCell (p:=⟨mb,4,none⟩) (by simp) _
    have ho5:=K4.owns HFX.out.2.2.1 (by have:=HM1.out.geo;simp;omega)
    have ho6:=K4.owns HFX.out.2.2.2.1 (by simp;omega)
    have hB4:Below w.heap.size w (w3.setCell ⟨mb,4,none⟩ (.slice av σ.cts.length cv)):=HB.out.trans ((HB1.out.mono (by omega)).trans ((HFX.out.2.2.2.2.mono (by omega)).trans (K4.below (by have:=HM1.out.geo;simp;omega) (by omega))))
    simp at hm4
    have d0:=blk_cell hm4 0
    have d1:=blk_cell hm4 1
    have d2:=blk_cell hm4 2
    have d3:=blk_cell hm4 3
    have d4' :=blk_cell hm4 4
    have e0:=blk_cell hk4 0
    have e1:=blk_cell hk4 1
    have e2:=blk_cell hk4 2
    have e3:=blk_cell hk4 3
    have e4:=blk_cell hk4 4
    have f0:=blk_frozen hk4 0
    have f1:=blk_frozen hk4 1
    have f2:=blk_frozen hk4 2
    have f3:=blk_frozen hk4 3
    have f4:=blk_frozen hk4 4
    simp only [List.getElem?_toArray,List.getElem?_cons_zero,List.getElem?_cons_succ] at d0 d1 d2 d3 d4' e0 e1 e2 e3 e4
    have HY:=hide (And.intro hk4 (And.intro ho5 (And.intro ho6 hB4)))
    clear hm4 hk4 ho4 K4 ho5 ho6 hB4 d4 g4
    generalize w3.setCell ⟨mb,4,none⟩ (.slice av σ.cts.length cv)=W4 at *
    obtain ⟨ao,co,hvo⟩:=owns_val HY.out.2.1
    subst hvo
    go_wp2
    refine ret_cell (fill5_blk HY.out.1 _ _ _ _ _) rfl rfl ?_
    rw [HZ.out]
    have KF:=fill5_keeps W4 (w.heap.size+1) (.slice ao σ.out.length co) (.int .i64 σ.ret) (.bool true) (.int .i64 (k:Int)) (.slice av σ.cts.length cv)
    exact ⟨_,_,by rw [he,hst],ownsRow_base (KF.owns HY.out.2.1 (by simp;omega)) (by omega),ownsRow_base (KF.owns HY.out.2.2.1 (by simp;omega)) (by omega),HY.out.2.2.2.trans (KF.below (by simp) HY.out.2.2.2.size)⟩
end Go.Proofs.YtnbdnbcnlgnicaaGreat
namespace Go.Proofs.YtnbdnbcnlgnicaaGreat
open Go.RowKit
def CtsAt (w:World) (a:Option Addr) (l:List Ct):Prop :=
 l=[]∨∃ b off,a=some ⟨b,off,none⟩∧b<w.heap.size∧∀ (j:Nat) (c:Ct),l[j]?=some c→w.cell? ⟨b,off+j*4,none⟩=some (.int .i64 c.t.op)∧w.cell? ⟨b,off+j*4+1,none⟩=some (.int .i64 c.t.a)∧w.cell? ⟨b,off+j*4+2,none⟩=some (.int .i64 c.t.b)∧w.cell? ⟨b,off+j*4+3,none⟩=some (.int .i64 c.n)
theorem CtsAt.below {w w' :World} {a:Option Addr} {l:List Ct} (h:CtsAt w a l) (hb:Below w.heap.size w w'):CtsAt w' a l:=by
 rcases h with h | ⟨b,off,rfl,hlt,h⟩
 ·exact Or.inl h
 ·refine Or.inr ⟨b,off,rfl,Nat.lt_of_lt_of_le hlt hb.size,fun j t ht=>?_⟩
  rw [hb.cell (p:=⟨b,_,none⟩) hlt,hb.cell (p:=⟨b,_,none⟩) hlt,hb.cell (p:=⟨b,_,none⟩) hlt,hb.cell (p:=⟨b,_,none⟩) hlt]
  exact h j t ht
theorem CtsAt.at {w:World} {a:Option Addr} {l:List Ct} (h:CtsAt w a l) {k:Nat} {c:Ct} (hk:l[k]?=some c):∃ b off,a=some ⟨b,off,none⟩∧b<w.heap.size∧w.cell? ⟨b,off+k*4,none⟩=some (.int .i64 c.t.op)∧w.cell? ⟨b,off+k*4+1,none⟩=some (.int .i64 c.t.a)∧w.cell? ⟨b,off+k*4+2,none⟩=some (.int .i64 c.t.b)∧w.cell? ⟨b,off+k*4+3,none⟩=some (.int .i64 c.n):=by
 rcases h with h | ⟨b,off,rfl,hlt,h⟩
 ·subst h;simp at hk
 ·exact ⟨b,off,rfl,hlt,h k c hk⟩
theorem cts_of_owns {w:World} {base:Nat} {e:TypeId} {v:Value} {l:List Ct} (h:w.ownsRow base e 4 v l.length (l.flatMap encCt)):∃ a cap,v=.slice a l.length cap∧CtsAt w a l:=by
 have hc:∀ g,v.ownBlock=some g→∀ j u,(l.flatMap encCt)[j]?=some u→w.cell? ((⟨g,0,none⟩:Addr).add j)=some u:=fun g hg=>h.cells hg
 obtain ⟨_,h⟩:=h
 rcases h with ⟨rfl,h0⟩ | ⟨g,cap,cur,rfl,h1,h2,h3,h4,h5,h6⟩
 ·have:l=[]:=List.eq_nil_of_length_eq_zero h0
  subst this
  exact ⟨none,0,rfl,Or.inl rfl⟩
 ·refine ⟨_,cap,rfl,Or.inr ⟨g,0,rfl,(Array.getElem?_eq_some_iff.1 h2).1,?_⟩⟩
  intro j t ht
  have e:∀ i,(⟨g,0,none⟩:Addr).add i=⟨g,0+i,none⟩:=by intro i;cases i <;> simp [Addr.add]
  have f:∀ i,i<4→∀ u,(encCt t)[i]?=some u→w.cell? ⟨g,0+(j*4+i),none⟩=some u:=by
   intro i hi u hu
   have:=hc g rfl (j*4+i) u (by rw [flat4 l j i t ht hi];exact hu)
   rwa [e] at this
  exact ⟨f 0 (by omega) _ rfl,f 1 (by omega) _ rfl,f 2 (by omega) _ rfl,f 3 (by omega) _ rfl⟩
def tmo (l:List Ct) (t:Tm):Int:=(ctOf l t).getD 0
theorem ctOf_split {l:List Ct} {t:Tm} {k:Nat} {c:Ct} (h:∀ d∈l.take k,d.t≠t) (hk:l[k]?=some c) (hc:c.t=t):ctOf l t=some c.n:=by
 induction l generalizing k with
 | nil=>simp at hk
 | cons d l ih =>
  cases k with
  | zero=>simp at hk;subst hk;rw [ctOf_cons,if_pos hc]
  | succ k =>
   simp at hk
   rw [ctOf_cons,if_neg (h d (by simp)),ih (k:=k) (fun e he=>h e (by simp [he])) hk]
theorem ctOf_not {l:List Ct} {t:Tm} (h:∀ d∈l,d.t≠t):ctOf l t=none:=by
 induction l with
 | nil=>rfl
 | cons d l ih=>rw [ctOf_cons,if_neg (h d (by simp)),ih fun e he=>h e (by simp [he])]
theorem take_more {l:List Ct} {t:Tm} {k:Nat} {c:Ct} (h:∀ d∈l.take k,d.t≠t) (hk:l[k]?=some c) (hc:c.t≠t):∀ d∈l.take (k+1),d.t≠t:=by
 rw [List.take_add_one,hk]
 intro d hd
 rw [List.mem_append] at hd
 rcases hd with hd | hd
 ·exact h d hd
 ·simp at hd;subst hd;exact hc
theorem times_any (v0 v1 v2 v3:Value) (a:Option Addr) (cap:Nat) (l:List Ct) (t:Tm) (w:World) (hC:CtsAt w a l) (hl:l.length≤9223372036854775807) :
 Calls Tryz.prog 34 #[.agg #[v0,v1,v2,v3,.slice a l.length cap],.agg #[.int .i64 t.op,.int .i64 t.a,.int .i64 t.b]] w fun e w' =>e=.returned (.int .i64 (tmo l t))∧Below w.heap.size w w' :=by
 go_enter Tryz.func34,Tryz.ntmps34
 go_wp2
 have hb0:Below w.heap.size w ((w.alloc (.cells #[v0,v1,v2,v3,.slice a l.length cap] 62)).alloc (.cells #[.int .i64 t.op,.int .i64 t.a,.int .i64 t.b] 26)):=((Below.refl _ w).alloc (Nat.le_refl _) _).alloc (by simp) _
 have hs0:((w.alloc (.cells #[v0,v1,v2,v3,.slice a l.length cap] 62)).alloc (.cells #[.int .i64 t.op,.int .i64 t.a,.int .i64 t.b] 26)).heap.size=w.heap.size+2:=by simp
 have hk0:((w.alloc (.cells #[v0,v1,v2,v3,.slice a l.length cap] 62)).alloc (.cells #[.int .i64 t.op,.int .i64 t.a,.int .i64 t.b] 26)).heap[w.heap.size+1]?=some (.cells #[.int .i64 t.op,.int .i64 t.a,.int .i64 t.b] 26 (0,0)):=blk_new (by simp)
 generalize (w.alloc (.cells #[v0,v1,v2,v3,.slice a l.length cap] 62)).alloc (.cells #[.int .i64 t.op,.int .i64 t.a,.int .i64 t.b] 26)=W0 at hb0 hs0 hk0 ⊢
 have HC:=hide (hC.below hb0)
 clear hC
 go_loopw [10] (fun i wr=>∃ k:Nat,k≤l.length∧i=.int .i64 k∧(∀ d∈l.take k,d.t≠t)∧Below W0.heap.size W0 wr) (fun i _=>l.length-(intOf i).toNat)
 case atStart=>exact ⟨0,Nat.zero_le _,rfl,by simp,Below.refl _ _⟩
 case round =>
  obtain ⟨k,hk,rfl,hn,hb⟩:=hrel
  have HN:=hide hn
  clear hn
  have t0:wr.cell? ⟨w.heap.size+1,0,none⟩=some (.int .i64 t.op):=by rw [hb.cell (p:=⟨w.heap.size+1,0,none⟩) (by simp;omega),blk_cell hk0];rfl
  have t1:wr.cell? ⟨w.heap.size+1,1,none⟩=some (.int .i64 t.a):=by rw [hb.cell (p:=⟨w.heap.size+1,1,none⟩) (by simp;omega),blk_cell hk0];rfl
  have t2:wr.cell? ⟨w.heap.size+1,2,none⟩=some (.int .i64 t.b):=by rw [hb.cell (p:=⟨w.heap.size+1,2,none⟩) (by simp;omega),blk_cell hk0];rfl
  have hsr:=hb.size
  have hBw:Below w.heap.size w wr:=hb0.trans (hb.mono hb0.size)
  have HB:=hide hBw
  have HBr:=hide hb
  have hwr:w.heap.size+1<wr.heap.size:=by omega
  clear hb hBw hk0
  by_cases hlt:k<l.length
  ·obtain ⟨c,hc⟩:∃ c,l[k]?=some c:=⟨l[k],List.getElem?_eq_getElem hlt⟩
   obtain ⟨b,off,rfl,hbl,c0,c1,c2,c3⟩:=(HC.out.below HBr.out).at hc
   have hlt' :(k:Int)<(l.length:Int):=by omega
   by_cases e:c.t=t
   ·subst e
    go_wp2
    go_ret
    refine ⟨ret_int ?_,HB.out.alloc (by omega) _⟩
    rw [tmo,ctOf_split HN.out hc rfl];rfl
   ·have HE:=hide e
    have HX:=hide hc
    clear e hc
    go_wp2
    all_goals first
     | refine ⟨⟨k+1,by omega,by go_num,take_more HN.out HX.out HE.out,HBr.out.alloc (by omega) _⟩,by simp [intOf];omega⟩
     | skip
    exfalso
    apply HE.out
    cases t;cases hct:c.t
    simp_all
  ·have hlt' :¬ (k:Int)<(l.length:Int):=by omega
   go_wp2
   go_ret
   refine ⟨ret_int ?_,HB.out⟩
   rw [tmo,ctOf_not (fun d hd=>HN.out d (by rw [List.take_of_length_le (by omega)];exact hd))]
   rfl
theorem in_two {w:World} {b:Nat} {x y:Int} (hb:b<w.heap.size) (h0:w.cell? ⟨b,0,none⟩=some (.int .i64 x)) (h1:w.cell? ⟨b,1,none⟩=some (.int .i64 y)):InAt w w.heap.size (some ⟨b,0,none⟩) [x,y]:=by
 refine Or.inr ⟨b,0,rfl,hb,?_⟩
 intro j z hz
 match j,hz with
 | 0,hz=>simp at hz;subst hz;exact h0
 | 1,hz=>simp at hz;subst hz;exact h1
 | j+2,hz=>simp at hz
theorem run_fit (r:Int) (nb noff cap:Nat) (ns:List Nd) (ia:Option Addr) (ic:Nat) (inp:List Int) (fuel:Int) (w:World) (hN:NodesAt w nb noff ns) (hI:InAt w w.heap.size ia inp) (hic:inp.length≤ic) (hw:rerr r ns inp.length fuel=0) :
 Calls Tryz.prog 33 #[.agg #[.int .i64 r,.slice (some ⟨nb,noff,none⟩) ns.length cap],.slice ia inp.length ic,.int .i64 fuel] w fun e w' =>∃ ao co ac cc,e=.returned (.tuple #[.agg #[.slice ao (fin r ns inp fuel).out.length co,.int .i64 (fin r ns inp fuel).ret,.bool (fin r ns inp fuel).ended,.int .i64 (fin r ns inp fuel).steps,.slice ac (fin r ns inp fuel).cts.length cc],.int .i64 0]) ∧
  IntsAt w' ao (fin r ns inp fuel).out∧CtsAt w' ac (fin r ns inp fuel).cts∧Below w.heap.size w w' ∧(fin r ns inp fuel).out.length≤co∧∀ (A:List Nat) (u:World),Keeps A w' u→(∀ x∈A,x<w.heap.size)→IntsAt u ao (fin r ns inp fuel).out∧CtsAt u ac (fin r ns inp fuel).cts:=by
 refine (run_ok r nb noff cap ns ia ic inp fuel w hN hI hic hw).mono ?_
 rintro e w' ⟨vo,vc,rfl,h1,h2,hb⟩
 have hle:∀ a c,vo=.slice a (fin r ns inp fuel).out.length c→(fin r ns inp fuel).out.length≤c:=by
  intro a c hv
  rcases h1.2 with ⟨q,h0⟩ | ⟨g,cap', cur,q,_,_,q2,_⟩
  ·omega
  ·rw [q] at hv;injection hv with e1 e2 e3;omega
 obtain ⟨ao,co,rfl,hI'⟩:=ints_of_owns h1
 obtain ⟨ac,cc,rfl,hC⟩:=cts_of_owns h2
 refine ⟨ao,co,ac,cc,rfl,hI', hC,hb,hle _ _ rfl,fun A u K hA=>?_⟩
 obtain ⟨a1,c1,e1,hI1⟩:=ints_of_owns (K.owns h1 hA)
 obtain ⟨a2,c2,e2,hC2⟩:=cts_of_owns (K.owns h2 hA)
 injection e1 with e1
 injection e2 with e2
 subst e1 e2
 exact ⟨hI1,hC2⟩
theorem times_lit {w0:World} (v0 v1 v2 v3:Value) (a:Option Addr) (cap:Nat) (n:Int) (W:World) (hC:CtsAt w0 a [⟨⟨3,0,1⟩,n⟩]) (hB:Below w0.heap.size w0 W) :
 Calls Tryz.prog 34 #[.agg #[v0,v1,v2,v3,.slice a 1 cap],.agg #[.int .i64 3,.int .i64 0,.int .i64 1]] W fun e w' =>e=.returned (.int .i64 n)∧Below w0.heap.size w0 w' :=by
 refine (times_any v0 v1 v2 v3 a cap [⟨⟨3,0,1⟩,n⟩] ⟨3,0,1⟩ W (hC.below hB) (by simp)).mono ?_
 rintro e w' ⟨rfl,hb⟩
 exact ⟨by simp [tmo,ctOf],hB.trans (hb.mono hB.size)⟩
end Go.Proofs.YtnbdnbcnlgnicaaGreat
namespace Go.Proofs.YtnbdnbcnlgnicaaGreat
open Go.RowKit Go.Shelf
theorem reach_err (r:Int) (a:Option Addr) (cap:Nat) (ns:List Nd) (w:World) (hN:SlN w a ns) (hc:chk r ns≠0) :
 Calls Tryz.prog 84 #[.agg #[.int .i64 r,.slice a ns.length cap]] w fun e w' =>e=.returned (.tuple #[.slice none 0 0,.int .i64 (chk r ns)])∧Below w.heap.size w w' :=by
 have hb0:Below w.heap.size w (w.alloc (.cells #[.int .i64 r,.slice a ns.length cap] 24)):=(Below.refl _ w).alloc (Nat.le_refl _) _
 have hck:=check_any r a cap ns _ (hN.below hb0)
 have hcb:(chk r ns != 0)=true:=by simpa using hc
 have HCK:=hide hck
 clear hck hc
 generalize chk r ns=c at hcb HCK ⊢
 go_enter Tryz.func84,Tryz.ntmps84
 go_wp2_with fail
 refine HCK.out.mono ?_
 rintro e w1 ⟨rfl,hb1⟩
 have hs1:=hb1.size
 simp only [World.size_alloc] at hs1 hb1
 have hB1:Below w.heap.size w w1:=hb0.trans (hb1.mono (by omega))
 go_wp2
 go_ret2
 exact ⟨rfl,hB1⟩
theorem reach_any (r:Int) (b off cap:Nat) (ns:List Nd) (w:World) (hN:NodesAt w b off ns) (hc:chk r ns=0) :
 Calls Tryz.prog 84 #[.agg #[.int .i64 r,.slice (some ⟨b,off,none⟩) ns.length cap]] w fun e w' =>∃ v,e=.returned (.tuple #[v,.int .i64 0])∧w'.ownsRow w.heap.size 4 1 v ns.length ((rchL ns).map Value.bool)∧Below w.heap.size w w' :=
 callsIn_wide.1 (reach_ok r b off cap ns w hN hc)
theorem trim_err (r:Int) (a:Option Addr) (cap:Nat) (ns:List Nd) (w:World) (hN:SlN w a ns) (hc:chk r ns≠0) :
 Calls Tryz.prog 56 #[.agg #[.int .i64 r,.slice a ns.length cap]] w fun e w' =>e=.returned (.tuple #[.agg #[.int .i64 0,.slice none 0 0],.int .i64 (chk r ns)])∧Below w.heap.size w w' :=by
 have hb0:Below w.heap.size w ((w.alloc (.cells #[.int .i64 r,.slice a ns.length cap] 24)).alloc (.cells #[.int .i64 0,.slice none 0 0] 24)):=((Below.refl _ w).alloc (Nat.le_refl _) _).alloc (by simp) _
 have hck:=reach_err r a cap ns _ (hN.below hb0) hc
 have hcb:(chk r ns != 0)=true:=by simpa using hc
 have HCK:=hide hck
 clear hck hc
 generalize chk r ns=c at hcb HCK ⊢
 go_enter Tryz.func56,Tryz.ntmps56
 go_wp2_with fail
 refine HCK.out.mono ?_
 rintro e w1 ⟨rfl,hb1⟩
 have hs1:=hb1.size
 have hk:w1.heap[w.heap.size+1]?=some (.cells #[.int .i64 0,.slice none 0 0] 24 (0,0)):=by
  rw [hb1.block _ (by simp)]
  have:=World.alloc_heap_new (w.alloc (.cells #[.int .i64 r,.slice a ns.length cap] 24)) (.cells #[.int .i64 0,.slice none 0 0] 24)
  rwa [World.size_alloc] at this
 simp only [World.size_alloc] at hs1 hb1
 have hB1:Below w.heap.size w w1:=hb0.trans (hb1.mono (by omega))
 have z0:=blk_cell hk 0
 have z1:=blk_cell hk 1
 have f0:=blk_frozen hk 0
 have f1:=blk_frozen hk 1
 simp at z0 z1
 go_wp2
 refine bodyPost_ret (v:=.tuple #[.agg #[.int .i64 0,.slice none 0 0],.int .i64 c]) ?_ rfl ⟨rfl,(hB1.setCell (p:=⟨w.heap.size+1,0,none⟩) (by simp) _).setCell (p:=⟨w.heap.size+1,1,none⟩) (by simp) _⟩
 have hk2:((w1.setCell ⟨w.heap.size+1,0,none⟩ (.int .i64 0)).setCell ⟨w.heap.size+1,1,none⟩ (.slice none 0 0)).heap[w.heap.size+1]?=some (.cells #[.int .i64 0,.slice none 0 0] 24 (0,0)):=by
  rw [blk_set _ (blk_set _ hk)];simp
 have y0:=blk_cell hk2 0
 have y1:=blk_cell hk2 1
 simp at y0 y1
 simp [results,Tryz.results56,go_sem,y0,y1]
end Go.Proofs.YtnbdnbcnlgnicaaGreat
