/-
  Of the proof of WholeSame: PJ, L, PK, NC.
-/
import Derived.Test.YtkkolclmfcmfbaaGreatDoorW1
import Derived.Test.YtkkolclmfcmfbaaGreatDoorW2
import Derived.Test.YtkkolclmfcmfbaaGreatDoorW8
import Derived.Test.YtkkolclmfcmfbaaGreatDoorW9
import Derived.Test.YtkkolclmfcmfbaaGreatDoorW13
import Derived.Laws.StructEq
import Derived.Laws.BitsAllLaws
import Derived.RangeFuncBox
import Derived.Deep.Upon
import Derived.Deep.RegionHeld3
import Derived.Deep.DeepCutAuto
set_option linter.unusedVariables false
set_option linter.unusedSimpArgs false
set_option maxHeartbeats 40000000
namespace Go.Proofs.YtkkolclmfcmfbaaGreatDoor
open Go.RowKit Go.Shelf
theorem tchk_tmE {r:Int} {ns:List Nd} (hc:chk r ns=0) (t:Tm):tchk r ns t=tmE r t:=by
 unfold tchk tmE
 rw [if_pos hc]
def OneSays (r:Int) (ns:List Nd) (t:Tm) (w:World) (e:Ending) (w' :World):Prop :=
 (oneE r ns t≠0∧e=.returned (.tuple #[.agg #[.int .i64 0,.slice none 0 0],.int .i64 (oneE r ns t)]) ∨
  oneE r ns t=0∧∃ gb gc,e=.returned (.tuple #[.agg #[.int .i64 (oneR ns t r),.slice (some ⟨gb,0,none⟩) (oneN ns t r).length gc],.int .i64 0])∧w'.ownsRow w.heap.size 48 6 (.slice (some ⟨gb,0,none⟩) (oneN ns t r).length gc) (oneN ns t r).length ((oneN ns t r).flatMap encNd))∧Below w.heap.size w w'
theorem one_any (r:Int) (a:Option Addr) (cap:Nat) (ns:List Nd) (t:Tm) (w:World) (hN:SlN w a ns) :
 Calls Tryz.prog 53 #[.agg #[.int .i64 r,.slice a ns.length cap],.agg #[.int .i64 t.op,.int .i64 t.a,.int .i64 t.b]] w (OneSays r ns t w):=by
 by_cases hc:chk r ns=0
 ·obtain ⟨b,off,rfl,hNb⟩:=hN.some (chk_zero hc).1.1
  by_cases hl:(oneQ ns).length≤256
  ·have hcs:=split_chk (trim_chk hc) hl
   have htc:tchk r (oneQ ns) t=tmE r t:=tchk_tmE hcs t
   by_cases ht:tmE r t=0
   ·cases hb:oneB ns t
    ·have e0:oneE r ns t=0:=by
      unfold oneE
      rw [if_neg (by simp [hc]),if_neg (by omega),if_neg (by simp [ht]),if_neg (by simp [hb])]
     have e1:oneN ns t r=ns:=by unfold oneN;rw [hb];rfl
     have e2:oneR ns t r=r:=by unfold oneR;rw [hb];rfl
     refine (one_same r b off cap ns t w hNb hc hl (by rw [htc];exact ht) hb).mono ?_
     rintro e w' ⟨gb,gc,rfl,hV,hB⟩
     refine ⟨Or.inr ⟨e0,gb,gc,?_,?_⟩,hB⟩
     ·rw [e1,e2]
     ·rw [e1];exact hV
    ·have e1:oneN ns t r=apN (oneQ ns) t (lazyPut (oneQ ns) t) (lazyTake (oneQ ns) t) r:=by unfold oneN;rw [hb];rfl
     have e2:oneR ns t r=r+1:=by unfold oneR;rw [hb];rfl
     refine (one_moved r b off cap ns t w hNb hc hl (by rw [htc];exact ht) hb).mono ?_
     rintro e w' ⟨h,hB⟩
     refine ⟨?_,hB⟩
     rw [← e1] at h
     rcases h with ⟨h1,rfl⟩ | ⟨h1,gb,gc,rfl,hV⟩
     ·have e0:oneE r ns t=2:=by
       unfold oneE
       rw [if_neg (by simp [hc]),if_neg (by omega),if_neg (by simp [ht]),if_pos ⟨hb,h1⟩]
      exact Or.inl ⟨by rw [e0];decide,by rw [e0]⟩
     ·have e0:oneE r ns t=0:=by
       unfold oneE
       rw [if_neg (by simp [hc]),if_neg (by omega),if_neg (by simp [ht]),if_neg (by rintro ⟨_,q⟩;omega)]
      exact Or.inr ⟨e0,gb,gc,by rw [e2],hV⟩
   ·have e0:oneE r ns t=tmE r t:=by
     unfold oneE
     rw [if_neg (by simp [hc]),if_neg (by omega),if_pos (by simpa using ht)]
    refine (one_term r b off cap ns t w hNb hc hl (by rw [htc];exact ht)).mono ?_
    rintro e w' ⟨rfl,hB⟩
    exact ⟨Or.inl ⟨by rw [e0];exact ht,by rw [e0,htc]⟩,hB⟩
  ·have e0:oneE r ns t=2:=by
    unfold oneE
    rw [if_neg (by simp [hc]),if_pos (by omega)]
   refine (one_many r b off cap ns t w hNb hc (by omega)).mono ?_
   rintro e w' ⟨rfl,hB⟩
   exact ⟨Or.inl ⟨by rw [e0];decide,by rw [e0]⟩,hB⟩
 ·have e0:oneE r ns t=chk r ns:=by
   unfold oneE
   rw [if_pos (by simpa using hc)]
  refine (one_wrong r a cap ns t w hN hc).mono ?_
  rintro e w' ⟨rfl,hB⟩
  exact ⟨Or.inl ⟨by rw [e0];exact hc,by rw [e0]⟩,hB⟩
theorem len_row {w:World} {base:Nat} {gb gc:Nat} {ms:List Nd} (h:w.ownsRow base 48 6 (.slice (some ⟨gb,0,none⟩) ms.length gc) ms.length (ms.flatMap encNd)) (hl:1≤ms.length):NodesAt w gb 0 ms:=nodes_ownM h hl
end Go.Proofs.YtkkolclmfcmfbaaGreatDoor
namespace Go.Proofs.YtkkolclmfcmfbaaGreatDoor
open Go.RowKit
def encTm (t:Tm):List Value:=[.int .i64 t.op,.int .i64 t.a,.int .i64 t.b]
theorem encTm_len (t:Tm):(encTm t).length=3:=rfl
theorem eqTm:EqlAt Tryz.prog 57 (fun x=>.agg (encTm x).toArray) (fun x y=>decide (x=y)):=by
 refine ⟨fun x y w=>?_,GuardAt.agg _ (by kernel_rfl)⟩
 have u3:=Tryz.underlying3
 have a3:=Tryz.isAgg3
 have z3:=Tryz.sizeOf3
 have hS:Tryz.prog.underlying 57=some (.struct (Tryz.prog.fieldsOf 57)):=by kernel_rfl
 have hp:Tryz.prog.stoodInHeld 57=false:=by kernel_rfl
 simp only [encTm]
 rw [run_eql_struct,show (10000:Nat)=9999+1 from rfl,run_equalIn_agg w 9999 57 _ _ hS hp]
 simp only [Program.fieldsOf,Tryz.underlying57]
 go_simp
 obtain ⟨x1,x2,x3⟩:=x
 obtain ⟨y1,y2,y3⟩:=y
 by_cases h1:x1=y1 <;> by_cases h2:x2=y2 <;> by_cases h3:x3=y3 <;> simp [h1,h2,h3]
def TermsAt (w:World) (a:Option Addr) (ts:List Tm):Prop :=
 ts=[]∨∃ b off,a=some ⟨b,off,none⟩∧b<w.heap.size∧∀ (j:Nat) (t:Tm),ts[j]?=some t→w.cell? ⟨b,off+j*3,none⟩=some (.int .i64 t.op)∧w.cell? ⟨b,off+j*3+1,none⟩=some (.int .i64 t.a)∧w.cell? ⟨b,off+j*3+2,none⟩=some (.int .i64 t.b)
theorem terms_of_owns {w:World} {base:Nat} {e:TypeId} {v:Value} {ts:List Tm} (h:w.ownsRow base e 3 v ts.length (ts.flatMap encTm)):∃ a cap,v=.slice a ts.length cap∧TermsAt w a ts:=by
 have hc:∀ g,v.ownBlock=some g→∀ j u,(ts.flatMap encTm)[j]?=some u→w.cell? ((⟨g,0,none⟩:Addr).add j)=some u:=fun g hg=>h.cells hg
 obtain ⟨_,h⟩:=h
 rcases h with ⟨rfl,h0⟩ | ⟨g,cap,cur,rfl,h1,h2,h3,h4,h5,h6⟩
 ·have:ts=[]:=List.eq_nil_of_length_eq_zero h0
  subst this
  exact ⟨none,0,rfl,Or.inl rfl⟩
 ·refine ⟨_,cap,rfl,Or.inr ⟨g,0,rfl,(Array.getElem?_eq_some_iff.1 h2).1,?_⟩⟩
  intro j t ht
  have e:∀ i,(⟨g,0,none⟩:Addr).add i=⟨g,0+i,none⟩:=by intro i;cases i <;> simp [Addr.add]
  have f:∀ i,i<3→∀ u,(encTm t)[i]?=some u→w.cell? ⟨g,0+(j*3+i),none⟩=some u:=by
   intro i hi u hu
   have:=hc g rfl (j*3+i) u (by rw [flat3 encTm encTm_len ts j i t ht hi];exact hu)
   rwa [e] at this
  exact ⟨f 0 (by omega) _ rfl,f 1 (by omega) _ rfl,f 2 (by omega) _ rfl⟩
theorem info_term:(Tryz.prog.info? 57).map (fun i=>(i.zero,i.size,i.bytes))=some (some (.agg #[.int .i64 0,.int .i64 0,.int .i64 0]),3,24):=by kernel_rfl
theorem containsT_empty (a:Option Addr) (cap:Nat) (t:Tm) (w:World) :
 Calls Tryz.prog 76 #[.slice a 0 cap,.agg #[.int .i64 t.op,.int .i64 t.a,.int .i64 t.b]] w fun e w' =>e=.returned (.bool false)∧Below w.heap.size w w' :=by
 have hI:∀ w,Calls Tryz.prog 102 #[.slice a 0 cap,.agg #[.int .i64 t.op,.int .i64 t.a,.int .i64 t.b]] w fun e w' =>e=.returned (.int .i64 (-1))∧Below w.heap.size w w' :=by
  intro w
  go_enter Tryz.func102,Tryz.ntmps102
  go_wp2
  refine wp_loop_rounds 1 ?_
  rw [rounds_succ]
  go_wp2
  go_ret
  exact ⟨rfl,(Below.refl _ _).alloc (Nat.le_refl _) _⟩
 go_enter Tryz.func76,Tryz.ntmps76
 go_wp2_with fail
 refine (hI _).mono ?_
 rintro e w' ⟨rfl,hb⟩
 simp only [World.size_alloc] at hb
 go_wp2
 go_ret
 exact ⟨rfl,((Below.refl _ _).alloc (Nat.le_refl _) _).trans (hb.mono (by omega))⟩
theorem containsT_any (a:Option Addr) (cap:Nat) (ts:List Tm) (t:Tm) (w:World) (h:TermsAt w a ts) (hl:ts.length≤9223372036854775807) :
 Calls Tryz.prog 76 #[.slice a ts.length cap,.agg #[.int .i64 t.op,.int .i64 t.a,.int .i64 t.b]] w fun e w' =>e=.returned (.bool (ts.any fun y=>decide (t=y)))∧Below w.heap.size w w' :=by
 rcases h with rfl | ⟨b,off,rfl,hlt,hc⟩
 ·exact containsT_empty a cap t w
 ·have h1:=AnyQ.slices_Contains Tryz.containsTerm 3 Tryz.isAgg57 Tryz.sizeOf57 encTm encTm_len _ eqTm b off ts.length cap ts t w (Nat.le_refl _) hl (fun j hj i v hi=>by
   have ht:ts[j]?=some ts[j]! :=by rw [List.getElem?_eq_getElem hj,getElem!_pos ts j hj]
   generalize ts[j]! =t' at ht hi
   obtain ⟨q0,q1,q2⟩:=hc j _ ht
   match i,hi with
   | 0,hi=>simp [encTm] at hi;subst hi;exact q0
   | 1,hi=>simp [encTm] at hi;subst hi;exact q1
   | 2,hi=>simp [encTm] at hi;subst hi;exact q2
   | i+3,hi=>simp [encTm] at hi)
  rw [List.take_length] at h1
  exact h1
def termsL (r:Int) (ns:List Nd):List Tm:=if chk r ns=0 then tms ns ns.length else []
set_option maxRecDepth 100000 in
theorem terms_any (r:Int) (a:Option Addr) (cap:Nat) (ns:List Nd) (w:World) (hN:SlN w a ns) :
 Calls Tryz.prog 52 #[.agg #[.int .i64 r,.slice a ns.length cap]] w fun e w' =>∃ a' cap', e=.returned (.tuple #[.slice a' (termsL r ns).length cap', .int .i64 (chk r ns)])∧TermsAt w' a' (termsL r ns)∧Below w.heap.size w w' :=by
 have hN1:SlN (w.alloc (.cells #[.int .i64 r,.slice a ns.length cap] 24)) a ns:=hN.below ((Below.refl w.heap.size w).alloc (Nat.le_refl _) _)
 by_cases hc:chk r ns=0
 ·obtain ⟨hl2,_,_,_,_⟩:=chk_zero hc
  obtain ⟨b,off,rfl,hNb⟩:=hN.some (by omega)
  have hnx:termsL r ns=tms ns ns.length:=by simp only [termsL,hc,if_true]
  rw [hnx,hc]
  obtain ⟨i0,hi,hz0,hz1,hz2⟩:=info_parts info_term
  go_enter Tryz.func52,Tryz.ntmps52
  go_wp2_with fail
  refine (check_any r _ cap ns _ hN1).mono ?_
  rintro e w1 ⟨rfl,hb1⟩
  have hs1:=hb1.size
  simp only [World.size_alloc] at hs1 hb1
  have hB1:Below w.heap.size w w1:=((Below.refl _ _).alloc (Nat.le_refl _) _).trans (hb1.mono (by omega))
  have q1:w1.cell? ⟨w.heap.size,1,none⟩=some (.slice (some ⟨b,off,none⟩) ns.length cap):=by rw [hb1.cell (p:=⟨w.heap.size,1,none⟩) (by simp)];simp
  have hs1' :w.heap.size<w1.heap.size:=by omega
  have hNw:=hNb.below hB1 hNb.lt
  have hblt:=hNb.lt
  clear hb1 hnx hN1 hNb
  rw [hc]
  clear hc
  go_wp2
  go_loopw [5,18] (fun v i wv=>∃ k:Nat,k≤ns.length∧i=.int .i64 k∧wv.ownsRow (w.heap.size+1) 57 3 v (tms ns k).length ((tms ns k).flatMap encTm)∧Below (w.heap.size+1) w1 wv) (fun _ i _=>ns.length-(intOf i).toNat)
  case atStart=>exact ⟨0,Nat.zero_le _,rfl,World.ownsRow_nil _ _ _ _,Below.refl _ _⟩
  case round =>
   obtain ⟨k,hk,rfl,hown,hb⟩:=hrel
   have hsz:=hb.size
   have hN2:=hNw.below hb (by omega)
   have hlt2:=hN2.lt
   have hsw:w.heap.size<wr.heap.size:=by omega
   by_cases hlt:k<ns.length
   ·obtain ⟨x,hx⟩:=get_lt hlt
    have c0:=hN2.c0 k x hx
    have c1:=hN2.c1 k x hx
    have c2:=hN2.c2 k x hx
    have c3:=hN2.c3 k x hx
    have c4:=hN2.c4 k x hx
    have c5:=hN2.c5 k x hx
    have HT:=hide (tms_succ hx)
    have htl:=tms_len ns k
    clear hx hN2
    by_cases hop:3≤x.op∧x.op≤8
    ·obtain ⟨ho1,ho2⟩:=hop
     have HW:=hide (wi_true ho1 ho2)
     go_wp2_with fail
     refine (term_yes _ _ _ _ _ _ _ ho1 ho2).mono ?_
     rintro e w2 ⟨rfl,hb2⟩
     have hs2:=hb2.size
     simp only [World.size_alloc] at hs2 hb2
     have hown2:=(ownsRow_below (hown.alloc _) hb2 (by simp))
     have hB2:Below (w.heap.size+1) w1 w2:=(hb.alloc (by omega) _).trans (hb2.mono (by omega))
     have hown3:=hown2.alloc (.cells #[.int .i64 x.op,.int .i64 x.a,.int .i64 x.b] 57)
     obtain ⟨a3,cap3,hv3,hT3⟩:=terms_of_owns hown3
     have HV:=hide hv3
     rw [hv3] at hown3
     clear hown hb2 c0 c1 c2 c3 c4 c5 hown2
     rw [hv3]
     clear hv3
     have hcon:=containsT_any a3 cap3 (tms ns k) (tmOf x) _ hT3 (by omega)
     have hst:=tstep_yes (tms ns k) HW.out
     generalize ((tms ns k).any fun y=>decide (tmOf x=y))=bb at hcon hst
     simp only [tmOf] at hcon
     have HS:=hide hst
     clear hst
     go_wp2_with fail
     refine hcon.mono ?_
     rintro e w3 ⟨rfl,hb3⟩
     have hs3:=hb3.size
     have hown4:=ownsRow_below hown3 hb3 (Nat.le_refl _)
     simp only [World.size_alloc] at hs3 hb3
     have hB3:Below (w.heap.size+1) w1 w3:=(hB2.alloc (by omega) _).trans (hb3.mono (by omega))
     have t0:w3.cell? ⟨w2.heap.size,0,none⟩=some (.int .i64 x.op):=by rw [hb3.cell (p:=⟨w2.heap.size,0,none⟩) (by simp)];simp
     have t1:w3.cell? ⟨w2.heap.size,1,none⟩=some (.int .i64 x.a):=by rw [hb3.cell (p:=⟨w2.heap.size,1,none⟩) (by simp)];simp
     have t2:w3.cell? ⟨w2.heap.size,2,none⟩=some (.int .i64 x.b):=by rw [hb3.cell (p:=⟨w2.heap.size,2,none⟩) (by simp)];simp
     have hs3' :w2.heap.size<w3.heap.size:=by omega
     clear hcon hT3 hown3 hb3
     cases bb
     ·go_wp2_with (at_builtin;refine wpList_append_own _ rfl (.tmp 34) (.tmp 36) 102 rfl (w.heap.size+1) 57 i0 _ 3 24 Tryz.underlying102 hi hz0 hz1 hz2 rfl (by decide) _ _ _ rfl (hown4.alloc _) ⟨w3.heap.size,0,none⟩ 1 1 [.int .i64 x.op,.int .i64 x.a,.int .i64 x.b] rfl rfl ?c1 ?c2 ?c3 ?c4 ?c5 ?_)
      case c1 =>
       intro j u hj
       match j,hj with
       | 0,hj=>simp at hj;subst hj;simp [Addr.add]
       | 1,hj=>simp at hj;subst hj;simp [Addr.add]
       | 2,hj=>simp at hj;subst hj;simp [Addr.add]
       | j+3,hj=>simp at hj
      case c2=>intro u hu;simp at hu;rcases hu with rfl | rfl | rfl <;> rfl
      case c3=>unfold maxLen;omega
      case c4=>omega
      case c5=>simp;omega
      intro v' w4 hown5 hg4 _
      have hlt1:=hown4.lt
      have hB4:Below (w.heap.size+1) w1 w4:=(hB3.alloc (by omega) _).grown hg4 (by simp;omega) (fun k hk=>(hlt1 k hk).1)
      have hown6:w4.ownsRow (w.heap.size+1) 57 3 v' (tms ns (k+1)).length ((tms ns (k+1)).flatMap encTm):=by
       rw [HT.out,HS.out];simpa [encTm,tmOf] using hown5
      clear hown5 hg4 hlt1 hown4 t0 t1 t2
      go_wp2
      go_roundw
      case rel=>exact ⟨k+1,by omega,by go_num,hown6,hB4⟩
      case measure=>simp [intOf];omega
     ·go_wp2
      go_roundw
      case rel=>exact ⟨k+1,by omega,by go_num,by rw [HT.out,HS.out];simpa using hown4,hB3⟩
      case measure=>simp [intOf];omega
    ·have hop' :x.op<3∨8<x.op:=by omega
     have HW:=hide (wi_false hop')
     have HS:=hide (tstep_no (tms ns k) HW.out)
     clear hop
     go_wp2_with fail
     refine (term_no _ _ _ _ _ _ _ hop').mono ?_
     rintro e w2 ⟨rfl,hb2⟩
     have hs2:=hb2.size
     simp only [World.size_alloc] at hs2 hb2
     have hown2:=(ownsRow_below (hown.alloc _) hb2 (by simp))
     have hB2:Below (w.heap.size+1) w1 w2:=(hb.alloc (by omega) _).trans (hb2.mono (by omega))
     clear hown hb2 c0 c1 c2 c3 c4 c5
     go_wp2
     go_roundw
     case rel=>exact ⟨k+1,by omega,by go_num,by rw [HT.out,HS.out];exact hown2.alloc _,hB2.alloc (by omega) _⟩
     case measure=>simp [intOf];omega
   ·have ek:k=ns.length:=by omega
    have HE:=hide ek
    clear ek hN2
    go_wp2
    go_ret2
    rw [HE.out] at hown
    obtain ⟨a2,cap2,hv,hI⟩:=terms_of_owns hown
    refine ⟨a2,cap2,?_,hI,hB1.trans (hb.mono (by omega))⟩
    rw [← hv];rfl
 ·have hnx:termsL r ns=[]:=by simp [termsL,hc]
  rw [hnx]
  have hb:(chk r ns != 0)=true:=by simp [hc]
  clear hc hnx
  go_enter Tryz.func52,Tryz.ntmps52
  go_wp2_with fail
  refine (check_any r _ cap ns _ hN1).mono ?_
  rintro e w1 ⟨rfl,hb1⟩
  have hs1:=hb1.size
  simp only [World.size_alloc] at hs1 hb1
  have hB1:Below w.heap.size w w1:=((Below.refl _ _).alloc (Nat.le_refl _) _).trans (hb1.mono (by omega))
  go_wp2
  go_ret2
  exact ⟨none,0,rfl,Or.inl rfl,hB1⟩
end Go.Proofs.YtkkolclmfcmfbaaGreatDoor
namespace Go.Proofs.YtkkolclmfcmfbaaGreatDoor
open Go.RowKit Go.Shelf
theorem terms_atM {w:World} {a:Option Addr} {ts:List Tm} (h:TermsAt w a ts) {k:Nat} (hk:k<ts.length):∃ b off,a=some ⟨b,off,none⟩∧b<w.heap.size∧∀ (j:Nat) (t:Tm),ts[j]?=some t→w.cell? ⟨b,off+j*3,none⟩=some (.int .i64 t.op)∧w.cell? ⟨b,off+j*3+1,none⟩=some (.int .i64 t.a)∧w.cell? ⟨b,off+j*3+2,none⟩=some (.int .i64 t.b):=by
 rcases h with rfl | h
 ·simp at hk
 ·exact h
theorem clone_at1M (b off cap:Nat) (ns:List Nd) (W:World) (hN:NodesAt W b off ns) (hl:1≤ns.length∧ns.length≤512) :
 Calls Tryz.prog 15 #[.slice (some ⟨b,off,none⟩) ns.length cap] W.drew fun e w' =>∃ gb gc,e=.returned (.slice (some ⟨gb,0,none⟩) ns.length gc)∧NodesAt w' gb 0 ns∧W.heap.size≤gb∧Below W.heap.size W w' :=by
 have hd:=(Below.refl W.heap.size W).drew
 refine (clone_fitM b off cap ns W.drew (hN.below hd hN.lt) hl).mono ?_
 rintro e w' ⟨gb,gc,rfl,hV,hb⟩
 refine ⟨gb,gc,rfl,nodes_ownM hV hl.1,?_,hd.trans hb⟩
 rcases hV.2 with ⟨q,_⟩ | ⟨g', c,cur,q,a1,a2,_⟩
 ·cases q
 ·cases q;exact a1
theorem clone_at2M (b off cap:Nat) (ns:List Nd) (W:World) (hN:NodesAt W b off ns) (hl:1≤ns.length∧ns.length≤512) :
 Calls Tryz.prog 15 #[.slice (some ⟨b,off,none⟩) ns.length cap] (W.alloc (.cells #[.int .i64 0,.slice none 0 0] 24)).drew fun e w' =>∃ gb gc,e=.returned (.slice (some ⟨gb,0,none⟩) ns.length gc)∧NodesAt w' gb 0 ns∧W.heap.size+1≤gb∧w'.heap[W.heap.size]?=some (.cells #[.int .i64 0,.slice none 0 0] 24 (0,0))∧Below W.heap.size W w' :=by
 have hd:=((Below.refl W.heap.size W).alloc (Nat.le_refl _) (.cells #[.int .i64 0,.slice none 0 0] 24)).drew
 have hq:(W.alloc (.cells #[.int .i64 0,.slice none 0 0] 24)).drew.heap[W.heap.size]?=some (.cells #[.int .i64 0,.slice none 0 0] 24 (0,0)):=World.alloc_heap_new W _
 have hs:(W.alloc (.cells #[.int .i64 0,.slice none 0 0] 24)).drew.heap.size=W.heap.size+1:=World.size_alloc W _
 refine (clone_fitM b off cap ns _ (hN.below hd hN.lt) hl).mono ?_
 rintro e w' ⟨gb,gc,rfl,hV,hb⟩
 refine ⟨gb,gc,rfl,nodes_ownM hV hl.1,?_,(hb.block _ (by omega)).trans hq,hd.trans (hb.mono (by omega))⟩
 rcases hV.2 with ⟨q,_⟩ | ⟨g', c,cur,q,a1,a2,_⟩
 ·cases q
 ·cases q;omega
def AllSays (r:Int) (ns:List Nd) (w:World) (e:Ending) (w' :World):Prop :=
 ((allF r ns (tms ns ns.length)).1≠0∧e=.returned (.tuple #[.agg #[.int .i64 0,.slice none 0 0],.int .i64 (allF r ns (tms ns ns.length)).1]) ∨
  (allF r ns (tms ns ns.length)).1=0∧∃ gb gc,e=.returned (.tuple #[.agg #[.int .i64 (allF r ns (tms ns ns.length)).2.1,.slice (some ⟨gb,0,none⟩) (allF r ns (tms ns ns.length)).2.2.length gc],.int .i64 0])∧NodesAt w' gb 0 (allF r ns (tms ns ns.length)).2.2∧w.heap.size≤gb)∧Below w.heap.size w w'
set_option maxRecDepth 100000 in
theorem all_right (r:Int) (b off cap:Nat) (ns:List Nd) (w:World) (hN:NodesAt w b off ns) (hc:chk r ns=0) :
 Calls Tryz.prog 32 #[.agg #[.int .i64 r,.slice (some ⟨b,off,none⟩) ns.length cap]] w (AllSays r ns w):=by
 have hl0:=(chk_full hc).1
 have HC:=hide hc
 have HN:=hide hN
 have HTR:=hide (fun W (h:Below w.heap.size w W)=>terms_any r (some ⟨b,off,none⟩) cap ns W (Or.inr ⟨b,off,rfl,hN.below h hN.lt⟩))
 rw [show termsL r ns=tms ns ns.length by simp only [termsL,hc,if_true],hc] at HTR
 unfold AllSays
 have hLl:(tms ns ns.length).length≤256:=by have:=tms_len ns ns.length;omega
 generalize tms ns ns.length=L at HTR hLl ⊢
 clear hc hN
 have hbA:Below w.heap.size w ((w.alloc (.cells #[.int .i64 r,.slice (some ⟨b,off,none⟩) ns.length cap] 24)).alloc (.cells #[.int .i64 0,.slice none 0 0] 24)):=(((Below.refl _ w).alloc (Nat.le_refl _) _).alloc (by simp) _)
 have p0:((w.alloc (.cells #[.int .i64 r,.slice (some ⟨b,off,none⟩) ns.length cap] 24)).alloc (.cells #[.int .i64 0,.slice none 0 0] 24)).heap[w.heap.size]?=some (.cells #[.int .i64 r,.slice (some ⟨b,off,none⟩) ns.length cap] 24 (0,0)):=by
  have:=World.alloc_heap_new w (.cells #[.int .i64 r,.slice (some ⟨b,off,none⟩) ns.length cap] 24)
  exact ((Below.heap_alloc _ _ _ (by simp;try omega)).trans this)
 have p1:((w.alloc (.cells #[.int .i64 r,.slice (some ⟨b,off,none⟩) ns.length cap] 24)).alloc (.cells #[.int .i64 0,.slice none 0 0] 24)).heap[w.heap.size+1]?=some (.cells #[.int .i64 0,.slice none 0 0] 24 (0,0)):=by
  have:=World.alloc_heap_new (w.alloc (.cells #[.int .i64 r,.slice (some ⟨b,off,none⟩) ns.length cap] 24)) (.cells #[.int .i64 0,.slice none 0 0] 24)
  simp only [World.size_alloc] at this
  exact this
 go_enter Tryz.func32,Tryz.ntmps32
 go_upto_region 1 with fail
 generalize ((w.alloc (.cells #[.int .i64 r,.slice (some ⟨b,off,none⟩) ns.length cap] 24)).alloc (.cells #[.int .i64 0,.slice none 0 0] 24))=W at hbA p0 p1 ⊢
 have q0:=blk_cell p0 0
 have q1:=blk_cell p0 1
 simp at q0 q1
 have pl:=blk_lt p0
 have HB:=hide hbA
 have HP:=hide p0
 have HR:=hide p1
 clear hbA p0 p1
 go_wp2_with fail
 refine (HTR.out _ HB.out).mono ?_
 rintro e w1 ⟨x,xc,rfl,hT1,hb1⟩
 have HB1:=hide (HB.out.trans (hb1.mono HB.out.size))
 have HR1:=hide ((hb1.block _ (blk_lt HR.out)).trans HR.out)
 have HP1:=hide ((hb1.block _ (blk_lt HP.out)).trans HP.out)
 have HTm:=hide hT1
 have hsz:w.heap.size+1<w1.heap.size:=blk_lt HR1.out
 clear hb1 q0 q1 pl HB HR HP HTR hT1
 go_upto_region 4 with fail
 have HS:Hid (∀ u:World,Below w1.heap.size w1 u→u.cell? ⟨w.heap.size,0,none⟩=some (.int .i64 r)∧u.cell? ⟨w.heap.size,1,none⟩=some (.slice (some ⟨b,off,none⟩) ns.length cap)):=fun u h=>by
  have k1:=(h.block _ (blk_lt HP1.out)).trans HP1.out
  refine ⟨?_,?_⟩
  ·rw [blk_cell k1];rfl
  ·rw [blk_cell k1];rfl
 have pl:w.heap.size<w1.heap.size:=blk_lt HP1.out
 go_cut [6] from 18 to 24 (fun v wx=>∃ QB gb gc,v=.pointer (some ⟨QB,0,none⟩)∧w1.heap.size≤QB∧wx.heap[QB]?=some (.cells #[.int .i64 r,.slice (some ⟨gb,0,none⟩) ns.length gc] 24 (0,0))∧NodesAt wx gb 0 ns∧gb≠QB∧w1.heap.size≤gb∧Below w1.heap.size w1 wx)
 case first =>
  go_region_held3 (fun u=>u.cell? ⟨w.heap.size,0,none⟩=some (.int .i64 r)∧u.cell? ⟨w.heap.size,1,none⟩=some (.slice (some ⟨b,off,none⟩) ns.length cap)) (first
   | (with_reducible refine HS.out _ ?_;first | with_reducible exact hB7 | with_reducible exact hB7.alloc hB7.size _ | with_reducible exact (Below.refl _ w1).drew | with_reducible exact (Below.refl _ w1) | with_reducible exact ((Below.refl _ w1).alloc (Nat.le_refl _) _).drew | with_reducible exact (Below.refl _ w1).drew.alloc (by simp) _ | with_reducible exact (Below.refl _ w1).alloc (Nat.le_refl _) _)
   | (with_reducible refine HS.out _ ?_;exact below_set2 hB7 (Nat.le_refl _))) (first
   | (go_at_call 15;refine (clone_at2M b off cap ns w1 (HN.out.below HB1.out HN.out.lt) (by omega)).mono ?_;rintro e w7 ⟨gb,gc,rfl,hN7,hg7,hk7,hB7⟩;have z0:=blk_cell hk7 0;have z1:=blk_cell hk7 1;simp at z0 z1;have f0:=blk_frozen hk7 0;have f1:=blk_frozen hk7 1;have zl:=blk_lt hk7;have HX:=hide (And.intro hN7 hk7);clear hN7 hk7)
   | (go_at_call 15;refine (clone_at1M b off cap ns w1 (HN.out.below HB1.out HN.out.lt) (by omega)).mono ?_;rintro e w7 ⟨gb,gc,rfl,hN7,hg7,hB7⟩;have HX:=hide hN7;clear hN7))
  all_goals (go_wp2;go_meet)
  all_goals first
   | exact ⟨w1.heap.size,gb,gc,rfl,Nat.le_refl _,blk_set2 HX.out.2,(HX.out.1.setM (by omega)).setM (by omega),by omega,by omega,below_set2 hB7 (Nat.le_refl _)⟩
   | exact ⟨w7.heap.size,gb,gc,rfl,hB7.size,blk_new rfl,HX.out.below ((Below.refl _ w7).alloc (Nat.le_refl _) _) HX.out.lt,Nat.ne_of_lt HX.out.lt,hg7,hB7.alloc hB7.size _⟩
 case rest =>
  obtain ⟨QB,gb,gc,rfl,hQ,hK,hNg,hne,hgb,hBc⟩:=hcut
  have HK:=hide hK
  have HNg:=hide hNg
  have HBc:=hide hBc
  have hneR:w.heap.size+1≠QB:=by omega
  clear hK hNg hBc HS pl HP1 HN
  generalize hW:wc=V at *
  clear hW
  go_wp2_with fail
  go_loopw [26] (fun i wr=>∃ (k gb gc:Nat),k≤L.length∧i=.int .i64 k∧(allF r ns (L.take k)).1=0∧wr.heap[QB]?=some (.cells #[.int .i64 (allF r ns (L.take k)).2.1,.slice (some ⟨gb,0,none⟩) (allF r ns (L.take k)).2.2.length gc] 24 (0,0))∧NodesAt wr gb 0 (allF r ns (L.take k)).2.2∧gb≠QB∧w1.heap.size≤gb∧Below w1.heap.size w1 wr) (fun i _=>L.length-(intOf i).toNat)
  case atStart=>exact ⟨0,gb,gc,Nat.zero_le _,rfl,rfl,HK.out,HNg.out,hne,hgb,HBc.out⟩
  case round =>
   obtain ⟨k,gb,gc,hk,rfl,h0,hK,hN,hne,hgb,hb⟩:=hrel
   obtain ⟨⟨e0,q,ms⟩,hX⟩:∃ X,allF r ns (L.take k)=X:=⟨_,rfl⟩
   rw [hX] at h0 hK hN
   simp only at h0 hK hN
   subst h0
   have HX:=hide hX
   have HR:=hide ((hb.block _ (blk_lt HR1.out)).trans HR1.out)
   have HBw:=hide (HB1.out.trans (hb.mono HB1.out.size))
   have hwr:w1.heap.size≤wr.heap.size:=hb.size
   clear hX
   by_cases hlt:k<L.length
   ·obtain ⟨t,ht⟩:=get_lt hlt
    obtain ⟨xb,xo,rfl,xl,hx⟩:=terms_atM HTm.out hlt
    obtain ⟨d0,d1,d2⟩:=hx k t ht
    have c0:=(hb.cell (p:=⟨xb,xo+k*3,none⟩) xl).trans d0
    have c1:=(hb.cell (p:=⟨xb,xo+k*3+1,none⟩) xl).trans d1
    have c2:=(hb.cell (p:=⟨xb,xo+k*3+2,none⟩) xl).trans d2
    have xl' :xb<wr.heap.size:=by omega
    have hki:(k:Int)<(L.length:Int):=by omega
    have htk:L.take (k+1)=L.take k++[t]:=by rw [List.take_add_one,ht];rfl
    have HTK:=hide htk
    have hxA:Below wr.heap.size wr (wr.alloc (.cells #[.int .i64 t.op,.int .i64 t.a,.int .i64 t.b] 57)):=(Below.refl _ wr).alloc (Nat.le_refl _) _
    have hTB:(wr.alloc (.cells #[.int .i64 t.op,.int .i64 t.a,.int .i64 t.b] 57)).heap[wr.heap.size]?=some (.cells #[.int .i64 t.op,.int .i64 t.a,.int .i64 t.b] 57 (0,0)):=World.alloc_heap_new wr _
    have HKu:=hide ((hxA.block _ (blk_lt hK)).trans hK)
    have HRu:=hide ((hxA.block _ (blk_lt HR.out)).trans HR.out)
    have HNu:=hide (hN.below hxA hN.lt)
    have HBu:=hide (hb.trans (hxA.mono hb.size))
    have HBwu:=hide (HBw.out.trans (hxA.mono HBw.out.size))
    clear d0 d1 d2 hx ht htk hK hN hb
    go_upto_region 8 with fail
    generalize (wr.alloc (.cells #[.int .i64 t.op,.int .i64 t.a,.int .i64 t.b] 57))=U at hxA hTB HKu HRu HNu HBu HBwu ⊢
    generalize wr.heap.size=TB at hTB ⊢
    have t0:=blk_cell hTB 0
    have t1:=blk_cell hTB 1
    have t2:=blk_cell hTB 2
    simp at t0 t1 t2
    have tl:=blk_lt hTB
    have q0:=blk_cell HKu.out 0
    have q1:=blk_cell HKu.out 1
    simp at q0 q1
    have ql:=blk_lt HKu.out
    clear hTB hxA c0 c1 c2 HR HBw
    go_wp2_with fail
    refine (one_any q (some ⟨gb,0,none⟩) gc ms t _ (Or.inr ⟨gb,0,rfl,HNu.out⟩)).mono ?_
    rintro e w5 ⟨h,hb5⟩
    have hQ5:=(hb5.block _ ql).trans HKu.out
    have hR5:=(hb5.block _ (blk_lt HRu.out)).trans HRu.out
    have HB5:=hide (HBu.out.trans (hb5.mono HBu.out.size))
    have HBw5:=hide (HBwu.out.trans (hb5.mono HBwu.out.size))
    have hl5:=hb5.size
    clear t0 t1 t2 tl q0 q1 HKu HRu HNu HBu HBwu hb5
    have q0:=blk_cell hQ5 0
    have q1:=blk_cell hQ5 1
    simp at q0 q1
    have f0:=blk_frozen hQ5 0
    have f1:=blk_frozen hQ5 1
    have ql5:=blk_lt hQ5
    rcases h with ⟨hne0,rfl⟩ | ⟨hz,nb,nc,rfl,hV⟩
    ·have hCb:(oneE q ms t==0)=false:=by simp [hne0]
     have hCn:(oneE q ms t != 0)=true:=by simp [hne0]
     have hF:allF r ns L=(oneE q ms t,0,[]):=by
      have e1:allF r ns (L.take (k+1))=(oneE q ms t,0,[]):=by
       rw [HTK.out,allF_snoc,HX.out]
       unfold allS
       rw [if_neg (by simp),if_neg hne0]
      have e2:L=L.take (k+1)++L.drop (k+1):=(List.take_append_drop _ _).symm
      rw [e2,allF_err (by rw [e1];exact hne0),e1]
     have HF:=hide hF
     have HNE:=hide hne0
     clear hF hne0
     generalize oneE q ms t=C at *
     have HR6:Hid (((w5.setCell ⟨QB,0,none⟩ (.int .i64 0)).setCell ⟨QB,1,none⟩ (.slice none 0 0)).heap[w.heap.size+1]?=some (.cells #[.int .i64 0,.slice none 0 0] 24 (0,0))):=(cells_setP hneR _ _).trans ((cells_setP hneR _ _).trans hR5)
     have HBw6:=hide (below_set2 (v0:=.int .i64 0) (v1:=.slice none 0 0) HBw5.out (B:=QB) (by omega))
     clear hQ5 hR5
     go_upto_region 9 with fail
     clear q0 q1 f0 f1 ql5
     generalize ((w5.setCell ⟨QB,0,none⟩ (.int .i64 0)).setCell ⟨QB,1,none⟩ (.slice none 0 0))=U2 at HR6 HBw6 ⊢
     have hR:=HR6.out
     have k0:=blk_cell hR 0
     have k1:=blk_cell hR 1
     simp at k0 k1
     have f0:=blk_frozen hR 0
     have f1:=blk_frozen hR 1
     have kl:=blk_lt hR
     have hk:=blk_set2 (v0:=.int .i64 0) (v1:=.slice none 0 0) hR
     have hBf:=below_set2 (v0:=.int .i64 0) (v1:=.slice none 0 0) HBw6.out (B:=w.heap.size+1) (by omega)
     clear hR
     go_wp2_with fail
     clear k0 k1 f0 f1 kl
     generalize ((U2.setCell ⟨w.heap.size+1,0,none⟩ (.int .i64 0)).setCell ⟨w.heap.size+1,1,none⟩ (.slice none 0 0))=Wf at hk hBf ⊢
     have k0:=blk_cell hk 0
     have k1:=blk_cell hk 1
     simp at k0 k1
     refine bodyPost_ret (v:=.tuple #[.agg #[.int .i64 0,.slice none 0 0],.int .i64 C]) (by simp [results,Tryz.results32,go_sem,k0,k1]) rfl ⟨Or.inl ?_,hBf⟩
     rw [HF.out]
     exact ⟨HNE.out,rfl⟩
    ·have ho:=oneE_ok hz
     have hlm:=(chk_full ho.next).1.1
     have hnb:nb≠QB∧w1.heap.size≤nb:=by
      rcases hV.2 with ⟨q,_⟩ | ⟨g', c,cur,q,a1,a2,_⟩
      ·cases q
      ·cases q;exact ⟨by omega,by omega⟩
     have hF:allF r ns (L.take (k+1))=(0,oneR ms t q,oneN ms t q):=by
      rw [HTK.out,allF_snoc,HX.out]
      unfold allS
      rw [if_neg (by simp),if_pos hz]
     have HF:=hide hF
     have HN6:Hid (NodesAt ((w5.setCell ⟨QB,0,none⟩ (.int .i64 (oneR ms t q))).setCell ⟨QB,1,none⟩ (.slice (some ⟨nb,0,none⟩) (oneN ms t q).length nc)) nb 0 (oneN ms t q)):=((len_row hV hlm).setM hnb.1).setM hnb.1
     have HK6:Hid (((w5.setCell ⟨QB,0,none⟩ (.int .i64 (oneR ms t q))).setCell ⟨QB,1,none⟩ (.slice (some ⟨nb,0,none⟩) (oneN ms t q).length nc)).heap[QB]?=some (.cells #[.int .i64 (oneR ms t q),.slice (some ⟨nb,0,none⟩) (oneN ms t q).length nc] 24 (0,0))):=blk_set2 hQ5
     have HB6:=hide (below_set2 (v0:=.int .i64 (oneR ms t q)) (v1:=.slice (some ⟨nb,0,none⟩) (oneN ms t q).length nc) HB5.out (B:=QB) (by omega))
     have HNB:=hide hnb
     clear hF hz ho hlm hV hQ5 hR5 hnb
     generalize oneN ms t q=ms' at *
     generalize oneR ms t q=q' at *
     go_upto_region 9 with fail
     clear q0 q1 f0 f1 ql5
     generalize ((w5.setCell ⟨QB,0,none⟩ (.int .i64 q')).setCell ⟨QB,1,none⟩ (.slice (some ⟨nb,0,none⟩) ms'.length nc))=U2 at HN6 HK6 HB6 ⊢
     go_wp2_with fail
     go_roundw
     case rel=>exact ⟨k+1,nb,nc,by omega,by go_num,by rw [HF.out],by rw [HF.out];exact HK6.out,by rw [HF.out];exact HN6.out,HNB.out.1,HNB.out.2,HB6.out⟩
     case measure=>simp [intOf];omega
   ·have ek:L.take k=L:=List.take_of_length_le (by omega)
    rw [ek] at HX
    have hki:¬ (k:Int)<(L.length:Int):=by omega
    have q0:=blk_cell hK 0
    have q1:=blk_cell hK 1
    simp at q0 q1
    have ql:=blk_lt hK
    have hR:=HR.out
    have k0:=blk_cell hR 0
    have k1:=blk_cell hR 1
    simp at k0 k1
    have f0:=blk_frozen hR 0
    have f1:=blk_frozen hR 1
    have kl:=blk_lt hR
    have hk2:=blk_set2 (v0:=.int .i64 q) (v1:=.slice (some ⟨gb,0,none⟩) ms.length gc) hR
    have hBf:=below_set2 (v0:=.int .i64 q) (v1:=.slice (some ⟨gb,0,none⟩) ms.length gc) HBw.out (B:=w.heap.size+1) (by omega)
    have hgR:gb≠w.heap.size+1:=by omega
    have HNf:Hid (NodesAt ((wr.setCell ⟨w.heap.size+1,0,none⟩ (.int .i64 q)).setCell ⟨w.heap.size+1,1,none⟩ (.slice (some ⟨gb,0,none⟩) ms.length gc)) gb 0 ms):=(hN.setM hgR).setM hgR
    clear hR hK hN hb
    go_wp2_with fail
    clear q0 q1 ql k0 k1 f0 f1 kl
    generalize ((wr.setCell ⟨w.heap.size+1,0,none⟩ (.int .i64 q)).setCell ⟨w.heap.size+1,1,none⟩ (.slice (some ⟨gb,0,none⟩) ms.length gc))=Wf at hk2 hBf HNf ⊢
    have k0:=blk_cell hk2 0
    have k1:=blk_cell hk2 1
    simp at k0 k1
    refine bodyPost_ret (v:=.tuple #[.agg #[.int .i64 q,.slice (some ⟨gb,0,none⟩) ms.length gc],.int .i64 0]) (by simp [results,Tryz.results32,go_sem,k0,k1]) rfl ⟨Or.inr ?_,hBf⟩
    rw [HX.out]
    first | exact ⟨rfl,gb,gc,rfl,HNf.out,by omega⟩ | exact ⟨rfl,gb,⟨gc,rfl⟩,HNf.out,by omega⟩
end Go.Proofs.YtkkolclmfcmfbaaGreatDoor
namespace Go.Proofs.YtkkolclmfcmfbaaGreatDoor
open Go.RowKit
theorem ofInt_bv (m:BitVec 64):BitVec.ofInt 64 (m.toNat:Int)=m:=by
 rw [BitVec.ofInt_natCast,BitVec.ofNat_toNat,BitVec.setWidth_eq]
theorem wrap_bv (m:BitVec 64):IntKind.u64.wrap (m.toNat:Int)=(m.toNat:Int):=by
 have:=m.isLt
 rw [IntKind.wrap_u64];omega
theorem bits_or (m n:BitVec 64):bits .or .u64 (m.toNat:Int) (n.toNat:Int)=((m ||| n).toNat:Int):=by
 show IntKind.u64.wrap ((BitVec.ofInt 64 (m.toNat:Int) ||| BitVec.ofInt 64 (n.toNat:Int)).toNat:Int)=_
 rw [ofInt_bv,ofInt_bv,wrap_bv]
theorem or_zero (m:BitVec 64):bits .or .u64 0 (m.toNat:Int)=(m.toNat:Int):=by
 have:=bits_or 0#64 m
 rw [BitVec.zero_or] at this
 exact this
theorem bits_andNot (m n:BitVec 64):bits .andNot .u64 (m.toNat:Int) (n.toNat:Int)=((m &&& ~~~n).toNat:Int):=by
 show IntKind.u64.wrap ((BitVec.ofInt 64 (m.toNat:Int) &&& ~~~BitVec.ofInt 64 (n.toNat:Int)).toNat:Int)=_
 rw [ofInt_bv,ofInt_bv,wrap_bv]
theorem bits_and (m n:BitVec 64):bits .and .u64 (m.toNat:Int) (n.toNat:Int)=((m &&& n).toNat:Int):=by
 show IntKind.u64.wrap ((BitVec.ofInt 64 (m.toNat:Int) &&& BitVec.ofInt 64 (n.toNat:Int)).toNat:Int)=_
 rw [ofInt_bv,ofInt_bv,wrap_bv]
theorem shl_bit {a:Int} (h:0≤a∧a<64):IntKind.u64.wrap (2 ^ a.toNat)=((bitM a).toNat:Int):=by
 have h1:a.toNat<64:=by omega
 have e:(bitM a).toNat=2 ^ a.toNat:=by
  simp only [bitM,BitVec.toNat_shiftLeft,BitVec.toNat_ofNat]
  rw [Nat.shiftLeft_eq,Nat.mod_eq_of_lt (a:=1) (by decide),Nat.one_mul,Nat.mod_eq_of_lt (Nat.pow_lt_pow_right (by decide) h1)]
 have:=wrap_bv (bitM a)
 rw [e] at this ⊢
 rw [← this];norm_cast
theorem mayDie_any (x:Nd) (w:World) :
 Calls Tryz.prog 56 #[.agg #[.int .i64 x.op,.int .i64 x.d,.int .i64 x.a,.int .i64 x.b,.int .i64 x.t,.int .i64 x.e]] w fun e w' =>e=.returned (.bool (wi x.op 1 8))∧Below w.heap.size w w' :=by
 have hb0:Below w.heap.size w (w.alloc (.cells #[.int .i64 x.op,.int .i64 x.d,.int .i64 x.a,.int .i64 x.b,.int .i64 x.t,.int .i64 x.e] 48)):=(Below.refl _ w).alloc (Nat.le_refl _) _
 by_cases h1:1≤x.op
 ·go_enter Tryz.func56,Tryz.ntmps56
  go_wp2
  go_ret
  exact ⟨ret_bool (by simp [wi,h1]),hb0⟩
 ·go_enter Tryz.func56,Tryz.ntmps56
  go_wp2
  go_ret
  exact ⟨ret_bool (by simp [wi];omega),hb0⟩
theorem usA_k1 (x:Nd):k1 x.op=1↔usA x=true:=by
 unfold k1 usA
 by_cases h:x.op=1
 ·simp [h,wi]
 ·rw [if_neg h]
  have e:(wi x.op 2 8||wi x.op 10 12)=(x.op==2||wi x.op 3 8||wi x.op 10 12):=by
   congr 1
   by_cases h2:x.op=2
   ·simp [h2,wi]
   ·have:(x.op==2)=false:=by simp [h2]
    rw [this,Bool.false_or]
    simp only [wi]
    congr 1
    simp;omega
  rw [e]
  cases (x.op==2||wi x.op 3 8||wi x.op 10 12) <;> simp
theorem usB_k2 (x:Nd):k2 x.op=1↔usB x=true:=by
 unfold k2 usB
 cases wi x.op 3 8 <;> simp
theorem uses_any (x:Nd) (w:World) (ha:usA x=true→0≤x.a∧x.a<64) (hb:usB x=true→0≤x.b∧x.b<64) :
 Calls Tryz.prog 81 #[.agg #[.int .i64 x.op,.int .i64 x.d,.int .i64 x.a,.int .i64 x.b,.int .i64 x.t,.int .i64 x.e]] w fun e w' =>e=.returned (.int .u64 ((useM x).toNat:Int))∧Below w.heap.size w w' :=by
 have hb0:Below w.heap.size w (w.alloc (.cells #[.int .i64 x.op,.int .i64 x.d,.int .i64 x.a,.int .i64 x.b,.int .i64 x.t,.int .i64 x.e] 48)):=(Below.refl _ w).alloc (Nat.le_refl _) _
 have hn:(w.alloc (.cells #[.int .i64 x.op,.int .i64 x.d,.int .i64 x.a,.int .i64 x.b,.int .i64 x.t,.int .i64 x.e] 48)).heap[w.heap.size]?=some (.cells #[.int .i64 x.op,.int .i64 x.d,.int .i64 x.a,.int .i64 x.b,.int .i64 x.t,.int .i64 x.e] 48 (0,0)):=World.alloc_heap_new w _
 go_enter Tryz.func81,Tryz.ntmps81
 go_wp2_with fail
 generalize (w.alloc (.cells #[.int .i64 x.op,.int .i64 x.d,.int .i64 x.a,.int .i64 x.b,.int .i64 x.t,.int .i64 x.e] 48))=W at hb0 hn ⊢
 refine (of_any _ _).mono ?_
 rintro e w1 ⟨rfl,hb1⟩
 have hn1:=(hb1.block _ (blk_lt hn)).trans hn
 have c2:=blk_cell hn1 2
 have c3:=blk_cell hn1 3
 simp at c2 c3
 have cl:=blk_lt hn1
 have HB:=hide (hb0.trans (hb1.mono hb0.size))
 clear hn hn1 hb1 hb0
 have HA:=hide (usA_k1 x)
 have HBB:=hide (usB_k2 x)
 have hA' :=ha
 have hB' :=hb
 have HU:Hid (useM x=(if usA x then bitM x.a else 0#64) ||| (if usB x then bitM x.b else 0#64)):=rfl
 have Ha:=hide ha
 have Hb:=hide hb
 clear ha hb hA' hB'
 generalize k0 x.op=K0
 generalize k1 x.op=K1 at HA ⊢
 generalize k2 x.op=K2 at HBB ⊢
 generalize k3 x.op=K3
 generalize k4 x.op=K4
 generalize kn x.op=KN
 generalize usA x=ua at HA HU Ha
 generalize usB x=ub at HBB HU Hb
 by_cases h1:K1=1
 ·have e1:ua=true:=HA.out.1 h1
  have r1:=Ha.out e1
  have hk1:(K1==1)=true:=by simp [h1]
  have r10:=r1.1
  have r11:x.a≤64:=by omega
  have H1:=hide e1
  have R1:=hide r1
  clear h1 e1 r1
  by_cases h2:K2=1
  ·have e2:ub=true:=HBB.out.1 h2
   have r2:=Hb.out e2
   have hk2:(K2==1)=true:=by simp [h2]
   have r20:=r2.1
   have r21:x.b≤64:=by omega
   have H2:=hide e2
   have R2:=hide r2
   clear h2 e2 r2
   go_wp2
   go_ret
   exact ⟨ret_int (by rw [shl_bit R1.out,shl_bit R2.out,or_zero,bits_or,HU.out,H1.out,H2.out];rfl),HB.out.alloc HB.out.size _⟩
  ·have e2:ub=false:=by cases h:ub;rfl;exact absurd (HBB.out.2 h) h2
   have hk2:(K2==1)=false:=by simp [h2]
   have H2:=hide e2
   clear h2 e2
   go_wp2
   go_ret
   exact ⟨ret_int (by rw [shl_bit R1.out,or_zero,HU.out,H1.out,H2.out];simp),HB.out.alloc HB.out.size _⟩
 ·have e1:ua=false:=by cases h:ua;rfl;exact absurd (HA.out.2 h) h1
  have hk1:(K1==1)=false:=by simp [h1]
  have H1:=hide e1
  clear h1 e1
  by_cases h2:K2=1
  ·have e2:ub=true:=HBB.out.1 h2
   have r2:=Hb.out e2
   have hk2:(K2==1)=true:=by simp [h2]
   have r20:=r2.1
   have r21:x.b≤64:=by omega
   have H2:=hide e2
   have R2:=hide r2
   clear h2 e2 r2
   go_wp2
   go_ret
   exact ⟨ret_int (by rw [shl_bit R2.out,or_zero,HU.out,H1.out,H2.out];simp),HB.out.alloc HB.out.size _⟩
  ·have e2:ub=false:=by cases h:ub;rfl;exact absurd (HBB.out.2 h) h2
   have hk2:(K2==1)=false:=by simp [h2]
   have H2:=hide e2
   clear h2 e2
   go_wp2
   go_ret
   exact ⟨ret_int (by rw [HU.out,H1.out,H2.out];simp),HB.out.alloc HB.out.size _⟩
theorem shapeSets_any (x:Nd) (w:World) :
 Calls Tryz.prog 82 #[.agg #[.int .i64 x.op,.int .i64 x.d,.int .i64 x.a,.int .i64 x.b,.int .i64 x.t,.int .i64 x.e]] w fun e w' =>∃ z,e=.returned (.tuple #[.int .i64 z,.bool (wi x.op 1 9)])∧(wi x.op 1 9=true→z=x.d)∧Below w.heap.size w w' :=by
 have hb0:Below w.heap.size w (w.alloc (.cells #[.int .i64 x.op,.int .i64 x.d,.int .i64 x.a,.int .i64 x.b,.int .i64 x.t,.int .i64 x.e] 48)):=(Below.refl _ w).alloc (Nat.le_refl _) _
 have hn:(w.alloc (.cells #[.int .i64 x.op,.int .i64 x.d,.int .i64 x.a,.int .i64 x.b,.int .i64 x.t,.int .i64 x.e] 48)).heap[w.heap.size]?=some (.cells #[.int .i64 x.op,.int .i64 x.d,.int .i64 x.a,.int .i64 x.b,.int .i64 x.t,.int .i64 x.e] 48 (0,0)):=World.alloc_heap_new w _
 go_enter Tryz.func82,Tryz.ntmps82
 go_wp2_with fail
 generalize (w.alloc (.cells #[.int .i64 x.op,.int .i64 x.d,.int .i64 x.a,.int .i64 x.b,.int .i64 x.t,.int .i64 x.e] 48))=W at hb0 hn ⊢
 refine (of_any _ _).mono ?_
 rintro e w1 ⟨rfl,hb1⟩
 have hn1:=(hb1.block _ (blk_lt hn)).trans hn
 have c1:=blk_cell hn1 1
 simp at c1
 have cl:=blk_lt hn1
 have HB:=hide (hb0.trans (hb1.mono hb0.size))
 clear hn hn1 hb1 hb0
 have HK:Hid (k0 x.op=if wi x.op 1 9 then 1 else 0):=rfl
 generalize k0 x.op=K at HK ⊢
 cases hw:wi x.op 1 9
 ·obtain rfl:K=0:=by rw [HK.out,hw];rfl
  have HQ:=hide hw
  clear hw
  go_wp2
  go_ret2
  exact ⟨0,by rw [HQ.out];rfl,(fun h=>by rw [HQ.out] at h;cases h),HB.out.alloc HB.out.size _⟩
 ·obtain rfl:K=1:=by rw [HK.out,hw];rfl
  have HQ:=hide hw
  clear hw
  go_wp2
  go_ret2
  exact ⟨x.d,by rw [HQ.out];rfl,(fun _=>rfl),HB.out.alloc HB.out.size _⟩
theorem lsets_any (x:Nd) (w:World) (hd:wi x.op 1 9=true→0≤x.d∧x.d<64) :
 Calls Tryz.prog 57 #[.agg #[.int .i64 x.op,.int .i64 x.d,.int .i64 x.a,.int .i64 x.b,.int .i64 x.t,.int .i64 x.e]] w fun e w' =>e=.returned (.int .u64 ((setM x).toNat:Int))∧Below w.heap.size w w' :=by
 have hb0:Below w.heap.size w (w.alloc (.cells #[.int .i64 x.op,.int .i64 x.d,.int .i64 x.a,.int .i64 x.b,.int .i64 x.t,.int .i64 x.e] 48)):=(Below.refl _ w).alloc (Nat.le_refl _) _
 go_enter Tryz.func57,Tryz.ntmps57
 go_wp2_with fail
 generalize (w.alloc (.cells #[.int .i64 x.op,.int .i64 x.d,.int .i64 x.a,.int .i64 x.b,.int .i64 x.t,.int .i64 x.e] 48))=W at hb0 ⊢
 refine (shapeSets_any x W).mono ?_
 rintro e w1 ⟨z,rfl,hz,hb1⟩
 have HB:=hide (hb0.trans (hb1.mono hb0.size))
 clear hb1 hb0
 cases hw:wi x.op 1 9
 ·have HQ:=hide hw
  clear hw hz hd
  go_wp2
  go_ret
  exact ⟨ret_int (by rw [setM,HQ.out];rfl),HB.out⟩
 ·have e:=hz hw
  subst e
  have r1:=hd hw
  have HQ:=hide hw
  have R1:=hide r1
  have r10:=r1.1
  have r11:x.d≤64:=by omega
  clear hw hz hd r1
  go_wp2
  go_ret
  exact ⟨ret_int (by rw [shl_bit R1.out,setM,HQ.out];rfl),HB.out⟩
end Go.Proofs.YtkkolclmfcmfbaaGreatDoor
namespace Go.Proofs.YtkkolclmfcmfbaaGreatDoor
open Go.RowKit Go.Shelf
def MasksAt (w:World) (b:Nat) (L:List (BitVec 64)):Prop:=b<w.heap.size∧∀ (j:Nat),j<L.length→w.cell? ⟨b,j,none⟩=some (.int .u64 ((L.getD j 0#64).toNat:Int))
theorem MasksAt.below {w w' :World} {b:Nat} {L:List (BitVec 64)} (h:MasksAt w b L) (hb:Below w.heap.size w w'):MasksAt w' b L :=
 ⟨Nat.lt_of_lt_of_le h.1 hb.size,fun j hj=>(hb.cell (p:=⟨b,j,none⟩) h.1).trans (h.2 j hj)⟩
theorem behM_take_succ (L:List (BitVec 64)) (l:List Nat) {k m:Nat} (h:l[k]?=some m):behM L (l.take (k+1))=behM L (l.take k) ||| L.getD m 0#64:=by
 unfold behM
 rw [List.take_add_one,h,List.foldl_append];rfl
set_option maxRecDepth 100000 in
theorem behind_any (ns:List Nd) (L:List (BitVec 64)) (na:Option Addr) (nl nc ab n rb lb:Nat) (F:Nat→List Nat) (w:World) (hR:RowsR w rb ns.length F) (hL:MasksAt w lb L) (hl:L.length=ns.length) (hn:n<ns.length) (h256:ns.length≤256) (hF:∀ m∈F n,m<ns.length) (hFl:(F n).length≤256) :
 Calls Tryz.prog 58 #[.agg #[.slice na nl nc,.slice (some ⟨rb,0,none⟩) ns.length ns.length,.slice (some ⟨ab,0,none⟩) ns.length ns.length],.int .i64 n,.slice (some ⟨lb,0,none⟩) ns.length ns.length] w fun e w' =>e=.returned (.int .u64 ((behM L (F n)).toNat:Int))∧Below w.heap.size w w' :=by
 obtain ⟨ra,rc,hrc,hI⟩:=hR.row n hn
 have hrl:=hR.lt
 have hni:(n:Int)<(ns.length:Int):=by omega
 have hb0:Below w.heap.size w (w.alloc (.cells #[.slice na nl nc,.slice (some ⟨rb,0,none⟩) ns.length ns.length,.slice (some ⟨ab,0,none⟩) ns.length ns.length] 107)):=(Below.refl _ w).alloc (Nat.le_refl _) _
 have hbx:(w.alloc (.cells #[.slice na nl nc,.slice (some ⟨rb,0,none⟩) ns.length ns.length,.slice (some ⟨ab,0,none⟩) ns.length ns.length] 107)).heap[w.heap.size]?=some (.cells #[.slice na nl nc,.slice (some ⟨rb,0,none⟩) ns.length ns.length,.slice (some ⟨ab,0,none⟩) ns.length ns.length] 107 (0,0)):=World.alloc_heap_new w _
 have hrc1:=(hb0.cell (p:=⟨rb,n,none⟩) hrl).trans hrc
 have hI1:=hI.below hb0
 have hL1:=hL.below hb0
 have hrl1:=Nat.lt_of_lt_of_le hrl hb0.size
 go_enter Tryz.func58,Tryz.ntmps58
 go_upto_region 1 with fail
 generalize (w.alloc (.cells #[.slice na nl nc,.slice (some ⟨rb,0,none⟩) ns.length ns.length,.slice (some ⟨ab,0,none⟩) ns.length ns.length] 107))=W at hb0 hbx hrc1 hI1 hL1 hrl1 ⊢
 have q1:=blk_cell hbx 1
 simp at q1
 have ql:=blk_lt hbx
 have HI:=hide hI1
 have HL:=hide hL1
 have HB:=hide hb0
 have HFN:=hide hF
 have HLL:=hide hl
 clear hI1 hL1 hb0 hbx hR hL hI hrc hF hl hrl
 go_wp2_with fail
 go_loopw [7,16] (fun v i wr=>∃ k:Nat,k≤(F n).length∧i=.int .i64 k∧v=.int .u64 ((behM L ((F n).take k)).toNat:Int)∧wr=W) (fun v i _=>(F n).length-(intOf i).toNat)
 case atStart=>exact ⟨0,Nat.zero_le _,rfl,rfl,rfl⟩
 case round =>
  obtain ⟨k,hk,rfl,rfl,rfl⟩:=hrel
  by_cases hlt:k<(F n).length
  ·obtain ⟨m,hm⟩:=get_lt hlt
   have hpos:k<(ints (F n)).length:=by rw [ints_len];exact hlt
   obtain ⟨ib,io,rfl,hil,hic⟩:=HI.out.at hpos
   have c1:=hic k (m:Int) (by simp [ints,hm])
   have hmn:=HFN.out m (List.mem_of_getElem? hm)
   have c2:=HL.out.2 m (by rw [HLL.out];exact hmn)
   have c2l:=HL.out.1
   have hmi:(m:Int)<(ns.length:Int):=by omega
   have hki:(k:Int)<((F n).length:Int):=by omega
   have HM:=hide (behM_take_succ L (F n) hm)
   have HO:=hide (bits_or (behM L ((F n).take k)) (L.getD m 0#64))
   clear hic hm hpos
   generalize behM L ((F n).take k)=B at HM HO ⊢
   generalize L.getD m 0#64=D at HM HO c2
   go_wp2
   go_roundw
   case rel=>exact ⟨k+1,by omega,by go_num,by rw [HM.out,← HO.out],by first | rfl | trivial⟩
   case measure=>simp [intOf];omega
  ·have hke:k=(F n).length:=by omega
   subst hke
   rw [List.take_length]
   go_wp2
   go_ret
   exact ⟨rfl,HB.out⟩
theorem ints_one (l:List Nat) (k:Nat):(ints (l++[k])).map (Value.int .i64)=(ints l).map (Value.int .i64)++[.int .i64 k]:=by simp [ints]
def maskC (L:List (BitVec 64)):Array Value:=(L.map fun m=>Value.int .u64 (m.toNat:Int)).toArray
def maskOf:Value→BitVec 64 | .int _ v=>BitVec.ofInt 64 v | _=>0#64
def masksOf (w:World) (b:Nat):List (BitVec 64):=match w.heap[b]? with | some (.cells cs _ _)=>cs.toList.map maskOf | _=>[]
def lenVL:Value→Nat | .slice _ n _=>n | _=>0
theorem masksOf_of {w:World} {b:Nat} {L:List (BitVec 64)} {t:TypeId} {fr:Nat × Nat} (h:w.heap[b]?=some (.cells (maskC L) t fr)):masksOf w b=L:=by
 simp only [masksOf,h,maskC]
 rw [List.map_map]
 have:(maskOf ∘ fun m:BitVec 64=>Value.int .u64 (m.toNat:Int))=id:=by
  funext m;exact ofInt_bv m
 rw [this];simp
theorem info_reg:(Tryz.prog.info? 113).map (fun i=>(i.zero,i.size,i.bytes))=some (some (.int .u64 0),1,8):=by kernel_rfl
theorem made_masks (n:Nat):madeCells #[Value.int .u64 0] n=maskC (List.replicate n 0#64):=by
 apply Array.ext'
 rw [toList_madeCells_one]
 simp [maskC]
theorem maskC_get {L:List (BitVec 64)} {n:Nat} (h:n<L.length):(maskC L)[n]?=some (.int .u64 ((L.getD n 0#64).toNat:Int)):=by
 simp [maskC,h]
theorem maskC_set (L:List (BitVec 64)) (n:Nat) (m:BitVec 64):(maskC L).setIfInBounds n (.int .u64 (m.toNat:Int))=maskC (L.set n m):=by
 simp only [maskC,List.setIfInBounds_toArray,List.map_set]
theorem masksAt_of {w:World} {b:Nat} {L:List (BitVec 64)} {t:TypeId} (h:w.heap[b]?=some (.cells (maskC L) t (0,0))):MasksAt w b L :=
 ⟨blk_lt h,fun j hj=>by rw [blk_cell h,maskC_get hj]⟩
theorem owns_popN {w:World} {base:Nat} {e:TypeId} {g cap n:Nat} {xs:List Value} {v:Value} (h:w.ownsRow base e 1 (.slice (some ⟨g,0,none⟩) (n+1) cap) (n+1) (xs++[v])):w.ownsRow base e 1 (.slice (some ⟨g,0,none⟩) n cap) n xs:=by
 obtain ⟨hl,h⟩:=h
 simp only [List.length_append,List.length_singleton,Nat.mul_one] at hl
 refine ⟨by omega,?_⟩
 rcases h with ⟨q,_⟩ | ⟨g', cap', cur,q,a1,a2,a3,a4,a5,a6⟩
 ·cases q
 ·cases q
  refine Or.inr ⟨g,cap,cur,rfl,a1,a2,by omega,a4,a5,?_⟩
  simp only [Nat.mul_one] at a6 ⊢
  have h2:=congrArg (List.take n) a6
  rw [List.take_take,Nat.min_eq_left (by omega)] at h2
  rw [h2,List.take_append_of_le_length (by omega),List.take_of_length_le (by omega)]
theorem append_zeroN (w:World) (ty:TypeId) (base a:Option Addr) (sLen sCap c:Nat) (hle:sLen≤sCap) :
 (Builtin.append_ #[25,25] ty #[.slice base sLen sCap,.slice a 0 c]).run Tryz.prog w=.ok (.slice base sLen sCap) w:=by
 obtain ⟨i0,hi,hz0,hz1,hz2⟩:=info_parts info_int
 refine run_append_nothing w 25 25 ty 3 i0 Tryz.underlying25 hi base sLen sCap hle _ ⟨Or.inl ⟨_,Tryz.underlying25⟩,fun w' =>by simp [Builtin.lenOf],?_,?_,by simp,by simp⟩
 ·cases a <;> simp [Builtin.firstCells,loadCells,loadCellsFrom]
 ·cases a <;> simp [Builtin.firstCells,loadCells,loadCellsFrom]
theorem wpList_append_zeroN {w:World} {ops:Array Oper} {rest:List Oper} {o:Oper} {a:Act} {Q:Exit→Act→World→Prop} (hgd:o.guard=none) (s x:Operand)
 (ho:o.op=.call { callee:=.builtin .append,args:=#[s,x],argTypes:=#[25,25] }) (base ra:Option Addr) (sLen sCap c:Nat) (hs:a.eval s=.slice base sLen sCap) (hx:a.eval x=.slice ra 0 c) (hle:sLen≤sCap)
 (h:wpList Tryz.prog ops Q rest (a.put o.dst (.slice base sLen sCap)) w):wpList Tryz.prog ops Q (o::rest) a w:=by
 refine wpList_plain hgd fun K hK=>?_
 have hr:=append_zeroN w o.type base ra sLen sCap c hle
 unfold Oper.wp execOp
 simp only [ho,resolve,invoke,builtin,Sem.run_bind,Sem.run_pure,Result.andThen_ok,List.map_toArray,List.map_cons,List.map_nil,hs,hx,hr]
 exact hK _ _ h
theorem addr_addN (b o j:Nat):(⟨b,o,none⟩:Addr).add j=⟨b,o+j,none⟩:=by
 cases j <;> simp [Addr.add]
theorem ints_appendN (l m:List Nat):ints (l++m)=ints l++ints m:=by simp [ints]
theorem nxl_few (ns:List Nd) (n:Nat):(nxl ns n).length≤ns.length:=Nat.le_trans (List.length_filter_le _ _) (by simp)
theorem ahl_few (ns:List Nd) (n:Nat):(ahl ns n).length≤ns.length:=Nat.le_trans (List.length_filter_le _ _) (by simp)
theorem cell_ofN {W u:World} {g:Nat} {cs:Array Value} {t:TypeId} {v:Value} (h:W.heap[g]?=some (.cells cs t (0,0))) (hB:Below W.heap.size W u) (i:Nat) (hv:cs[i]?=some v):u.cell? ⟨g,i,none⟩=some v:=by
 rw [(hB.cell (p:=⟨g,i,none⟩) (blk_lt h)),blk_cell h i];exact hv
theorem full_useA {r:Int} {len:Nat} {x:Nd} (hF:Full r len x) (hr:r≤64) (h:usA x=true):0≤x.a∧x.a<64:=by
 simp only [usA,Bool.or_eq_true,beq_iff_eq] at h
 have h' :x.op=2∨(3≤x.op∧x.op≤8)∨(10≤x.op∧x.op≤12):=by
  rcases h with (h | h) | h
  ·exact Or.inl h
  ·exact Or.inr (Or.inl (wi_iff.1 h))
  ·exact Or.inr (Or.inr (wi_iff.1 h))
 have:=hF.a (by omega) (by omega) (by omega)
 omega
theorem full_useB {r:Int} {len:Nat} {x:Nd} (hF:Full r len x) (hr:r≤64) (h:usB x=true):0≤x.b∧x.b<64:=by
 have h:=wi_iff.1 h
 have:=hF.b h.1 h.2
 omega
theorem full_set {r:Int} {len:Nat} {x:Nd} (hF:Full r len x) (hr:r≤64) (h:wi x.op 1 9=true):0≤x.d∧x.d<64:=by
 have h:=wi_iff.1 h
 have:=hF.d h.1 h.2
 omega
theorem few_start {k:Nat} (hk:k≤256):(List.range k).length+left (List.replicate k 0#64)*k≤k+64*256*256:=by
 have h1:=left_le (List.replicate k 0#64)
 rw [List.length_replicate] at h1
 have h2:left (List.replicate k 0#64)*k≤64*256*256:=Nat.mul_le_mul (Nat.le_trans h1 (Nat.mul_le_mul_left _ hk)) hk
 rw [List.length_range]
 omega
theorem few_turn {a b k c B:Nat} (h1:a+1+b*k≤B) (h2:c+1≤b) (d:Nat) (h3:d≤k):a+d+c*k≤B:=by
 have:=Nat.mul_le_mul_right k h2
 rw [Nat.succ_mul] at this
 omega
theorem less_turn {a b k c:Nat} (h2:c+1≤b) (d:Nat) (h3:d≤k):a+d+c*(k+1)<a+1+b*(k+1):=by
 have:=Nat.mul_le_mul_right (k+1) h2
 rw [Nat.succ_mul] at this
 omega
set_option maxRecDepth 100000 in
theorem live_any (r:Int) (ns:List Nd) (nb no ncap rb ab:Nat) (w:World) (hN:NodesAt w nb no ns) (hc:chk r ns=0) (hR:RowsR w rb ns.length (nxl ns)) (hA:RowsR w ab ns.length (ahl ns)) :
 Calls Tryz.prog 55 #[.agg #[.slice (some ⟨nb,no,none⟩) ns.length ncap,.slice (some ⟨rb,0,none⟩) ns.length ns.length,.slice (some ⟨ab,0,none⟩) ns.length ns.length]] w fun e w' =>∃ lb L,e=.returned (.slice (some ⟨lb,0,none⟩) ns.length ns.length)∧w.heap.size≤lb∧IsL ns L∧w'.heap[lb]?=some (.cells (maskC L) 113 (0,0))∧Below w.heap.size w w' :=by
 obtain ⟨i0,hi,hz0,hz1,hz2⟩:=info_parts info_int
 have hl:=(chk_full hc).1
 have hr:=(chk_full hc).2.1.2
 have hms:∀ W:World,Sem.run Tryz.prog (Instr.makeSlice 109 (.int .i64 (ns.length:Int)) (.int .i64 (ns.length:Int))) W=.ok (.slice (some ⟨W.heap.size,0,none⟩) ns.length ns.length) (W.alloc (.cells (madeCells #[.int .u64 0] ns.length) 113)):=fun W=>run_make_row' 109 113 _ 8 Tryz.underlying109 info_reg rfl .i64 .i64 ns.length (by omega) (by omega) W
 have hb0:Below w.heap.size w (w.alloc (.cells #[.slice (some ⟨nb,no,none⟩) ns.length ncap,.slice (some ⟨rb,0,none⟩) ns.length ns.length,.slice (some ⟨ab,0,none⟩) ns.length ns.length] 107)):=(Below.refl _ w).alloc (Nat.le_refl _) _
 have hbx:(w.alloc (.cells #[.slice (some ⟨nb,no,none⟩) ns.length ncap,.slice (some ⟨rb,0,none⟩) ns.length ns.length,.slice (some ⟨ab,0,none⟩) ns.length ns.length] 107)).heap[w.heap.size]?=some (.cells #[.slice (some ⟨nb,no,none⟩) ns.length ncap,.slice (some ⟨rb,0,none⟩) ns.length ns.length,.slice (some ⟨ab,0,none⟩) ns.length ns.length] 107 (0,0)):=World.alloc_heap_new w _
 have hN0:=hN.below hb0 hN.lt
 have hR0:=hR.below hb0
 have hA0:=hA.below hb0
 have HC:=hide hc
 clear hc hN hR hA
 go_enter Tryz.func55,Tryz.ntmps55
 go_upto_region 1 with fail
 generalize (w.alloc (.cells #[.slice (some ⟨nb,no,none⟩) ns.length ncap,.slice (some ⟨rb,0,none⟩) ns.length ns.length,.slice (some ⟨ab,0,none⟩) ns.length ns.length] 107))=Wq at hb0 hbx hN0 hR0 hA0 ⊢
 have q0:=blk_cell hbx 0
 simp at q0
 have ql:=blk_lt hbx
 have HWq:=hide hb0
 have HX:=hide hbx
 have HN:=hide hN0
 have HR:=hide hR0
 have HA:=hide hA0
 clear hb0 hbx hN0 hR0 hA0
 go_upto_region 3 with fail
 have hB0:Below Wq.heap.size Wq (Wq.alloc (.cells (madeCells #[.int .u64 0] ns.length) 113)):=(Below.refl _ Wq).alloc (Nat.le_refl _) _
 have hX0:(Wq.alloc (.cells (madeCells #[.int .u64 0] ns.length) 113)).heap[Wq.heap.size]?=some (.cells (maskC (List.replicate ns.length 0#64)) 113 (0,0)):=by
  rw [World.alloc_heap_new,made_masks]
 have q0' :=(hB0.cell (p:=⟨w.heap.size,0,none⟩) ql).trans q0
 have ql' :=Nat.lt_of_lt_of_le ql hB0.size
 generalize (Wq.alloc (.cells (madeCells #[.int .u64 0] ns.length) 113))=W0 at hB0 hX0 q0' ql' ⊢
 have HX0:=hide hX0
 have HB0:=hide hB0
 clear hX0 hms hB0 q0 ql
 go_wp2_with fail
 go_loopw [4,16] (fun v i wr=>∃ k:Nat,k≤ns.length∧i=.int .i64 k∧wr.heap[Wq.heap.size]?=some (.cells (maskC (List.replicate ns.length 0#64)) 113 (0,0))∧wr.ownsRow (Wq.heap.size+1) 3 1 v (ints (List.range k)).length ((ints (List.range k)).map (Value.int .i64))∧Below Wq.heap.size Wq wr) (fun v i _=>ns.length-(intOf i).toNat)
 case atStart=>exact ⟨0,Nat.zero_le _,rfl,HX0.out,World.ownsRow_nil _ _ _ _,HB0.out⟩
 case round =>
  obtain ⟨k,hk,rfl,hX,hown,hb⟩:=hrel
  have hsz:=hb.size
  have hXl:=blk_lt hX
  by_cases hlt:k<ns.length
  ·have hli:(k:Int)<(ns.length:Int):=by omega
   have HXX:=hide hX
   have HO:=hide hown
   have HLE:=hide (show (ints (List.range k)).length=k by simp [ints])
   have HB:=hide hb
   clear hX hown hb
   have HNW:=hide (World.alloc_heap_new wr (.cells #[.int .i64 k] 3))
   go_wp2_with (at_builtin;refine wpList_append_own _ rfl (.tmp 19) (.tmp 21) 25 rfl (Wq.heap.size+1) 3 i0 (.int .i64 0) 1 8 Tryz.underlying25 hi hz0 hz1 hz2 rfl (by decide) _ _ _ rfl (HO.out.alloc _) ⟨wr.heap.size,0,none⟩ 1 1 [.int .i64 k] rfl rfl ?c1 ?c2 ?c3 ?c4 ?c5 ?_)
   case c1 =>
    intro j u hj
    match j,hj with
    | 0,hj=>simp at hj;subst hj;exact blk_cell HNW.out 0
   case c2=>intro u hu;simp at hu;subst hu;rfl
   case c3=>rw [HLE.out];unfold maxLen;omega
   case c4=>rw [HLE.out];omega
   case c5=>simp;omega
   intro v' w3 hown3 hg3 _
   have hlt3:=HO.out.lt
   have hB3:Below Wq.heap.size Wq w3:=(HB.out.alloc hsz _).grown hg3 (by simp;omega) (fun k hk=>by have:=(hlt3 k hk).1;omega)
   have hX3:w3.heap[Wq.heap.size]?=some (.cells (maskC (List.replicate ns.length 0#64)) 113 (0,0)):=by
    rw [hg3.block _ (by simp;omega) (fun e=>by have:=(hlt3 _ e.symm).1;omega),Below.heap_alloc _ _ _ hXl];exact HXX.out
   have hown4:w3.ownsRow (Wq.heap.size+1) 3 1 v' (ints (List.range (k+1))).length ((ints (List.range (k+1))).map (Value.int .i64)):=by
    rw [List.range_succ,ints_one];simpa [ints] using hown3
   have H3:=hide (And.intro hX3 (And.intro hown4 hB3))
   clear hown3 hg3 hlt3 hB3 hX3 hown4 HO HXX HB
   go_wp2
   go_roundw
   case rel=>exact ⟨k+1,by omega,by go_num,H3.out.1,H3.out.2.1,H3.out.2.2⟩
   case measure=>simp [intOf];omega
  ·have ek:k=ns.length:=by omega
   subst ek
   have HS:=hide (LS.start ns)
   have HXX:=hide hX
   have HO:=hide hown
   have HB:=hide hb
   clear hX hown hb q0' ql'
   go_wp2_with fail
   go_loopw [4] (fun v wr=>∃ L wk,LS ns L wk∧wk.length+left L*ns.length≤ns.length+64*256*256∧wr.heap[Wq.heap.size]?=some (.cells (maskC L) 113 (0,0))∧wr.ownsRow (Wq.heap.size+1) 3 1 v (ints wk).length ((ints wk).map (Value.int .i64))∧Below Wq.heap.size Wq wr) (fun v wr=>lenVL v+left (masksOf wr Wq.heap.size)*(ns.length+1))
   case atStart=>exact ⟨_,_,HS.out,few_start hl.2,HXX.out,HO.out,HB.out⟩
   case round =>
    clear HS HXX HO HB hXl hsz
    obtain ⟨L,wk,hS,hfew,hX,hown,hb⟩:=hrel
    have hXl:=blk_lt hX
    rcases List.eq_nil_or_concat wk with rfl | ⟨wk', n,rfl⟩
    ·obtain ⟨va,vc,rfl⟩:=owns_slice hown
     have HXX:=hide hX
     have HS:=hide hS
     have HB:=hide hb
     clear hX hS hb hown
     go_wp2
     go_ret
     exact ⟨Wq.heap.size,L,rfl,HWq.out.size,HS.out.done HC.out,HXX.out,HWq.out.trans (HB.out.mono HWq.out.size)⟩
    ·rw [List.concat_eq_append] at hS hown hfew
     have e:(ints (wk' ++[n])).length=wk'.length+1:=by simp [ints]
     rw [e,ints_one] at hown
     have hn:n<ns.length:=hS.wl n (by simp)
     rw [List.length_append,List.length_singleton] at hfew
     obtain ⟨g,vc,rfl,hgb,hgl,hvc⟩:∃ g vc,u4=.slice (some ⟨g,0,none⟩) (wk'.length+1) vc∧Wq.heap.size+1≤g∧g<wr.heap.size∧wk'.length+1≤vc:=by
      rcases hown.2 with ⟨_,q⟩ | ⟨g,vc,cur,rfl,q1,q2,q3,_⟩
      ·omega
      ·exact ⟨g,vc,rfl,q1,blk_lt q2,q3⟩
     have hcell:wr.cell? ⟨g,wk'.length,none⟩=some (.int .i64 n):=by
      have h0:=hown.cells (g:=g) rfl wk'.length (.int .i64 n) (by rw [List.getElem?_append_right (by simp [ints])];simp [ints])
      rwa [addr_addN,Nat.zero_add] at h0
     have hfw:wk'.length<4200000:=by omega
     have hwrap:IntKind.i64.wrap (((wk'.length+1:Nat):Int)-1)=(wk'.length:Int):=by
      rw [IntWalk.i64_left];unfold wrap64;omega
     have hmc:(wk'.length:Int)≤(vc:Int):=by omega
     have hni:(n:Int)<(ns.length:Int):=by omega
     have hm0:(0:Int)<((wk'.length+1:Nat):Int):=by omega
     have hNr:=HN.out.below hb HN.out.lt
     have hgn:=get_nd hn
     have HF:=hide (chk_at HC.out hn)
     generalize hxx:nd ns n=x at hgn HF
     have HXE:=hide hxx
     have d0:=hNr.c0 n x hgn
     have d1:=hNr.c1 n x hgn
     have d2:=hNr.c2 n x hgn
     have d3:=hNr.c3 n x hgn
     have d4:=hNr.c4 n x hgn
     have d5:=hNr.c5 n x hgn
     have dl:=hNr.lt
     have hqr:=(hb.block w.heap.size (blk_lt HX.out)).trans HX.out
     have q0:=blk_cell hqr 0
     simp at q0
     have ql:=blk_lt hqr
     have hbX:Below wr.heap.size wr (wr.alloc (.cells #[.int .i64 x.op,.int .i64 x.d,.int .i64 x.a,.int .i64 x.b,.int .i64 x.t,.int .i64 x.e] 48)):=(Below.refl _ wr).alloc (Nat.le_refl _) _
     have hxn:(wr.alloc (.cells #[.int .i64 x.op,.int .i64 x.d,.int .i64 x.a,.int .i64 x.b,.int .i64 x.t,.int .i64 x.e] 48)).heap[wr.heap.size]?=some (.cells #[.int .i64 x.op,.int .i64 x.d,.int .i64 x.a,.int .i64 x.b,.int .i64 x.t,.int .i64 x.e] 48 (0,0)):=World.alloc_heap_new wr _
     have HXX:=hide hX
     have HS:=hide hS
     have HB:=hide hb
     have HO:=hide hown
     have HFEW:=hide hfew
     have HQR:=hide hqr
     clear hX hS hb hown hqr e hfew hNr hgn hxx
     go_upto_region 12 with fail
     have HXW:=hide ((hbX.block _ (blk_lt HQR.out)).trans HQR.out)
     have HXX2:=hide ((hbX.block _ hXl).trans HXX.out)
     have HO2:=hide (ownsRow_below HO.out hbX (Nat.le_refl _))
     have HB2:=hide (HB.out.trans (hbX.mono HB.out.size))
     generalize (wr.alloc (.cells #[.int .i64 x.op,.int .i64 x.d,.int .i64 x.a,.int .i64 x.b,.int .i64 x.t,.int .i64 x.e] 48))=Wx at hxn HXW HXX2 HO2 HB2 ⊢
     have HNB:=hide hxn
     have HPS:=hide (fun (u:World) (hB:Below Wx.heap.size Wx u)=>(show u.cell? ⟨wr.heap.size,0,none⟩=some (.int .i64 x.op)∧u.cell? ⟨wr.heap.size,1,none⟩=some (.int .i64 x.d)∧u.cell? ⟨wr.heap.size,2,none⟩=some (.int .i64 x.a)∧u.cell? ⟨wr.heap.size,3,none⟩=some (.int .i64 x.b)∧u.cell? ⟨wr.heap.size,4,none⟩=some (.int .i64 x.t)∧u.cell? ⟨wr.heap.size,5,none⟩=some (.int .i64 x.e)∧u.cell? ⟨w.heap.size,0,none⟩=some (.slice (some ⟨nb,no,none⟩) ns.length ncap)∧u.cell? ⟨w.heap.size,1,none⟩=some (.slice (some ⟨rb,0,none⟩) ns.length ns.length)∧u.cell? ⟨w.heap.size,2,none⟩=some (.slice (some ⟨ab,0,none⟩) ns.length ns.length) from ⟨cell_ofN HNB.out hB 0 rfl,cell_ofN HNB.out hB 1 rfl,cell_ofN HNB.out hB 2 rfl,cell_ofN HNB.out hB 3 rfl,cell_ofN HNB.out hB 4 rfl,cell_ofN HNB.out hB 5 rfl,cell_ofN HXW.out hB 0 rfl,cell_ofN HXW.out hB 1 rfl,cell_ofN HXW.out hB 2 rfl⟩))
     clear hxn d0 d1 d2 d3 d4 d5 dl q0 ql hcell hbX HQR hXl
     go_cut [8] from 43 to 52 (fun v8 wx=>v8=.int .u64 ((eqM ns L n).toNat:Int)∧Below Wx.heap.size Wx wx)
     case first =>
      go_region_held3 (fun u=>u.cell? ⟨wr.heap.size,0,none⟩=some (.int .i64 x.op)∧u.cell? ⟨wr.heap.size,1,none⟩=some (.int .i64 x.d)∧u.cell? ⟨wr.heap.size,2,none⟩=some (.int .i64 x.a)∧u.cell? ⟨wr.heap.size,3,none⟩=some (.int .i64 x.b)∧u.cell? ⟨wr.heap.size,4,none⟩=some (.int .i64 x.t)∧u.cell? ⟨wr.heap.size,5,none⟩=some (.int .i64 x.e)∧u.cell? ⟨w.heap.size,0,none⟩=some (.slice (some ⟨nb,no,none⟩) ns.length ncap)∧u.cell? ⟨w.heap.size,1,none⟩=some (.slice (some ⟨rb,0,none⟩) ns.length ns.length)∧u.cell? ⟨w.heap.size,2,none⟩=some (.slice (some ⟨ab,0,none⟩) ns.length ns.length)) (first
       | (with_reducible exact HPS.out _ hB3)
       | (with_reducible exact HPS.out _ hB2)
       | (with_reducible exact HPS.out _ hB1)
       | exact HPS.out _ (Below.refl _ Wx).drew
       | exact HPS.out _ (Below.refl _ Wx)) (first
       | (go_at_call 57;refine (lsets_any x _ (full_set HF.out hr)).mono ?_;rintro e wcc ⟨rfl,hbc⟩;have hB3:Below Wx.heap.size Wx wcc:=hB2.trans (hbc.mono hB2.size))
       | (go_at_call 58;refine (behind_any ns L (some ⟨nb,no,none⟩) ns.length ncap ab n rb Wq.heap.size (nxl ns) _ ((HR.out.below HB2.out).below hB1) ((masksAt_of HXX2.out).below hB1) HS.out.len hn hl.2 (fun m hm=>(mem_nxl.1 hm).1) (Nat.le_trans (nxl_few ns n) hl.2)).mono ?_;rintro e wb ⟨rfl,hbb⟩;have hB2:Below Wx.heap.size Wx wb:=hB1.trans (hbb.mono hB1.size))
       | (go_at_call 81;refine (uses_any x _ (full_useA HF.out hr) (full_useB HF.out hr)).mono ?_;rintro e wa ⟨rfl,hba⟩;have hB1:Below Wx.heap.size Wx wa:=(by first | exact (Below.refl _ Wx).drew.trans hba | exact hba)))
      all_goals go_wp2
      all_goals go_meet
      all_goals exact ⟨by rw [bits_andNot,bits_or,← HXE.out];rfl,hB3⟩
     case rest =>
      obtain ⟨rfl,hBc⟩:=hcut
      have hX4:=(hBc.block _ (blk_lt HXX2.out)).trans HXX2.out
      have hO4:=ownsRow_below HO2.out hBc (Nat.le_refl _)
      have hB4:=HB2.out.trans (hBc.mono HB2.out.size)
      have hxc4:wc.cell? ⟨Wq.heap.size,n,none⟩=some (.int .u64 ((L.getD n 0#64).toNat:Int)):=by rw [blk_cell hX4,maskC_get (by rw [HS.out.len];exact hn)]
      have hxf4:=blk_frozen hX4 n
      have hXl4:=blk_lt hX4
      have HX4:=hide hX4
      have HO4:=hide hO4
      have HB4:=hide hB4
      clear hX4 hO4 hB4 hBc HXX2 HO2 HB2 HPS HNB HXW HXE HF
      by_cases he:eqM ns L n=L.getD n 0#64
      ·rw [he]
       have HE:=hide he
       clear he
       generalize ((L.getD n 0#64).toNat:Int)=D at hxc4 ⊢
       go_wp2_with fail
       go_roundw
       case rel=>exact ⟨L,wk', HS.out.pop HE.out,by have:=HFEW.out;omega,HX4.out,by rw [ints_len];exact owns_popN HO4.out,HB4.out⟩
       case measure =>
        rw [masksOf_of HX4.out,masksOf_of HXX.out]
        simp [lenVL]
      ·have hne:(((eqM ns L n).toNat:Int)==((L.getD n 0#64).toNat:Int))=false:=by
        have:(eqM ns L n).toNat≠(L.getD n 0#64).toNat:=fun q=>he (BitVec.eq_of_toNat_eq q)
        rw [beq_eq_false_iff_ne]
        intro q
        exact this (Int.ofNat.inj q)
       have hne2:(((eqM ns L n).toNat:Int) != ((L.getD n 0#64).toNat:Int))=true:=by rw [bne,hne];rfl
       have HE:=hide he
       have HST:=hide (maskC_set L n (eqM ns L n))
       have HT5:=hide (HS.out.turn HC.out)
       have HLL:=hide (left_less HC.out HS.out he)
       have HMW:=hide (masksOf_of HXX.out)
       clear he
       generalize hEm:eqM ns L n=E at *
       clear hEm
       generalize ((L.getD n 0#64).toNat:Int)=D at hxc4 hne hne2
       have hni' :=hni
       go_upto_region 15 with fail
       have hX5' :(wc.setCell ⟨Wq.heap.size,n,none⟩ (.int .u64 (E.toNat:Int))).heap[Wq.heap.size]?=some (.cells (maskC (L.set n E)) 113 (0,0)):=by
        rw [blk_set _ HX4.out,HST.out]
       have hO5:(wc.setCell ⟨Wq.heap.size,n,none⟩ (.int .u64 (E.toNat:Int))).ownsRow (Wq.heap.size+1) 3 1 (.slice (some ⟨g,0,none⟩) wk'.length vc) wk'.length ((ints wk').map (Value.int .i64)):=owns_set (owns_popN HO4.out) HX4.out (by decide)
       have hB5:Below Wq.heap.size Wq (wc.setCell ⟨Wq.heap.size,n,none⟩ (.int .u64 (E.toNat:Int))):=HB4.out.setCell (p:=⟨Wq.heap.size,n,none⟩) (Nat.le_refl _) _
       generalize (wc.setCell ⟨Wq.heap.size,n,none⟩ (.int .u64 (E.toNat:Int)))=W5 at hX5' hO5 hB5 ⊢
       clear HX4 HO4 HB4 hxc4 hxf4 hXl4
       obtain ⟨ra,rc,hrc,hrI⟩:=(HA.out.below hB5).row n hn
       have hrl:=(HA.out.below hB5).lt
       have hq5:=(hB5.block _ (blk_lt HX.out)).trans HX.out
       have q2:=blk_cell hq5 2
       simp at q2
       have ql5:=blk_lt hq5
       have HX5:=hide hX5'
       have HO5:=hide hO5
       have HB5:=hide hB5
       have HI:=hide hrI
       have hgl5:g<W5.heap.size:=(hO5.lt g rfl).2
       have HAF:=hide (ahl_few ns n)
       have hfew5:wk'.length+(ahl ns n).length<4200000:=by have:=HAF.out;have:=HFEW.out;have:=few_turn HFEW.out HLL.out _ HAF.out;omega
       clear hX5' hO5 hB5 hrI hq5
       by_cases hz:(ahl ns n).length=0
       ·rw [hz] at hrc
        have HE0:=hide (List.eq_nil_of_length_eq_zero hz)
        clear hz
        go_wp2_with (at_builtin;refine wpList_append_zeroN rfl (.tmp 63) (.tmp 68) rfl (some ⟨g,0,none⟩) ra wk'.length vc rc rfl rfl (by omega) ?_)
        go_roundw
        case rel=>exact ⟨L.set n E,wk' ++ahl ns n,HT5.out,by rw [List.length_append];exact few_turn HFEW.out HLL.out _ HAF.out,HX5.out,by rw [HE0.out,List.append_nil,ints_len];exact HO5.out,HB5.out⟩
        case measure =>
         rw [masksOf_of HX5.out,HMW.out]
         have:=less_turn (a:=wk'.length) (k:=ns.length) HLL.out 0 (by omega)
         simp [lenVL] at this ⊢
         omega
       ·have hpos:0<(ints (ahl ns n)).length:=by rw [ints_len];omega
        obtain ⟨ib,io,rfl,hal,hac⟩:=HI.out.at hpos
        have HAC:=hide hac
        clear hac
        have HFI:=hide (ints_len (ahl ns n))
        have hS0:=HB5.out.size
        go_wp2_with (at_builtin;refine wpList_append_own _ rfl (.tmp 63) (.tmp 68) 25 rfl (Wq.heap.size+1) 3 i0 (.int .i64 0) 1 8 Tryz.underlying25 hi hz0 hz1 hz2 rfl (by decide) _ _ _ rfl HO5.out ⟨ib,io,none⟩ (ahl ns n).length rc ((ints (ahl ns n)).map (Value.int .i64)) rfl (by simp [ints]) ?c1 ?c2 ?c3 ?c4 ?c5 ?_)
        case c1 =>
         intro j u hj
         rw [List.getElem?_map] at hj
         cases hz2:(ints (ahl ns n))[j]? with
         | none=>rw [hz2] at hj;cases hj
         | some z=>rw [hz2] at hj;cases hj;rw [addr_addN];exact HAC.out j z hz2
        case c2=>intro u hu;obtain ⟨z,_,rfl⟩:=List.mem_map.1 hu;rfl
        case c3=>unfold maxLen;omega
        case c4=>omega
        case c5=>have:=blk_lt HX5.out;omega
        intro v' w6 hown6 hg6 _
        have hlt6:=HO5.out.lt
        have hB6:Below Wq.heap.size Wq w6:=HB5.out.grown hg6 (by omega) (fun k hk=>by have:=(hlt6 k hk).1;omega)
        have hX6:=(hg6.block _ (blk_lt HX5.out) (fun e=>by have:=(hlt6 _ e.symm).1;omega)).trans HX5.out
        have hown7:w6.ownsRow (Wq.heap.size+1) 3 1 v' (ints (wk' ++ahl ns n)).length ((ints (wk' ++ahl ns n)).map (Value.int .i64)):=by
         rw [ints_appendN,List.map_append,List.length_append,ints_len,ints_len];exact hown6
        have hv:lenVL v' =(wk' ++ahl ns n).length:=by
         obtain ⟨_,_,e⟩:=owns_slice hown7
         rw [e,lenVL,ints_len]
        have H6:=hide (And.intro hX6 (And.intro hown7 (And.intro hB6 hv)))
        clear hown6 hg6 hlt6 hB6 hX6 hown7 hv
        go_wp2_with fail
        go_roundw
        case rel=>exact ⟨L.set n E,wk' ++ahl ns n,HT5.out,by rw [List.length_append];exact few_turn HFEW.out HLL.out _ HAF.out,H6.out.1,H6.out.2.1,H6.out.2.2.1⟩
        case measure =>
         rw [masksOf_of H6.out.1,HMW.out]
         have:=less_turn (a:=wk'.length) (k:=ns.length) HLL.out _ HAF.out
         have:=H6.out.2.2.2
         simp [lenVL] at *
         omega
end Go.Proofs.YtkkolclmfcmfbaaGreatDoor
