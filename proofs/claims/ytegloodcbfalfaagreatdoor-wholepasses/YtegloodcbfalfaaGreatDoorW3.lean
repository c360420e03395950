/-
  Of the proof of WholePasses: TN, TP, LA, LB, RC, RD, LC, LF, LI, LK, TQ, TS, RP.
-/
import Derived.Test.YtegloodcbfalfaaGreatDoorW1
import Derived.Test.YtegloodcbfalfaaGreatDoorW2
import Derived.RangeFuncNested
import Derived.RangeFuncBound
import Derived.RangeFuncCalls
import Derived.RangeFuncLeaves
import Derived.Shelf.Abstract
import Derived.Shelf.RegionOpen
import Derived.OwnWalkIn
import Derived.TacticsInMore
import Derived.LoopNIn
import Derived.LoopIn
import Derived.RangeFuncBox
import Derived.Maps.AppendAt
import Derived.Maps.Own
import Derived.Maps.Views
import Derived.WideKeyEntry
import Derived.DeepKeys4
import Derived.Deep.RegionHeld3
import Derived.StillTailTactics
import Derived.Deep.AppendLies
import Derived.Deep.OwnRows
import Derived.OrdersIn
import Derived.Deep.QuietTactic
import Derived.BigQuiet
import Derived.Test.YtegloodcbfalfaaGreatDoorRows
import Derived.Stop.LaidErr
import Derived.Deep.DeepHandedRow
import Derived.Lib.LaidTab
set_option linter.unusedVariables false
set_option linter.unusedSimpArgs false
set_option maxHeartbeats 40000000
set_option maxRecDepth 100000
namespace Go.Proofs.YtegloodcbfalfaaGreatDoor
open Go.RowKit Go.Maps Go.ChangeMaps
theorem aLJ (l:List UInt8):(trimB l).length≤l.length:=by
 unfold trimB Lib.trimSuffix
 split
 ·rw [List.length_take];omega
 ·exact Nat.le_refl _
theorem sJ {w:World} {base:Nat} {e:TypeId} {size:Nat} {v:Value} {n:Nat} {xs:List Value} (h:w.ownsRow base e size v n xs) {g:Nat} (hg:g<base) (cs:Array Value):(w.setRow g cs).ownsRow base e size v n xs:=by
 obtain ⟨h1,h2 | ⟨g', cap,cur,hv,hb,hh,hr⟩⟩:=h
 ·exact ⟨h1,Or.inl h2⟩
 ·exact ⟨h1,Or.inr ⟨g', cap,cur,hv,hb,by rw [setRow_other _ _ _ _ aF];exact hh,hr⟩⟩
theorem aRM {H:Type} {P:Program} {k:TypeId} {R:Value→Option (DataW H × List MemPlace)} {m:Nat} {D:DataW H} {w:World} {base b:Nat} {e:TypeId} {size:Nat} {v:Value} {n:Nat} {xs:List Value} (h:w.ownsRow base e size v n xs) (hb:w.ownsMap P k R b m D):some b≠v.ownBlock:=by
 intro hq
 obtain ⟨es,clock,hm,_⟩:=hb
 obtain ⟨_,⟨rfl,_⟩ | ⟨g,cap,cur,rfl,_,hg,_⟩⟩:=h
 ·simp [Value.ownBlock] at hq
 ·simp [Value.ownBlock] at hq
  subst hq
  rw [hm] at hg
  have:=Option.some.inj hg
  cases this
def rdR (l0:List UInt8):Option Int:=if Lib.hasPrefix l0 lS then match Lib.atoiAll (l0.drop 5) with
 | .ok v=>some v
 | _=>none
 else none
theorem aWD {l l0:List UInt8} {ls:List (List UInt8)} (hl:l.length≤16448) (hc:dB 10 (trimB l)=l0::ls):rdP l=match rdR l0 with
 | none=>none
 | some v=>(jJ ls).map fun ns=>(v,ns):=by
 unfold rdP rdR
 rw [if_neg aF,hc]
 simp only
 cases Lib.hasPrefix l0 lS
 ·rfl
 ·simp only [if_true]
  cases Lib.atoiAll (l0.drop 5) <;> rfl
theorem UW (l l0:List UInt8) (ls:List (List UInt8)) (w:World) (hE:Env w) (hl:l.length≤16448) (hc:dB 10 (trimB l)=l0::ls) :
 Calls Tryz.prog 46 #[.string (ba l)] w fun e w' =>wP (rdP l) w.heap.size e w' ∧Below w.heap.size w w' :=by
 have hres:=aWD hl hc
 have hsz:(ba l).size=l.length:=by simp [ba,ByteArray.size]
 have hli:¬ (16448:Int)<(l.length:Int):=by omega
 have htl:=aLJ l
 have hmem:∀ y∈l0::ls,y.length≤16448:=fun y hy=>by have:=wO 10 (trimB l) (y:=y) (by rw [hc];exact hy);omega
 have hcl:(l0::ls).length≤16449:=by have:=PE 10 (trimB l);rw [hc] at this;omega
 have hsp:=yK 10 (trimB l) (w.alloc (.cells z2 24)) (hE.below (dY)) aF
 rw [hc] at hsp
 have htr:∀ u,Calls Tryz.prog 81 #[.string (ba l),.string ⟨#[10]⟩] u fun e w' =>e=.returned (.string (ba (trimB l)))∧w' =u:=fun u=>by
  have:=Tryz.strings_TrimSuffix (ba l) ⟨#[10]⟩ u aF
  rw [jB] at this
  exact this
 generalize trimB l=tl at htr hsp
 have hcp:∀ u,Calls Tryz.prog 82 #[.string (ba l0),.string ⟨#[114,101,103,115,32]⟩] u fun e w' =>e=.returned (.tuple #[.string (ba (Lib.trimPrefix l0 lS)),.bool (Lib.hasPrefix l0 lS)])∧w' =u:=fun u=>by
  have:=Tryz.strings_CutPrefix (ba l0) ⟨#[114,101,103,115,32]⟩ u
  rw [jB] at this
  exact this
 rw [List.length_cons] at hsp
 generalize hn:ls.length=n at hsp
 have HN:=aB hn
 have hn0:(0:Int)<(n:Int)+1:=by omega
 clear hn
 go_enter Tryz.func46,Tryz.ntmps46
 go_wp2_with (first
  | (go_at_call 81;refine (htr _).mono ?_;rintro e w0 ⟨rfl,rfl⟩))
 refine hsp.mono ?_
 rintro e w1 ⟨rfl,hw1⟩
 have hp0:w1.heap[w.heap.size]?=some (.cells z2 24 (0,0)):=by rw [hw1];exact aT _ (jA rfl)
 have hp1:w1.heap[w.heap.size+1]?=some (.cells (strs (l0::ls)).toArray 9 (0,0)):=by rw [hw1];exact jA aQ
 have hB1:Below w.heap.size w w1:=by rw [hw1];exact (dY).alloc aQ _
 have hs1:w.heap.size+2≤w1.heap.size:=by rw [hw1];simp
 clear hw1 hsp
 have cx:w1.cell? ⟨w.heap.size+1,0,none⟩=some (.string (ba l0)):=aA hp1 0
 have HP:=aB hp0
 have HW:=aB hp1
 have hE1:=hE.below hB1
 clear hp0 hp1
 have hal:(Lib.trimPrefix l0 lS).length≤16448:=by
  have:=hmem l0 (List.mem_cons_self ..)
  unfold Lib.trimPrefix
  split
  ·rw [List.length_drop];omega
  ·exact this
 go_wp2_with (first
  | (go_at_call 82;refine (hcp _).mono ?_;rintro e w0 ⟨rfl,rfl⟩))
 refine (DN (ba (Lib.trimPrefix l0 lS)) _ hE1 (by show (ba (Lib.trimPrefix l0 lS)).data.size≤_;simp [ba];omega)).mono ?_
 rintro e w2 ⟨v,er,rfl,hm,hb2⟩
 rw [jB] at hm
 have hs2:=hb2.size
 have hP2:=bP hb2 HP.out
 have HW2:=aB (bP hb2 HW.out)
 have hB2:=hB1.trans (hb2.mono aF)
 clear hb2 HP HW hE1 hB1 cx htr hcp
 cases hpre:Lib.hasPrefix l0 lS
 ·have hr:rdR l0=none:=by unfold rdR;rw [hpre];rfl
  go_wp2_with (refine wpList_plain rfl fun _ hK=>wp_store_row _ _ _ rfl _ z2 rfl rfl _ _ hP2 dL rfl rC (hK _ _ ?_))
  refine bodyPost_ret (bV Tryz.results46 _ _ _ _ _ _ _ (.bool false) rfl (setRow_heap _ _ _ z2 _ _ hP2) Tryz.underlying24 rfl dL rfl) rfl ⟨?_,hB2.trans ⟨rfl,rfl,rfl,aQ,fun k hk=>setRow_other _ _ _ _ aF⟩⟩
  rw [hres,hr];rfl
 ·have htp:Lib.trimPrefix l0 lS=l0.drop 5:=by unfold Lib.trimPrefix;rw [hpre];rfl
  rw [htp] at hm
  by_cases hok:∃ u,Lib.atoiAll (l0.drop 5)=.ok u
  ·obtain ⟨u,hu⟩:=hok
   rw [hu] at hm
   obtain ⟨rfl,rfl⟩:=hm
   have hr:rdR l0=some v:=by unfold rdR;rw [hpre,hu];rfl
   rw [hr] at hres
   simp only at hres
   have rT:=aB hP2
   have HB2:=aB hB2
   clear hP2 hB2
   go_wp2_with fail
   refine (sH _).mono ?_
   rintro e w3 ⟨rfl,JC,hb3⟩
   have hs3:=hb3.size
   simp only [World.size_alloc] at hs3 hb3 JC
   have vB:=aB ((hb3.block _ aF).trans (aT (.cells #[.int .i64 v,.slice none 0 0] 24) rT.out))
   have HW3:=aB ((hb3.block _ aF).trans (aT (.cells #[.int .i64 v,.slice none 0 0] 24) HW2.out))
   have HQ3:Hid (w3.heap[w2.heap.size]?=some (.cells #[.int .i64 v,.slice none 0 0] 24 (0,0))):=(hb3.block _ aF).trans (jA rfl)
   have HB3:=aB ((HB2.out.alloc aF (.cells #[.int .i64 v,.slice none 0 0] 24)).trans (hb3.mono aF))
   have KH:=aB JC
   have hn1:(1:Int)≤(n:Int)+1:=by omega
   clear hb3 rT HB2 HW2 JC
   obtain ⟨i0,hi0,hz0,hz1,hz2⟩:=info_parts DT
   go_wp2_with fail
   ·have e0:=aA HQ3.out 0
    have e1:=aA HQ3.out 1
    simp at e0 e1
    have hp3:=vB.out
    refine wp_loop_rounds 1 ?_
    rw [rounds_succ]
    go_wp2_with (refine wpList_plain rfl fun _ hK=>wp_store_row _ _ _ rfl _ #[.int .i64 v,.slice none 0 0] rfl rfl _ _ hp3 dL rfl (by simp [Value.oneCell']) (hK _ _ ?_))
    have hls:ls=[]:=List.length_eq_zero_iff.1 (by rw [HN.out];exact h)
    refine bodyPost_ret (bV Tryz.results46 _ _ _ _ _ _ _ (.bool true) rfl (setRow_heap _ _ _ #[.int .i64 v,.slice none 0 0] _ _ hp3) Tryz.underlying24 rfl dL rfl) rfl ⟨?_,HB3.out.trans ⟨rfl,rfl,rfl,aQ,fun k hk=>setRow_other _ _ _ _ aF⟩⟩
    rw [hres,hls]
    exact ⟨none,0,rfl,World.ownsRow_nil _ _ _ _⟩
   ·go_loopw [47] (fun v47 wr=>∃ (i:Nat) (ns:List Nd) (sv:Value),i≤n∧v47=.int .i64 (i:Nat)∧Hid (jJ (ls.take i)=some ns)∧ns.length=i∧Hid (wr.heap[w2.heap.size]?=some (.cells #[.int .i64 v,sv] 24 (0,0)))∧wr.ownsRow (w2.heap.size+1) 42 6 sv ns.length (ns.flatMap jT)∧Hid (wr.ownsMap Tryz.prog 9 (plainElem Tryz.prog 3) (w2.heap.size+1) 13 DD)∧Hid (wr.heap[w.heap.size]?=some (.cells z2 24 (0,0)))∧Hid (wr.heap[w.heap.size+1]?=some (.cells (strs (l0::ls)).toArray 9 (0,0)))∧Below w.heap.size w wr) (fun v47 _=>n-(intOf v47).toNat)
    case atStart=>exact ⟨0,[],_,aF,rfl,rfl,rfl,HQ3,World.ownsRow_nil _ _ _ _,KH,vB,HW3,HB3.out⟩
    case round =>
     obtain ⟨i,ns,sv,hin,rfl,HR,hnl,HQ,hown,HM,HP,HW,hB⟩:=hrel
     clear HQ3 KH vB HW3 HB3
     have hsz:=hB.size
     have IU:=aD HQ.out
     by_cases hlt:i<n
     ·obtain ⟨y,hy⟩:=bD (l:=ls) (k:=i) (by rw [HN.out];exact hlt)
      have hyl:=hmem y (List.mem_cons_of_mem _ (List.mem_of_getElem? hy))
      have aRJ:(i:Int)<(n:Int):=by omega
      have hn16:(n:Int)≤16449:=by have:=HN.out;rw [List.length_cons] at hcl;omega
      have hcy:wr.cell? ⟨w.heap.size+1,1+i,none⟩=some (.string (ba y)):=(aA HW.out (1+i)).trans (by rw [List.getElem?_toArray];unfold strs;rw [List.getElem?_map,Nat.add_comm 1 i,List.getElem?_cons_succ,hy];rfl)
      have HO:=aB hown
      have HB:=aB hB
      clear hown hB
      go_wp2_with fail
      refine (PM y (w2.heap.size+1) wr (hE.below HB.out) hyl HM.out).mono ?_
      rintro e w4 ⟨rfl,hb4⟩
      have hs4:=hb4.size
      have hP4:=bP hb4 HP.out
      have hQ4:=bP hb4 HQ.out
      have HW4:=aB (bP hb4 HW.out)
      have hB4:=HB.out.trans (hb4.mono hsz)
      have hO4:=ownsRow_below HO.out hb4 dD
      have hM4:w4.ownsMap Tryz.prog 9 (plainElem Tryz.prog 3) (w2.heap.size+1) 13 DD:=HM.out.kept (row:=none) ⟨hb4.os,hb4.tape,hb4.output,hb4.size,fun k hk _=>hb4.block k hk⟩ aQ
      clear hb4 HP HQ HW HB HO HM hcy
      cases hrd:OP (dB 32 y) with
      | none =>
       have hno:jJ ls=none:=aAN (List.mem_of_getElem? hy) hrd
       have hP5:=aT (.cells z6 42) hP4
       have hB5:=hB4.alloc aF (.cells z6 42)
       rw [show UT none=.agg #[.int .i64 0,.int .i64 0,.int .i64 0,.int .i64 0,.int .i64 0,.int .i64 0] from rfl,show (none:Option Nd).isSome=false from rfl]
       go_wp2_with (refine wpList_plain rfl fun _ hK=>wp_store_row _ _ _ rfl _ z2 rfl rfl _ _ hP5 dL rfl rC (hK _ _ ?_))
       refine bodyPost_ret (bV Tryz.results46 _ _ _ _ _ _ _ (.bool false) rfl (setRow_heap _ _ _ z2 _ _ hP5) Tryz.underlying24 rfl dL rfl) rfl ⟨?_,hB5.trans ⟨rfl,rfl,rfl,aQ,fun k hk=>setRow_other _ _ _ _ aF⟩⟩
       rw [hres,hno];rfl
      | some x =>
       have hrt:=aAM HR.out hy hrd
       have q0:=aA hQ4 0
       have q1:=aA hQ4 1
       have f1:=aC hQ4 1
       simp at q0 q1
       have HQ4:=aB hQ4
       have AQ:=aB hP4
       have kP:=aB hB4
       have HM4:=aB hM4
       have bHS:w2.heap.size<w4.heap.size:=by omega
       rw [show UT (some x)=.agg #[.int .i64 x.op,.int .i64 x.d,.int .i64 x.a,.int .i64 x.b,.int .i64 x.t,.int .i64 x.e] from rfl,show (some x).isSome=true from rfl]
       clear hQ4 hP4 hB4 hM4
       go_wp2_with (at_builtin;refine wpList_append_own _ rfl (.tmp 61) (.tmp 63) 22 rfl (w2.heap.size+1) 42 i0 _ 6 48 Tryz.underlying22 hi0 hz0 hz1 hz2 rfl aL _ _ _ rfl ((hO4.alloc _).alloc _) ⟨w4.heap.size+1,0,none⟩ 1 1 (jT x) rfl rfl ?c1 ?c2 ?c3 ?c4 ?c5 ?_)
       case c1 =>
        intro j u hj
        match j,hj with
        | 0,hj=>simp [jT] at hj;subst hj;simp [Addr.add]
        | 1,hj=>simp [jT] at hj;subst hj;simp [Addr.add]
        | 2,hj=>simp [jT] at hj;subst hj;simp [Addr.add]
        | 3,hj=>simp [jT] at hj;subst hj;simp [Addr.add]
        | 4,hj=>simp [jT] at hj;subst hj;simp [Addr.add]
        | 5,hj=>simp [jT] at hj;subst hj;simp [Addr.add]
        | j+6,hj=>simp [jT] at hj
       case c2=>simp [jT,Value.oneCell']
       case c3=>unfold maxLen;have:=HN.out;rw [List.length_cons] at hcl;omega
       case c4=>have:=HN.out;rw [List.length_cons] at hcl;omega
       case c5=>simp;omega
       intro v' w5 hO5 hg5 _
       obtain ⟨a5,c5,rfl⟩:∃ a c,v' =.slice a (i+1) c:=by
        rcases hO5.2 with ⟨_,h0⟩ | ⟨g,cap,cur,rfl,_⟩
        ·omega
        ·exact ⟨_,_,rfl⟩
       have hs5:=hg5.size
       simp only [World.size_alloc] at hs5
       have hltb:=hO4.lt
       have nq:=own_ne (vs:=#[.int .i64 v,sv]) hO4 HQ4.out aL
       have np:=own_ne hO4 AQ.out aL
       have nw:=own_ne hO4 HW4.out aL
       have nm:=aRM hO4 HM4.out
       have yM:=(hg5.block _ bF nq).trans (aT (.cells #[.int .i64 x.op,.int .i64 x.d,.int .i64 x.a,.int .i64 x.b,.int .i64 x.t,.int .i64 x.e] 42) (aT (.cells #[.int .i64 x.op,.int .i64 x.d,.int .i64 x.a,.int .i64 x.b,.int .i64 x.t,.int .i64 x.e] 42) HQ4.out))
       have BD:=aB ((hg5.block _ bF np).trans (aT (.cells #[.int .i64 x.op,.int .i64 x.d,.int .i64 x.a,.int .i64 x.b,.int .i64 x.t,.int .i64 x.e] 42) (aT (.cells #[.int .i64 x.op,.int .i64 x.d,.int .i64 x.a,.int .i64 x.b,.int .i64 x.t,.int .i64 x.e] 42) AQ.out)))
       have HW5:=aB ((hg5.block _ bF nw).trans (aT (.cells #[.int .i64 x.op,.int .i64 x.d,.int .i64 x.a,.int .i64 x.b,.int .i64 x.t,.int .i64 x.e] 42) (aT (.cells #[.int .i64 x.op,.int .i64 x.d,.int .i64 x.a,.int .i64 x.b,.int .i64 x.t,.int .i64 x.e] 42) HW4.out)))
       have HM5:=aB (((HM4.out.alloc (.cells #[.int .i64 x.op,.int .i64 x.d,.int .i64 x.a,.int .i64 x.b,.int .i64 x.t,.int .i64 x.e] 42)).alloc (.cells #[.int .i64 x.op,.int .i64 x.d,.int .i64 x.a,.int .i64 x.b,.int .i64 x.t,.int .i64 x.e] 42)).kept hg5 nm)
       have AL:=aB (((kP.out.alloc aF (.cells #[.int .i64 x.op,.int .i64 x.d,.int .i64 x.a,.int .i64 x.b,.int .i64 x.t,.int .i64 x.e] 42)).alloc bF (.cells #[.int .i64 x.op,.int .i64 x.d,.int .i64 x.a,.int .i64 x.b,.int .i64 x.t,.int .i64 x.e] 42)).grown hg5 bF (fun k hk=>by have:=(hltb k hk).1;omega))
       have r0:=aA yM 0
       have r1:=aA yM 1
       have g1:=aC yM 1
       simp at r0 r1
       have HQ5:=aB yM
       have RZ:=aB hO5
       clear yM hO5 hg5 hltb nq np nw nm HQ4 AQ HW4 HM4 kP hO4 q0 q1 f1
       go_wp2_with fail
       go_roundw
       case rel =>
        have hOf:(w5.setCell ⟨w2.heap.size,1,none⟩ (.slice a5 (i+1) c5)).ownsRow (w2.heap.size+1) 42 6 (.slice a5 (i+1) c5) (ns++[x]).length ((ns++[x]).flatMap jT):=by
         have h5:=RZ.out
         rw [List.length_append,List.length_singleton,hnl,List.flatMap_append,List.flatMap_singleton]
         exact ownsRow_setCell_below h5 aQ _
        refine ⟨i+1,ns++[x],.slice a5 (i+1) c5,aF,by go_num,hrt,by simp [hnl],?_,hOf,?_,aN _ BD.out aF,aN _ HW5.out aF,AL.out.setCell bF _⟩
        ·show _=_
         rw [aG _ HQ5.out];rfl
        ·exact HM5.out.setCell aQ _
       case measure=>simp [intOf];omega
     ·have HNL:=aB hnl
      clear hnl
      have e0:=aA HQ.out 0
      have e1:=aA HQ.out 1
      simp at e0 e1
      have hp:=HP.out
      obtain ⟨a,cp,rfl⟩:∃ a cp,sv=.slice a ns.length cp:=by
       rcases hown.2 with ⟨rfl,h0⟩ | ⟨g,cap,cur,rfl,_⟩
       ·exact ⟨none,0,by rw [h0]⟩
       ·exact ⟨_,_,rfl⟩
      have HO:=aB hown
      have HB:=aB hB
      clear hown hB
      have hfin:jJ ls=some ns:=by
       have:=HR.out
       rw [List.take_of_length_le (by rw [HN.out];omega)] at this
       exact this
      have sK:¬ ((i:Int)<(n:Int)):=by omega
      go_wp2_with (refine wpList_plain rfl fun _ hK=>wp_store_row _ _ _ rfl _ #[.int .i64 v,.slice a ns.length cp] rfl rfl _ _ hp dL rfl (by simp [Value.oneCell']) (hK _ _ ?_))
      refine bodyPost_ret (bV Tryz.results46 _ _ _ _ _ _ _ (.bool true) rfl (setRow_heap _ _ _ #[.int .i64 v,.slice a ns.length cp] _ _ hp) Tryz.underlying24 rfl dL rfl) rfl ⟨?_,HB.out.trans ⟨rfl,rfl,rfl,aQ,fun k hk=>setRow_other _ _ _ _ aF⟩⟩
      refine ⟨a,cp,rfl,?_⟩
      exact aK (sJ HO.out aF _) aF
  ·have hr:rdR l0=none:=by
    unfold rdR
    rw [hpre]
    simp only [if_true]
    cases e:Lib.atoiAll (l0.drop 5) with
    | ok u=>exact absurd ⟨u,e⟩ hok
    | «syntax»=>rfl
    | range=>rfl
   obtain ⟨N,rfl⟩:∃ N,er=.iface 190 (.pointer (some ⟨N,0,none⟩)):=by
    cases e:Lib.atoiAll (l0.drop 5) with
    | ok u=>exact absurd ⟨u,e⟩ hok
    | «syntax»=>rw [e] at hm;exact hm
    | range=>rw [e] at hm;exact hm
   go_wp2_with (refine wpList_plain rfl fun _ hK=>wp_store_row _ _ _ rfl _ z2 rfl rfl _ _ hP2 dL rfl rC (hK _ _ ?_))
   refine bodyPost_ret (bV Tryz.results46 _ _ _ _ _ _ _ (.bool false) rfl (setRow_heap _ _ _ z2 _ _ hP2) Tryz.underlying24 rfl dL rfl) rfl ⟨?_,hB2.trans ⟨rfl,rfl,rfl,aQ,fun k hk=>setRow_other _ _ _ _ aF⟩⟩
   rw [hres,hr];rfl
theorem aDP:∀ (ns:List Nd) {i:Nat} {x:Nd},ns[i]?=some x→∀ j (v:Value),(jT x)[j]?=some v→(ns.flatMap jT)[i*6+j]?=some v
 | [],i,x,h=>by simp at h
 | y::ns,i,x,h=>by
  intro j v hj
  have hj6:j<6:=(List.getElem?_eq_some_iff.1 hj).1
  cases i with
  | zero =>
   simp at h;subst h
   rw [List.flatMap_cons,Nat.zero_mul,Nat.zero_add,List.getElem?_append_left (by show j<6;exact hj6)]
   exact hj
  | succ i =>
   rw [List.flatMap_cons,List.getElem?_append_right (by show 6≤_;omega)]
   have:=aDP ns (i:=i) (by simpa using h) j v hj
   rw [← this]
   congr 1
   show _-6=_
   omega
theorem uE {w:World} {base:Nat} {a:Option Addr} {cap:Nat} {ns:List Nd} (h:w.ownsRow base 42 6 (.slice a ns.length cap) ns.length (ns.flatMap jT)):pI w a ns:=by
 obtain ⟨_,⟨_,h0⟩ | ⟨g,c,cur,hv,_,hg,_,_,_,ht⟩⟩:=h
 ·exact Or.inl (List.length_eq_zero_iff.1 h0)
 ·injection hv with ha _ _
  subst ha
  have key:∀ (i:Nat) (x:Nd),ns[i]?=some x→∀ j (v:Value),(jT x)[j]?=some v→w.cell? ⟨g,0+i*6+j,none⟩=some v:=by
   intro i x hx j v hj
   have h1:=aDP ns hx j v hj
   rw [← ht,List.getElem?_take] at h1
   split at h1
   ·rw [aA hg,Nat.zero_add];simpa using h1
   ·cases h1
  exact Or.inr ⟨g,0,rfl,aD hg,fun i x hx=>key i x hx 0 _ rfl,fun i x hx=>key i x hx 1 _ rfl,fun i x hx=>key i x hx 2 _ rfl,fun i x hx=>key i x hx 3 _ rfl,fun i x hx=>key i x hx 4 _ rfl,fun i x hx=>key i x hx 5 _ rfl⟩
theorem aGB {ws:List (List UInt8)} {k:Nat} {has lead:Bool} {k' :Nat} {v:Int} (h:gP ws k has lead=some (k', v)): -9223372036854775808≤v∧v≤9223372036854775807:=by
 unfold gP at h
 split at h
 ·split at h
  ·cases h
  ·split at h
   ·rename_i e
    simp at h
    obtain ⟨_,rfl⟩:=h
    exact Lib.atoiAll_bounds e
   ·cases h
 ·simp at h
  obtain ⟨_,rfl⟩:=h
  omega
theorem aRO {ws:List (List UInt8)} {x:Nd} (h:OP ws=some x): -9223372036854775808≤x.a∧x.a≤9223372036854775807:=by
 unfold OP at h
 split at h
 ·cases h
 ·split at h
  ·cases h
  ·split at h
   ·cases h
   ·split at h
    ·cases h
    ·rename_i ha
     split at h
     ·cases h
     ·split at h
      ·cases h
      ·split at h
       ·cases h
       ·simp at h
        subst h
        exact aGB ha
theorem KI:∀ {ls:List (List UInt8)} {ns:List Nd},jJ ls=some ns→∀ x∈ns,-9223372036854775808≤x.a∧x.a≤9223372036854775807
 | [],ns,h=>by simp [jJ] at h;subst h;intro x hx;cases hx
 | l::ls,ns,h=>by
  unfold jJ at h
  split at h
  ·cases h
  ·rename_i y hy
   cases e:jJ ls with
   | none=>rw [e] at h;cases h
   | some m =>
    rw [e] at h
    simp at h;subst h
    intro x hx
    rcases List.mem_cons.1 hx with rfl | hx
    ·exact aRO hy
    ·exact KI e x hx
theorem aDQ {l:List UInt8} {r:Int} {ns:List Nd} (h:rdP l=some (r,ns)):∀ x∈ns,-9223372036854775808≤x.a∧x.a≤9223372036854775807:=by
 unfold rdP at h
 split at h
 ·cases h
 ·split at h
  ·cases h
  ·split at h
   ·split at h
    ·rename_i e
     cases e2:jJ _ with
     | none=>rw [e2] at h;cases h
     | some m =>
      rw [e2] at h
      simp at h
      obtain ⟨_,rfl⟩:=h
      exact KI e2
    ·cases h
   ·cases h
theorem aGC (l:List UInt8) (w:World) (hE:Env w) (hl:l.length≤140737488355328) :
 Calls Tryz.prog 46 #[.string (ba l)] w fun e w' =>wP (rdP l) w.heap.size e w' ∧Below w.heap.size w w' :=by
 by_cases h:16448<l.length
 ·have e:rdP l=none:=by unfold rdP;rw [if_pos h]
  rw [e]
  exact aAO l w h hl
 ·cases hc:dB 10 (trimB l) with
  | nil=>exact absurd hc (qY _ _)
  | cons l0 ls=>exact UW l l0 ls w hE aF hc
def aDR (q:Option (Int × List Nd)) (e:Ending) (w' :World):Prop :=
 match q with
 | none=>e=.returned (.tuple #[.agg #[.int .i64 0,.slice none 0 0],.int .i64 1])
 | some (r,ns)=>∃ a cap,e=.returned (.tuple #[.agg #[.int .i64 r,.slice a ns.length cap],.int .i64 0])∧pI w' a ns
theorem DU (l:List UInt8) (w:World) (hE:Env w) (hl:l.length≤140737488355328) :
 Calls Tryz.prog 22 #[.string (ba l)] w fun e w' =>aDR (lT l) e w' ∧Below w.heap.size w w' :=by
 have hres:lT l=match rdP l with
  | none=>none
  | some (r,ns)=>if bM r ns=0∧eX r ns=l then some (r,ns) else none:=rfl
 have hlo:=aGC l (w.alloc (.cells z2 24)) (hE.below (dY)) hl
 cases hr:rdP l with
 | none =>
  rw [hr] at hres hlo
  go_enter Tryz.func22,Tryz.ntmps22
  go_wp2_with fail
  refine hlo.mono ?_
  rintro e w1 ⟨he,hb1⟩
  have he' :e=.returned (.tuple #[.agg #[.int .i64 0,.slice none 0 0],.bool false]):=he
  subst he'
  have hs1:=hb1.size
  simp only [World.size_alloc] at hs1 hb1
  have hp:=aT (.cells z2 24) ((hb1.block w.heap.size aF).trans (jA rfl))
  have hB:=(((Below.refl w.heap.size w).alloc dD (.cells z2 24)).trans (hb1.mono aF)).alloc aF (.cells z2 24)
  clear hb1 hlo
  go_wp2_with (refine wpList_plain rfl fun _ hK=>wp_store_row _ _ _ rfl _ z2 rfl rfl _ _ hp dL rfl rC (hK _ _ ?_))
  refine bodyPost_ret (bV Tryz.results22 _ _ _ _ _ _ _ (.int .i64 1) rfl (setRow_heap _ _ _ z2 _ _ hp) Tryz.underlying24 rfl dL rfl) rfl ⟨?_,hB.trans ⟨rfl,rfl,rfl,aQ,fun k hk=>setRow_other _ _ _ _ aF⟩⟩
  rw [hres];rfl
 | some p =>
  obtain ⟨r,ns⟩:=p
  rw [hr] at hres hlo
  simp only at hres
  have hfit:=aDQ hr
  by_cases hc:bM r ns=0
  ·by_cases hsh:eX r ns=l
   ·rw [if_pos ⟨hc,hsh⟩] at hres
    go_enter Tryz.func22,Tryz.ntmps22
    go_wp2_with fail
    refine hlo.mono ?_
    rintro e w1 ⟨⟨a,cap,rfl,ho1⟩,hb1⟩
    have hs1:=hb1.size
    simp only [World.size_alloc] at hs1 hb1
    have hp1:=aT (.cells #[.int .i64 r,.slice a ns.length cap] 24) ((hb1.block w.heap.size aF).trans (jA rfl))
    have hB1:=(((Below.refl w.heap.size w).alloc dD (.cells z2 24)).trans (hb1.mono aF)).alloc aF (.cells #[.int .i64 r,.slice a ns.length cap] 24)
    have hN1:=(uE ho1).below ((Below.refl w1.heap.size w1).alloc dD (.cells #[.int .i64 r,.slice a ns.length cap] 24))
    have hE1:=hE.below hB1
    have hq1:(w1.alloc (.cells #[.int .i64 r,.slice a ns.length cap] 24)).heap[w1.heap.size]?=some (.cells #[.int .i64 r,.slice a ns.length cap] 24 (0,0)):=jA rfl
    have hw1:(w1.alloc (.cells #[.int .i64 r,.slice a ns.length cap] 24)).heap.size=w1.heap.size+1:=by simp
    have BF:=aB (ho1.alloc (.cells #[.int .i64 r,.slice a ns.length cap] 24))
    clear hb1 hlo ho1
    go_wp2_with fail
    refine (wN r a cap ns _ hN1 hE1 hfit hc).mono ?_
    rintro e w2 ⟨rfl,hb2⟩
    have hs2:=hb2.size
    have hp2:=(hb2.block _ (by rw [hw1];omega)).trans hp1
    have hq2:=(hb2.block _ (by rw [hw1];omega)).trans hq1
    have kQ:=hN1.below hb2
    have hB2:=hB1.trans (hb2.mono (by rw [hw1];omega))
    have DV:=aB (ownsRow_below BF.out hb2 dD)
    clear hb2 hp1 hq1 hN1 hB1 hE1 BF
    rw [hsh]
    have d0:=aA hq2 0
    have d1:=aA hq2 1
    simp at d0 d1
    clear hq2 hw1
    go_wp2_with (refine wpList_plain rfl fun _ hK=>wp_store_row _ _ _ rfl _ #[.int .i64 r,.slice a ns.length cap] rfl rfl _ _ hp2 dL rfl (by simp [Value.oneCell']) (hK _ _ ?_))
    refine bodyPost_ret (bV Tryz.results22 _ _ _ _ _ _ _ (.int .i64 0) rfl (setRow_heap _ _ _ #[.int .i64 r,.slice a ns.length cap] _ _ hp2) Tryz.underlying24 rfl dL rfl) rfl ⟨?_,hB2.trans ⟨rfl,rfl,rfl,aQ,fun k hk=>setRow_other _ _ _ _ aF⟩⟩
    rw [hres]
    refine ⟨a,cap,rfl,?_⟩
    exact uE (sJ DV.out aQ _)
   ·rw [if_neg (fun h=>hsh h.2)] at hres
    go_enter Tryz.func22,Tryz.ntmps22
    go_wp2_with fail
    refine hlo.mono ?_
    rintro e w1 ⟨⟨a,cap,rfl,ho1⟩,hb1⟩
    have hs1:=hb1.size
    simp only [World.size_alloc] at hs1 hb1
    have hp1:=aT (.cells #[.int .i64 r,.slice a ns.length cap] 24) ((hb1.block w.heap.size aF).trans (jA rfl))
    have hB1:=(((Below.refl w.heap.size w).alloc dD (.cells z2 24)).trans (hb1.mono aF)).alloc aF (.cells #[.int .i64 r,.slice a ns.length cap] 24)
    have hN1:=(uE ho1).below ((Below.refl w1.heap.size w1).alloc dD (.cells #[.int .i64 r,.slice a ns.length cap] 24))
    have hE1:=hE.below hB1
    have hq1:(w1.alloc (.cells #[.int .i64 r,.slice a ns.length cap] 24)).heap[w1.heap.size]?=some (.cells #[.int .i64 r,.slice a ns.length cap] 24 (0,0)):=jA rfl
    have hw1:(w1.alloc (.cells #[.int .i64 r,.slice a ns.length cap] 24)).heap.size=w1.heap.size+1:=by simp
    clear hb1 hlo ho1
    go_wp2_with fail
    refine (wN r a cap ns _ hN1 hE1 hfit hc).mono ?_
    rintro e w2 ⟨rfl,hb2⟩
    have hs2:=hb2.size
    have hp2:=(hb2.block _ (by rw [hw1];omega)).trans hp1
    have hq2:=(hb2.block _ (by rw [hw1];omega)).trans hq1
    have kQ:=hN1.below hb2
    have hB2:=hB1.trans (hb2.mono (by rw [hw1];omega))
    clear hb2 hp1 hq1 hN1 hB1 hE1
    have hne:((ba (eX r ns)).toList==(ba l).toList)=false:=by
     rw [ByteArray.toList_eq,ByteArray.toList_eq,jB,jB]
     simpa using hsh
    generalize ba (eX r ns)=A at hne ⊢
    go_wp2_with (refine wpList_plain rfl fun _ hK=>wp_store_row _ _ _ rfl _ z2 rfl rfl _ _ hp2 dL rfl rC (hK _ _ ?_))
    refine bodyPost_ret (bV Tryz.results22 _ _ _ _ _ _ _ (.int .i64 1) rfl (setRow_heap _ _ _ z2 _ _ hp2) Tryz.underlying24 rfl dL rfl) rfl ⟨?_,hB2.trans ⟨rfl,rfl,rfl,aQ,fun k hk=>setRow_other _ _ _ _ aF⟩⟩
    first | rfl | (rw [hres];rfl)
  ·rw [if_neg (fun h=>hc h.1)] at hres
   go_enter Tryz.func22,Tryz.ntmps22
   go_wp2_with fail
   refine hlo.mono ?_
   rintro e w1 ⟨⟨a,cap,rfl,ho1⟩,hb1⟩
   have hs1:=hb1.size
   simp only [World.size_alloc] at hs1 hb1
   have hp1:=aT (.cells #[.int .i64 r,.slice a ns.length cap] 24) ((hb1.block w.heap.size aF).trans (jA rfl))
   have hB1:=(((Below.refl w.heap.size w).alloc dD (.cells z2 24)).trans (hb1.mono aF)).alloc aF (.cells #[.int .i64 r,.slice a ns.length cap] 24)
   have hN1:=(uE ho1).below ((Below.refl w1.heap.size w1).alloc dD (.cells #[.int .i64 r,.slice a ns.length cap] 24))
   have hE1:=hE.below hB1
   have hq1:(w1.alloc (.cells #[.int .i64 r,.slice a ns.length cap] 24)).heap[w1.heap.size]?=some (.cells #[.int .i64 r,.slice a ns.length cap] 24 (0,0)):=jA rfl
   have hw1:(w1.alloc (.cells #[.int .i64 r,.slice a ns.length cap] 24)).heap.size=w1.heap.size+1:=by simp
   clear hb1 hlo ho1
   go_wp2_with fail
   refine (aLE r a cap ns _ hN1 hc).mono ?_
   rintro e w2 ⟨rfl,hb2⟩
   have hs2:=hb2.size
   have hp2:=(hb2.block _ (by rw [hw1];omega)).trans hp1
   have hq2:=(hb2.block _ (by rw [hw1];omega)).trans hq1
   have kQ:=hN1.below hb2
   have hB2:=hB1.trans (hb2.mono (by rw [hw1];omega))
   clear hb2 hp1 hq1 hN1 hB1 hE1
   generalize bM r ns=C at hc ⊢
   go_wp2_with (refine wpList_plain rfl fun _ hK=>wp_store_row _ _ _ rfl _ z2 rfl rfl _ _ hp2 dL rfl rC (hK _ _ ?_))
   refine bodyPost_ret (bV Tryz.results22 _ _ _ _ _ _ _ (.int .i64 1) rfl (setRow_heap _ _ _ z2 _ _ hp2) Tryz.underlying24 rfl dL rfl) rfl ⟨?_,hB2.trans ⟨rfl,rfl,rfl,aQ,fun k hk=>setRow_other _ _ _ _ aF⟩⟩
   first | rfl | (rw [hres];rfl)
end Go.Proofs.YtegloodcbfalfaaGreatDoor
namespace Go.Proofs.YtegloodcbfalfaaGreatDoor
open Go.RowKit Go.Shelf
attribute [local go_sem] Oper.semAt_some
theorem aR {p:Prop} (h:p):Hid p:=h
abbrev Ex (x:Nd):={ m:Int // m∈jI x }
def oZ (x:Nd):List (Ex x):=(jI x).attach
def exv {x:Nd} (l:List (Ex x)):List Int:=l.map (·.1)
theorem aLL {x:Nd} (l:List (Ex x)) (y:Ex x):exv (l++[y])=exv l++[y.1]:=by simp [exv]
theorem pQ (x:Nd):(oZ x).map (·.1)=jI x:=by simp [oZ]
theorem aRP (x:Nd):exv (oZ x)=jI x:=pQ x
theorem aRQ {x:Nd} (l:List (Ex x)):(exv l).length=l.length:=by simp [exv]
theorem UX (x:Nd):(oZ x).length=(jI x).length:=by simp [oZ]
theorem wQ (x:Nd):(jI x).length≤2:=by
 unfold jI;repeat' split
 all_goals simp
def bY (w:World) (B:Nat) (x:Nd):Prop:=w.heap[B]?=some (.cells #[.int .i64 x.op,.int .i64 x.d,.int .i64 x.a,.int .i64 x.b,.int .i64 x.t,.int .i64 x.e] 42 (0,0))
theorem bY.lt {w:World} {B:Nat} {x:Nd} (h:bY w B x):B<w.heap.size:=(Array.getElem?_eq_some_iff.1 h).1
theorem bY.c0 {w:World} {B:Nat} {x:Nd} (h:bY w B x):w.cell? ⟨B,0,none⟩=some (.int .i64 x.op):=by simp [World.cell?,show w.heap[B]?=_ from h]
theorem bY.c4 {w:World} {B:Nat} {x:Nd} (h:bY w B x):w.cell? ⟨B,4,none⟩=some (.int .i64 x.t):=by simp [World.cell?,show w.heap[B]?=_ from h]
theorem bY.c5 {w:World} {B:Nat} {x:Nd} (h:bY w B x):w.cell? ⟨B,5,none⟩=some (.int .i64 x.e):=by simp [World.cell?,show w.heap[B]?=_ from h]
theorem bY.below {w w' :World} {B n₀:Nat} {x:Nd} (h:bY w B x) (hb:Below n₀ w w') (hB:B<n₀):bY w' B x:=(hb.block B hB).trans h
structure KT (B:Nat) (A C:World):Prop where
 box:C.heap[B]?=A.heap[B]?
 kinds:∀ (k:Nat) vs fr,A.heap[k]?=some (.cells vs 100 fr)→C.heap[k]?=A.heap[k]?
theorem KT.refl (B:Nat) (A:World):KT B A A:=⟨rfl,fun _ _ _ _=>rfl⟩
theorem KT.trans {B:Nat} {A C E:World} (h:KT B A C) (k:KT B C E):KT B A E :=
 ⟨k.box.trans h.box,fun i vs fr e=>by
  have h1:=h.kinds i vs fr e
  rw [k.kinds i vs fr (h1.trans e),h1]⟩
theorem KT.of_below {B:Nat} {A C:World} (h:Below A.heap.size A C) (hB:B<A.heap.size):KT B A C :=
 ⟨h.block B hB,fun i vs fr e=>h.block i (Array.getElem?_eq_some_iff.1 e).1⟩
theorem KT.grown {B:Nat} {A C:World} {row:Option Nat} (hg:A.grownBy C row) (hB:B<A.heap.size) (hr:∀ g,row=some g→g≠B∧∃ vs t fr,A.heap[g]?=some (.cells vs t fr)∧t≠100):KT B A C :=
 ⟨hg.block B hB fun e=>(hr B e.symm).1 rfl,fun i vs fr e=>hg.block i (Array.getElem?_eq_some_iff.1 e).1 fun e2=>by
  obtain ⟨_,vs', t,fr', h1,h2⟩:=hr i e2.symm
  rw [h1] at e
  cases e
  exact h2 rfl⟩
theorem KT.setCell {B:Nat} {A:World} {b o:Nat} {vs:Array Value} {t:TypeId} {fr:Nat × Nat} (h:A.heap[b]?=some (.cells vs t fr)) (ht:t≠100) (hb:b≠B) (v:Value):KT B A (A.setCell ⟨b,o,none⟩ v) :=
 ⟨Below.heap_setCell _ _ _ B fun e2=>hb e2.symm,fun i vs' fr' e=>Below.heap_setCell _ _ _ i fun e2=>by
  simp only at e2
  subst e2
  rw [h] at e
  cases e
  exact ht rfl⟩
theorem KT.putObj {B:Nat} {w:World} (hB:B<w.heap.size) (W:World) (l:Nat) (o o' :Obj) (hl:w.heap.size≤l) (h:W.heap[l]?=some o) (hc:o.isCells=false) (_:o.isWalk=false):KT B W (W.putObj l o') :=
 ⟨World.putObj_heap_other aF,fun i vs fr e=>World.putObj_heap_other fun e2=>by
  subst e2
  rw [h] at e
  cases e
  cases hc⟩
theorem KT.node {B:Nat} {A C:World} {x:Nd} (h:KT B A C) (hx:bY A B x):bY C B x:=h.box.trans hx
theorem a1L {op:Int} (h:¬ (0≤op∧op≤11)):(k3 op==3)=false:=by
 have:wi op 0 11=false:=eT aF
 simp [k3,this]
theorem aLM {op:Int} (h:0≤op∧op≤11):k3 op=3:=by
 simp [k3,dP h.1 h.2]
theorem kI {w w' :World} (h:Below w.heap.size w w') (row:Option Nat):w.grownBy w' row:=⟨h.os,h.tape,h.output,h.size,fun k hk _=>h.block k hk⟩
theorem mQ {α:Type} {B:Nat} {J:List α→World→Prop} (hJ:AbidesFrom B J) {s:List α} {w w' :World} (h:J s w) (hb:Below w.heap.size w w'):J s w' :=
 hJ s w w' none h (kI hb none) (fun r e=>by cases e)
theorem aLN {x:Nd} (h:jI x=[]):oZ x=[]:=by
 have:=UX x;rw [h] at this;exact List.eq_nil_of_length_eq_zero this
theorem UY {x:Nd} {a:Int} (h:jI x=[a]):∃ ha:a∈jI x,oZ x=[⟨a,ha⟩]:=by
 refine ⟨by rw [h];simp,?_⟩
 have hm:=(pQ x).trans h
 cases e:oZ x with
 | nil=>rw [e] at hm;simp at hm
 | cons y l =>
  rw [e] at hm
  simp only [List.map_cons,List.cons.injEq,List.map_eq_nil_iff] at hm
  obtain ⟨h1,h2⟩:=hm
  subst h2
  congr 1;exact Subtype.ext h1
theorem aLO {x:Nd} {a b:Int} (h:jI x=[a,b]):∃ (ha:a∈jI x) (hb:b∈jI x),oZ x=[⟨a,ha⟩,⟨b,hb⟩]:=by
 refine ⟨by rw [h];simp,by rw [h];simp,?_⟩
 have hm:=(pQ x).trans h
 cases e:oZ x with
 | nil=>rw [e] at hm;simp at hm
 | cons y l =>
  rw [e] at hm
  cases l with
  | nil=>simp at hm
  | cons z l =>
   simp only [List.map_cons,List.cons.injEq,List.map_eq_nil_iff] at hm
   obtain ⟨h1,h2,h3⟩:=hm
   subst h3
   congr 1
   ·exact Subtype.ext h1
   ·congr 1;exact Subtype.ext h2
theorem UZ (n:Nat) (hn:1≤n) (l B:Nat) (x:Nd) (J Jx:List (Ex x)→World→Prop) (W:World) (hJ:AbidesFrom W.heap.size J)
 (hY:∀ pre (y:Ex x) W,J pre W→pre.length<(jI x).length→YieldAt Fence.wide (n-1) Tryz.prog l #[.int .i64 y.1] W fun e W' =>
  (e=.returned (.bool true)∧J (pre++[y]) W' ∧KT B W W')∨(e=.returned (.bool false)∧Jx (pre++[y]) W'))
 (hx:bY W B x) (h0:J [] W) (h3:¬ (0≤x.op∧x.op≤11)) :
 CallsIn Fence.wide n Tryz.prog 98 #[.func (.yield l) #[] #[],.pointer (some ⟨B,0,none⟩)] W fun e W' =>(∃ v,e=.returned v) ∧
  ((∃ ys,ys=oZ x∧J ys W')∨(∃ pre,pre <+: oZ x∧Jx pre W')):=by
 have c0:=hx.c0
 have hk3:=a1L h3
 have hk4:(k4 x.op==3)=false:=by simp [k4];omega
 have hex:jI x=[]:=by
  have e:wi x.op 0 11=false:=eT aF
  simp [jI,e];omega
 refine callsIn_of_wp Tryz.func98 rfl trivial ?_ rfl
 simp only [Tryz.ntmps98,List.size_toArray,List.length_cons,List.length_nil,Nat.reduceAdd,Nat.reduceSub,Array.replicate_succ,Array.replicate_zero,List.push_toArray,List.append_toArray,List.nil_append,List.cons_append]
 gi_wp2_with (refine ⟨trivial,?_⟩;gi_at_call 59;refine (callsIn_wide.2 (nE _ _)).mono ?_;rintro e w1 ⟨rfl,hb1⟩)
 refine ⟨fun _ h=>(by cases h),?_⟩
 gi_wp2
 go_end0
 exact ⟨⟨_,rfl⟩,.inl ⟨_,(aLN hex).symm,mQ hJ h0 (hb1.alloc hb1.size _)⟩⟩
theorem aAP (n:Nat) (hn:1≤n) (l B:Nat) (x:Nd) (J Jx:List (Ex x)→World→Prop) (W:World) (hJ:AbidesFrom W.heap.size J)
 (hY:∀ pre (y:Ex x) W,J pre W→pre.length<(jI x).length→YieldAt Fence.wide (n-1) Tryz.prog l #[.int .i64 y.1] W fun e W' =>
  (e=.returned (.bool true)∧J (pre++[y]) W' ∧KT B W W')∨(e=.returned (.bool false)∧Jx (pre++[y]) W'))
 (hx:bY W B x) (h0:J [] W) (h3:0≤x.op∧x.op≤10) :
 CallsIn Fence.wide n Tryz.prog 98 #[.func (.yield l) #[] #[],.pointer (some ⟨B,0,none⟩)] W fun e W' =>(∃ v,e=.returned v) ∧
  ((∃ ys,ys=oZ x∧J ys W')∨(∃ pre,pre <+: oZ x∧Jx pre W')):=by
 have c0:=hx.c0
 have hk3:=aLM (op:=x.op) aF
 have hk4:(k4 x.op==3)=false:=by simp [k4];omega
 have hex:jI x=[x.t]:=by
  simp only [jI]
  rw [if_neg aF,if_pos (dP aF aF)]
 obtain ⟨ha,VA⟩:=UY hex
 have HX:=aR VA
 have HY:=aR hY
 have HL:=aR hex
 clear VA hY hex
 refine callsIn_of_wp Tryz.func98 rfl trivial ?_ rfl
 simp only [Tryz.ntmps98,List.size_toArray,List.length_cons,List.length_nil,Nat.reduceAdd,Nat.reduceSub,Array.replicate_succ,Array.replicate_zero,List.push_toArray,List.append_toArray,List.nil_append,List.cons_append]
 gi_wp2_with (refine ⟨trivial,?_⟩;gi_at_call 59;refine (callsIn_wide.2 (nE _ _)).mono ?_;rintro e w1 ⟨rfl,hb1⟩;have hs1:=hb1.size;have c4:w1.cell? ⟨B,4,none⟩=some (.int .i64 x.t):=(hb1.cell (p:=⟨B,4,none⟩) hx.lt).trans hx.c4;have hlt:B<w1.heap.size:=Nat.lt_of_lt_of_le hx.lt hb1.size;have hj1:J [] (w1.alloc (.cells #[.int .i64 (k0 x.op),.int .i64 (k1 x.op),.int .i64 (k2 x.op),.int .i64 3,.int .i64 (k4 x.op)] 100)):=mQ hJ h0 (hb1.alloc hb1.size _);obtain ⟨fn,tmps,assign,body,hy,hR⟩:=HY.out [] ⟨x.t,ha⟩ _ hj1 (by rw [HL.out];simp);dsimp only at hy)
 refine hR.mono ?_
 rintro e W3 (⟨rfl,hJ3,hk3'⟩ | ⟨rfl,hJx3⟩)
 ·have hz:W3.cell? ⟨w1.heap.size,4,none⟩=some (.int .i64 (k4 x.op)):=by
   have h1:=hk3'.kinds w1.heap.size _ _ (World.alloc_heap_new w1 _)
   rw [World.alloc_heap_new] at h1
   simp [World.cell?,h1]
  gi_wp2
  go_end0
  exact ⟨⟨_,rfl⟩,.inl ⟨_,HX.out.symm,hJ3⟩⟩
 ·gi_wp2
  refine bodyPost_ret (results_none rfl _ _ _) rfl ?_
  exact ⟨⟨_,rfl⟩,.inr ⟨_,by rw [HX.out];simp,hJx3⟩⟩
theorem VB (n:Nat) (hn:1≤n) (l B:Nat) (x:Nd) (J Jx:List (Ex x)→World→Prop) (W:World) (hJ:AbidesFrom W.heap.size J)
 (hY:∀ pre (y:Ex x) W,J pre W→pre.length<(jI x).length→YieldAt Fence.wide (n-1) Tryz.prog l #[.int .i64 y.1] W fun e W' =>
  (e=.returned (.bool true)∧J (pre++[y]) W' ∧KT B W W')∨(e=.returned (.bool false)∧Jx (pre++[y]) W'))
 (hx:bY W B x) (h0:J [] W) (h3:x.op=11) (he:x.e=x.t) :
 CallsIn Fence.wide n Tryz.prog 98 #[.func (.yield l) #[] #[],.pointer (some ⟨B,0,none⟩)] W fun e W' =>(∃ v,e=.returned v) ∧
  ((∃ ys,ys=oZ x∧J ys W')∨(∃ pre,pre <+: oZ x∧Jx pre W')):=by
 have c0:=hx.c0
 have hk3:=aLM (op:=x.op) aF
 have hk4:k4 x.op=3:=by simp [k4,h3]
 have hex:jI x=[x.t]:=by
  simp only [jI]
  rw [if_pos h3,if_pos he]
 obtain ⟨ha,VA⟩:=UY hex
 have HX:=aR VA
 have HY:=aR hY
 have HL:=aR hex
 have HE:=aR he
 have hle:11≤x.op:=by omega
 clear VA hY hex he h3 hle
 refine callsIn_of_wp Tryz.func98 rfl trivial ?_ rfl
 simp only [Tryz.ntmps98,List.size_toArray,List.length_cons,List.length_nil,Nat.reduceAdd,Nat.reduceSub,Array.replicate_succ,Array.replicate_zero,List.push_toArray,List.append_toArray,List.nil_append,List.cons_append]
 gi_wp2_with (refine ⟨trivial,?_⟩;gi_at_call 59;refine (callsIn_wide.2 (nE _ _)).mono ?_;rintro e w1 ⟨rfl,hb1⟩;have hs1:=hb1.size;have c4:w1.cell? ⟨B,4,none⟩=some (.int .i64 x.t):=(hb1.cell (p:=⟨B,4,none⟩) hx.lt).trans hx.c4;have hlt:B<w1.heap.size:=Nat.lt_of_lt_of_le hx.lt hb1.size;have hj1:J [] (w1.alloc (.cells #[.int .i64 (k0 x.op),.int .i64 (k1 x.op),.int .i64 (k2 x.op),.int .i64 3,.int .i64 3] 100)):=mQ hJ h0 (hb1.alloc hb1.size _);obtain ⟨fn,tmps,assign,body,hy,hR⟩:=HY.out [] ⟨x.t,ha⟩ _ hj1 (by rw [HL.out];simp);dsimp only at hy)
 refine hR.mono ?_
 rintro e W3 (⟨rfl,hJ3,hk3'⟩ | ⟨rfl,hJx3⟩)
 ·have hz:W3.cell? ⟨w1.heap.size,4,none⟩=some (.int .i64 3):=by
   have h1:=hk3'.kinds w1.heap.size _ _ (World.alloc_heap_new w1 _)
   rw [World.alloc_heap_new] at h1
   simp [World.cell?,h1]
  have hnb:=hx.below (hb1.alloc hb1.size (.cells #[.int .i64 (k0 x.op),.int .i64 (k1 x.op),.int .i64 (k2 x.op),.int .i64 3,.int .i64 3] 100)) hx.lt
  have q4:W3.cell? ⟨B,4,none⟩=some (.int .i64 x.t):=(hk3'.node hnb).c4
  have q5:W3.cell? ⟨B,5,none⟩=some (.int .i64 x.t):=(hk3'.node hnb).c5.trans (by rw [HE.out])
  gi_wp2
  go_end0
  exact ⟨⟨_,rfl⟩,.inl ⟨_,HX.out.symm,hJ3⟩⟩
 ·gi_wp2
  refine bodyPost_ret (results_none rfl _ _ _) rfl ?_
  exact ⟨⟨_,rfl⟩,.inr ⟨_,by rw [HX.out];simp,hJx3⟩⟩
theorem VC (n:Nat) (hn:1≤n) (l B:Nat) (x:Nd) (J Jx:List (Ex x)→World→Prop) (W:World) (hJ:AbidesFrom W.heap.size J)
 (hY:∀ pre (y:Ex x) W,J pre W→pre.length<(jI x).length→YieldAt Fence.wide (n-1) Tryz.prog l #[.int .i64 y.1] W fun e W' =>
  (e=.returned (.bool true)∧J (pre++[y]) W' ∧KT B W W')∨(e=.returned (.bool false)∧Jx (pre++[y]) W'))
 (hx:bY W B x) (h0:J [] W) (h3:x.op=11) (he:x.e≠x.t) :
 CallsIn Fence.wide n Tryz.prog 98 #[.func (.yield l) #[] #[],.pointer (some ⟨B,0,none⟩)] W fun e W' =>(∃ v,e=.returned v) ∧
  ((∃ ys,ys=oZ x∧J ys W')∨(∃ pre,pre <+: oZ x∧Jx pre W')):=by
 have c0:=hx.c0
 have hk3:=aLM (op:=x.op) aF
 have hk4:k4 x.op=3:=by simp [k4,h3]
 have hex:jI x=[x.t,x.e]:=by
  simp only [jI]
  rw [if_pos h3,if_neg he]
 obtain ⟨ha,hb,VA⟩:=aLO hex
 have hne:(x.e != x.t)=true:=by simpa using he
 have HX:=aR VA
 have HY:=aR hY
 have HL:=aR hex
 have HE:=aR he
 have hle:11≤x.op:=by omega
 clear VA hY hex he h3 hle
 refine callsIn_of_wp Tryz.func98 rfl trivial ?_ rfl
 simp only [Tryz.ntmps98,List.size_toArray,List.length_cons,List.length_nil,Nat.reduceAdd,Nat.reduceSub,Array.replicate_succ,Array.replicate_zero,List.push_toArray,List.append_toArray,List.nil_append,List.cons_append]
 gi_wp2_with (refine ⟨trivial,?_⟩;gi_at_call 59;refine (callsIn_wide.2 (nE _ _)).mono ?_;rintro e w1 ⟨rfl,hb1⟩;have hs1:=hb1.size;have c4:w1.cell? ⟨B,4,none⟩=some (.int .i64 x.t):=(hb1.cell (p:=⟨B,4,none⟩) hx.lt).trans hx.c4;have hlt:B<w1.heap.size:=Nat.lt_of_lt_of_le hx.lt hb1.size;have hj1:J [] (w1.alloc (.cells #[.int .i64 (k0 x.op),.int .i64 (k1 x.op),.int .i64 (k2 x.op),.int .i64 3,.int .i64 3] 100)):=mQ hJ h0 (hb1.alloc hb1.size _);obtain ⟨fn,tmps,assign,body,hy,hR⟩:=HY.out [] ⟨x.t,ha⟩ _ hj1 (by rw [HL.out];simp);dsimp only at hy)
 refine hR.mono ?_
 rintro e W3 (⟨rfl,hJ3,hk3'⟩ | ⟨rfl,hJx3⟩)
 ·have hz:W3.cell? ⟨w1.heap.size,4,none⟩=some (.int .i64 3):=by
   have h1:=hk3'.kinds w1.heap.size _ _ (World.alloc_heap_new w1 _)
   rw [World.alloc_heap_new] at h1
   simp [World.cell?,h1]
  have hnb:=hx.below (hb1.alloc hb1.size (.cells #[.int .i64 (k0 x.op),.int .i64 (k1 x.op),.int .i64 (k2 x.op),.int .i64 3,.int .i64 3] 100)) hx.lt
  have q4:W3.cell? ⟨B,4,none⟩=some (.int .i64 x.t):=(hk3'.node hnb).c4
  have q5:W3.cell? ⟨B,5,none⟩=some (.int .i64 x.e):=(hk3'.node hnb).c5
  obtain ⟨fn2,bCR,a5Q,bCS,hy2,hR2⟩:=HY.out _ ⟨x.e,hb⟩ _ hJ3 (by have:=congrArg List.length HL.out;simp at this ⊢;omega)
  dsimp only at hy2
  gi_wp2
  refine hR2.mono ?_
  rintro e2 W4 (⟨rfl,hJ4,_⟩ | ⟨rfl,a7G⟩)
  ·gi_wp2
   go_end0
   exact ⟨⟨_,rfl⟩,.inl ⟨_,HX.out.symm,hJ4⟩⟩
  ·gi_wp2
   go_end0
   exact ⟨⟨_,rfl⟩,.inr ⟨_,by rw [HX.out];simp,a7G⟩⟩
 ·gi_wp2
  refine bodyPost_ret (results_none rfl _ _ _) rfl ?_
  exact ⟨⟨_,rfl⟩,.inr ⟨_,by rw [HX.out];simp,hJx3⟩⟩
theorem oJ (n:Nat) (hn:1≤n) (B:Nat) (x:Nd) (w:World) (hx:bY w B x) :
 SeqStopsK Fence.wide n Tryz.prog 98 #[.pointer (some ⟨B,0,none⟩)] (fun y:Ex x=>#[Value.int .i64 y.1]) (KT B) (fun ys=>ys=oZ x) (fun pre=>pre <+: oZ x) (jI x).length w:=fun l J Jx W hW hJ _ hY h0=>by
 have hx' :bY W B x:=hx.below hW hx.lt
 by_cases h3:0≤x.op∧x.op≤11
 ·by_cases h11:x.op=11
  ·by_cases he:x.e=x.t
   ·exact VB n hn l B x J Jx W hJ hY hx' h0 h11 he
   ·exact VC n hn l B x J Jx W hJ hY hx' h0 h11 he
  ·exact aAP n hn l B x J Jx W hJ hY hx' h0 aF
 ·exact UZ n hn l B x J Jx W hJ hY hx' h0 h3
theorem wR (n:Nat) (op d a b t e:Int) (w:World) :
 CallsIn Fence.wide n Tryz.prog 62 #[.agg #[.int .i64 op,.int .i64 d,.int .i64 a,.int .i64 b,.int .i64 t,.int .i64 e]] w fun r w' =>r=.returned (.func (.func 98) #[] #[.pointer (some ⟨w.heap.size,0,none⟩)])∧w' =w.alloc (.cells #[.int .i64 op,.int .i64 d,.int .i64 a,.int .i64 b,.int .i64 t,.int .i64 e] 42):=by
 refine callsIn_of_wp Tryz.func62 rfl trivial ?_ rfl
 simp only [Tryz.ntmps62,List.size_toArray,List.length_cons,List.length_nil,Nat.reduceAdd,Nat.reduceSub,Array.replicate_succ,Array.replicate_zero,List.push_toArray,List.append_toArray,List.nil_append,List.cons_append]
 gi_wp2
 go_ret
 exact ⟨rfl,rfl⟩
theorem lV (w:World) (x:Nd):bY (w.alloc (.cells #[.int .i64 x.op,.int .i64 x.d,.int .i64 x.a,.int .i64 x.b,.int .i64 x.t,.int .i64 x.e] 42)) w.heap.size x:=World.alloc_heap_new w _
theorem KT.appended {W w1:World} {n₀ B N:Nat} {t e:TypeId} {size:Nat} {v v' :Value} {k:Nat} {xs:List Value} {tmp:Obj} (hv1:Boxed w1 B t v) (hte:e≠100) (htt:t≠100) (hrow:W.ownsRow n₀ e size v k xs) (hN:N<W.heap.size) (hNn:N<n₀) (hB:B≠N) (hgrow:(W.alloc tmp).grownBy w1 v.ownBlock):KT N W (w1.setCell ⟨B,0,none⟩ v'):=by
 have h1:KT N W (W.alloc tmp):=KT.of_below (dY) hN
 have h2:KT N (W.alloc tmp) w1:=by
  refine KT.grown hgrow bF fun g e' =>?_
  rcases (hrow.alloc tmp).2 with ⟨rfl,_⟩ | ⟨g', cap,cur,rfl,hb,hgb,_⟩
  ·simp [Value.ownBlock] at e'
  ·obtain rfl:g' =g:=by simpa [Value.ownBlock] using e'
   exact ⟨aF,_,_,_,hgb,hte⟩
 exact (h1.trans h2).trans (KT.setCell (o:=0) hv1 htt hB v')
theorem appendSeq_in (n:Nat) (hn:3≤n) (B:Nat) (x:Nd) (w:World) (hx:bY w B x) :
 CallsIn Fence.wide n Tryz.prog 205 #[.slice none 0 0,.func (.func 98) #[] #[.pointer (some ⟨B,0,none⟩)]] w fun e W' =>∃ v,e=.returned v∧W'.ownsRow w.heap.size 3 1 v (jI x).length ((jI x).map (Value.int .i64))∧Below w.heap.size w W' :=by
 have h1:1≤n:=by omega
 obtain ⟨i0,hi,hz0,hz1,hz2⟩:=info_parts fZ
 refine callsIn_of_wp_marks Tryz.func205 rfl trivial ?_ rfl
 simp only [Tryz.ntmps205,List.size_toArray,List.length_cons,List.length_nil,Nat.reduceAdd,Nat.reduceSub,Array.replicate_succ,Array.replicate_zero,List.push_toArray,List.append_toArray,List.nil_append,List.cons_append]
 gi_wp2
 have bO:=Boxed.new w 25 (.slice none 0 0)
 have hB0:Below w.heap.size w (w.alloc (.cells #[.slice none 0 0] 25)):=dY
 refine wpIn_rangeFunc_ownG rfl h1 (gf:=98) (lb:=#[.pointer (some ⟨B,0,none⟩)]) rfl trivial (enters_of Tryz.func98 fJ rfl)
  (oJ (n-1) aF B x _ (hx.below hB0 hx.lt)) KT.trans (KT.putObj (by have:=hx.lt;simp;omega)) (Below.refl _ _) (fun _=>rfl)
  (fun pre W=>(∃ v,Boxed W w.heap.size 25 v∧W.ownsRow w.heap.size 3 1 v pre.length (pre.map fun y=>Value.int .i64 y.1)∧True)∧Below w.heap.size w W)
  (fun _ _ _=>False)
  (OwnFrom.and (Own.from (holdsRow_own w.heap.size w.heap.size 25 3 1 (fun (pre:List (Ex x))=>pre.length) (fun (pre:List (Ex x))=>pre.map fun y=>Value.int .i64 y.1) (fun pre v=>True)) _) (ownFrom_below dD aQ))
  (fun _ _ _ _ _ hs _ _=>hs)
  ⟨⟨_,bO,World.ownsRow_nil _ _ _ _,trivial⟩,hB0⟩
  (fun y=>{ tmps:=#[.slice none 0 0,.func (.func 98) #[] #[.pointer (some ⟨B,0,none⟩)],.pointer (some ⟨w.heap.size,0,none⟩),undef,.slice none 0 0,.int .i64 y.1,.func (.func 98) #[] #[.pointer (some ⟨B,0,none⟩)],.int .i64 y.1,undef,undef,undef,undef,undef],defers:=[] }) ?assign ?body ?done ?stop
 case assign =>
  intro l y W K hK
  gi_wp2
  exact hK
 case body =>
  rintro l pre y W ⟨⟨v,hv,hrow,_⟩,hB⟩ hlt
  have hc:=hv.cell
  have hpl:pre.length<2:=Nat.lt_of_lt_of_le hlt (wQ x)
  gi_wp2_with (gi_at_builtin;refine wpListIn_append_own _ rfl _ _ 25 rfl w.heap.size 3 i0 (.int .i64 0) 1 8 Tryz.underlying25 hi hz0 hz1 hz2 rfl aL _ _ _ rfl (hrow.alloc _) ⟨W.heap.size,0,none⟩ 1 1 [.int .i64 y.1] rfl rfl (cell_one_new _ _ _) (by simp [Value.oneCell']) (by unfold maxLen;omega) aF (by have:=hB.size;simp;omega) ?_;intro v' w1 hown' hgrow _;obtain ⟨g', cap', rfl⟩:=ownsRow_succ hown'; obtain ⟨hv1,hv2,hr2,hk2,hb2⟩:=hv.appended aL hrow hB.size dD hown' hgrow;have hc1:=hv1.cell;have hf1:=hv1.frozen)
  exact ⟨hk2.from _,KT.appended hv1 aL aL hrow (by have:=hx.lt;have:=hB.size;omega) hx.lt (by have:=hx.lt;omega) hgrow,⟨_,hv2,by simpa using hr2,trivial⟩,hB.trans hb2⟩
 case done =>
  rintro D ys W hD rfl ⟨⟨v,hv,hrow,_⟩,hB⟩ hK
  have hc:=hv.cell
  gi_wp2
  refine ⟨aQ,.inl ⟨_,_,rfl,run_takeDeferred hK,?_⟩⟩
  refine ⟨_,results_tmp rfl _ _ _,v,rfl,?_,hB.trans (belowK_b (w:=w) dD W D _ _ (by simp at hD;omega) hK rfl rfl)⟩
  have h2:=ownsRow_putObj hrow (.deferred none) hK rfl
  have e1:(oZ x).map (fun y=>Value.int .i64 y.1)=(jI x).map (Value.int .i64):=by
   have:=congrArg (List.map (Value.int .i64)) (pQ x)
   rw [List.map_map] at this;exact this
  rw [UX,e1] at h2
  exact h2
 case stop =>
  rintro D c pre W _ _ h _
  exact h.elim
theorem collect_in (n:Nat) (hn:4≤n) (B:Nat) (x:Nd) (w:World) (hx:bY w B x) :
 CallsIn Fence.wide n Tryz.prog 172 #[.func (.func 98) #[] #[.pointer (some ⟨B,0,none⟩)]] w fun e W' =>∃ v,e=.returned v∧W'.ownsRow w.heap.size 3 1 v (jI x).length ((jI x).map (Value.int .i64))∧Below w.heap.size w W' :=by
 have h1:1≤n:=by omega
 have hA:=appendSeq_in (n-1) aF B x w hx
 refine callsIn_of_wp Tryz.func172 rfl trivial ?_ rfl
 simp only [Tryz.ntmps172,List.size_toArray,List.length_cons,List.length_nil,Nat.reduceAdd,Nat.reduceSub,Array.replicate_succ,Array.replicate_zero,List.push_toArray,List.append_toArray,List.nil_append,List.cons_append]
 gi_wp2_with (refine ⟨trivial,?_⟩;gi_at_call 205;refine hA.mono ?_;rintro e w1 ⟨v,rfl,hrow,hb⟩)
 go_ret
 exact ⟨v,rfl,hrow,hb⟩
end Go.Proofs.YtegloodcbfalfaaGreatDoor
namespace Go.Proofs.YtegloodcbfalfaaGreatDoor
open Go.RowKit Go.Maps Go.WideElems Go.ChangeMaps
open Go.WideMaps (KeyLaw)
theorem aGD {H:Type} {P:Program} {k e t:TypeId} {w:World} {b n:Nat} {D:DataW H} (h:w.ownsMap P k (plainElem P e) b n D) (K:KeyLaw P k) (ht:P.underlying t=some (.map k e)) (he:P.underlying e=some (.int .i64))
 (hz:∀ u:World,(zeroValue e).run P u=.ok (.int .i64 0) u) (hn:n+1<maxLen) {key:Value} {kl:Lit} (hkey:keyOf P k key=some kl) :
 ∃ (c:Int) (v0:Value) (st:Nat) (es1:Array MapEntry) (clock1:Nat),D.atKey kl (.lit (.int .i64 0))=.lit (.int .i64 c) ∧
  (Instr.lookup t (.map (some b)) key false).run P w=.ok (.int .i64 c) w ∧
  (Instr.mapEntry t (.map (some b)) key).run P w=.ok (.tuple #[v0,goInt st]) (setBlock w b (.map es1 clock1)) ∧
  (Instr.lookup t (.map (some b)) key false).run P (setBlock w b (.map es1 clock1))=.ok (.int .i64 c) (setBlock w b (.map es1 clock1)) ∧
  ∀ val:Int,(Lit.int .i64 val).wf=true→∃ es2 clock2,(Instr.entryStore t (.map (some b)) (goInt st) (.int .i64 val)).run P (setBlock w b (.map es1 clock1))=.ok () (setBlock (setBlock w b (.map es1 clock1)) b (.map es2 clock2)) ∧
   (setBlock (setBlock w b (.map es1 clock1)) b (.map es2 clock2)).ownsMap P k (plainElem P e) b (n+1) (D.put kl (.lit (.int .i64 val))):=by
 have hw0:(Lit.int .i64 0).wf=true:=by decide
 have KK:=Keyed.of_law K
 obtain ⟨c,hrun,hat,hwc⟩:=h.lookup_int KK ht he (hz w) hkey
 have h' :=h
 obtain ⟨es,clock,hb,F,hs,hD⟩:=h
 obtain ⟨v0,st,es1,clock1,hent,hv0,hst⟩:=entry_then_store K ht hz hb F hkey
 have hb1:(setBlock w b (.map es1 clock1)).heap[b]?=some (.map es1 clock1):=heap_setBlock_same hb _
 refine ⟨c,v0,st,es1,clock1,hat,hrun,hent,?_,?_⟩
 ·
  rcases K.find w hkey es.toList F.keys with ⟨h1,h2⟩ | ⟨j,e0,h1,h2,h3⟩
  ·
   have aLP:(Instr.mapEntry t (.map (some b)) key).run P w=.ok (.tuple #[.int .i64 0,goInt clock]) (setBlock w b (.map (es.push ⟨key,.int .i64 0,clock⟩) (clock+1))):=by
    simp [Instr.mapEntry,run_underlying ht,MapKept.run_getObj_map hb,K.check w false hkey,h1,hz,MapKept.run_setObj_map _ hb,Result.andThen,setBlock]
   have a7H:(Instr.mapUpdate t (.map (some b)) key (.int .i64 0)).run P w=.ok () (setBlock w b (.map (es.push ⟨key,.int .i64 0,clock⟩) (clock+1))):=by
    simp [Instr.mapUpdate,run_underlying ht,MapKept.run_getObj_map hb,K.check w false hkey,h1,MapKept.run_setObj_map _ hb,Result.andThen,setBlock]
   obtain ⟨w', hrun', hown', _⟩:=h'.update KK ht aF hkey (plainElem_int he hw0)
   rw [aLP] at hent
   rw [a7H] at hrun'
   obtain ⟨e1,e2⟩:=Result.ok.inj hent
   obtain ⟨e3,e4⟩:=Result.ok.inj hrun'
   rw [← e2,e4]
   obtain ⟨c', aDS,aLQ,_⟩:=hown'.lookup_int KK ht he (hz _) hkey
   have hm:IsMap D:=⟨_,hD⟩
   rw [atKey_put_same hm (KK.key hkey)] at aLQ
   have hc0:c=0:=by
    rcases fit_look false KK ht (hz w) hb F hkey with ⟨_,_,ha⟩ | ⟨e0,y,hm0,hk0,_⟩
    ·rw [hD,ha] at hat;exact ((Lit.int.inj (DataW.lit.inj hat)).2).symm
    ·exact absurd hk0 (h2 e0 hm0)
   have hc' :c' =0:=((Lit.int.inj (DataW.lit.inj aLQ)).2).symm
   rw [hc0];rw [hc'] at aDS;exact aDS
  ·
   have hj:es[j]?=some e0:=by simpa using h2
   have hsame:es.modify j (fun e=>{ e with key:=key })=es:=by
    apply Array.ext'
    rw [Array.toList_modify,modify_eq_set _ _ _ _ h2]
    have:({ e0 with key:=key }:MapEntry)=e0:=by rw [← h3]
    rw [this]
    exact set_self _ _ _ h2
   have aLP:(Instr.mapEntry t (.map (some b)) key).run P w=.ok (.tuple #[e0.val,goInt e0.born]) (setBlock w b (.map es clock)):=by
    simp [Instr.mapEntry,run_underlying ht,MapKept.run_getObj_map hb,K.check w false hkey,h1,hj,h3,K.stays w hkey,hsame,MapKept.run_setObj_map _ hb,Result.andThen,setBlock]
   rw [aLP] at hent
   obtain ⟨e1,e2⟩:=Result.ok.inj hent
   rw [← e2]
   have hown1:(setBlock w b (.map es clock)).ownsMap P k (plainElem P e) b n D:=⟨es,clock,heap_setBlock_same hb _,F,hs,hD⟩
   obtain ⟨c', aDS,aLQ,_⟩:=hown1.lookup_int KK ht he (hz _) hkey
   rw [hat] at aLQ
   have q:=(Lit.int.inj (DataW.lit.inj aLQ)).2
   rw [q];exact aDS
 ·intro val hwv
  obtain ⟨es2,clock2,hs2,hu2⟩:=hst (setBlock w b (.map es1 clock1)) (.int .i64 val) hb1
  refine ⟨es2,clock2,hs2,?_⟩
  obtain ⟨w', hrun', hown', _⟩:=h'.update KK ht aF hkey (plainElem_int he hwv)
  rw [hu2] at hrun'
  obtain ⟨_,e4⟩:=Result.ok.inj hrun'
  rw [← e4] at hown'
  obtain ⟨es3,aWE,hb3,F3,hs3,hD3⟩:=hown'
  refine ⟨es3,aWE,?_,F3,hs3,hD3⟩
  rw [heap_setBlock_same hb] at hb3
  rw [heap_setBlock_same hb1];exact hb3
theorem aWF:KeyLaw Tryz.prog 59:=deep_law_laid (m:=4) fJ aF (of_decide_eq_true fJ) fJ fJ
def DW (t:Tm):Lit:=.string (keyBytes [.int .i64 t.op,.int .i64 t.a,.int .i64 t.b])
theorem KJ:∃ m,Tryz.prog.types.size+1=m+2:=⟨Tryz.prog.types.size-1,by have:1≤Tryz.prog.types.size:=of_decide_eq_true fJ;omega⟩
theorem aLR (d:Nat) (n:Int) (h:(Lit.int .i64 n).wf=true):Tryz.prog.keyLits (d+1) 3 [.int .i64 n]=some [.int .i64 n]:=by
 simp [Program.keyLits,Tryz.underlying3,h]
theorem aRR (x y z:Int):Value.formed Tryz.prog 59 (.agg #[.int .i64 x,.int .i64 y,.int .i64 z])=true:=by kernel_rfl
theorem aRS (t:Tm) (h0:(Lit.int .i64 t.op).wf=true) (h1:(Lit.int .i64 t.a).wf=true) (h2:(Lit.int .i64 t.b).wf=true):keyOf Tryz.prog 59 (.agg #[.int .i64 t.op,.int .i64 t.a,.int .i64 t.b])=some (DW t):=by
 have hk:Tryz.prog.keyType 59=true:=by kernel_rfl
 have hc:Tryz.prog.cellsOf 59=3:=by kernel_rfl
 have hci:Tryz.prog.cellsOf 3=1:=by kernel_rfl
 obtain ⟨m,hm⟩:=KJ
 have hl:Tryz.prog.keyLits (Tryz.prog.types.size+1) 59 [.int .i64 t.op,.int .i64 t.a,.int .i64 t.b]=some [.int .i64 t.op,.int .i64 t.a,.int .i64 t.b]:=by
  rw [hm]
  unfold Program.keyLits
  simp [Tryz.underlying59,hc,hci,aLR,h0,h1,h2]
 unfold keyOf
 rw [Tryz.underlying59]
 simp only [hk,aRR,Bool.and_self,if_true]
 show (Tryz.prog.keyLits (Tryz.prog.types.size+1) 59 [.int .i64 t.op,.int .i64 t.a,.int .i64 t.b]).map _=_
 rw [hl];rfl
theorem aLS (u:World):(zeroValue 3).run Tryz.prog u=.ok (.int .i64 0) u:=by kernel_rfl
end Go.Proofs.YtegloodcbfalfaaGreatDoor
namespace Go.Proofs.YtegloodcbfalfaaGreatDoor
open Go.RowKit Go.Maps Go.ChangeMaps
structure bR (A:List Nat) (w w' :World):Prop where
 os:w'.os=w.os
 tape:w'.tape=w.tape
 output:w'.output=w.output
 size:w.heap.size≤w'.heap.size
 block:∀ k,k<w.heap.size→k∉A→w'.heap[k]?=w.heap[k]?
theorem bR.refl (A:List Nat) (w:World):bR A w w:=⟨rfl,rfl,rfl,Nat.le_refl _,fun _ _ _=>rfl⟩
theorem bR.trans {A:List Nat} {a b c:World} (h:bR A a b) (k:bR A b c):bR A a c :=
 ⟨k.os.trans h.os,k.tape.trans h.tape,k.output.trans h.output,Nat.le_trans h.size k.size,fun i hi hA=>(k.block i (Nat.lt_of_lt_of_le hi h.size) hA).trans (h.block i hi hA)⟩
theorem bR.mono {A A' :List Nat} {a b:World} (h:bR A a b) (hA:∀ x∈A,x∈A'):bR A' a b :=
 ⟨h.os,h.tape,h.output,h.size,fun i hi hn=>h.block i hi (fun hx=>hn (hA i hx))⟩
theorem bR.drew {A:List Nat} {a w:World} (h:bR A a w):bR A a w.drew:=⟨h.os,h.tape,h.output,h.size,h.block⟩
theorem bR.drewN {A:List Nat} {a w:World} (h:bR A a w) (n:Nat):bR A a (w.drewN n):=⟨h.os,h.tape,h.output,h.size,h.block⟩
theorem bR.alloc {A:List Nat} {a w:World} (h:bR A a w) (o:Obj):bR A a (w.alloc o) :=
 ⟨h.os,h.tape,h.output,by simp;have:=h.size;omega,fun k hk hA=>by rw [Below.heap_alloc _ _ _ (Nat.lt_of_lt_of_le hk h.size)];exact h.block k hk hA⟩
theorem bR.setCell {A:List Nat} {a w:World} (h:bR A a w) {p:Addr} (hp:p.block∈A) (u:Value):bR A a (w.setCell p u) :=
 ⟨h.os,h.tape,h.output,by simp [World.setCell];exact h.size,fun k hk hA=>by rw [Below.heap_setCell w p u k (fun e=>hA (by rw [e];exact hp))];exact h.block k hk hA⟩
theorem bR.setBlock {A:List Nat} {a w:World} (h:bR A a w) {b:Nat} {es:Array MapEntry} {clock:Nat} (hb:w.heap[b]?=some (.map es clock)) (hp:b∈A) (o:Obj):bR A a (ChangeMaps.setBlock w b o) :=
 ⟨h.os,h.tape,h.output,by simp [ChangeMaps.setBlock];exact h.size,fun k hk hA=>by rw [heap_setBlock_other (i:=k) hb o (fun e=>hA (by rw [e];exact hp))];exact h.block k hk hA⟩
theorem bR.of_below {A:List Nat} {w w' :World} (h:Below w.heap.size w w'):bR A w w' :=⟨h.os,h.tape,h.output,h.size,fun k hk _=>h.block k hk⟩
theorem bR.below {A:List Nat} {w w' :World} (h:bR A w w') {B:Nat} (hA:∀ x∈A,B≤x) (hB:B≤w.heap.size):Below B w w' :=
 ⟨h.os,h.tape,h.output,h.size,fun k hk=>h.block k (Nat.lt_of_lt_of_le hk hB) (fun hx=>by have:=hA k hx;omega)⟩
theorem bR.cell {A:List Nat} {w w' :World} (h:bR A w w') {b i:Nat} (hb:b<w.heap.size) (hA:b∉A):w'.cell? ⟨b,i,none⟩=w.cell? ⟨b,i,none⟩:=World.cell?_of_block (w:=w) (h.block b hb hA)
theorem bR.owns {A:List Nat} {w w' :World} (h:bR A w w') {base:Nat} {e:TypeId} {size:Nat} {v:Value} {n:Nat} {xs:List Value} (ho:w.ownsRow base e size v n xs) (hA:∀ x∈A,x<base):w'.ownsRow base e size v n xs:=by
 obtain ⟨hl,ho⟩:=ho
 refine ⟨hl,?_⟩
 rcases ho with ho | ⟨g,cap,cur,rfl,h1,h2,h3⟩
 ·exact Or.inl ho
 ·refine Or.inr ⟨g,cap,cur,rfl,h1,?_,h3⟩
  rw [h.block g (aD h2) (fun hx=>by have:=hA g hx;omega)];exact h2
theorem pE {w w' :World} {b n:Nat} {D:DataW Unit} (h:w.ownsMap Tryz.prog 59 (plainElem Tryz.prog 3) b n D) (he:w'.heap[b]?=w.heap[b]?):w'.ownsMap Tryz.prog 59 (plainElem Tryz.prog 3) b n D:=by
 obtain ⟨es,clock,hb,F,hs,hD⟩:=h
 exact ⟨es,clock,by rw [he];exact hb,F,hs,hD⟩
theorem kJ {n:Int} (h0:0≤n) (h1:n≤1000000):(Lit.int .i64 n).wf=true:=by
 simp [Lit.wf,IntKind.min,IntKind.max,IntKind.signed,IntKind.bits];omega
theorem VD (mb rb mp:Nat) (v0 v1 v2 v3 v4 v5 v6 v7:Value) (rc:Nat) (ra:Array Value) (regs:List Int) (n:Nat) (D:DataW Unit) (x:Nd) (w:World)
 (hm:w.heap[mb]?=some (.cells #[v0,v1,v2,v3,v4,v5,v6,v7,.slice (some ⟨rb,0,none⟩) regs.length rc,.map (some mp)] 96 (0,0)))
 (hr:w.heap[rb]?=some (.cells (regs.map (Value.int .i64)).toArray 3 (0,0)))
 (ho:w.ownsMap Tryz.prog 59 (plainElem Tryz.prog 3) mp n D) (hn:n≤1000000) (hne:mb≠rb∧mb≠mp∧rb≠mp)
 (hop:3≤x.op∧x.op≤8) (hd:0≤x.d∧x.d<regs.length) (ha:0≤x.a∧x.a<regs.length) (hb:0≤x.b∧x.b<regs.length) (hl:regs.length≤64) :
 Calls Tryz.prog 93 #[.pointer (some ⟨mb,0,none⟩),.agg #[.int .i64 x.op,.int .i64 x.d,.int .i64 x.a,.int .i64 x.b,.int .i64 x.t,.int .i64 x.e]] w fun e w' =>e=.returned (.tuple #[]) ∧
  w'.heap[rb]?=some (.cells ((mJ regs x.d (rk x.op (dN regs x.a) (dN regs x.b))).map (Value.int .i64)).toArray 3 (0,0)) ∧
  (∃ c:Int,D.atKey (DW (gG x)) (.lit (.int .i64 0))=.lit (.int .i64 c)∧w'.ownsMap Tryz.prog 59 (plainElem Tryz.prog 3) mp (n+1) (D.put (DW (gG x)) (.lit (.int .i64 (wrap64 (c+1)))))) ∧
  bR [rb,mp] w w' :=by
 obtain ⟨hd0,hd1⟩:=hd
 obtain ⟨ha0,ha1⟩:=ha
 obtain ⟨hb0,hb1⟩:=hb
 obtain ⟨dn,hdn⟩:=Int.eq_ofNat_of_zero_le hd0
 obtain ⟨an,han⟩:=Int.eq_ofNat_of_zero_le ha0
 obtain ⟨bn,hbn⟩:=Int.eq_ofNat_of_zero_le hb0
 obtain ⟨op,d,a,b,t,e⟩:=x
 simp only at *
 subst hdn han hbn
 have ho1:=hop.1
 have ho2:=hop.2
 have jP:=aD hm
 have hrl:=aD hr
 have m8:=aA hm 8
 have m9:=aA hm 9
 simp at m8 m9
 have ra' :=aA hr an
 have rb' :=aA hr bn
 have rd' :=aA hr dn
 have rf' :=aC hr dn
 have hza:((regs.map (Value.int .i64)).toArray)[an]?=some (.int .i64 (dN regs (an:Int))):=by simp [dN];rw [List.getElem?_eq_getElem aF];simp
 have hzb:((regs.map (Value.int .i64)).toArray)[bn]?=some (.int .i64 (dN regs (bn:Int))):=by simp [dN];rw [List.getElem?_eq_getElem aF];simp
 have hzd:((regs.map (Value.int .i64)).toArray)[dn]?=some (.int .i64 (dN regs (dn:Int))):=by simp [dN];rw [List.getElem?_eq_getElem aF];simp
 rw [hza] at ra'
 rw [hzb] at rb'
 rw [hzd] at rd'
 clear hza hzb hzd
 go_enter Tryz.func93,Tryz.ntmps93
 go_wp2_with fail
 refine (CG _ _ _ _ _ _ _ ho1 ho2).mono ?_
 rintro e1 w1 ⟨rfl,hb1⟩
 have hs1:=hb1.size
 simp only [World.size_alloc] at hs1 hb1
 go_wp2
 have hne1:=hne.1
 have hne2:=hne.2.1
 have hne3:=hne.2.2
 have K1:bR [] w (w1.alloc (.cells #[.int .i64 op,.int .i64 an,.int .i64 bn] 59)):=(((bR.refl [] w).alloc _).trans (bR.of_below (by simpa using hb1))).alloc _
 have n1:(w1.alloc (.cells #[.int .i64 op,.int .i64 an,.int .i64 bn] 59)).cell? ⟨w.heap.size,1,none⟩=some (.int .i64 dn):=by
  rw [World.cell?_alloc_past _ _ _ aF,hb1.cell (p:=⟨w.heap.size,1,none⟩) aQ];simp
 have t0:(w1.alloc (.cells #[.int .i64 op,.int .i64 an,.int .i64 bn] 59)).cell? ⟨w1.heap.size,0,none⟩=some (.int .i64 op):=by simp
 have t1:(w1.alloc (.cells #[.int .i64 op,.int .i64 an,.int .i64 bn] 59)).cell? ⟨w1.heap.size,1,none⟩=some (.int .i64 an):=by simp
 have t2:(w1.alloc (.cells #[.int .i64 op,.int .i64 an,.int .i64 bn] 59)).cell? ⟨w1.heap.size,2,none⟩=some (.int .i64 bn):=by simp
 have bHY:w.heap.size<w1.heap.size:=by omega
 have UK :w1.heap.size<(w1.alloc (.cells #[.int .i64 op,.int .i64 an,.int .i64 bn] 59)).heap.size:=by simp
 clear hb1
 generalize w1.alloc (.cells #[.int .i64 op,.int .i64 an,.int .i64 bn] 59)=W1 at K1 n1 t0 t1 t2 UK ⊢
 have hmp:mp<w.heap.size:=ho.lt
 have m8' :=(K1.cell (i:=8) jP aQ).trans m8
 have m9' :=(K1.cell (i:=9) jP aQ).trans m9
 have ra1:=(K1.cell (i:=an) hrl aQ).trans ra'
 have rb1:=(K1.cell (i:=bn) hrl aQ).trans rb'
 have rd1:=(K1.cell (i:=dn) hrl aQ).trans rd'
 have hr1:W1.heap[rb]?=_:=(K1.block rb hrl aQ).trans hr
 have rf1:=aC hr1 dn
 have ho' :=pE ho (K1.block mp hmp aQ)
 clear m8 m9 ra' rb' rd' rf'
 refine wp_region_still_tail 26 fJ fJ ?_
 simp only [List.take_succ_cons,List.take_zero,List.drop_succ_cons,List.drop_zero]
 repeat still_step
 still_call (aFQ _ _ _ _)
 repeat still_step
 refine wpStill_nil ?_
 go_wp2
 have K2:bR [rb,mp] w (W1.setCell ⟨rb,dn,none⟩ (.int .i64 (rk op (dN regs an) (dN regs bn)))).drew:=((K1.mono aQ).setCell (p:=⟨rb,dn,none⟩) aQ _).drew
 have hr2:(W1.setCell ⟨rb,dn,none⟩ (.int .i64 (rk op (dN regs an) (dN regs bn)))).drew.heap[rb]?=some (.cells ((mJ regs dn (rk op (dN regs an) (dN regs bn))).map (Value.int .i64)).toArray 3 (0,0)):=by
  have h2:=aG (i:=dn) (.int .i64 (rk op (dN regs an) (dN regs bn))) hr1
  rw [show (mJ regs (dn:Int) (rk op (dN regs an) (dN regs bn)))=regs.set dn (rk op (dN regs an) (dN regs bn)) from rfl]
  rw [List.map_set]
  have h3:(W1.setCell ⟨rb,dn,none⟩ (.int .i64 (rk op (dN regs an) (dN regs bn)))).heap[rb]?=_:=h2
  show (W1.setCell ⟨rb,dn,none⟩ (.int .i64 (rk op (dN regs an) (dN regs bn)))).heap[rb]?=_
  rw [h3];simp
 have aWG :=pE (w' :=(W1.setCell ⟨rb,dn,none⟩ (.int .i64 (rk op (dN regs an) (dN regs bn)))).drew) ho' (Below.heap_setCell _ _ _ _ (by exact fun e=>hne3 e.symm))
 have m92:(W1.setCell ⟨rb,dn,none⟩ (.int .i64 (rk op (dN regs an) (dN regs bn)))).drew.cell? ⟨mb,9,none⟩=some (.map (some mp)):=(World.cell?_of_block (w:=W1) (Below.heap_setCell _ _ _ _ (by exact hne1))).trans m9'
 have htb:w1.heap.size≠rb:=by omega
 have t02:(W1.setCell ⟨rb,dn,none⟩ (.int .i64 (rk op (dN regs an) (dN regs bn)))).drew.cell? ⟨w1.heap.size,0,none⟩=some (.int .i64 op):=(World.cell?_of_block (w:=W1) (Below.heap_setCell _ _ _ _ (by exact htb))).trans t0
 have t12:(W1.setCell ⟨rb,dn,none⟩ (.int .i64 (rk op (dN regs an) (dN regs bn)))).drew.cell? ⟨w1.heap.size,1,none⟩=some (.int .i64 an):=(World.cell?_of_block (w:=W1) (Below.heap_setCell _ _ _ _ (by exact htb))).trans t1
 have t22:(W1.setCell ⟨rb,dn,none⟩ (.int .i64 (rk op (dN regs an) (dN regs bn)))).drew.cell? ⟨w1.heap.size,2,none⟩=some (.int .i64 bn):=(World.cell?_of_block (w:=W1) (Below.heap_setCell _ _ _ _ (by exact htb))).trans t2
 have htm:w1.heap.size≠mp:=by omega
 clear m8' m9' ra1 rb1 rd1 hr1 rf1 ho' n1 t0 t1 t2 UK K1
 generalize (W1.setCell ⟨rb,dn,none⟩ (.int .i64 (rk op (dN regs an) (dN regs bn)))).drew=W2 at K2 hr2 aWG m92 t02 t12 t22 ⊢
 have hkey:=aRS (gG ⟨op,dn,an,bn,t,e⟩) (kJ (by simp [gG];omega) (by simp [gG];omega)) (kJ (by simp [gG]) (by simp [gG];omega)) (kJ (by simp [gG]) (by simp [gG];omega))
 have hod:W2.drew.ownsMap Tryz.prog 59 (plainElem (H:=Unit) Tryz.prog 3) mp n D:=aWG
 obtain ⟨c,v0', st,es1,clock1,hat,KL,hent,aWH,aLT⟩:=aGD hod aWF Tryz.underlying94 Tryz.underlying3 aLS (by unfold maxLen;omega) hkey
 obtain ⟨es2,clock2,hst,hown⟩:=aLT (wrap64 (c+1)) (wrap64_wf _)
 have hst' :Sem.run Tryz.prog (Instr.entryStore 94 (.map (some mp)) (.int .i64 (st:Int)) (.int .i64 (IntKind.i64.wrap (c+1)))) (setBlock W2.drew mp (.map es1 clock1))=.ok () (setBlock (setBlock W2.drew mp (.map es1 clock1)) mp (.map es2 clock2)):=by rw [IntWalk.i64_left];exact hst
 clear hst
 obtain ⟨es0,a7N,hbm,_⟩:=hod
 have aAQ :(setBlock W2.drew mp (.map es1 clock1)).heap[mp]?=some (.map es1 clock1):=heap_setBlock_same hbm _
 have K3:bR [rb,mp] w (setBlock (setBlock W2.drew mp (.map es1 clock1)) mp (.map es2 clock2)):=(K2.drew.setBlock hbm aQ _).setBlock aAQ aQ _
 have hr3:(setBlock (setBlock W2.drew mp (.map es1 clock1)) mp (.map es2 clock2)).heap[rb]?=_:=((heap_setBlock_other aAQ _ hne3).trans (heap_setBlock_other hbm _ hne3)).trans hr2
 have HD:=aB (And.intro hr3 (And.intro hat (And.intro hown K3)))
 have S1:=aB (And.intro m92 (And.intro t02 (And.intro t12 t22)))
 have S2:Hid ((setBlock W2.drew mp (.map es1 clock1)).cell? ⟨mb,9,none⟩=some (.map (some mp))∧(setBlock W2.drew mp (.map es1 clock1)).cell? ⟨w1.heap.size,0,none⟩=some (.int .i64 op)∧(setBlock W2.drew mp (.map es1 clock1)).cell? ⟨w1.heap.size,1,none⟩=some (.int .i64 an)∧(setBlock W2.drew mp (.map es1 clock1)).cell? ⟨w1.heap.size,2,none⟩=some (.int .i64 bn)) :=
  ⟨(World.cell?_of_block (w:=W2.drew) (heap_setBlock_other hbm _ hne2)).trans m92,(World.cell?_of_block (w:=W2.drew) (heap_setBlock_other hbm _ htm)).trans t02,(World.cell?_of_block (w:=W2.drew) (heap_setBlock_other hbm _ htm)).trans t12,(World.cell?_of_block (w:=W2.drew) (heap_setBlock_other hbm _ htm)).trans t22⟩
 have S3:Hid ((setBlock (setBlock W2.drew mp (.map es1 clock1)) mp (.map es2 clock2)).cell? ⟨mb,9,none⟩=some (.map (some mp))∧(setBlock (setBlock W2.drew mp (.map es1 clock1)) mp (.map es2 clock2)).cell? ⟨w1.heap.size,0,none⟩=some (.int .i64 op)∧(setBlock (setBlock W2.drew mp (.map es1 clock1)) mp (.map es2 clock2)).cell? ⟨w1.heap.size,1,none⟩=some (.int .i64 an)∧(setBlock (setBlock W2.drew mp (.map es1 clock1)) mp (.map es2 clock2)).cell? ⟨w1.heap.size,2,none⟩=some (.int .i64 bn)) :=
  ⟨(World.cell?_of_block (w:=setBlock W2.drew mp (.map es1 clock1)) (heap_setBlock_other aAQ _ hne2)).trans S2.out.1,(World.cell?_of_block (w:=setBlock W2.drew mp (.map es1 clock1)) (heap_setBlock_other aAQ _ htm)).trans S2.out.2.1,(World.cell?_of_block (w:=setBlock W2.drew mp (.map es1 clock1)) (heap_setBlock_other aAQ _ htm)).trans S2.out.2.2.1,(World.cell?_of_block (w:=setBlock W2.drew mp (.map es1 clock1)) (heap_setBlock_other aAQ _ htm)).trans S2.out.2.2.2⟩
 simp only [gG] at KL hent aWH
 clear aLT hbm aAQ hr3 hat hown K3 K2 hr2 aWG hkey
 go_region_held3 (fun u=>u.cell? ⟨mb,9,none⟩=some (.map (some mp))∧u.cell? ⟨w1.heap.size,0,none⟩=some (.int .i64 op)∧u.cell? ⟨w1.heap.size,1,none⟩=some (.int .i64 an)∧u.cell? ⟨w1.heap.size,2,none⟩=some (.int .i64 bn)) (first | exact S1.out | exact S2.out | exact S3.out) (fail)
 all_goals go_wp2
 all_goals go_end0
 all_goals exact ⟨rfl,HD.out.1,⟨c,HD.out.2.1,HD.out.2.2.1⟩,HD.out.2.2.2⟩
end Go.Proofs.YtegloodcbfalfaaGreatDoor
namespace Go.Proofs.YtegloodcbfalfaaGreatDoor
open Go.RowKit Go.Shelf
structure dS (w:World) (base rb L:Nat) (vs:List Value) (f:Nat→List Int):Prop where
 blk:w.heap[rb]?=some (.cells vs.toArray 25 (0,0))
 len:vs.length=L
 own:∀ (m:Nat) (v:Value),vs[m]?=some v→w.ownsRow base 3 1 v (f m).length ((f m).map (Value.int .i64))
 apart:∀ (m1 m2:Nat) (v1 v2:Value) (g:Nat),vs[m1]?=some v1→vs[m2]?=some v2→v1.ownBlock=some g→v2.ownBlock=some g→m1=m2
theorem dF {w:World} {base b:Nat} {e t:TypeId} {size:Nat} {v:Value} {n:Nat} {xs:List Value} {vs:Array Value} (h:w.ownsRow base e size v n xs) (hb:w.heap[b]?=some (.cells vs t (0,0))) (hte:t≠e):some b≠v.ownBlock:=by
 rcases h.2 with ⟨rfl,_⟩ | ⟨g,cap,cur,rfl,_,hgb,_⟩
 ·simp [Value.ownBlock]
 ·intro e'
  obtain rfl:b=g:=by simpa [Value.ownBlock] using e'
  rw [hb] at hgb
  cases hgb
  exact hte rfl
theorem dS.kept {w w' :World} {base rb L:Nat} {vs:List Value} {f:Nat→List Int} (h:dS w base rb L vs f) {row:Option Nat} (hg:w.grownBy w' row) (hr:∀ r,row=some r→∃ o:Obj,w.heap[r]?=some o∧o.isCells=false):dS w' base rb L vs f:=by
 refine ⟨?_,h.len,fun m v hv=>?_,h.apart⟩
 ·rw [hg.block rb (Array.getElem?_eq_some_iff.1 h.blk).1 (fun e=>by
   obtain ⟨o,h1,h2⟩:=hr rb e.symm
   rw [h.blk] at h1;cases h1;cases h2)]
  exact h.blk
 ·refine (h.own m v hv).kept hg ?_
  rcases (h.own m v hv).2 with ⟨rfl,_⟩ | ⟨g,cap,cur,rfl,_,hgb,_⟩
  ·exact .inl rfl
  ·refine .inr fun e=>?_
   obtain ⟨o,h1,h2⟩:=hr g (by simpa [Value.ownBlock] using e.symm)
   rw [hgb] at h1;cases h1;cases h2
theorem dS.below {w w' :World} {base rb L:Nat} {vs:List Value} {f:Nat→List Int} (h:dS w base rb L vs f) (hb:Below w.heap.size w w'):dS w' base rb L vs f :=
 h.kept (kI hb none) (fun r e=>by cases e)
theorem dS.grow {w w1:World} {base rb L:Nat} {vs:List Value} {f f' :Nat→List Int} (h:dS w base rb L vs f) {m:Nat} {v:Value} (hv:vs[m]?=some v) {g cap:Nat}
 (hg:w.grownBy w1 v.ownBlock) (hat:v.ownBlock=some g∨w.heap.size≤g) (hown:w1.ownsRow base 3 1 (.slice (some ⟨g,0,none⟩) (f' m).length cap) (f' m).length ((f' m).map (Value.int .i64)))
 (hf:∀ j,j≠m→f' j=f j):dS (w1.setCell ⟨rb,m,none⟩ (.slice (some ⟨g,0,none⟩) (f' m).length cap)) base rb L (vs.set m (.slice (some ⟨g,0,none⟩) (f' m).length cap)) f' :=by
 have jP:m<vs.length:=(List.getElem?_eq_some_iff.1 hv).1
 have hr1:w1.heap[rb]?=some (.cells vs.toArray 25 (0,0)):=(hg.block rb (Array.getElem?_eq_some_iff.1 h.blk).1 (dF (h.own m v hv) h.blk aL)).trans h.blk
 have hlt:∀ (j:Nat) (u:Value) (k:Nat),vs[j]?=some u→u.ownBlock=some k→k<w.heap.size:=fun j u k hj hk=>((h.own j u hj).lt k hk).2
 have hset:∀ {e:TypeId} {v' :Value} {n:Nat} {xs:List Value},w1.ownsRow base 3 1 v' n xs→(w1.setCell ⟨rb,m,none⟩ (.slice (some ⟨g,0,none⟩) (f' m).length cap)).ownsRow base 3 1 v' n xs:=by
  intro e v' n xs h2
  have hne:=dF h2 hr1 aL
  obtain ⟨hl,h3⟩:=h2
  refine ⟨hl,?_⟩
  rcases h3 with h3 | ⟨g', cap', cur', rfl,a1,a2,a3⟩
  ·exact Or.inl h3
  ·refine Or.inr ⟨g', cap', cur', rfl,a1,?_,a3⟩
   rw [Below.heap_setCell _ _ _ g' (fun e=>hne (by simp only [Value.ownBlock];exact congrArg some e.symm))]
   exact a2
 refine ⟨?_,by simpa using h.len,fun j u hj=>?_,fun j1 j2 u1 u2 k h1 h2 e1 e2=>?_⟩
 ·rw [aG _ hr1];simp
 ·rw [List.getElem?_set] at hj
  by_cases e:m=j
  ·subst e
   rw [if_pos rfl,if_pos jP] at hj
   cases hj
   exact hset (e:=0) hown
  ·rw [if_neg e] at hj
   rw [hf j (fun q=>e q.symm)]
   refine hset (e:=0) ((h.own j u hj).kept hg ?_)
   rcases (h.own j u hj).2 with ⟨rfl,_⟩ | ⟨g', cap', cur', rfl,_⟩
   ·exact .inl rfl
   ·refine .inr fun q=>?_
    exact e (h.apart m j v _ g' hv hj (by rw [← q];rfl) rfl)
 ·rw [List.getElem?_set] at h1 h2
  by_cases q1:m=j1
  ·by_cases q2:m=j2
   ·rw [← q1,← q2]
   ·rw [if_pos q1,if_pos jP] at h1
    rw [if_neg q2] at h2
    cases h1
    simp only [Value.ownBlock,Option.some.injEq] at e1
    subst e1
    exfalso
    rcases hat with hat | hat
    ·exact q2 (h.apart m j2 v u2 g hv h2 hat e2)
    ·have:=hlt j2 u2 g h2 e2;omega
  ·rw [if_neg q1] at h1
   by_cases q2:m=j2
   ·rw [if_pos q2,if_pos jP] at h2
    cases h2
    simp only [Value.ownBlock,Option.some.injEq] at e2
    subst e2
    exfalso
    rcases hat with hat | hat
    ·exact q1 (h.apart m j1 v u1 g hv h1 hat e1)
    ·have:=hlt j1 u1 g h1 e1;omega
   ·rw [if_neg q2] at h2
    exact h.apart j1 j2 u1 u2 k h1 h2 e1 e2
def iA (ns:List Nd) (k:Nat) (pre:List Int) (m:Nat):List Int:=pick (mF ns m) k++List.replicate (pre.count (m:Int)) (k:Int)
theorem aAR (ns:List Nd) (k:Nat):iA ns k []=fun m=>pick (mF ns m) k:=by funext m;simp [iA]
theorem aGE (x:Nd) (hk:kn x.op=true) (m:Nat):(jI x).count (m:Int)=if tY x m then 1 else 0:=by
 have hop:=aY.1 hk
 unfold jI tY
 by_cases h11:x.op=11
 ·rw [if_pos h11]
  by_cases he:x.e=x.t
  ·rw [if_pos he]
   by_cases ht:x.t=m
   ·simp [h11,ht]
   ·simp [h11,he,ht]
  ·rw [if_neg he]
   by_cases ht:x.t=m
   ·have:¬ x.e=m:=fun q=>he (by rw [q,ht])
    simp [h11,ht,this]
   ·by_cases q:x.e=m
    ·simp [h11,ht,q]
    ·simp [h11,ht,q]
 ·rw [if_neg h11]
  by_cases h12:x.op=12
  ·have e:wi x.op 0 11=false:=eT aF
   simp [h12]
   rw [h12] at e;simp [e]
  ·rw [dP aF aF,if_pos rfl]
   by_cases ht:x.t=m
   ·simp [h11,h12,ht]
   ·simp [h11,h12,ht]
theorem VE (ns:List Nd) (k:Nat) {x:Nd} (hx:ns[k]?=some x) (hk:kn x.op=true):iA ns k (jI x)=fun m=>pick (mF ns m) (k+1):=by
 funext m
 rw [iA,aGE x hk]
 have:=nG (n:=m) hx
 cases h:tY x m
 ·rw [tX (by rw [this];exact h)];simp
 ·rw [sD (by rw [this];exact h)];simp
theorem aAS (ns:List Nd) (k:Nat) (pre:List Int) (m:Nat):(iA ns k pre m).length≤k+pre.length:=by
 have h1:=BZ (mF ns m) k
 have h2:pre.count (m:Int)≤pre.length:=List.count_le_length
 simp [iA];omega
def aDT (D:Nat):Deferred:={ target:=.collected D,args:=#[] }
structure Marks (ds:List Nat) (W:World):Prop where
 nodup:ds.Nodup
 here:∀ D∈ds,W.heap[D]?=some (.deferred (some []))
theorem Marks.nil (W:World):Marks [] W:=⟨List.nodup_nil,fun D h=>by cases h⟩
theorem Marks.lt {ds:List Nat} {W:World} (h:Marks ds W) {D:Nat} (hD:D∈ds):D<W.heap.size:=(Array.getElem?_eq_some_iff.1 (h.here D hD)).1
theorem Marks.cons {ds:List Nat} {W:World} (h:Marks ds W) {D:Nat} (hD:W.heap[D]?=some (.deferred (some []))) (hn:∀ E∈ds,E<D):Marks (D::ds) W :=
 ⟨List.nodup_cons.2 ⟨fun hm=>Nat.lt_irrefl _ (hn D hm),h.nodup⟩,fun E hE=>by
  rcases List.mem_cons.1 hE with rfl | hE
  ·exact hD
  ·exact h.here E hE⟩
theorem Marks.keep {ds:List Nat} {W W' :World} (h:Marks ds W) (hk:∀ k o,W.heap[k]?=some o→o.isCells=false→k∈ds→W'.heap[k]?=some o):Marks ds W' :=
 ⟨h.nodup,fun D hD=>hk D _ (h.here D hD) rfl hD⟩
theorem Marks.grown {ds:List Nat} {W W' :World} {row:Option Nat} (h:Marks ds W) (hg:W.grownBy W' row) (hr:∀ r,row=some r→r∉ds):Marks ds W' :=
 h.keep fun k o hk _ hm=>(hg.block k (Array.getElem?_eq_some_iff.1 hk).1 fun e=>hr k e.symm hm).trans hk
theorem Marks.below {ds:List Nat} {W W' :World} (h:Marks ds W) (hb:Below W.heap.size W W'):Marks ds W' :=h.grown (kI hb none) (fun r e=>by cases e)
theorem Marks.others {ds:List Nat} {W W' :World} (h:Marks ds W) (hk:KeepsOthers W W'):Marks ds W' :=h.keep fun k o h1 h2 _=>hk.same k o h1 h2
structure Shut (B:Nat) (W W' :World):Prop where
 below:Below B W W'
 cells:∀ (k:Nat) (o:Obj),W.heap[k]?=some o→o.isCells=true→W'.heap[k]?=some o
theorem Shut.refl (B:Nat) (W:World):Shut B W W:=⟨Below.refl _ _,fun _ _ h _=>h⟩
theorem kK {F:Fence} {n:Nat} {P:Program} {fn:Func} {tmps:Array Value} {R:Ending→World→Prop} {B:Nat}:∀ (ds:List Nat) (W:World),Marks ds W→(∀ D∈ds,B≤D) →
 (∀ W', Shut B W W' →LeavesInM F n P fn tmps R [] .returning W')→LeavesInM F n P fn tmps R (ds.map aDT) .returning W
 | [],W,_,_,h=>h W (Shut.refl _ _)
 | D::ds,W,hm,hB,h=>by
  have hD:=hm.here D aQ
  have hlt:=hm.lt (D:=D) aQ
  have hg:=grownBy_putObj' W D (.deferred none)
  have hnd:=List.nodup_cons.1 hm.nodup
  refine ⟨aQ,.inl ⟨D,_,rfl,run_takeDeferred hD,?_⟩⟩
  refine kK ds _ ⟨hnd.2,fun E hE=>?_⟩ (fun E hE=>hB E (by simp [hE])) fun W' hs=>h W' ⟨?_,fun k o hk ho=>?_⟩
  ·have hne:E≠D:=fun e=>hnd.1 (e ▸ hE)
   exact (World.putObj_heap_other hne).trans (hm.here E (by simp [hE]))
  ·exact ((Below.refl B W).grown hg (by have:=hB D aQ;omega) (fun k e=>by cases e;exact hB D aQ)).trans hs.below
  ·refine hs.cells k o ((World.putObj_heap_other fun e=>?_).trans hk) ho
   subst e
   rw [hD] at hk
   cases hk
   cases ho
theorem Shut.owns {B:Nat} {W W' :World} (h:Shut B W W') {base:Nat} {e:TypeId} {size:Nat} {v:Value} {n:Nat} {xs:List Value} (ho:W.ownsRow base e size v n xs):W'.ownsRow base e size v n xs:=by
 obtain ⟨hl,h3⟩:=ho
 refine ⟨hl,?_⟩
 rcases h3 with h3 | ⟨g', cap', cur', rfl,a1,a2,a3⟩
 ·exact Or.inl h3
 ·exact Or.inr ⟨g', cap', cur', rfl,a1,h.cells _ _ a2 rfl,a3⟩
theorem Shut.rows {B:Nat} {W W' :World} (h:Shut B W W') {base rb L:Nat} {vs:List Value} {f:Nat→List Int} (hr:dS W base rb L vs f):dS W' base rb L vs f :=
 ⟨h.cells _ _ hr.blk rfl,hr.len,fun m v hv=>h.owns (hr.own m v hv),hr.apart⟩
theorem DX {p q:Nat→Bool} {i:Nat} (hp:p i=true) (hq:q i=false) (he:∀ j,j≠i→q j=p j):∀ k,i<k→((List.range k).filter q).length+1=((List.range k).filter p).length
 | 0,h=>by omega
 | k+1,h=>by
  simp only [List.range_succ,List.filter_append,List.length_append]
  by_cases e:i=k
  ·subst e
   have hs:(List.range i).filter q=(List.range i).filter p:=List.filter_congr fun j hj=>he j (by have:=List.mem_range.1 hj;omega)
   rw [hs]
   simp [hp,hq]
  ·have ih:=DX hp hq he k aF
   have hk:(List.filter q [k]).length=(List.filter p [k]).length:=by
    rw [List.filter_congr (p:=q) (q:=p) fun j hj=>he j (by simp at hj;omega)]
   omega
def PO (k:Nat) (listed:Array Bool):Nat:=((List.range k).filter fun i=>!listed.getD i false).length
theorem DY {k:Nat} {listed:Array Bool} {i:Nat} (hk:listed.size=k) (hi:i<k) (h:listed.getD i true=false):PO k (listed.setIfInBounds i true)+1=PO k listed:=by
 refine DX (i:=i) ?_ ?_ (fun j hj=>?_) k hi
 ·have:listed.getD i false=false:=by
   simp only [Array.getD] at h ⊢
   split at h
   ·rename_i hlt;rw [dif_pos hlt];exact h
   ·cases h
  simp [this]
 ·simp [hk,hi]
 ·rw [getD_set_ne false (fun e=>hj e.symm)]
def Closed (ops:Array Oper) (listed:Array Bool):Prop:=∀ (i:Nat) (o:Oper),ops[i]?=some o→listed.getD i false=true→∀ e∈o.after,Region.binds .any e=true→listed.getD e.on false=true
theorem DZ {F:Fence} {n:Nat} {P:Program} {id:Nat} {ops:Array Oper} {Q:Exit→Act→World→Prop} {a:Act} {w:World} (hm:P.follows .mixedOrders=true) (Inv:Array Bool→Act→World→Prop)
 (hg:∀ (i:Nat) (o:Oper),ops[i]?=some o→o.guard=none∧∀ e∈o.after,Region.binds .any e=true→e.on<i)
 (hsz:∀ listed a w,Inv listed a w→listed.size=ops.size)
 (h0:Inv (Array.replicate ops.size false) a w.drew)
 (hs:∀ listed a w (i:Nat) (o:Oper),Inv listed a w→Closed ops listed→ops[i]?=some o→listed.getD i true=false→(∀ e∈o.after,Region.binds .any e=true→listed.getD e.on false=true)→Oper.wpIn F n P o a w (Inv (listed.setIfInBounds i true)) Q)
 (h1:∀ listed a w,Inv listed a w→(∀ i,i<ops.size→listed.getD i false=true)→Q .normal a w):(Code.region id ops true).wpIn F n P Q a w:=by
 refine wpIn_region_any hm ?_
 have all:∀ listed a w,Inv listed a w→Region.ready .any ops listed=[]→∀ i,i<ops.size→listed.getD i false=true:=by
  intro listed a w hI hr i
  induction i using Nat.strongRecOn with
  | _ i ih =>
   intro hi
   cases hb:listed.getD i false
   ·exfalso
    have hsi:=hsz _ _ _ hI
    have hb' :listed.getD i true=false:=by
     simp only [Array.getD] at hb ⊢
     rw [dif_pos aF] at hb ⊢;exact hb
    have:i∈Region.ready .any ops listed:=by
     rw [mem_ready]
     refine ⟨hb', ops[i],Array.getElem?_eq_getElem hi,fun e he hbe=>?_⟩
     have:=(hg i _ (Array.getElem?_eq_getElem hi)).2 e he hbe
     exact ih e.on this aF
    rw [hr] at this;cases this
   ·rfl
 have main:∀ (fuel:Nat) (listed:Array Bool) (a:Act) (w:World),Inv listed a w→Closed ops listed→PO ops.size listed≤fuel→wpAnyIn F n P .any ops Q fuel listed a w:=by
  intro fuel
  induction fuel with
  | zero =>
   intro listed a w hI hC hu
   have hr:Region.ready .any ops listed=[]:=by
    apply List.eq_nil_iff_forall_not_mem.2
    intro i hi
    obtain ⟨h2,o,h3,_⟩:=mem_ready.1 hi
    have:=DY (hsz _ _ _ hI) (Array.getElem?_eq_some_iff.1 h3).1 h2
    omega
   exact ⟨hr,h1 _ _ _ hI (all _ _ _ hI hr)⟩
  | succ fuel ih =>
   intro listed a w hI hC hu
   refine ⟨fun hr=>h1 _ _ _ hI (all _ _ _ hI hr),fun i hi=>?_⟩
   obtain ⟨h2,o,h3,h4⟩:=mem_ready.1 hi
   have hsi:=hsz _ _ _ hI
   have hu2:=DY hsi (Array.getElem?_eq_some_iff.1 h3).1 h2
   have hC' :Closed ops (listed.setIfInBounds i true):=by
    intro j p hj hl e he hb
    by_cases q:j=i
    ·subst q
     rw [h3] at hj;cases hj
     exact getD_set_true (h4 e he hb)
    ·rw [getD_set_ne false (fun e=>q e.symm)] at hl
     exact getD_set_true (hC j p hj hl e he hb)
   unfold wpOpIn
   rw [h3]
   simp only
   rw [if_pos (by simp [Region.wanted,(hg i o h3).1])]
   exact Oper.wpIn_mono (fun a' w' hI' =>ih _ a' w' hI' hC' aF) (hs listed a w i o hI hC h3 h2 h4)
 refine main _ _ _ _ h0 (fun i o _ hl=>?_) (by
  unfold PO
  exact Nat.le_trans (List.length_filter_le _ _) aQ)
 have:(Array.replicate ops.size false).getD i false=false:=by simp [Array.getD]
 rw [this] at hl;cases hl
def aP (x:Nd):List Value:=[.int .i64 x.op,.int .i64 x.d,.int .i64 x.a,.int .i64 x.b,.int .i64 x.t,.int .i64 x.e]
theorem dM (x:Nd):(aP x).length=6:=rfl
theorem yN (ns:List Nd):∀ u∈ns.flatMap aP,u.oneCell' =true:=by
 intro u hu
 obtain ⟨x,_,hx⟩:=List.mem_flatMap.1 hu
 simp only [aP,List.mem_cons,List.not_mem_nil,or_false] at hx
 rcases hx with rfl | rfl | rfl | rfl | rfl | rfl <;> rfl
theorem flatK {α β:Type} (k:Nat) (f:α→List β) (hf:∀ x,(f x).length=k):∀ (l:List α) (j i:Nat) (x:α),l[j]?=some x→i<k→(l.flatMap f)[j*k+i]?=(f x)[i]?
 | [],j,i,x,h,_=>by simp at h
 | u::l,0,i,x,h,hi=>by
  simp at h;subst h
  rw [List.flatMap_cons,List.getElem?_append_left (by rw [hf];omega)];simp
 | u::l,j+1,i,x,h,hi=>by
  simp at h
  rw [List.flatMap_cons,List.getElem?_append_right (by rw [hf,Nat.succ_mul];omega),hf,show (j+1)*k+i-k=j*k+i by rw [Nat.succ_mul];omega]
  exact flatK k f hf l j i x h hi
theorem sM {α β:Type} (k:Nat) (f:α→List β) (hf:∀ x,(f x).length=k):∀ l:List α,(l.flatMap f).length=l.length*k
 | []=>by simp
 | u::l=>by rw [List.flatMap_cons,List.length_append,hf,sM k f hf l,List.length_cons,Nat.succ_mul];omega
theorem EA {w:World} {b off:Nat} {ns:List Nd} (hN:aH w b off ns):∀ (j:Nat) (u:Value),(ns.flatMap aP)[j]?=some u→w.cell? ((⟨b,off,none⟩:Addr).add j)=some u:=by
 intro j u hu
 have hlt:j<ns.length*6:=by
  have:=(List.getElem?_eq_some_iff.1 hu).1
  rwa [sM 6 aP dM] at this
 have hq:j / 6<ns.length:=by omega
 obtain ⟨x,hx⟩:=bD hq
 have h1:=flatK 6 aP dM ns (j / 6) (j % 6) x hx (Nat.mod_lt _ aL)
 rw [show j / 6*6+j % 6=j by omega,hu] at h1
 have e:(⟨b,off,none⟩:Addr).add j=⟨b,off+j / 6*6+j % 6,none⟩:=by
  have:(⟨b,off,none⟩:Addr).add j=⟨b,off+j,none⟩:=by cases j <;> simp [Addr.add]
  rw [this];congr 1;omega
 rw [e]
 have hm:j % 6<6:=Nat.mod_lt _ aL
 generalize j % 6=m at h1 hm ⊢
 match m,hm with
 | 0,_=>simp [aP] at h1;subst h1;exact hN.c0 _ x hx
 | 1,_=>simp [aP] at h1;subst h1;exact hN.c1 _ x hx
 | 2,_=>simp [aP] at h1;subst h1;exact hN.c2 _ x hx
 | 3,_=>simp [aP] at h1;subst h1;exact hN.c3 _ x hx
 | 4,_=>simp [aP] at h1;subst h1;exact hN.c4 _ x hx
 | 5,_=>simp [aP] at h1;subst h1;exact hN.c5 _ x hx
theorem EB {w:World} {b off:Nat} {ns:List Nd} (hlt:b<w.heap.size) (h:∀ (j:Nat) (u:Value),(ns.flatMap aP)[j]?=some u→w.cell? ⟨b,off+j,none⟩=some u):aH w b off ns:=by
 have key:∀ (i:Nat) (x:Nd) (m:Nat) (u:Value),ns[i]?=some x→m<6→(aP x)[m]?=some u→w.cell? ⟨b,off+i*6+m,none⟩=some u:=by
  intro i x m u hx hm hu
  have:=h (i*6+m) u (by rw [flatK 6 aP dM ns i m x hx hm];exact hu)
  rwa [← Nat.add_assoc] at this
 exact ⟨hlt,fun i x hx=>key i x 0 _ hx aL rfl,fun i x hx=>key i x 1 _ hx aL rfl,fun i x hx=>key i x 2 _ hx aL rfl,fun i x hx=>key i x 3 _ hx aL rfl,fun i x hx=>key i x 4 _ hx aL rfl,fun i x hx=>key i x 5 _ hx aL rfl⟩
theorem lI {w:World} {base:Nat} {e:TypeId} {v:Value} {ns:List Nd} (h:w.ownsRow base e 6 v ns.length (ns.flatMap aP)):∃ a cap,v=.slice a ns.length cap∧pI w a ns:=by
 have hc:∀ g,v.ownBlock=some g→∀ j u,(ns.flatMap aP)[j]?=some u→w.cell? ((⟨g,0,none⟩:Addr).add j)=some u:=fun g hg=>h.cells hg
 obtain ⟨_,h⟩:=h
 rcases h with ⟨rfl,h0⟩ | ⟨g,cap,cur,rfl,h1,h2,_⟩
 ·have:ns=[]:=List.eq_nil_of_length_eq_zero h0
  subst this
  exact ⟨none,0,rfl,Or.inl rfl⟩
 ·refine ⟨_,cap,rfl,Or.inr ⟨g,0,rfl,EB (Array.getElem?_eq_some_iff.1 h2).1 fun j u hj=>?_⟩⟩
  have:=hc g rfl j u hj
  have e:(⟨g,0,none⟩:Addr).add j=⟨g,0+j,none⟩:=by cases j <;> simp [Addr.add]
  rw [e] at this;exact this
theorem aI {w:World} {base b o:Nat} {e t:TypeId} {size:Nat} {v u:Value} {n:Nat} {xs:List Value} {vs:Array Value} (h:w.ownsRow base e size v n xs) (hb:w.heap[b]?=some (.cells vs t (0,0))) (hte:t≠e):(w.setCell ⟨b,o,none⟩ u).ownsRow base e size v n xs:=by
 have hne:=dF h hb hte
 obtain ⟨hl,h3⟩:=h
 refine ⟨hl,?_⟩
 rcases h3 with h3 | ⟨g', cap', cur', rfl,a1,a2,a3⟩
 ·exact Or.inl h3
 ·refine Or.inr ⟨g', cap', cur', rfl,a1,?_,a3⟩
  rw [Below.heap_setCell _ _ _ g' (fun e=>hne (by simp only [Value.ownBlock];exact congrArg some e.symm))]
  exact a2
theorem fD {w:World} {b c:Nat} {t t' :TypeId} {vs vs' :Array Value} {fr fr' :Nat × Nat} (h:w.heap[b]?=some (.cells vs t fr)) (h' :w.heap[c]?=some (.cells vs' t' fr')) (hne:t≠t'):b≠c:=by
 intro e;subst e
 rw [h] at h'; cases h'; exact hne rfl
theorem KM (n:Nat):madeCells #[Value.int .i64 0] n=((List.replicate n (0:Int)).map (Value.int .i64)).toArray:=by
 apply Array.ext'
 rw [toList_madeCells_one]
 simp
theorem aU {w:World} {base:Nat} {e:TypeId} {size:Nat} {v:Value} {n:Nat} {xs:List Value} (h:w.ownsRow base e size v n xs):∃ a c,v=.slice a n c:=by
 rcases h.2 with ⟨rfl,rfl⟩ | ⟨g,cap,_,rfl,_⟩
 ·exact ⟨none,0,rfl⟩
 ·exact ⟨_,cap,rfl⟩
theorem jK {α β:Type} (k:Nat) (f:α→List β) (hf:∀ x,(f x).length=k):∀ (l:List α) (j i:Nat) (x y:α) (u:β),l[j]?=some x→i<k→(f x).set i u=f y→(l.flatMap f).set (j*k+i) u=(l.set j y).flatMap f
 | [],j,i,x,y,u,h,_,_=>by simp at h
 | a::l,0,i,x,y,u,h,hi,he=>by
  simp at h;subst h
  rw [List.flatMap_cons,List.set_cons_zero,List.flatMap_cons,Nat.zero_mul,Nat.zero_add,List.set_append_left _ _ (by rw [hf];exact hi),he]
 | a::l,j+1,i,x,y,u,h,hi,he=>by
  simp at h
  rw [List.flatMap_cons,List.set_cons_succ,List.flatMap_cons,List.set_append_right _ _ (by rw [hf,Nat.succ_mul];omega),hf,show (j+1)*k+i-k=j*k+i by rw [Nat.succ_mul];omega,jK k f hf l j i x y u h hi he]
theorem iB {w:World} {base g cap:Nat} {e:TypeId} {size n i:Nat} {u:Value} {xs:List Value} (h:w.ownsRow base e size (.slice (some ⟨g,0,none⟩) n cap) n xs) (hi:i<n*size):(w.setCell ⟨g,i,none⟩ u).ownsRow base e size (.slice (some ⟨g,0,none⟩) n cap) n (xs.set i u):=by
 obtain ⟨hl,h⟩:=h
 refine ⟨by simpa using hl,?_⟩
 rcases h with ⟨h,_⟩ | ⟨g', cap', cur,q,a1,a2,a3,a4,a5,a6⟩
 ·cases h
 ·cases q
  refine Or.inr ⟨g,cap,_,rfl,a1,aG _ a2,a3,a4,by simpa using a5,?_⟩
  rw [Array.toList_setIfInBounds,List.take_set,a6]
theorem jC:(Tryz.prog.info? 42).map (fun i=>(i.zero,i.size,i.bytes))=some (some (.agg #[.int .i64 0,.int .i64 0,.int .i64 0,.int .i64 0,.int .i64 0,.int .i64 0]),6,48):=by kernel_rfl
end Go.Proofs.YtegloodcbfalfaaGreatDoor
namespace Go.Proofs.YtegloodcbfalfaaGreatDoor
open Go.RowKit
def aJ (w:World) (a:Option Addr) (zs:List Bool):Prop :=
 zs=[]∨∃ b off,a=some ⟨b,off,none⟩∧b<w.heap.size∧∀ (j:Nat) (z:Bool),zs[j]?=some z→w.cell? ⟨b,off+j,none⟩=some (.bool z)
theorem aJ.below {w w' :World} {a:Option Addr} {zs:List Bool} (h:aJ w a zs) (hb:Below w.heap.size w w'):aJ w' a zs:=by
 rcases h with h | ⟨b,off,rfl,hlt,h⟩
 ·exact Or.inl h
 ·exact Or.inr ⟨b,off,rfl,Nat.lt_of_lt_of_le hlt hb.size,fun j z hz=>by rw [hb.cell (p:=⟨b,_,none⟩) hlt];exact h j z hz⟩
theorem aJ.at {w:World} {a:Option Addr} {zs:List Bool} (h:aJ w a zs) {k:Nat} (hk:k<zs.length):∃ b off,a=some ⟨b,off,none⟩∧b<w.heap.size∧∀ (j:Nat) (z:Bool),zs[j]?=some z→w.cell? ⟨b,off+j,none⟩=some (.bool z):=by
 rcases h with rfl | h
 ·simp at hk
 ·exact h
theorem pF {w:World} {base:Nat} {e:TypeId} {v:Value} {zs:List Bool} (h:w.ownsRow base e 1 v zs.length (zs.map Value.bool)):∃ a cap,v=.slice a zs.length cap∧aJ w a zs:=by
 have hc:∀ g,v.ownBlock=some g→∀ j u,(zs.map Value.bool)[j]?=some u→w.cell? ((⟨g,0,none⟩:Addr).add j)=some u:=fun g hg=>h.cells hg
 obtain ⟨_,h⟩:=h
 rcases h with ⟨rfl,h0⟩ | ⟨g,cap,cur,rfl,h1,h2,h3,h4,h5,h6⟩
 ·have:zs=[]:=by cases zs;rfl;simp at h0
  subst this
  exact ⟨none,0,rfl,Or.inl rfl⟩
 ·refine ⟨_,cap,rfl,Or.inr ⟨g,0,rfl,(Array.getElem?_eq_some_iff.1 h2).1,?_⟩⟩
  intro j z hz
  have:=hc g rfl j (.bool z) (by simp [hz])
  have e:(⟨g,0,none⟩:Addr).add j=⟨g,0+j,none⟩:=by cases j <;> simp [Addr.add]
  rw [e] at this;exact this
theorem EC (r:Int) (a b:Option Addr) (ca cb:Nat) (ns:List Nd) (w:World) (hx:pI w a ns) (hy:pI w b ns) (hl:ns.length≤140737488351232) :
 Calls Tryz.prog 9 #[.agg #[.int .i64 r,.slice a ns.length ca],.agg #[.int .i64 r,.slice b ns.length cb]] w fun e w' =>e=.returned (.bool true)∧Below w.heap.size w w' :=by
 go_enter Tryz.func9,Tryz.ntmps9
 go_wp2
 have hB0:Below w.heap.size w ((w.alloc (.cells #[.int .i64 r,.slice a ns.length ca] 24)).alloc (.cells #[.int .i64 r,.slice b ns.length cb] 24)):=(dY).alloc aQ _
 have p1:((w.alloc (.cells #[.int .i64 r,.slice a ns.length ca] 24)).alloc (.cells #[.int .i64 r,.slice b ns.length cb] 24)).cell? ⟨w.heap.size,1,none⟩=some (.slice a ns.length ca):=by simp
 have p2:((w.alloc (.cells #[.int .i64 r,.slice a ns.length ca] 24)).alloc (.cells #[.int .i64 r,.slice b ns.length cb] 24)).cell? ⟨w.heap.size+1,1,none⟩=some (.slice b ns.length cb):=by rw [World.cell?_alloc_at _ _ _ _ aQ];rfl
 have hs2:w.heap.size+1<((w.alloc (.cells #[.int .i64 r,.slice a ns.length ca] 24)).alloc (.cells #[.int .i64 r,.slice b ns.length cb] 24)).heap.size:=by simp
 generalize ((w.alloc (.cells #[.int .i64 r,.slice a ns.length ca] 24)).alloc (.cells #[.int .i64 r,.slice b ns.length cb] 24))=W at hB0 p1 p2 hs2 ⊢
 replace hx:=hx.below hB0
 replace hy:=hy.below hB0
 have hs1:w.heap.size<W.heap.size:=by omega
 go_loopw [5] (fun i wr=>∃ k:Nat,k≤ns.length∧i=.int .i64 k∧∃ n,wr=W.drewN n) (fun i _=>ns.length-(intOf i).toNat)
 case atStart=>exact ⟨0,Nat.zero_le _,rfl,0,rfl⟩
 case round =>
  obtain ⟨k,hk,rfl,n,rfl⟩:=hrel
  by_cases hlt:k<ns.length
  ·obtain ⟨x,gx⟩:=bD hlt
   obtain ⟨ba,oa,rfl,fa⟩:=hx.some aF
   obtain ⟨bb,ob,rfl,fb⟩:=hy.some aF
   have ha:=fa.lt
   have hb:=fb.lt
   have x0:=fa.c0 k x gx
   have x1:=fa.c1 k x gx
   have x2:=fa.c2 k x gx
   have x3:=fa.c3 k x gx
   have x4:=fa.c4 k x gx
   have x5:=fa.c5 k x gx
   have y0:=fb.c0 k x gx
   have y1:=fb.c1 k x gx
   have y2:=fb.c2 k x gx
   have y3:=fb.c3 k x gx
   have y4:=fb.c4 k x gx
   have y5:=fb.c5 k x gx
   clear gx fa fb hx hy
   go_wp2
   go_quiet (fail)
   go_wp2
   go_roundw
   case rel=>exact ⟨k+1,aF,by go_num,n+nq,by first | rfl | (simp only [World.drewN_drewN])⟩
   case measure=>simp [intOf];omega
  ·go_wp2
   go_ret
   exact ⟨rfl,below_drewN hB0 n⟩
end Go.Proofs.YtegloodcbfalfaaGreatDoor
namespace Go.Proofs.YtegloodcbfalfaaGreatDoor
open Go.RowKit Go.Maps Go.ChangeMaps
theorem vO {r:Int} {ns:List Nd} (hc:bM r ns=0) (ha:∀ x∈ns,-9223372036854775808≤x.a∧x.a≤9223372036854775807):lT (eX r ns)=some (r,ns):=by
 unfold lT
 rw [aKP hc ha]
 simp [hc]
theorem KO {l:List UInt8} {r:Int} {ns:List Nd} (h:lT l=some (r,ns)):bM r ns=0∧eX r ns=l∧∀ x∈ns,-9223372036854775808≤x.a∧x.a≤9223372036854775807:=by
 unfold lT at h
 split at h
 ·cases h
 ·rename_i r' ns' e
  split at h
  ·rename_i hq
   simp at h
   obtain ⟨rfl,rfl⟩:=h
   exact ⟨hq.1,hq.2,aDQ e⟩
  ·cases h
end Go.Proofs.YtegloodcbfalfaaGreatDoor
namespace Go.Proofs.YtegloodcbfalfaaGreatDoor
open Go.RowKit
theorem pR {P:Program} {x:String × DataW Unit} {r:List (String × DataW Unit)} {w:World} (h:laidMet P (x::r) w):laidMet P r w:=by
 obtain ⟨ps,⟨g,t,cs,fuel,p,q,h1,h2,h3,h4,h5,rfl⟩,hn,hr⟩:=h
 exact ⟨q,h5,(List.nodup_append.1 hn).2.1,fun b off hm=>hr b off (List.mem_append_right _ hm)⟩
theorem aDU : "*" ++ "errors.errorString" = "*errors.errorString" := by decide
theorem aLU (u:TypeId) (h:Tryz.prog.typeName? 3 u=some "*errors.errorString"):u=242 :=
 typeName_ptr_named (nm := "errors.errorString") (by rw [aDU];kernel_rfl) fJ aL u (by rw [aDU];exact h)
theorem aWI {W:World} (h:laidMetH Tryz.prog Rows.wholePassesRow.laid W) (hs:W.ShapedOpen Tryz.prog):Env W:=by
 have h0:laidMet Tryz.prog Rows.wholePassesRow.laid W:=h
 have h1:=pR (pR h0)
 have h2:=pR (pR h1)
 have h3:=pR h2
 have ht:Lib.TabIs Tryz.prog W "internal/strconv.uint64pow10" .u64 Lib.pow10Tab:=Lib.tabIs_of_head (rest:=_) (g:=2) (t:=225) (e:=117) fJ fJ Tryz.underlying225 Tryz.underlying117 fJ fJ h1
 obtain ⟨a1,s1,hv1,-,-,-⟩:=laid_sentinel (g:=1) (ti:=82) (tp:=242) (te:=244) (ts:=9) h2 fJ fJ Tryz.underlying82 aLU Tryz.underlying242 Tryz.underlying244 rfl rfl Tryz.underlying9 fJ fJ
 obtain ⟨a2,s2,hv2,-,-,-⟩:=laid_sentinel (g:=0) (ti:=82) (tp:=242) (te:=244) (ts:=9) h3 fJ fJ Tryz.underlying82 aLU Tryz.underlying242 Tryz.underlying244 rfl rfl Tryz.underlying9 fJ fJ
 exact ⟨ht,⟨_,_,hv2⟩,⟨_,_,hv1⟩,hs⟩
end Go.Proofs.YtegloodcbfalfaaGreatDoor
namespace Go.Proofs.YtegloodcbfalfaaGreatDoor
theorem kY (t:Tm):OG t t=false:=by simp [OG]
theorem pU {a b c:Tm} (h1:OG a b=true) (h2:OG b c=true):OG a c=true:=by
 obtain ⟨a1,a2,a3⟩:=a
 obtain ⟨b1,b2,b3⟩:=b
 obtain ⟨c1,c2,c3⟩:=c
 simp only [OG] at *
 repeat' split at h1
 all_goals repeat' split at h2
 all_goals repeat' split
 all_goals simp only [decide_eq_true_eq] at *
 all_goals omega
theorem uF {a b:Tm} (h:OG a b=false) (hne:a≠b):OG b a=true:=by
 obtain ⟨a1,a2,a3⟩:=a
 obtain ⟨b1,b2,b3⟩:=b
 simp only [OG] at *
 have hne' :¬ (a1=b1∧a2=b2∧a3=b3):=fun ⟨e1,e2,e3⟩=>hne (by rw [e1,e2,e3])
 repeat' split at h
 all_goals repeat' split
 all_goals simp only [decide_eq_true_eq,decide_eq_false_iff_not] at *
 all_goals omega
def KQ (l:List Ct):Prop:=l.Pairwise (fun a b=>OG b.t a.t=true)
def jZ (l:List Ct) (t:Tm):Option Int:=(l.find? (fun c=>decide (c.t=t))).map (·.n)
theorem fH (c:Ct) (l:List Ct) (t:Tm):jZ (c::l) t=if c.t=t then some c.n else jZ l t:=by
 unfold jZ
 rw [List.find?_cons]
 by_cases h:c.t=t <;> simp [h]
theorem aGF {l:List Ct} {t:Tm} (h:∀ c∈l,OG c.t t=true):jZ l t=none:=by
 induction l with
 | nil=>rfl
 | cons c l ih =>
  rw [fH,if_neg,ih (fun c hc=>h c (List.mem_cons_of_mem _ hc))]
  intro e
  have:=h c (List.mem_cons_self ..)
  rw [e,kY] at this
  cases this
theorem KR {l:List Ct} {t:Tm} {c:Ct} (h:c∈nI l t):c∈l∨c.t=t:=by
 induction l with
 | nil=>simp [nI] at h;right;rw [h]
 | cons d l ih =>
  unfold nI at h
  split at h
  ·rcases List.mem_cons.1 h with h | h
   ·left;rw [h];exact List.mem_cons_self ..
   ·rcases ih h with h | h
    ·left;exact List.mem_cons_of_mem _ h
    ·right;exact h
  ·split at h
   ·rcases List.mem_cons.1 h with h | h
    ·right;rw [h]
    ·left;exact List.mem_cons_of_mem _ h
   ·rcases List.mem_cons.1 h with h | h
    ·right;rw [h]
    ·left;exact h
theorem aGG {l:List Ct} (h:KQ l) (t:Tm):KQ (nI l t):=by
 induction l with
 | nil=>exact List.pairwise_singleton _ _
 | cons c l ih =>
  unfold KQ at h
  rw [List.pairwise_cons] at h
  unfold nI
  split
  ·rename_i h1
   refine List.pairwise_cons.2 ⟨fun d hd=>?_,ih h.2⟩
   rcases KR hd with hd | hd
   ·exact h.1 d hd
   ·rw [hd];exact h1
  ·rename_i h1
   split
   ·rename_i h2
    refine List.pairwise_cons.2 ⟨fun d hd=>?_,h.2⟩
    have:=h.1 d hd
    rw [h2] at this;exact this
   ·rename_i h2
    have h1' :OG t c.t=false:=by simpa using h1
    have h3:OG c.t t=true:=uF h1' (fun e=>h2 e.symm)
    refine List.pairwise_cons.2 ⟨fun d hd=>?_,List.pairwise_cons.2 h⟩
    rcases List.mem_cons.1 hd with hd | hd
    ·rw [hd];exact h3
    ·exact pU (h.1 d hd) h3
theorem aLV {l:List Ct} (h:KQ l) (t u:Tm):jZ (nI l t) u=if u=t then some ((jZ l t).getD 0+1) else jZ l u:=by
 induction l with
 | nil =>
  unfold nI
  rw [fH]
  by_cases e:u=t
  ·subst e;simp [jZ]
  ·rw [if_neg (fun e' =>e e'.symm),if_neg e]
 | cons c l ih =>
  unfold KQ at h
  rw [List.pairwise_cons] at h
  unfold nI
  split
  ·rename_i h1
   have hct:c.t≠t:=fun e=>by rw [e,kY] at h1;cases h1
   rw [fH,fH,fH,ih h.2,if_neg hct]
   by_cases e:u=t
   ·subst e;rw [if_neg hct,if_pos rfl,if_pos rfl]
   ·rw [if_neg e,if_neg e]
  ·rename_i h1
   split
   ·rename_i h2
    rw [fH,fH,fH,if_pos h2]
    by_cases e:u=t
    ·subst e;simp
    ·rw [if_neg (fun e' =>e e'.symm),if_neg e,h2,if_neg (fun e' =>e e'.symm)]
   ·rename_i h2
    have h1' :OG t c.t=false:=by simpa using h1
    have h3:OG c.t t=true:=uF h1' (fun e=>h2 e.symm)
    have hn:jZ (c::l) t=none:=aGF (fun d hd=>by
     rcases List.mem_cons.1 hd with hd | hd
     ·rw [hd];exact h3
     ·exact pU (h.1 d hd) h3)
    rw [fH]
    by_cases e:u=t
    ·subst e;rw [if_pos rfl,if_pos rfl,hn];rfl
    ·rw [if_neg (fun e' =>e e'.symm),if_neg e]
theorem VF {l:List Ct} {t:Tm} {n:Int} (h:jZ l t=some n):⟨t,n⟩∈l:=by
 unfold jZ at h
 rw [Option.map_eq_some_iff] at h
 obtain ⟨c,hc,rfl⟩:=h
 have h1:=List.find?_some hc
 have h2:=List.mem_of_find?_eq_some hc
 simp at h1
 subst h1
 exact h2
theorem aLW {l:List Ct} {t:Tm} {k:Int} (hk:0≤k) (h:∀ c∈l,0≤c.n∧c.n≤k):∀ c∈nI l t,0≤c.n∧c.n≤k+1:=by
 induction l with
 | nil=>intro c hc;simp [nI] at hc;subst hc;simp;omega
 | cons d l ih =>
  intro c hc
  have hd:=h d (List.mem_cons_self ..)
  have hl:∀ c∈l,0≤c.n∧c.n≤k:=fun c hc=>h c (List.mem_cons_of_mem _ hc)
  unfold nI at hc
  split at hc
  ·rcases List.mem_cons.1 hc with hc | hc
   ·subst hc;omega
   ·exact ih hl c hc
  ·split at hc
   ·rcases List.mem_cons.1 hc with hc | hc
    ·subst hc;simp;omega
    ·have:=hl c hc;omega
   ·rcases List.mem_cons.1 hc with hc | hc
    ·subst hc;simp;omega
    ·have:=h c hc;omega
end Go.Proofs.YtegloodcbfalfaaGreatDoor
