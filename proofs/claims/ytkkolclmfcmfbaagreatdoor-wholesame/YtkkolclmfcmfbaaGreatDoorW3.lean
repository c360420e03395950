/-
  Of the proof of WholeSame: TJ, TL, TN, TP, LA, LB, RC, RD, LC.
-/
import Derived.Test.YtkkolclmfcmfbaaGreatDoorW1
import Derived.Test.YtkkolclmfcmfbaaGreatDoorW2
import Derived.RangeFuncNested
import Derived.RangeFuncBound
import Derived.RangeFuncCalls
import Derived.RangeFuncLeaves
import Derived.Shelf.Abstract
import Derived.Shelf.RegionOpen
import Derived.OwnWalkIn
import Derived.TacticsInMore
import Derived.LoopNIn
import Derived.LoopIn
import Derived.RangeFuncBox
import Derived.Maps.AppendAt
import Derived.Maps.Own
import Derived.Maps.Views
import Derived.WideKeyEntry
import Derived.DeepKeys4
import Derived.Deep.RegionHeld3
import Derived.StillTailTactics
import Derived.Deep.AppendLies
set_option linter.unusedVariables false
set_option linter.unusedSimpArgs false
set_option maxHeartbeats 40000000
namespace Go.Proofs.YtkkolclmfcmfbaaGreatDoor
open Go.RowKit Go.Maps Go.ChangeMaps
theorem lead_flag (i:Nat):((i==3||i==4)=false∧(if (i:Int)=3 then ba toW else if (i:Int)=4 then ba elW else ⟨#[]⟩)=⟨#[]⟩)∨((i==3||i==4)=true∧∃ y,(ba y).toList.isEmpty=false∧(if (i:Int)=3 then ba toW else if (i:Int)=4 then ba elW else ⟨#[]⟩)=ba y):=by
 by_cases h3:i=3
 ·subst h3;exact Or.inr ⟨rfl,toW,by kernel_rfl,rfl⟩
 ·by_cases h4:i=4
  ·subst h4;exact Or.inr ⟨rfl,elW,by kernel_rfl,rfl⟩
  ·rw [if_neg (show ¬ (i:Int)=3 by omega),if_neg (show ¬ (i:Int)=4 by omega)];exact Or.inl ⟨by simp [h3,h4],rfl⟩
theorem rdK_none {ws:List (List UInt8)} {op:Int} {i:Nat} (h:rdK ws op i=none):∀ j,rdK ws op (i+j)=none
 | 0=>h
 | j+1=>by
  show rdK ws op ((i+j)+1)=none
  unfold rdK
  rw [rdK_none h j]
theorem rdK_step {ws:List (List UInt8)} {op:Int} {i k:Nat} {vs:List Int} (h:rdK ws op i=some (k,vs)):rdK ws op (i+1)=match rdOne ws k (kOf op i != 0) (i==3||i==4) with
 | none=>none
 | some (k', v)=>some (k', vs++[v]):=by
 conv=>lhs;unfold rdK
 rw [h]
 rfl
theorem rd_some {ws:List (List UInt8)} {k:Nat} {lead:Bool} {y:List UInt8} {v:Int} (h:ws[if lead then k+1 else k]?=some y) (hv:Lib.atoiAll y=.ok v):rdOne ws k true lead=some ((if lead then k+1 else k)+1,v):=by
 simp [rdOne,h,hv]
theorem rd_bad {ws:List (List UInt8)} {k:Nat} {lead:Bool} {y:List UInt8} (h:ws[if lead then k+1 else k]?=some y) (hv:∀ v,Lib.atoiAll y≠ .ok v):rdOne ws k true lead=none:=by
 cases e:Lib.atoiAll y with
 | ok v=>exact absurd e (hv v)
 | «syntax»=>simp [rdOne,h,e]
 | range=>simp [rdOne,h,e]
theorem rd_over {ws:List (List UInt8)} {k:Nat} {lead:Bool} (h:ws[if lead then k+1 else k]?=none):rdOne ws k true lead=none:=by
 simp [rdOne,h]
def vals5 (vs:List Int):Array Value:=((vs++List.replicate (5-vs.length) 0).map (Value.int .i64)).toArray
theorem vals_size {vs:List Int} (h:vs.length≤5):(vals5 vs).size=5:=by simp [vals5];omega
theorem vals_zero {vs:List Int} (h:vs.length<5):vals5 (vs++[0])=vals5 vs:=by
 unfold vals5
 rw [List.length_append,List.length_singleton,List.append_assoc]
 congr 3
 rw [show 5-vs.length=(5-(vs.length+1))+1 by omega,List.replicate_succ]
 rfl
theorem vals_set {vs:List Int} {v:Int} (h:vs.length<5):(vals5 vs).setIfInBounds vs.length (.int .i64 v)=vals5 (vs++[v]):=by
 unfold vals5
 rw [List.setIfInBounds_toArray,List.length_append,List.length_singleton]
 rw [show 5-vs.length=(5-(vs.length+1))+1 by omega,List.replicate_succ]
 simp
theorem vals_five {vs:List Int} (h:vs.length=5):vals5 vs=#[.int .i64 (vs.getD 0 0),.int .i64 (vs.getD 1 0),.int .i64 (vs.getD 2 0),.int .i64 (vs.getD 3 0),.int .i64 (vs.getD 4 0)]:=by
 match vs,h with
 | [a,b,c,d,e],_=>rfl
theorem idxk_0 (a0 a1 a2 a3 a4:Value) (w:World):(Instr.index 91 (.agg #[a0,a1,a2,a3,a4]) (.int .i64 0)).run Tryz.prog w=.ok a0 w:=by kernel_rfl
theorem idxk_1 (a0 a1 a2 a3 a4:Value) (w:World):(Instr.index 91 (.agg #[a0,a1,a2,a3,a4]) (.int .i64 1)).run Tryz.prog w=.ok a1 w:=by kernel_rfl
theorem idxk_2 (a0 a1 a2 a3 a4:Value) (w:World):(Instr.index 91 (.agg #[a0,a1,a2,a3,a4]) (.int .i64 2)).run Tryz.prog w=.ok a2 w:=by kernel_rfl
theorem idxk_3 (a0 a1 a2 a3 a4:Value) (w:World):(Instr.index 91 (.agg #[a0,a1,a2,a3,a4]) (.int .i64 3)).run Tryz.prog w=.ok a3 w:=by kernel_rfl
theorem idxk_4 (a0 a1 a2 a3 a4:Value) (w:World):(Instr.index 91 (.agg #[a0,a1,a2,a3,a4]) (.int .i64 4)).run Tryz.prog w=.ok a4 w:=by kernel_rfl
theorem idxk (op:Int) {i:Nat} (h:i<5) (w:World):(Instr.index 91 (.agg #[.int .i64 (k0 op),.int .i64 (k1 op),.int .i64 (k2 op),.int .i64 (k3 op),.int .i64 (k4 op)]) (.int .i64 (i:Nat))).run Tryz.prog w=.ok (.int .i64 (kOf op i)) w:=by
 match i,h with
 | 0,_=>exact idxk_0 _ _ _ _ _ w
 | 1,_=>exact idxk_1 _ _ _ _ _ w
 | 2,_=>exact idxk_2 _ _ _ _ _ w
 | 3,_=>exact idxk_3 _ _ _ _ _ w
 | 4,_=>exact idxk_4 _ _ _ _ _ w
theorem results_two {P:Program} {fn:Func} {p q:Tmp} {ty:TypeId} (h:fn.results=#[.cell p ty,.tmp q]) (tmps:Array Value) (w:World) (g:Nat) (t:TypeId) (cs:Array Value) (fr:Nat × Nat) (d:TypeDesc) (v:Value)
 (hp:tmps.getD p undef=.pointer (some ⟨g,0,none⟩)) (hg:w.heap[g]?=some (.cells cs t fr))
 (hu:P.underlying ty=some d) (hd:(match d with | .struct _ | .array _ _=>true | _=>false)=true) (hi:(P.info? ty).map (·.size)=some cs.size) (hv:tmps.getD q undef=v) :
 (results fn tmps).run P w=.ok (.tuple #[.agg cs,v]) w:=by
 have hp' :tmps[p]?.getD undef=.pointer (some ⟨g,0,none⟩):=by simpa using hp
 have hv' :tmps[q]?.getD undef=v:=by simpa using hv
 simp [results,h,hp', hv', asAddr,run_loadVar_row w g t ty cs fr d hg hu hd hi]
def z6:Array Value:=#[.int .i64 0,.int .i64 0,.int .i64 0,.int .i64 0,.int .i64 0,.int .i64 0]
theorem z6_size:(Tryz.prog.info? 48).map (·.size)=some z6.size:=by kernel_rfl
theorem six_one (a b c d e f:Int):(#[.int .i64 a,.int .i64 b,.int .i64 c,.int .i64 d,.int .i64 e,.int .i64 f]:Array Value).all (·.oneCell')=true:=by
 simp [Value.oneCell']
theorem z6_one:z6.all (·.oneCell')=true:=by kernel_rfl
set_option maxRecDepth 100000 in
theorem readNode_bad (l x:List UInt8) (r:List (List UInt8)) (mb:Nat) (w:World) (hE:Env w) (hl:l.length≤16448) (hx:x.length≤16448) (hM:w.ownsMap Tryz.prog 9 (plainElem Tryz.prog 3) mb 13 opD) (hw:cutC 32 l=x::r) (ho:opOf x=none) :
 Calls Tryz.prog 69 #[.string (ba l),.map (some mb)] w fun e w' =>e=.returned (.tuple #[nodeV none,.bool false])∧Below w.heap.size w w' :=by
 have KK:=Keyed.of_law slaw
 have hsp:=split_any 32 l (w.alloc (.cells #[.int .i64 0,.int .i64 0,.int .i64 0,.int .i64 0,.int .i64 0,.int .i64 0] 48)) (hE.below ((Below.refl _ _).alloc (Nat.le_refl _) _)) hl
 rw [hw] at hsp
 go_enter Tryz.func69,Tryz.ntmps69
 go_wp2_with fail
 refine hsp.mono ?_
 rintro e w1 ⟨rfl,hw1⟩
 have hM1:w1.ownsMap Tryz.prog 9 (plainElem Tryz.prog 3) mb 13 opD:=by rw [hw1];exact (hM.alloc _).alloc _
 have hp0:w1.heap[w.heap.size]?=some (.cells #[.int .i64 0,.int .i64 0,.int .i64 0,.int .i64 0,.int .i64 0,.int .i64 0] 48 (0,0)):=by rw [hw1];exact blk_alloc _ (blkn rfl)
 have hp1:w1.heap[w.heap.size+1]?=some (.cells (strs (x::r)).toArray 9 (0,0)):=by rw [hw1];exact blkn (by simp)
 have hB1:Below w.heap.size w w1:=by rw [hw1];exact ((Below.refl _ _).alloc (Nat.le_refl _) _).alloc (by simp) _
 have hs1:w1.heap.size=w.heap.size+2:=by rw [hw1];simp
 clear hw1 hsp
 have cx:=blk_cell hp1 0
 have hpos:(0:Int)<((x::r).length:Int):=by rw [List.length_cons];omega
 simp [strs] at cx
 generalize (x::r).length=n at hpos ⊢
 go_wp2_with (first
  | (refine wpList_lookup_own_ok_int _ rfl _ _ 119 rfl 9 3 .i64 KK Tryz.underlying119 Tryz.underlying3 (zero_intT _) mb 13 opD rfl hM1 _ _ rfl (key_ba hx) ?_;intro c hat hwc;rw [opD_has,ho])
  | (refine wpList_plain rfl fun _ hK=>wp_store_row _ _ _ rfl _ z6 rfl rfl _ _ hp0 z6_size rfl z6_one (hK _ _ ?_)))
 exact bodyPost_ret (results_two Tryz.results69 _ _ _ _ _ _ _ (.bool false) rfl (setRow_heap _ _ _ z6 _ _ hp0) Tryz.underlying48 rfl z6_size rfl) rfl ⟨rfl,hB1.trans ⟨rfl,rfl,rfl,by simp,fun k hk=>setRow_other _ _ _ _ (by omega)⟩⟩
set_option maxRecDepth 100000 in
theorem readNode_ok (l x:List UInt8) (r:List (List UInt8)) (o:Nat) (mb:Nat) (w:World) (hE:Env w) (hl:l.length≤16448) (hx:∀ y∈x::r,y.length≤16448) (hM:w.ownsMap Tryz.prog 9 (plainElem Tryz.prog 3) mb 13 opD) (hw:cutC 32 l=x::r) (ho:opOf x=some o) (hlr:(x::r).length≤16449) :
 Calls Tryz.prog 69 #[.string (ba l),.map (some mb)] w fun e w' =>e=.returned (.tuple #[nodeV (rdN (x::r)),.bool (rdN (x::r)).isSome])∧Below w.heap.size w w' :=by
 have hres:=rdN_K (r:=r) ho
 have KK:=Keyed.of_law slaw
 have hsp:=split_any 32 l (w.alloc (.cells #[.int .i64 0,.int .i64 0,.int .i64 0,.int .i64 0,.int .i64 0,.int .i64 0] 48)) (hE.below ((Below.refl _ _).alloc (Nat.le_refl _) _)) hl
 rw [hw] at hsp
 go_enter Tryz.func69,Tryz.ntmps69
 go_wp2_with fail
 refine hsp.mono ?_
 rintro e w1 ⟨rfl,hw1⟩
 have hM1:w1.ownsMap Tryz.prog 9 (plainElem Tryz.prog 3) mb 13 opD:=by rw [hw1];exact (hM.alloc _).alloc _
 have hp0:w1.heap[w.heap.size]?=some (.cells #[.int .i64 0,.int .i64 0,.int .i64 0,.int .i64 0,.int .i64 0,.int .i64 0] 48 (0,0)):=by rw [hw1];exact blk_alloc _ (blkn rfl)
 have hp1:w1.heap[w.heap.size+1]?=some (.cells (strs (x::r)).toArray 9 (0,0)):=by rw [hw1];exact blkn (by simp)
 have hB1:Below w.heap.size w w1:=by rw [hw1];exact ((Below.refl _ _).alloc (Nat.le_refl _) _).alloc (by simp) _
 have hs1:w.heap.size+2≤w1.heap.size:=by rw [hw1];simp
 clear hw1 hsp
 have cx:=blk_cell hp1 0
 have hpos:(0:Int)<((x::r).length:Int):=by rw [List.length_cons];omega
 simp [strs] at cx
 clear hw
 generalize hn:(x::r).length=n at hpos ⊢
 have HN:=hide hn
 clear hn
 go_upto_region 5 with (refine wpList_lookup_own_ok_int _ rfl _ _ 119 rfl 9 3 .i64 KK Tryz.underlying119 Tryz.underlying3 (zero_intT _) mb 13 opD rfl hM1 _ _ rfl (key_ba (hx x (List.mem_cons_self ..))) ?_;intro c hat hwc;rw [opD_at,ho] at hat;obtain rfl:c=(o:Int):=((Lit.int.inj (DataW.lit.inj hat)).2).symm;rw [opD_has,ho])
 clear hat hwc cx hpos
 have HP0:=hide hp0
 have HP1:=hide hp1
 have HB1:=hide hB1
 clear hp0 hp1 hB1 hM1 hM KK
 go_wp2_with fail
 refine (of_any _ _).mono ?_
 rintro e w2 ⟨rfl,hb2⟩
 have hs2:=hb2.size
 simp only [World.size_alloc] at hs2 hb2
 have HV2:Hid (w2.heap[w1.heap.size]?=some (.cells (vals5 []) 94 (0,0))):=(hb2.block _ (by omega)).trans (blkn rfl)
 have HP02:Hid (w2.heap[w.heap.size]?=some (.cells z6 48 (0,0))):=(hb2.block _ (by omega)).trans (blk_alloc _ HP0.out)
 have HP12:=hide ((hb2.block _ (by omega)).trans (blk_alloc (.cells (vals5 []) 94 (0,0)) HP1.out))
 have HB2:Hid (Below w.heap.size w w2):=(HB1.out.alloc (by omega) _).trans (hb2.mono (by omega))
 clear hb2 HP0 HP1 HB1
 go_wp2_with fail
 go_loopw [9,36] (fun v9 v36 wr=>∃ (i k:Nat) (vs:List Int),i≤5∧v36=.int .i64 (i:Nat)∧v9=.int .i64 (k:Nat)∧k≤1+2*i∧Hid (rdK (x::r) o i=some (k,vs))∧Hid (wr.heap[w1.heap.size]?=some (.cells (vals5 vs) 94 (0,0)))∧Hid (wr.heap[w.heap.size]?=some (.cells z6 48 (0,0)))∧Hid (wr.heap[w.heap.size+1]?=some (.cells (strs (x::r)).toArray 9 (0,0)))∧Below w.heap.size w wr) (fun _ v36 _=>(5-intOf v36).toNat)
 case atStart=>exact ⟨0,1,[],by omega,rfl,rfl,by omega,rfl,blk_alloc _ HV2.out,blk_alloc _ HP02.out,blk_alloc _ HP12.out,HB2.out.alloc (by omega) _⟩
 case round =>
  obtain ⟨i,k,vs,hi5,rfl,rfl,hk,HR,HV,HP,HW,hB⟩:=hrel
  clear HV2 HP02 HP12 HB2
  have hsz:=hB.size
  have hvl:=rdK_len _ _ _ HR.out
  by_cases hq5:i=5
  ·subst hq5
   rw [HR.out] at hres
   have hV:=HV.out
   rw [vals_five hvl] at hV
   have t0:wr.cell? ⟨w1.heap.size,0,none⟩=some (.int .i64 (vs.getD 0 0)):=blk_cell hV 0
   have t1:wr.cell? ⟨w1.heap.size,1,none⟩=some (.int .i64 (vs.getD 1 0)):=blk_cell hV 1
   have t2:wr.cell? ⟨w1.heap.size,2,none⟩=some (.int .i64 (vs.getD 2 0)):=blk_cell hV 2
   have t3:wr.cell? ⟨w1.heap.size,3,none⟩=some (.int .i64 (vs.getD 3 0)):=blk_cell hV 3
   have t4:wr.cell? ⟨w1.heap.size,4,none⟩=some (.int .i64 (vs.getD 4 0)):=blk_cell hV 4
   clear hV
   generalize hm0:vs.getD 0 0=m0 at t0
   generalize hm1:vs.getD 1 0=m1 at t1
   generalize hm2:vs.getD 2 0=m2 at t2
   generalize hm3:vs.getD 3 0=m3 at t3
   generalize hm4:vs.getD 4 0=m4 at t4
   go_wp2_with fail
   refine (node_any _ _ _ _ _ _ _).mono ?_
   rintro e w5 ⟨rfl,hb5⟩
   have hp5:=(hb5.block _ (blk_lt HP.out)).trans HP.out
   have hB5:=hB.trans (hb5.mono hsz)
   go_wp2_with (refine wpList_plain rfl fun _ hK=>wp_store_row _ _ _ rfl _ #[.int .i64 (o:Int),.int .i64 m0,.int .i64 m1,.int .i64 m2,.int .i64 m3,.int .i64 m4] rfl rfl _ _ hp5 z6_size rfl (six_one _ _ _ _ _ _) (hK _ _ ?_))
   refine bodyPost_ret (results_two Tryz.results69 _ _ _ _ _ _ _ (.bool true) rfl (setRow_heap _ _ _ #[.int .i64 (o:Int),.int .i64 m0,.int .i64 m1,.int .i64 m2,.int .i64 m3,.int .i64 m4] _ _ hp5) Tryz.underlying48 rfl z6_size rfl) rfl ⟨?_,hB5.trans ⟨rfl,rfl,rfl,by simp,fun k hk=>setRow_other _ _ _ _ (by omega)⟩⟩
   rw [hres]
   subst hm0 hm1 hm2 hm3 hm4
   rfl
  ·have hlt:i<5:=by omega
   have hlti:(i:Int)<5:=by omega
   have hst:=rdK_step HR.out
   have hix:=idxk (o:Int) hlt
   have hEr:=hE.below hB
   generalize hkv:kOf (o:Int) i=K at hix hst
   by_cases hk0:K=0
   ·subst hk0
    rw [show ((0:Int) != 0)=false from rfl,rd_no] at hst
    go_wp2_with fail
    go_roundw
    case rel=>exact ⟨i+1,k,vs++[0],by omega,by simp,rfl,by omega,hst,by show _=_;rw [vals_zero (by omega)];exact HV.out,HP,HW,hB⟩
    case measure=>simp [intOf];omega
   ·have hK1:(K != 0)=true:=by simpa using hk0
    rw [hK1] at hst
    rcases lead_flag i with ⟨hfl,hlw⟩ | ⟨hfl,y,hyn,hlw⟩
    ·have hA:(if (i==3||i==4)=true then k+1 else k)=k:=by rw [hfl];rfl
     go_wp2_with fail
     refine (lead_any _ _).mono ?_
     rintro e w' ⟨rfl,rfl⟩
     rw [hlw]
     by_cases hov:(x::r).length≤k
     ·have hno:rdK (x::r) o 5=none:=by
       rw [rd_over (by rw [hA];exact List.getElem?_eq_none hov)] at hst
       rw [show 5=(i+1)+(4-i) by omega]
       exact rdK_none hst _
      have hovi:(n:Int)≤(k:Nat):=by have:=HN.out;omega
      have hp:=HP.out
      go_wp2_with (refine wpList_plain rfl fun _ hK=>wp_store_row _ _ _ rfl _ z6 rfl rfl _ _ hp z6_size rfl z6_one (hK _ _ ?_))
      refine bodyPost_ret (results_two Tryz.results69 _ _ _ _ _ _ _ (.bool false) rfl (setRow_heap _ _ _ z6 _ _ hp) Tryz.underlying48 rfl z6_size rfl) rfl ⟨?_,hB.trans ⟨rfl,rfl,rfl,by simp,fun k hk=>setRow_other _ _ _ _ (by omega)⟩⟩
      rw [hres,hno];rfl
     ·have hin:k<(x::r).length:=by omega
      have hini:((k:Nat):Int)<(n:Int):=by have:=HN.out;omega
      obtain ⟨yw,hyw⟩:=get_lt hin
      have hcy:=(blk_cell HW.out k).trans (by rw [List.getElem?_toArray];unfold strs;rw [List.getElem?_map,hyw];rfl:(strs (x::r)).toArray[k]?=some (.string (ba yw)))
      have hyl:=hx yw (List.mem_of_getElem? hyw)
      go_wp2_with fail
      refine (atoi_any (ba yw) _ hEr (by show (ba yw).data.size≤_;simp [ba];omega)).mono ?_
      rintro e w3 ⟨v,er,rfl,hm,hb3⟩
      rw [ba_list] at hm
      have hs3:=hb3.size
      have hP3:=(hb3.block _ (blk_lt HP.out)).trans HP.out
      have hV3:=(hb3.block _ (blk_lt HV.out)).trans HV.out
      have HW3:=hide ((hb3.block _ (blk_lt HW.out)).trans HW.out)
      have hB3:=hB.trans (hb3.mono hsz)
      have HIX:=hide hix
      clear hb3 HP HV HW hB hcy hix
      by_cases hok:∃ u,Lib.atoiAll yw=.ok u
      ·obtain ⟨u,hu⟩:=hok
       rw [hu] at hm
       obtain ⟨rfl,rfl⟩:=hm
       rw [rd_some (by rw [hA];exact hyw) hu,hA] at hst
       have hv5:(vals5 vs).size=5:=vals_size (by omega)
       have q:=blk_cell hV3 i
       have gq:=blk_frozen hV3 i
       rw [Array.getElem?_eq_getElem (by omega)] at q
       generalize (vals5 vs)[i]'(by omega)=vq at q
       have HV3:=hide hV3
       have HP3:=hide hP3
       have HB3:=hide hB3
       clear hV3 hP3 hB3
       go_wp2_with fail
       go_roundw
       case rel =>
        refine ⟨i+1,_,_,by omega,by simp,?_,by omega,hst,?_,blk_set_ne _ HP3.out (by omega),blk_set_ne _ HW3.out (by omega),HB3.out.setCell (by simp;omega) _⟩
        ·go_num
        ·show _=_
         rw [blk_set _ HV3.out,← hvl,vals_set (by omega)]
       case measure=>simp [intOf];omega
      ·have hno:rdK (x::r) o 5=none:=by
        rw [rd_bad (by rw [hA];exact hyw) (fun u hu=>hok ⟨u,hu⟩)] at hst
        rw [show 5=(i+1)+(4-i) by omega]
        exact rdK_none hst _
       obtain ⟨N,rfl⟩:∃ N,er=.iface 184 (.pointer (some ⟨N,0,none⟩)):=by
        cases e:Lib.atoiAll yw with
        | ok u=>exact absurd ⟨u,e⟩ hok
        | «syntax»=>rw [e] at hm;exact hm
        | range=>rw [e] at hm;exact hm
       go_wp2_with (refine wpList_plain rfl fun _ hK=>wp_store_row _ _ _ rfl _ z6 rfl rfl _ _ hP3 z6_size rfl z6_one (hK _ _ ?_))
       refine bodyPost_ret (results_two Tryz.results69 _ _ _ _ _ _ _ (.bool false) rfl (setRow_heap _ _ _ z6 _ _ hP3) Tryz.underlying48 rfl z6_size rfl) rfl ⟨?_,hB3.trans ⟨rfl,rfl,rfl,by simp,fun k hk=>setRow_other _ _ _ _ (by omega)⟩⟩
       rw [hres,hno];rfl
    ·have hA:(if (i==3||i==4)=true then k+1 else k)=(k+1):=by rw [hfl];rfl
     go_wp2_with fail
     refine (lead_any _ _).mono ?_
     rintro e w' ⟨rfl,rfl⟩
     rw [hlw]
     by_cases hov:(x::r).length≤(k+1)
     ·have hno:rdK (x::r) o 5=none:=by
       rw [rd_over (by rw [hA];exact List.getElem?_eq_none hov)] at hst
       rw [show 5=(i+1)+(4-i) by omega]
       exact rdK_none hst _
      have hovi:(n:Int)≤((k+1):Nat):=by have:=HN.out;omega
      have hp:=HP.out
      go_wp2_with (refine wpList_plain rfl fun _ hK=>wp_store_row _ _ _ rfl _ z6 rfl rfl _ _ hp z6_size rfl z6_one (hK _ _ ?_))
      refine bodyPost_ret (results_two Tryz.results69 _ _ _ _ _ _ _ (.bool false) rfl (setRow_heap _ _ _ z6 _ _ hp) Tryz.underlying48 rfl z6_size rfl) rfl ⟨?_,hB.trans ⟨rfl,rfl,rfl,by simp,fun k hk=>setRow_other _ _ _ _ (by omega)⟩⟩
      rw [hres,hno];rfl
     ·have hin:(k+1)<(x::r).length:=by omega
      have hini:(((k+1):Nat):Int)<(n:Int):=by have:=HN.out;omega
      obtain ⟨yw,hyw⟩:=get_lt hin
      have hcy:=(blk_cell HW.out (k+1)).trans (by rw [List.getElem?_toArray];unfold strs;rw [List.getElem?_map,hyw];rfl:(strs (x::r)).toArray[(k+1)]?=some (.string (ba yw)))
      have hyl:=hx yw (List.mem_of_getElem? hyw)
      go_wp2_with fail
      refine (atoi_any (ba yw) _ hEr (by show (ba yw).data.size≤_;simp [ba];omega)).mono ?_
      rintro e w3 ⟨v,er,rfl,hm,hb3⟩
      rw [ba_list] at hm
      have hs3:=hb3.size
      have hP3:=(hb3.block _ (blk_lt HP.out)).trans HP.out
      have hV3:=(hb3.block _ (blk_lt HV.out)).trans HV.out
      have HW3:=hide ((hb3.block _ (blk_lt HW.out)).trans HW.out)
      have hB3:=hB.trans (hb3.mono hsz)
      have HIX:=hide hix
      clear hb3 HP HV HW hB hcy hix
      by_cases hok:∃ u,Lib.atoiAll yw=.ok u
      ·obtain ⟨u,hu⟩:=hok
       rw [hu] at hm
       obtain ⟨rfl,rfl⟩:=hm
       rw [rd_some (by rw [hA];exact hyw) hu,hA] at hst
       have hv5:(vals5 vs).size=5:=vals_size (by omega)
       have q:=blk_cell hV3 i
       have gq:=blk_frozen hV3 i
       rw [Array.getElem?_eq_getElem (by omega)] at q
       generalize (vals5 vs)[i]'(by omega)=vq at q
       have HV3:=hide hV3
       have HP3:=hide hP3
       have HB3:=hide hB3
       clear hV3 hP3 hB3
       go_wp2_with fail
       go_roundw
       case rel =>
        refine ⟨i+1,_,_,by omega,by simp,?_,by omega,hst,?_,blk_set_ne _ HP3.out (by omega),blk_set_ne _ HW3.out (by omega),HB3.out.setCell (by simp;omega) _⟩
        ·go_num
        ·show _=_
         rw [blk_set _ HV3.out,← hvl,vals_set (by omega)]
       case measure=>simp [intOf];omega
      ·have hno:rdK (x::r) o 5=none:=by
        rw [rd_bad (by rw [hA];exact hyw) (fun u hu=>hok ⟨u,hu⟩)] at hst
        rw [show 5=(i+1)+(4-i) by omega]
        exact rdK_none hst _
       obtain ⟨N,rfl⟩:∃ N,er=.iface 184 (.pointer (some ⟨N,0,none⟩)):=by
        cases e:Lib.atoiAll yw with
        | ok u=>exact absurd ⟨u,e⟩ hok
        | «syntax»=>rw [e] at hm;exact hm
        | range=>rw [e] at hm;exact hm
       go_wp2_with (refine wpList_plain rfl fun _ hK=>wp_store_row _ _ _ rfl _ z6 rfl rfl _ _ hP3 z6_size rfl z6_one (hK _ _ ?_))
       refine bodyPost_ret (results_two Tryz.results69 _ _ _ _ _ _ _ (.bool false) rfl (setRow_heap _ _ _ z6 _ _ hP3) Tryz.underlying48 rfl z6_size rfl) rfl ⟨?_,hB3.trans ⟨rfl,rfl,rfl,by simp,fun k hk=>setRow_other _ _ _ _ (by omega)⟩⟩
       rw [hres,hno];rfl
theorem cut_mem (c:UInt8):∀ (l:List UInt8) {y:List UInt8},y∈cutC c l→y.length≤l.length
 | [],y,h=>by simp [cutC] at h;subst h;exact Nat.le_refl _
 | b::l,y,h=>by
  unfold cutC at h
  split at h
  ·rcases List.mem_cons.1 h with rfl | h
   ·simp
   ·have:=cut_mem c l h;simp;omega
  ·split at h
   ·rename_i e;exact absurd e (cutC_ne c l)
   ·rename_i z r e
    have hz:z∈cutC c l:=by rw [e];exact List.mem_cons_self ..
    rcases List.mem_cons.1 h with rfl | h
    ·have:=cut_mem c l hz;simp;omega
    ·have:=cut_mem c l (y:=y) (by rw [e];exact List.mem_cons_of_mem _ h);simp;omega
theorem cut_len (c:UInt8):∀ (l:List UInt8),(cutC c l).length≤l.length+1
 | []=>by simp [cutC]
 | b::l=>by
  have ih:=cut_len c l
  unfold cutC
  split
  ·simp;omega
  ·split
   ·simp
   ·rename_i z r e
    rw [e] at ih
    simp at ih ⊢;omega
theorem readNode_any (l:List UInt8) (mb:Nat) (w:World) (hE:Env w) (hl:l.length≤16448) (hM:w.ownsMap Tryz.prog 9 (plainElem Tryz.prog 3) mb 13 opD) :
 Calls Tryz.prog 69 #[.string (ba l),.map (some mb)] w fun e w' =>e=.returned (.tuple #[nodeV (rdN (cutC 32 l)),.bool (rdN (cutC 32 l)).isSome])∧Below w.heap.size w w' :=by
 have h1:∀ y∈cutC 32 l,y.length≤16448:=fun y hy=>Nat.le_trans (cut_mem 32 l hy) hl
 have h2:=cut_len 32 l
 cases hw:cutC 32 l with
 | nil=>exact absurd hw (cutC_ne 32 l)
 | cons x r =>
  rw [hw] at h1 h2
  cases ho:opOf x with
  | none =>
   have e:rdN (x::r)=none:=by unfold rdN;simp only [ho]
   rw [e]
   exact readNode_bad l x r mb w hE hl (h1 x (List.mem_cons_self ..)) hM hw ho
  | some o=>exact readNode_ok l x r o mb w hE hl h1 hM hw ho (by omega)
def encT (x:Nd):List Value:=[.int .i64 x.op,.int .i64 x.d,.int .i64 x.a,.int .i64 x.b,.int .i64 x.t,.int .i64 x.e]
theorem info_nodeT:(Tryz.prog.info? 48).map (fun i=>(i.zero,i.size,i.bytes))=some (some (.agg #[.int .i64 0,.int .i64 0,.int .i64 0,.int .i64 0,.int .i64 0,.int .i64 0]),6,48):=by kernel_rfl
theorem rdAll_take {ls:List (List UInt8)} {i:Nat} {y:List UInt8} {ns:List Nd} {x:Nd} (h:rdAll (ls.take i)=some ns) (hy:ls[i]?=some y) (hx:rdN (cutC 32 y)=some x):rdAll (ls.take (i+1))=some (ns++[x]):=by
 induction ls generalizing i ns with
 | nil=>simp at hy
 | cons a ls ih =>
  cases i with
  | zero =>
   simp at hy;subst hy
   simp [rdAll] at h;subst h
   simp [rdAll,hx]
  | succ i =>
   simp only [List.take_succ_cons,rdAll] at h ⊢
   cases e:rdN (cutC 32 a) with
   | none=>rw [e] at h;simp at h
   | some z =>
    rw [e] at h
    simp only at h ⊢
    cases e2:rdAll (ls.take i) with
    | none=>rw [e2] at h;simp at h
    | some m =>
     rw [e2] at h
     simp at h;subst h
     rw [ih e2 (by simpa using hy)]
     rfl
theorem rdAll_stop {ls:List (List UInt8)} {y:List UInt8} (hy:y∈ls) (hx:rdN (cutC 32 y)=none):rdAll ls=none:=by
 induction ls with
 | nil=>cases hy
 | cons a ls ih =>
  unfold rdAll
  rcases List.mem_cons.1 hy with rfl | hy
  ·rw [hx]
  ·cases e:rdN (cutC 32 a) with
   | none=>rfl
   | some z=>simp only;rw [ih hy];rfl
def z2:Array Value:=#[.int .i64 0,.slice none 0 0]
theorem z2_size:(Tryz.prog.info? 24).map (·.size)=some z2.size:=by kernel_rfl
theorem z2_one:z2.all (·.oneCell')=true:=by kernel_rfl
def LooseEnd (q:Option (Int × List Nd)) (base:Nat) (e:Ending) (w' :World):Prop :=
 match q with
 | none=>e=.returned (.tuple #[.agg #[.int .i64 0,.slice none 0 0],.bool false])
 | some (r,ns)=>∃ a cap,e=.returned (.tuple #[.agg #[.int .i64 r,.slice a ns.length cap],.bool true])∧w'.ownsRow base 48 6 (.slice a ns.length cap) ns.length (ns.flatMap encT)
set_option maxRecDepth 100000 in
theorem loose_long (l:List UInt8) (w:World) (hl:16448<l.length) (hl2:l.length≤140737488355328) :
 Calls Tryz.prog 40 #[.string (ba l)] w fun e w' =>e=.returned (.tuple #[.agg #[.int .i64 0,.slice none 0 0],.bool false])∧Below w.heap.size w w' :=by
 have hsz:(ba l).size=l.length:=by simp [ba,ByteArray.size]
 have hli:(16448:Int)<(l.length:Int):=by omega
 have hp0:(w.alloc (.cells z2 24)).heap[w.heap.size]?=some (.cells z2 24 (0,0)):=blkn rfl
 have hB1:Below w.heap.size w (w.alloc (.cells z2 24)):=(Below.refl _ _).alloc (Nat.le_refl _) _
 go_enter Tryz.func40,Tryz.ntmps40
 go_wp2_with (refine wpList_plain rfl fun _ hK=>wp_store_row _ _ _ rfl _ z2 rfl rfl _ _ hp0 z2_size rfl z2_one (hK _ _ ?_))
 exact bodyPost_ret (results_two Tryz.results40 _ _ _ _ _ _ _ (.bool false) rfl (setRow_heap _ _ _ z2 _ _ hp0) Tryz.underlying24 rfl z2_size rfl) rfl ⟨rfl,hB1.trans ⟨rfl,rfl,rfl,by simp,fun k hk=>setRow_other _ _ _ _ (by omega)⟩⟩
theorem trim_len (l:List UInt8):(trimB l).length≤l.length:=by
 unfold trimB Lib.trimSuffix
 split
 ·rw [List.length_take];omega
 ·exact Nat.le_refl _
theorem owns_setRow {w:World} {base:Nat} {e:TypeId} {size:Nat} {v:Value} {n:Nat} {xs:List Value} (h:w.ownsRow base e size v n xs) {g:Nat} (hg:g<base) (cs:Array Value):(w.setRow g cs).ownsRow base e size v n xs:=by
 obtain ⟨h1,h2 | ⟨g', cap,cur,hv,hb,hh,hr⟩⟩:=h
 ·exact ⟨h1,Or.inl h2⟩
 ·exact ⟨h1,Or.inr ⟨g', cap,cur,hv,hb,by rw [setRow_other _ _ _ _ (by omega)];exact hh,hr⟩⟩
theorem own_nem {H:Type} {P:Program} {k:TypeId} {R:Value→Option (DataW H × List MemPlace)} {m:Nat} {D:DataW H} {w:World} {base b:Nat} {e:TypeId} {size:Nat} {v:Value} {n:Nat} {xs:List Value} (h:w.ownsRow base e size v n xs) (hb:w.ownsMap P k R b m D):some b≠v.ownBlock:=by
 intro hq
 obtain ⟨es,clock,hm,_⟩:=hb
 obtain ⟨_,⟨rfl,_⟩ | ⟨g,cap,cur,rfl,_,hg,_⟩⟩:=h
 ·simp [Value.ownBlock] at hq
 ·simp [Value.ownBlock] at hq
  subst hq
  rw [hm] at hg
  have:=Option.some.inj hg
  cases this
def rdR (l0:List UInt8):Option Int:=if Lib.hasPrefix l0 regsW then match Lib.atoiAll (l0.drop 5) with
 | .ok v=>some v
 | _=>none
 else none
theorem rdP_eq {l l0:List UInt8} {ls:List (List UInt8)} (hl:l.length≤16448) (hc:cutC 10 (trimB l)=l0::ls):rdP l=match rdR l0 with
 | none=>none
 | some v=>(rdAll ls).map fun ns=>(v,ns):=by
 unfold rdP rdR
 rw [if_neg (by omega),hc]
 simp only
 cases Lib.hasPrefix l0 regsW
 ·rfl
 ·simp only [if_true]
  cases Lib.atoiAll (l0.drop 5) <;> rfl
set_option maxRecDepth 100000 in
theorem loose_short (l l0:List UInt8) (ls:List (List UInt8)) (w:World) (hE:Env w) (hl:l.length≤16448) (hc:cutC 10 (trimB l)=l0::ls) :
 Calls Tryz.prog 40 #[.string (ba l)] w fun e w' =>LooseEnd (rdP l) w.heap.size e w' ∧Below w.heap.size w w' :=by
 have hres:=rdP_eq hl hc
 have hsz:(ba l).size=l.length:=by simp [ba,ByteArray.size]
 have hli:¬ (16448:Int)<(l.length:Int):=by omega
 have htl:=trim_len l
 have hmem:∀ y∈l0::ls,y.length≤16448:=fun y hy=>by have:=cut_mem 10 (trimB l) (y:=y) (by rw [hc];exact hy);omega
 have hcl:(l0::ls).length≤16449:=by have:=cut_len 10 (trimB l);rw [hc] at this;omega
 have hsp:=split_any 10 (trimB l) (w.alloc (.cells z2 24)) (hE.below ((Below.refl _ _).alloc (Nat.le_refl _) _)) (by omega)
 rw [hc] at hsp
 have htr:∀ u,Calls Tryz.prog 66 #[.string (ba l),.string ⟨#[10]⟩] u fun e w' =>e=.returned (.string (ba (trimB l)))∧w' =u:=fun u=>by
  have:=Tryz.strings_TrimSuffix (ba l) ⟨#[10]⟩ u (by omega)
  rw [ba_list] at this
  exact this
 generalize trimB l=tl at htr hsp
 have hcp:∀ u,Calls Tryz.prog 67 #[.string (ba l0),.string ⟨#[114,101,103,115,32]⟩] u fun e w' =>e=.returned (.tuple #[.string (ba (Lib.trimPrefix l0 regsW)),.bool (Lib.hasPrefix l0 regsW)])∧w' =u:=fun u=>by
  have:=Tryz.strings_CutPrefix (ba l0) ⟨#[114,101,103,115,32]⟩ u
  rw [ba_list] at this
  exact this
 rw [List.length_cons] at hsp
 generalize hn:ls.length=n at hsp
 have HN:=hide hn
 have hn0:(0:Int)<(n:Int)+1:=by omega
 clear hn
 go_enter Tryz.func40,Tryz.ntmps40
 go_wp2_with (first
  | (go_at_call 66;refine (htr _).mono ?_;rintro e w0 ⟨rfl,rfl⟩))
 refine hsp.mono ?_
 rintro e w1 ⟨rfl,hw1⟩
 have hp0:w1.heap[w.heap.size]?=some (.cells z2 24 (0,0)):=by rw [hw1];exact blk_alloc _ (blkn rfl)
 have hp1:w1.heap[w.heap.size+1]?=some (.cells (strs (l0::ls)).toArray 9 (0,0)):=by rw [hw1];exact blkn (by simp)
 have hB1:Below w.heap.size w w1:=by rw [hw1];exact ((Below.refl _ _).alloc (Nat.le_refl _) _).alloc (by simp) _
 have hs1:w.heap.size+2≤w1.heap.size:=by rw [hw1];simp
 clear hw1 hsp
 have cx:w1.cell? ⟨w.heap.size+1,0,none⟩=some (.string (ba l0)):=blk_cell hp1 0
 have HP:=hide hp0
 have HW:=hide hp1
 have hE1:=hE.below hB1
 clear hp0 hp1
 have hal:(Lib.trimPrefix l0 regsW).length≤16448:=by
  have:=hmem l0 (List.mem_cons_self ..)
  unfold Lib.trimPrefix
  split
  ·rw [List.length_drop];omega
  ·exact this
 go_wp2_with (first
  | (go_at_call 67;refine (hcp _).mono ?_;rintro e w0 ⟨rfl,rfl⟩))
 refine (atoi_any (ba (Lib.trimPrefix l0 regsW)) _ hE1 (by show (ba (Lib.trimPrefix l0 regsW)).data.size≤_;simp [ba];omega)).mono ?_
 rintro e w2 ⟨v,er,rfl,hm,hb2⟩
 rw [ba_list] at hm
 have hs2:=hb2.size
 have hP2:=(hb2.block _ (blk_lt HP.out)).trans HP.out
 have HW2:=hide ((hb2.block _ (blk_lt HW.out)).trans HW.out)
 have hB2:=hB1.trans (hb2.mono (by omega))
 clear hb2 HP HW hE1 hB1 cx htr hcp
 cases hpre:Lib.hasPrefix l0 regsW
 ·have hr:rdR l0=none:=by unfold rdR;rw [hpre];rfl
  go_wp2_with (refine wpList_plain rfl fun _ hK=>wp_store_row _ _ _ rfl _ z2 rfl rfl _ _ hP2 z2_size rfl z2_one (hK _ _ ?_))
  refine bodyPost_ret (results_two Tryz.results40 _ _ _ _ _ _ _ (.bool false) rfl (setRow_heap _ _ _ z2 _ _ hP2) Tryz.underlying24 rfl z2_size rfl) rfl ⟨?_,hB2.trans ⟨rfl,rfl,rfl,by simp,fun k hk=>setRow_other _ _ _ _ (by omega)⟩⟩
  rw [hres,hr];rfl
 ·have htp:Lib.trimPrefix l0 regsW=l0.drop 5:=by unfold Lib.trimPrefix;rw [hpre];rfl
  rw [htp] at hm
  by_cases hok:∃ u,Lib.atoiAll (l0.drop 5)=.ok u
  ·obtain ⟨u,hu⟩:=hok
   rw [hu] at hm
   obtain ⟨rfl,rfl⟩:=hm
   have hr:rdR l0=some v:=by unfold rdR;rw [hpre,hu];rfl
   rw [hr] at hres
   simp only at hres
   have HP2:=hide hP2
   have HB2:=hide hB2
   clear hP2 hB2
   go_wp2_with fail
   refine (operations_any _).mono ?_
   rintro e w3 ⟨rfl,hM3,hb3⟩
   have hs3:=hb3.size
   simp only [World.size_alloc] at hs3 hb3 hM3
   have HP3:=hide ((hb3.block _ (by omega)).trans (blk_alloc (.cells #[.int .i64 v,.slice none 0 0] 24) HP2.out))
   have HW3:=hide ((hb3.block _ (by omega)).trans (blk_alloc (.cells #[.int .i64 v,.slice none 0 0] 24) HW2.out))
   have HQ3:Hid (w3.heap[w2.heap.size]?=some (.cells #[.int .i64 v,.slice none 0 0] 24 (0,0))):=(hb3.block _ (by omega)).trans (blkn rfl)
   have HB3:=hide ((HB2.out.alloc (by omega) (.cells #[.int .i64 v,.slice none 0 0] 24)).trans (hb3.mono (by omega)))
   have HM3:=hide hM3
   have hn1:(1:Int)≤(n:Int)+1:=by omega
   clear hb3 HP2 HB2 HW2 hM3
   obtain ⟨i0,hi0,hz0,hz1,hz2⟩:=info_parts info_nodeT
   go_wp2_with fail
   ·have e0:=blk_cell HQ3.out 0
    have e1:=blk_cell HQ3.out 1
    simp at e0 e1
    have hp3:=HP3.out
    refine wp_loop_rounds 1 ?_
    rw [rounds_succ]
    go_wp2_with (refine wpList_plain rfl fun _ hK=>wp_store_row _ _ _ rfl _ #[.int .i64 v,.slice none 0 0] rfl rfl _ _ hp3 z2_size rfl (by simp [Value.oneCell']) (hK _ _ ?_))
    have hls:ls=[]:=List.length_eq_zero_iff.1 (by rw [HN.out];exact h)
    refine bodyPost_ret (results_two Tryz.results40 _ _ _ _ _ _ _ (.bool true) rfl (setRow_heap _ _ _ #[.int .i64 v,.slice none 0 0] _ _ hp3) Tryz.underlying24 rfl z2_size rfl) rfl ⟨?_,HB3.out.trans ⟨rfl,rfl,rfl,by simp,fun k hk=>setRow_other _ _ _ _ (by omega)⟩⟩
    rw [hres,hls]
    exact ⟨none,0,rfl,World.ownsRow_nil _ _ _ _⟩
   ·go_loopw [47] (fun v47 wr=>∃ (i:Nat) (ns:List Nd) (sv:Value),i≤n∧v47=.int .i64 (i:Nat)∧Hid (rdAll (ls.take i)=some ns)∧ns.length=i∧Hid (wr.heap[w2.heap.size]?=some (.cells #[.int .i64 v,sv] 24 (0,0)))∧wr.ownsRow (w2.heap.size+1) 48 6 sv ns.length (ns.flatMap encT)∧Hid (wr.ownsMap Tryz.prog 9 (plainElem Tryz.prog 3) (w2.heap.size+1) 13 opD)∧Hid (wr.heap[w.heap.size]?=some (.cells z2 24 (0,0)))∧Hid (wr.heap[w.heap.size+1]?=some (.cells (strs (l0::ls)).toArray 9 (0,0)))∧Below w.heap.size w wr) (fun v47 _=>n-(intOf v47).toNat)
    case atStart=>exact ⟨0,[],_,by omega,rfl,rfl,rfl,HQ3,World.ownsRow_nil _ _ _ _,HM3,HP3,HW3,HB3.out⟩
    case round =>
     obtain ⟨i,ns,sv,hin,rfl,HR,hnl,HQ,hown,HM,HP,HW,hB⟩:=hrel
     clear HQ3 HM3 HP3 HW3 HB3
     have hsz:=hB.size
     have hql:=blk_lt HQ.out
     by_cases hlt:i<n
     ·obtain ⟨y,hy⟩:=get_lt (l:=ls) (k:=i) (by rw [HN.out];exact hlt)
      have hyl:=hmem y (List.mem_cons_of_mem _ (List.mem_of_getElem? hy))
      have hlti:(i:Int)<(n:Int):=by omega
      have hn16:(n:Int)≤16449:=by have:=HN.out;rw [List.length_cons] at hcl;omega
      have hcy:wr.cell? ⟨w.heap.size+1,1+i,none⟩=some (.string (ba y)):=(blk_cell HW.out (1+i)).trans (by rw [List.getElem?_toArray];unfold strs;rw [List.getElem?_map,Nat.add_comm 1 i,List.getElem?_cons_succ,hy];rfl)
      have HO:=hide hown
      have HB:=hide hB
      clear hown hB
      go_wp2_with fail
      refine (readNode_any y (w2.heap.size+1) wr (hE.below HB.out) hyl HM.out).mono ?_
      rintro e w4 ⟨rfl,hb4⟩
      have hs4:=hb4.size
      have hP4:=(hb4.block _ (blk_lt HP.out)).trans HP.out
      have hQ4:=(hb4.block _ (blk_lt HQ.out)).trans HQ.out
      have HW4:=hide ((hb4.block _ (blk_lt HW.out)).trans HW.out)
      have hB4:=HB.out.trans (hb4.mono hsz)
      have hO4:=ownsRow_below HO.out hb4 (Nat.le_refl _)
      have hM4:w4.ownsMap Tryz.prog 9 (plainElem Tryz.prog 3) (w2.heap.size+1) 13 opD:=HM.out.kept (row:=none) ⟨hb4.os,hb4.tape,hb4.output,hb4.size,fun k hk _=>hb4.block k hk⟩ (by simp)
      clear hb4 HP HQ HW HB HO HM hcy
      cases hrd:rdN (cutC 32 y) with
      | none =>
       have hno:rdAll ls=none:=rdAll_stop (List.mem_of_getElem? hy) hrd
       have hP5:=blk_alloc (.cells z6 48) hP4
       have hB5:=hB4.alloc (by omega) (.cells z6 48)
       rw [show nodeV none=.agg #[.int .i64 0,.int .i64 0,.int .i64 0,.int .i64 0,.int .i64 0,.int .i64 0] from rfl,show (none:Option Nd).isSome=false from rfl]
       go_wp2_with (refine wpList_plain rfl fun _ hK=>wp_store_row _ _ _ rfl _ z2 rfl rfl _ _ hP5 z2_size rfl z2_one (hK _ _ ?_))
       refine bodyPost_ret (results_two Tryz.results40 _ _ _ _ _ _ _ (.bool false) rfl (setRow_heap _ _ _ z2 _ _ hP5) Tryz.underlying24 rfl z2_size rfl) rfl ⟨?_,hB5.trans ⟨rfl,rfl,rfl,by simp,fun k hk=>setRow_other _ _ _ _ (by omega)⟩⟩
       rw [hres,hno];rfl
      | some x =>
       have hrt:=rdAll_take HR.out hy hrd
       have q0:=blk_cell hQ4 0
       have q1:=blk_cell hQ4 1
       have f1:=blk_frozen hQ4 1
       simp at q0 q1
       have HQ4:=hide hQ4
       have HP4:=hide hP4
       have HB4:=hide hB4
       have HM4:=hide hM4
       have hql4:w2.heap.size<w4.heap.size:=by omega
       rw [show nodeV (some x)=.agg #[.int .i64 x.op,.int .i64 x.d,.int .i64 x.a,.int .i64 x.b,.int .i64 x.t,.int .i64 x.e] from rfl,show (some x).isSome=true from rfl]
       clear hQ4 hP4 hB4 hM4
       go_wp2_with (at_builtin;refine wpList_append_own _ rfl (.tmp 61) (.tmp 63) 22 rfl (w2.heap.size+1) 48 i0 _ 6 48 Tryz.underlying22 hi0 hz0 hz1 hz2 rfl (by decide) _ _ _ rfl ((hO4.alloc _).alloc _) ⟨w4.heap.size+1,0,none⟩ 1 1 (encT x) rfl rfl ?c1 ?c2 ?c3 ?c4 ?c5 ?_)
       case c1 =>
        intro j u hj
        match j,hj with
        | 0,hj=>simp [encT] at hj;subst hj;simp [Addr.add]
        | 1,hj=>simp [encT] at hj;subst hj;simp [Addr.add]
        | 2,hj=>simp [encT] at hj;subst hj;simp [Addr.add]
        | 3,hj=>simp [encT] at hj;subst hj;simp [Addr.add]
        | 4,hj=>simp [encT] at hj;subst hj;simp [Addr.add]
        | 5,hj=>simp [encT] at hj;subst hj;simp [Addr.add]
        | j+6,hj=>simp [encT] at hj
       case c2=>simp [encT,Value.oneCell']
       case c3=>unfold maxLen;have:=HN.out;rw [List.length_cons] at hcl;omega
       case c4=>have:=HN.out;rw [List.length_cons] at hcl;omega
       case c5=>simp;omega
       intro v' w5 hO5 hg5 _
       obtain ⟨a5,c5,rfl⟩:∃ a c,v' =.slice a (i+1) c:=by
        rcases hO5.2 with ⟨_,h0⟩ | ⟨g,cap,cur,rfl,_⟩
        ·omega
        ·exact ⟨_,_,rfl⟩
       have hs5:=hg5.size
       simp only [World.size_alloc] at hs5
       have hltb:=hO4.lt
       have nq:=own_ne (vs:=#[.int .i64 v,sv]) hO4 HQ4.out (by decide)
       have np:=own_ne hO4 HP4.out (by decide)
       have nw:=own_ne hO4 HW4.out (by decide)
       have nm:=own_nem hO4 HM4.out
       have hQ5:=(hg5.block _ (by simp;omega) nq).trans (blk_alloc (.cells #[.int .i64 x.op,.int .i64 x.d,.int .i64 x.a,.int .i64 x.b,.int .i64 x.t,.int .i64 x.e] 48) (blk_alloc (.cells #[.int .i64 x.op,.int .i64 x.d,.int .i64 x.a,.int .i64 x.b,.int .i64 x.t,.int .i64 x.e] 48) HQ4.out))
       have HP5:=hide ((hg5.block _ (by simp;omega) np).trans (blk_alloc (.cells #[.int .i64 x.op,.int .i64 x.d,.int .i64 x.a,.int .i64 x.b,.int .i64 x.t,.int .i64 x.e] 48) (blk_alloc (.cells #[.int .i64 x.op,.int .i64 x.d,.int .i64 x.a,.int .i64 x.b,.int .i64 x.t,.int .i64 x.e] 48) HP4.out)))
       have HW5:=hide ((hg5.block _ (by simp;omega) nw).trans (blk_alloc (.cells #[.int .i64 x.op,.int .i64 x.d,.int .i64 x.a,.int .i64 x.b,.int .i64 x.t,.int .i64 x.e] 48) (blk_alloc (.cells #[.int .i64 x.op,.int .i64 x.d,.int .i64 x.a,.int .i64 x.b,.int .i64 x.t,.int .i64 x.e] 48) HW4.out)))
       have HM5:=hide (((HM4.out.alloc (.cells #[.int .i64 x.op,.int .i64 x.d,.int .i64 x.a,.int .i64 x.b,.int .i64 x.t,.int .i64 x.e] 48)).alloc (.cells #[.int .i64 x.op,.int .i64 x.d,.int .i64 x.a,.int .i64 x.b,.int .i64 x.t,.int .i64 x.e] 48)).kept hg5 nm)
       have HB5:=hide (((HB4.out.alloc (by omega) (.cells #[.int .i64 x.op,.int .i64 x.d,.int .i64 x.a,.int .i64 x.b,.int .i64 x.t,.int .i64 x.e] 48)).alloc (by simp;omega) (.cells #[.int .i64 x.op,.int .i64 x.d,.int .i64 x.a,.int .i64 x.b,.int .i64 x.t,.int .i64 x.e] 48)).grown hg5 (by simp;omega) (fun k hk=>by have:=(hltb k hk).1;omega))
       have r0:=blk_cell hQ5 0
       have r1:=blk_cell hQ5 1
       have g1:=blk_frozen hQ5 1
       simp at r0 r1
       have HQ5:=hide hQ5
       have HO5:=hide hO5
       clear hQ5 hO5 hg5 hltb nq np nw nm HQ4 HP4 HW4 HM4 HB4 hO4 q0 q1 f1
       go_wp2_with fail
       go_roundw
       case rel =>
        have hOf:(w5.setCell ⟨w2.heap.size,1,none⟩ (.slice a5 (i+1) c5)).ownsRow (w2.heap.size+1) 48 6 (.slice a5 (i+1) c5) (ns++[x]).length ((ns++[x]).flatMap encT):=by
         have h5:=HO5.out
         rw [List.length_append,List.length_singleton,hnl,List.flatMap_append,List.flatMap_singleton]
         exact ownsRow_setCell_below h5 (by simp) _
        refine ⟨i+1,ns++[x],.slice a5 (i+1) c5,by omega,by go_num,hrt,by simp [hnl],?_,hOf,?_,blk_set_ne _ HP5.out (by omega),blk_set_ne _ HW5.out (by omega),HB5.out.setCell (by simp;omega) _⟩
        ·show _=_
         rw [blk_set _ HQ5.out];rfl
        ·exact HM5.out.setCell (by simp) _
       case measure=>simp [intOf];omega
     ·have HNL:=hide hnl
      clear hnl
      have e0:=blk_cell HQ.out 0
      have e1:=blk_cell HQ.out 1
      simp at e0 e1
      have hp:=HP.out
      obtain ⟨a,cp,rfl⟩:∃ a cp,sv=.slice a ns.length cp:=by
       rcases hown.2 with ⟨rfl,h0⟩ | ⟨g,cap,cur,rfl,_⟩
       ·exact ⟨none,0,by rw [h0]⟩
       ·exact ⟨_,_,rfl⟩
      have HO:=hide hown
      have HB:=hide hB
      clear hown hB
      have hfin:rdAll ls=some ns:=by
       have:=HR.out
       rw [List.take_of_length_le (by rw [HN.out];omega)] at this
       exact this
      have hnlt:¬ ((i:Int)<(n:Int)):=by omega
      go_wp2_with (refine wpList_plain rfl fun _ hK=>wp_store_row _ _ _ rfl _ #[.int .i64 v,.slice a ns.length cp] rfl rfl _ _ hp z2_size rfl (by simp [Value.oneCell']) (hK _ _ ?_))
      refine bodyPost_ret (results_two Tryz.results40 _ _ _ _ _ _ _ (.bool true) rfl (setRow_heap _ _ _ #[.int .i64 v,.slice a ns.length cp] _ _ hp) Tryz.underlying24 rfl z2_size rfl) rfl ⟨?_,HB.out.trans ⟨rfl,rfl,rfl,by simp,fun k hk=>setRow_other _ _ _ _ (by omega)⟩⟩
      refine ⟨a,cp,rfl,?_⟩
      exact ownsRow_base (owns_setRow HO.out (by omega) _) (by omega)
  ·have hr:rdR l0=none:=by
    unfold rdR
    rw [hpre]
    simp only [if_true]
    cases e:Lib.atoiAll (l0.drop 5) with
    | ok u=>exact absurd ⟨u,e⟩ hok
    | «syntax»=>rfl
    | range=>rfl
   obtain ⟨N,rfl⟩:∃ N,er=.iface 184 (.pointer (some ⟨N,0,none⟩)):=by
    cases e:Lib.atoiAll (l0.drop 5) with
    | ok u=>exact absurd ⟨u,e⟩ hok
    | «syntax»=>rw [e] at hm;exact hm
    | range=>rw [e] at hm;exact hm
   go_wp2_with (refine wpList_plain rfl fun _ hK=>wp_store_row _ _ _ rfl _ z2 rfl rfl _ _ hP2 z2_size rfl z2_one (hK _ _ ?_))
   refine bodyPost_ret (results_two Tryz.results40 _ _ _ _ _ _ _ (.bool false) rfl (setRow_heap _ _ _ z2 _ _ hP2) Tryz.underlying24 rfl z2_size rfl) rfl ⟨?_,hB2.trans ⟨rfl,rfl,rfl,by simp,fun k hk=>setRow_other _ _ _ _ (by omega)⟩⟩
   rw [hres,hr];rfl
theorem flat_at:∀ (ns:List Nd) {i:Nat} {x:Nd},ns[i]?=some x→∀ j (v:Value),(encT x)[j]?=some v→(ns.flatMap encT)[i*6+j]?=some v
 | [],i,x,h=>by simp at h
 | y::ns,i,x,h=>by
  intro j v hj
  have hj6:j<6:=(List.getElem?_eq_some_iff.1 hj).1
  cases i with
  | zero =>
   simp at h;subst h
   rw [List.flatMap_cons,Nat.zero_mul,Nat.zero_add,List.getElem?_append_left (by show j<6;exact hj6)]
   exact hj
  | succ i =>
   rw [List.flatMap_cons,List.getElem?_append_right (by show 6≤_;omega)]
   have:=flat_at ns (i:=i) (by simpa using h) j v hj
   rw [← this]
   congr 1
   show _-6=_
   omega
theorem sl_owns {w:World} {base:Nat} {a:Option Addr} {cap:Nat} {ns:List Nd} (h:w.ownsRow base 48 6 (.slice a ns.length cap) ns.length (ns.flatMap encT)):SlN w a ns:=by
 obtain ⟨_,⟨_,h0⟩ | ⟨g,c,cur,hv,_,hg,_,_,_,ht⟩⟩:=h
 ·exact Or.inl (List.length_eq_zero_iff.1 h0)
 ·injection hv with ha _ _
  subst ha
  have key:∀ (i:Nat) (x:Nd),ns[i]?=some x→∀ j (v:Value),(encT x)[j]?=some v→w.cell? ⟨g,0+i*6+j,none⟩=some v:=by
   intro i x hx j v hj
   have h1:=flat_at ns hx j v hj
   rw [← ht,List.getElem?_take] at h1
   split at h1
   ·rw [blk_cell hg,Nat.zero_add];simpa using h1
   ·cases h1
  exact Or.inr ⟨g,0,rfl,blk_lt hg,fun i x hx=>key i x hx 0 _ rfl,fun i x hx=>key i x hx 1 _ rfl,fun i x hx=>key i x hx 2 _ rfl,fun i x hx=>key i x hx 3 _ rfl,fun i x hx=>key i x hx 4 _ rfl,fun i x hx=>key i x hx 5 _ rfl⟩
theorem rdOne_fit {ws:List (List UInt8)} {k:Nat} {has lead:Bool} {k' :Nat} {v:Int} (h:rdOne ws k has lead=some (k', v)): -9223372036854775808≤v∧v≤9223372036854775807:=by
 unfold rdOne at h
 split at h
 ·split at h
  ·cases h
  ·split at h
   ·rename_i e
    simp at h
    obtain ⟨_,rfl⟩:=h
    exact Lib.atoiAll_bounds e
   ·cases h
 ·simp at h
  obtain ⟨_,rfl⟩:=h
  omega
theorem rdN_fit {ws:List (List UInt8)} {x:Nd} (h:rdN ws=some x): -9223372036854775808≤x.a∧x.a≤9223372036854775807:=by
 unfold rdN at h
 split at h
 ·cases h
 ·split at h
  ·cases h
  ·split at h
   ·cases h
   ·split at h
    ·cases h
    ·rename_i ha
     split at h
     ·cases h
     ·split at h
      ·cases h
      ·split at h
       ·cases h
       ·simp at h
        subst h
        exact rdOne_fit ha
theorem rdAll_fit:∀ {ls:List (List UInt8)} {ns:List Nd},rdAll ls=some ns→∀ x∈ns,-9223372036854775808≤x.a∧x.a≤9223372036854775807
 | [],ns,h=>by simp [rdAll] at h;subst h;intro x hx;cases hx
 | l::ls,ns,h=>by
  unfold rdAll at h
  split at h
  ·cases h
  ·rename_i y hy
   cases e:rdAll ls with
   | none=>rw [e] at h;cases h
   | some m =>
    rw [e] at h
    simp at h;subst h
    intro x hx
    rcases List.mem_cons.1 hx with rfl | hx
    ·exact rdN_fit hy
    ·exact rdAll_fit e x hx
theorem rdP_fit {l:List UInt8} {r:Int} {ns:List Nd} (h:rdP l=some (r,ns)):∀ x∈ns,-9223372036854775808≤x.a∧x.a≤9223372036854775807:=by
 unfold rdP at h
 split at h
 ·cases h
 ·split at h
  ·cases h
  ·split at h
   ·split at h
    ·rename_i e
     cases e2:rdAll _ with
     | none=>rw [e2] at h;cases h
     | some m =>
      rw [e2] at h
      simp at h
      obtain ⟨_,rfl⟩:=h
      exact rdAll_fit e2
    ·cases h
   ·cases h
theorem loose_any (l:List UInt8) (w:World) (hE:Env w) (hl:l.length≤140737488355328) :
 Calls Tryz.prog 40 #[.string (ba l)] w fun e w' =>LooseEnd (rdP l) w.heap.size e w' ∧Below w.heap.size w w' :=by
 by_cases h:16448<l.length
 ·have e:rdP l=none:=by unfold rdP;rw [if_pos h]
  rw [e]
  exact loose_long l w h hl
 ·cases hc:cutC 10 (trimB l) with
  | nil=>exact absurd hc (cutC_ne _ _)
  | cons l0 ls=>exact loose_short l l0 ls w hE (by omega) hc
def ReadEnd (q:Option (Int × List Nd)) (e:Ending) (w' :World):Prop :=
 match q with
 | none=>e=.returned (.tuple #[.agg #[.int .i64 0,.slice none 0 0],.int .i64 1])
 | some (r,ns)=>∃ a cap,e=.returned (.tuple #[.agg #[.int .i64 r,.slice a ns.length cap],.int .i64 0])∧SlN w' a ns
set_option maxRecDepth 100000 in
theorem read_any (l:List UInt8) (w:World) (hE:Env w) (hl:l.length≤140737488355328) :
 Calls Tryz.prog 19 #[.string (ba l)] w fun e w' =>ReadEnd (readB l) e w' ∧Below w.heap.size w w' :=by
 have hres:readB l=match rdP l with
  | none=>none
  | some (r,ns)=>if chk r ns=0∧showB r ns=l then some (r,ns) else none:=rfl
 have hlo:=loose_any l (w.alloc (.cells z2 24)) (hE.below ((Below.refl _ _).alloc (Nat.le_refl _) _)) hl
 cases hr:rdP l with
 | none =>
  rw [hr] at hres hlo
  go_enter Tryz.func19,Tryz.ntmps19
  go_wp2_with fail
  refine hlo.mono ?_
  rintro e w1 ⟨he,hb1⟩
  have he' :e=.returned (.tuple #[.agg #[.int .i64 0,.slice none 0 0],.bool false]):=he
  subst he'
  have hs1:=hb1.size
  simp only [World.size_alloc] at hs1 hb1
  have hp:=blk_alloc (.cells z2 24) ((hb1.block w.heap.size (by omega)).trans (blkn rfl))
  have hB:=(((Below.refl w.heap.size w).alloc (Nat.le_refl _) (.cells z2 24)).trans (hb1.mono (by omega))).alloc (by omega) (.cells z2 24)
  clear hb1 hlo
  go_wp2_with (refine wpList_plain rfl fun _ hK=>wp_store_row _ _ _ rfl _ z2 rfl rfl _ _ hp z2_size rfl z2_one (hK _ _ ?_))
  refine bodyPost_ret (results_two Tryz.results19 _ _ _ _ _ _ _ (.int .i64 1) rfl (setRow_heap _ _ _ z2 _ _ hp) Tryz.underlying24 rfl z2_size rfl) rfl ⟨?_,hB.trans ⟨rfl,rfl,rfl,by simp,fun k hk=>setRow_other _ _ _ _ (by omega)⟩⟩
  rw [hres];rfl
 | some p =>
  obtain ⟨r,ns⟩:=p
  rw [hr] at hres hlo
  simp only at hres
  have hfit:=rdP_fit hr
  by_cases hc:chk r ns=0
  ·by_cases hsh:showB r ns=l
   ·rw [if_pos ⟨hc,hsh⟩] at hres
    go_enter Tryz.func19,Tryz.ntmps19
    go_wp2_with fail
    refine hlo.mono ?_
    rintro e w1 ⟨⟨a,cap,rfl,ho1⟩,hb1⟩
    have hs1:=hb1.size
    simp only [World.size_alloc] at hs1 hb1
    have hp1:=blk_alloc (.cells #[.int .i64 r,.slice a ns.length cap] 24) ((hb1.block w.heap.size (by omega)).trans (blkn rfl))
    have hB1:=(((Below.refl w.heap.size w).alloc (Nat.le_refl _) (.cells z2 24)).trans (hb1.mono (by omega))).alloc (by omega) (.cells #[.int .i64 r,.slice a ns.length cap] 24)
    have hN1:=(sl_owns ho1).below ((Below.refl w1.heap.size w1).alloc (Nat.le_refl _) (.cells #[.int .i64 r,.slice a ns.length cap] 24))
    have hE1:=hE.below hB1
    have hq1:(w1.alloc (.cells #[.int .i64 r,.slice a ns.length cap] 24)).heap[w1.heap.size]?=some (.cells #[.int .i64 r,.slice a ns.length cap] 24 (0,0)):=blkn rfl
    have hw1:(w1.alloc (.cells #[.int .i64 r,.slice a ns.length cap] 24)).heap.size=w1.heap.size+1:=by simp
    have HO1:=hide (ho1.alloc (.cells #[.int .i64 r,.slice a ns.length cap] 24))
    clear hb1 hlo ho1
    go_wp2_with fail
    refine (show_ok r a cap ns _ hN1 hE1 hfit hc).mono ?_
    rintro e w2 ⟨rfl,hb2⟩
    have hs2:=hb2.size
    have hp2:=(hb2.block _ (by rw [hw1];omega)).trans hp1
    have hq2:=(hb2.block _ (by rw [hw1];omega)).trans hq1
    have hN2:=hN1.below hb2
    have hB2:=hB1.trans (hb2.mono (by rw [hw1];omega))
    have HO2:=hide (ownsRow_below HO1.out hb2 (Nat.le_refl _))
    clear hb2 hp1 hq1 hN1 hB1 hE1 HO1
    rw [hsh]
    have d0:=blk_cell hq2 0
    have d1:=blk_cell hq2 1
    simp at d0 d1
    clear hq2 hw1
    go_wp2_with (refine wpList_plain rfl fun _ hK=>wp_store_row _ _ _ rfl _ #[.int .i64 r,.slice a ns.length cap] rfl rfl _ _ hp2 z2_size rfl (by simp [Value.oneCell']) (hK _ _ ?_))
    refine bodyPost_ret (results_two Tryz.results19 _ _ _ _ _ _ _ (.int .i64 0) rfl (setRow_heap _ _ _ #[.int .i64 r,.slice a ns.length cap] _ _ hp2) Tryz.underlying24 rfl z2_size rfl) rfl ⟨?_,hB2.trans ⟨rfl,rfl,rfl,by simp,fun k hk=>setRow_other _ _ _ _ (by omega)⟩⟩
    rw [hres]
    refine ⟨a,cap,rfl,?_⟩
    exact sl_owns (owns_setRow HO2.out (by simp) _)
   ·rw [if_neg (fun h=>hsh h.2)] at hres
    go_enter Tryz.func19,Tryz.ntmps19
    go_wp2_with fail
    refine hlo.mono ?_
    rintro e w1 ⟨⟨a,cap,rfl,ho1⟩,hb1⟩
    have hs1:=hb1.size
    simp only [World.size_alloc] at hs1 hb1
    have hp1:=blk_alloc (.cells #[.int .i64 r,.slice a ns.length cap] 24) ((hb1.block w.heap.size (by omega)).trans (blkn rfl))
    have hB1:=(((Below.refl w.heap.size w).alloc (Nat.le_refl _) (.cells z2 24)).trans (hb1.mono (by omega))).alloc (by omega) (.cells #[.int .i64 r,.slice a ns.length cap] 24)
    have hN1:=(sl_owns ho1).below ((Below.refl w1.heap.size w1).alloc (Nat.le_refl _) (.cells #[.int .i64 r,.slice a ns.length cap] 24))
    have hE1:=hE.below hB1
    have hq1:(w1.alloc (.cells #[.int .i64 r,.slice a ns.length cap] 24)).heap[w1.heap.size]?=some (.cells #[.int .i64 r,.slice a ns.length cap] 24 (0,0)):=blkn rfl
    have hw1:(w1.alloc (.cells #[.int .i64 r,.slice a ns.length cap] 24)).heap.size=w1.heap.size+1:=by simp
    clear hb1 hlo ho1
    go_wp2_with fail
    refine (show_ok r a cap ns _ hN1 hE1 hfit hc).mono ?_
    rintro e w2 ⟨rfl,hb2⟩
    have hs2:=hb2.size
    have hp2:=(hb2.block _ (by rw [hw1];omega)).trans hp1
    have hq2:=(hb2.block _ (by rw [hw1];omega)).trans hq1
    have hN2:=hN1.below hb2
    have hB2:=hB1.trans (hb2.mono (by rw [hw1];omega))
    clear hb2 hp1 hq1 hN1 hB1 hE1
    have hne:((ba (showB r ns)).toList==(ba l).toList)=false:=by
     rw [ByteArray.toList_eq,ByteArray.toList_eq,ba_list,ba_list]
     simpa using hsh
    generalize ba (showB r ns)=A at hne ⊢
    go_wp2_with (refine wpList_plain rfl fun _ hK=>wp_store_row _ _ _ rfl _ z2 rfl rfl _ _ hp2 z2_size rfl z2_one (hK _ _ ?_))
    refine bodyPost_ret (results_two Tryz.results19 _ _ _ _ _ _ _ (.int .i64 1) rfl (setRow_heap _ _ _ z2 _ _ hp2) Tryz.underlying24 rfl z2_size rfl) rfl ⟨?_,hB2.trans ⟨rfl,rfl,rfl,by simp,fun k hk=>setRow_other _ _ _ _ (by omega)⟩⟩
    first | rfl | (rw [hres];rfl)
  ·rw [if_neg (fun h=>hc h.1)] at hres
   go_enter Tryz.func19,Tryz.ntmps19
   go_wp2_with fail
   refine hlo.mono ?_
   rintro e w1 ⟨⟨a,cap,rfl,ho1⟩,hb1⟩
   have hs1:=hb1.size
   simp only [World.size_alloc] at hs1 hb1
   have hp1:=blk_alloc (.cells #[.int .i64 r,.slice a ns.length cap] 24) ((hb1.block w.heap.size (by omega)).trans (blkn rfl))
   have hB1:=(((Below.refl w.heap.size w).alloc (Nat.le_refl _) (.cells z2 24)).trans (hb1.mono (by omega))).alloc (by omega) (.cells #[.int .i64 r,.slice a ns.length cap] 24)
   have hN1:=(sl_owns ho1).below ((Below.refl w1.heap.size w1).alloc (Nat.le_refl _) (.cells #[.int .i64 r,.slice a ns.length cap] 24))
   have hE1:=hE.below hB1
   have hq1:(w1.alloc (.cells #[.int .i64 r,.slice a ns.length cap] 24)).heap[w1.heap.size]?=some (.cells #[.int .i64 r,.slice a ns.length cap] 24 (0,0)):=blkn rfl
   have hw1:(w1.alloc (.cells #[.int .i64 r,.slice a ns.length cap] 24)).heap.size=w1.heap.size+1:=by simp
   clear hb1 hlo ho1
   go_wp2_with fail
   refine (show_bad r a cap ns _ hN1 hc).mono ?_
   rintro e w2 ⟨rfl,hb2⟩
   have hs2:=hb2.size
   have hp2:=(hb2.block _ (by rw [hw1];omega)).trans hp1
   have hq2:=(hb2.block _ (by rw [hw1];omega)).trans hq1
   have hN2:=hN1.below hb2
   have hB2:=hB1.trans (hb2.mono (by rw [hw1];omega))
   clear hb2 hp1 hq1 hN1 hB1 hE1
   generalize chk r ns=C at hc ⊢
   go_wp2_with (refine wpList_plain rfl fun _ hK=>wp_store_row _ _ _ rfl _ z2 rfl rfl _ _ hp2 z2_size rfl z2_one (hK _ _ ?_))
   refine bodyPost_ret (results_two Tryz.results19 _ _ _ _ _ _ _ (.int .i64 1) rfl (setRow_heap _ _ _ z2 _ _ hp2) Tryz.underlying24 rfl z2_size rfl) rfl ⟨?_,hB2.trans ⟨rfl,rfl,rfl,by simp,fun k hk=>setRow_other _ _ _ _ (by omega)⟩⟩
   first | rfl | (rw [hres];rfl)
end Go.Proofs.YtkkolclmfcmfbaaGreatDoor
namespace Go.Proofs.YtkkolclmfcmfbaaGreatDoor
open Go.RowKit Go.Shelf
attribute [local go_sem] Oper.semAt_some
theorem hide' {p:Prop} (h:p):Hid p:=h
abbrev Ex (x:Nd):={ m:Int // m∈exo x }
def exoA (x:Nd):List (Ex x):=(exo x).attach
def exv {x:Nd} (l:List (Ex x)):List Int:=l.map (·.1)
theorem exv_snoc {x:Nd} (l:List (Ex x)) (y:Ex x):exv (l++[y])=exv l++[y.1]:=by simp [exv]
theorem exoA_map (x:Nd):(exoA x).map (·.1)=exo x:=by simp [exoA]
theorem exv_all (x:Nd):exv (exoA x)=exo x:=exoA_map x
theorem exv_len {x:Nd} (l:List (Ex x)):(exv l).length=l.length:=by simp [exv]
theorem exoA_len (x:Nd):(exoA x).length=(exo x).length:=by simp [exoA]
theorem exo_len (x:Nd):(exo x).length≤2:=by
 unfold exo;repeat' split
 all_goals simp
def NodeBox (w:World) (B:Nat) (x:Nd):Prop:=w.heap[B]?=some (.cells #[.int .i64 x.op,.int .i64 x.d,.int .i64 x.a,.int .i64 x.b,.int .i64 x.t,.int .i64 x.e] 48 (0,0))
theorem NodeBox.lt {w:World} {B:Nat} {x:Nd} (h:NodeBox w B x):B<w.heap.size:=(Array.getElem?_eq_some_iff.1 h).1
theorem NodeBox.c0 {w:World} {B:Nat} {x:Nd} (h:NodeBox w B x):w.cell? ⟨B,0,none⟩=some (.int .i64 x.op):=by simp [World.cell?,show w.heap[B]?=_ from h]
theorem NodeBox.c4 {w:World} {B:Nat} {x:Nd} (h:NodeBox w B x):w.cell? ⟨B,4,none⟩=some (.int .i64 x.t):=by simp [World.cell?,show w.heap[B]?=_ from h]
theorem NodeBox.c5 {w:World} {B:Nat} {x:Nd} (h:NodeBox w B x):w.cell? ⟨B,5,none⟩=some (.int .i64 x.e):=by simp [World.cell?,show w.heap[B]?=_ from h]
theorem NodeBox.below {w w' :World} {B n₀:Nat} {x:Nd} (h:NodeBox w B x) (hb:Below n₀ w w') (hB:B<n₀):NodeBox w' B x:=(hb.block B hB).trans h
structure KT (B:Nat) (A C:World):Prop where
 box:C.heap[B]?=A.heap[B]?
 kinds:∀ (k:Nat) vs fr,A.heap[k]?=some (.cells vs 91 fr)→C.heap[k]?=A.heap[k]?
theorem KT.refl (B:Nat) (A:World):KT B A A:=⟨rfl,fun _ _ _ _=>rfl⟩
theorem KT.trans {B:Nat} {A C E:World} (h:KT B A C) (k:KT B C E):KT B A E :=
 ⟨k.box.trans h.box,fun i vs fr e=>by
  have h1:=h.kinds i vs fr e
  rw [k.kinds i vs fr (h1.trans e),h1]⟩
theorem KT.of_below {B:Nat} {A C:World} (h:Below A.heap.size A C) (hB:B<A.heap.size):KT B A C :=
 ⟨h.block B hB,fun i vs fr e=>h.block i (Array.getElem?_eq_some_iff.1 e).1⟩
theorem KT.grown {B:Nat} {A C:World} {row:Option Nat} (hg:A.grownBy C row) (hB:B<A.heap.size) (hr:∀ g,row=some g→g≠B∧∃ vs t fr,A.heap[g]?=some (.cells vs t fr)∧t≠91):KT B A C :=
 ⟨hg.block B hB fun e=>(hr B e.symm).1 rfl,fun i vs fr e=>hg.block i (Array.getElem?_eq_some_iff.1 e).1 fun e2=>by
  obtain ⟨_,vs', t,fr', h1,h2⟩:=hr i e2.symm
  rw [h1] at e
  cases e
  exact h2 rfl⟩
theorem KT.setCell {B:Nat} {A:World} {b o:Nat} {vs:Array Value} {t:TypeId} {fr:Nat × Nat} (h:A.heap[b]?=some (.cells vs t fr)) (ht:t≠91) (hb:b≠B) (v:Value):KT B A (A.setCell ⟨b,o,none⟩ v) :=
 ⟨Below.heap_setCell _ _ _ B fun e2=>hb e2.symm,fun i vs' fr' e=>Below.heap_setCell _ _ _ i fun e2=>by
  simp only at e2
  subst e2
  rw [h] at e
  cases e
  exact ht rfl⟩
theorem KT.putObj {B:Nat} {w:World} (hB:B<w.heap.size) (W:World) (l:Nat) (o o' :Obj) (hl:w.heap.size≤l) (h:W.heap[l]?=some o) (hc:o.isCells=false) (_:o.isWalk=false):KT B W (W.putObj l o') :=
 ⟨World.putObj_heap_other (by omega),fun i vs fr e=>World.putObj_heap_other fun e2=>by
  subst e2
  rw [h] at e
  cases e
  cases hc⟩
theorem KT.node {B:Nat} {A C:World} {x:Nd} (h:KT B A C) (hx:NodeBox A B x):NodeBox C B x:=h.box.trans hx
theorem k3_ne {op:Int} (h:¬ (0≤op∧op≤11)):(k3 op==3)=false:=by
 have:wi op 0 11=false:=wi_false (by omega)
 simp [k3,this]
theorem k3_eq {op:Int} (h:0≤op∧op≤11):k3 op=3:=by
 simp [k3,wi_true h.1 h.2]
theorem grown_of_below {w w' :World} (h:Below w.heap.size w w') (row:Option Nat):w.grownBy w' row:=⟨h.os,h.tape,h.output,h.size,fun k hk _=>h.block k hk⟩
theorem abides_below {α:Type} {B:Nat} {J:List α→World→Prop} (hJ:AbidesFrom B J) {s:List α} {w w' :World} (h:J s w) (hb:Below w.heap.size w w'):J s w' :=
 hJ s w w' none h (grown_of_below hb none) (fun r e=>by cases e)
theorem exoA_nil {x:Nd} (h:exo x=[]):exoA x=[]:=by
 have:=exoA_len x;rw [h] at this;exact List.eq_nil_of_length_eq_zero this
theorem exoA_one {x:Nd} {a:Int} (h:exo x=[a]):∃ ha:a∈exo x,exoA x=[⟨a,ha⟩]:=by
 refine ⟨by rw [h];simp,?_⟩
 have hm:=(exoA_map x).trans h
 cases e:exoA x with
 | nil=>rw [e] at hm;simp at hm
 | cons y l =>
  rw [e] at hm
  simp only [List.map_cons,List.cons.injEq,List.map_eq_nil_iff] at hm
  obtain ⟨h1,h2⟩:=hm
  subst h2
  congr 1;exact Subtype.ext h1
theorem exoA_two {x:Nd} {a b:Int} (h:exo x=[a,b]):∃ (ha:a∈exo x) (hb:b∈exo x),exoA x=[⟨a,ha⟩,⟨b,hb⟩]:=by
 refine ⟨by rw [h];simp,by rw [h];simp,?_⟩
 have hm:=(exoA_map x).trans h
 cases e:exoA x with
 | nil=>rw [e] at hm;simp at hm
 | cons y l =>
  rw [e] at hm
  cases l with
  | nil=>simp at hm
  | cons z l =>
   simp only [List.map_cons,List.cons.injEq,List.map_eq_nil_iff] at hm
   obtain ⟨h1,h2,h3⟩:=hm
   subst h3
   congr 1
   ·exact Subtype.ext h1
   ·congr 1;exact Subtype.ext h2
set_option maxRecDepth 100000 in
theorem exits1_none (n:Nat) (hn:1≤n) (l B:Nat) (x:Nd) (J Jx:List (Ex x)→World→Prop) (W:World) (hJ:AbidesFrom W.heap.size J)
 (hY:∀ pre (y:Ex x) W,J pre W→pre.length<(exo x).length→YieldAt Fence.wide (n-1) Tryz.prog l #[.int .i64 y.1] W fun e W' =>
  (e=.returned (.bool true)∧J (pre++[y]) W' ∧KT B W W')∨(e=.returned (.bool false)∧Jx (pre++[y]) W'))
 (hx:NodeBox W B x) (h0:J [] W) (h3:¬ (0≤x.op∧x.op≤11)) :
 CallsIn Fence.wide n Tryz.prog 75 #[.func (.yield l) #[] #[],.pointer (some ⟨B,0,none⟩)] W fun e W' =>(∃ v,e=.returned v) ∧
  ((∃ ys,ys=exoA x∧J ys W')∨(∃ pre,pre <+: exoA x∧Jx pre W')):=by
 have c0:=hx.c0
 have hk3:=k3_ne h3
 have hk4:(k4 x.op==3)=false:=by simp [k4];omega
 have hex:exo x=[]:=by
  have e:wi x.op 0 11=false:=wi_false (by omega)
  simp [exo,e];omega
 refine callsIn_of_wp Tryz.func75 rfl trivial ?_ rfl
 simp only [Tryz.ntmps75,List.size_toArray,List.length_cons,List.length_nil,Nat.reduceAdd,Nat.reduceSub,Array.replicate_succ,Array.replicate_zero,List.push_toArray,List.append_toArray,List.nil_append,List.cons_append]
 gi_wp2_with (refine ⟨trivial,?_⟩;gi_at_call 47;refine (callsIn_wide.2 (of_any _ _)).mono ?_;rintro e w1 ⟨rfl,hb1⟩)
 refine ⟨fun _ h=>(by cases h),?_⟩
 gi_wp2
 go_end0
 exact ⟨⟨_,rfl⟩,.inl ⟨_,(exoA_nil hex).symm,abides_below hJ h0 (hb1.alloc hb1.size _)⟩⟩
set_option maxRecDepth 100000 in
theorem exits1_one (n:Nat) (hn:1≤n) (l B:Nat) (x:Nd) (J Jx:List (Ex x)→World→Prop) (W:World) (hJ:AbidesFrom W.heap.size J)
 (hY:∀ pre (y:Ex x) W,J pre W→pre.length<(exo x).length→YieldAt Fence.wide (n-1) Tryz.prog l #[.int .i64 y.1] W fun e W' =>
  (e=.returned (.bool true)∧J (pre++[y]) W' ∧KT B W W')∨(e=.returned (.bool false)∧Jx (pre++[y]) W'))
 (hx:NodeBox W B x) (h0:J [] W) (h3:0≤x.op∧x.op≤10) :
 CallsIn Fence.wide n Tryz.prog 75 #[.func (.yield l) #[] #[],.pointer (some ⟨B,0,none⟩)] W fun e W' =>(∃ v,e=.returned v) ∧
  ((∃ ys,ys=exoA x∧J ys W')∨(∃ pre,pre <+: exoA x∧Jx pre W')):=by
 have c0:=hx.c0
 have hk3:=k3_eq (op:=x.op) (by omega)
 have hk4:(k4 x.op==3)=false:=by simp [k4];omega
 have hex:exo x=[x.t]:=by
  simp only [exo]
  rw [if_neg (by omega),if_pos (wi_true (by omega) (by omega))]
 obtain ⟨ha,hexA⟩:=exoA_one hex
 have HX:=hide' hexA
 have HY:=hide' hY
 have HL:=hide' hex
 clear hexA hY hex
 refine callsIn_of_wp Tryz.func75 rfl trivial ?_ rfl
 simp only [Tryz.ntmps75,List.size_toArray,List.length_cons,List.length_nil,Nat.reduceAdd,Nat.reduceSub,Array.replicate_succ,Array.replicate_zero,List.push_toArray,List.append_toArray,List.nil_append,List.cons_append]
 gi_wp2_with (refine ⟨trivial,?_⟩;gi_at_call 47;refine (callsIn_wide.2 (of_any _ _)).mono ?_;rintro e w1 ⟨rfl,hb1⟩;have hs1:=hb1.size;have c4:w1.cell? ⟨B,4,none⟩=some (.int .i64 x.t):=(hb1.cell (p:=⟨B,4,none⟩) hx.lt).trans hx.c4;have hlt:B<w1.heap.size:=Nat.lt_of_lt_of_le hx.lt hb1.size;have hj1:J [] (w1.alloc (.cells #[.int .i64 (k0 x.op),.int .i64 (k1 x.op),.int .i64 (k2 x.op),.int .i64 3,.int .i64 (k4 x.op)] 91)):=abides_below hJ h0 (hb1.alloc hb1.size _);obtain ⟨fn,tmps,assign,body,hy,hR⟩:=HY.out [] ⟨x.t,ha⟩ _ hj1 (by rw [HL.out];simp);dsimp only at hy)
 refine hR.mono ?_
 rintro e W3 (⟨rfl,hJ3,hk3'⟩ | ⟨rfl,hJx3⟩)
 ·have hz:W3.cell? ⟨w1.heap.size,4,none⟩=some (.int .i64 (k4 x.op)):=by
   have h1:=hk3'.kinds w1.heap.size _ _ (World.alloc_heap_new w1 _)
   rw [World.alloc_heap_new] at h1
   simp [World.cell?,h1]
  gi_wp2
  go_end0
  exact ⟨⟨_,rfl⟩,.inl ⟨_,HX.out.symm,hJ3⟩⟩
 ·gi_wp2
  refine bodyPost_ret (results_none rfl _ _ _) rfl ?_
  exact ⟨⟨_,rfl⟩,.inr ⟨_,by rw [HX.out];simp,hJx3⟩⟩
set_option maxRecDepth 100000 in
theorem exits1_same (n:Nat) (hn:1≤n) (l B:Nat) (x:Nd) (J Jx:List (Ex x)→World→Prop) (W:World) (hJ:AbidesFrom W.heap.size J)
 (hY:∀ pre (y:Ex x) W,J pre W→pre.length<(exo x).length→YieldAt Fence.wide (n-1) Tryz.prog l #[.int .i64 y.1] W fun e W' =>
  (e=.returned (.bool true)∧J (pre++[y]) W' ∧KT B W W')∨(e=.returned (.bool false)∧Jx (pre++[y]) W'))
 (hx:NodeBox W B x) (h0:J [] W) (h3:x.op=11) (he:x.e=x.t) :
 CallsIn Fence.wide n Tryz.prog 75 #[.func (.yield l) #[] #[],.pointer (some ⟨B,0,none⟩)] W fun e W' =>(∃ v,e=.returned v) ∧
  ((∃ ys,ys=exoA x∧J ys W')∨(∃ pre,pre <+: exoA x∧Jx pre W')):=by
 have c0:=hx.c0
 have hk3:=k3_eq (op:=x.op) (by omega)
 have hk4:k4 x.op=3:=by simp [k4,h3]
 have hex:exo x=[x.t]:=by
  simp only [exo]
  rw [if_pos h3,if_pos he]
 obtain ⟨ha,hexA⟩:=exoA_one hex
 have HX:=hide' hexA
 have HY:=hide' hY
 have HL:=hide' hex
 have HE:=hide' he
 have hle:11≤x.op:=by omega
 clear hexA hY hex he h3 hle
 refine callsIn_of_wp Tryz.func75 rfl trivial ?_ rfl
 simp only [Tryz.ntmps75,List.size_toArray,List.length_cons,List.length_nil,Nat.reduceAdd,Nat.reduceSub,Array.replicate_succ,Array.replicate_zero,List.push_toArray,List.append_toArray,List.nil_append,List.cons_append]
 gi_wp2_with (refine ⟨trivial,?_⟩;gi_at_call 47;refine (callsIn_wide.2 (of_any _ _)).mono ?_;rintro e w1 ⟨rfl,hb1⟩;have hs1:=hb1.size;have c4:w1.cell? ⟨B,4,none⟩=some (.int .i64 x.t):=(hb1.cell (p:=⟨B,4,none⟩) hx.lt).trans hx.c4;have hlt:B<w1.heap.size:=Nat.lt_of_lt_of_le hx.lt hb1.size;have hj1:J [] (w1.alloc (.cells #[.int .i64 (k0 x.op),.int .i64 (k1 x.op),.int .i64 (k2 x.op),.int .i64 3,.int .i64 3] 91)):=abides_below hJ h0 (hb1.alloc hb1.size _);obtain ⟨fn,tmps,assign,body,hy,hR⟩:=HY.out [] ⟨x.t,ha⟩ _ hj1 (by rw [HL.out];simp);dsimp only at hy)
 refine hR.mono ?_
 rintro e W3 (⟨rfl,hJ3,hk3'⟩ | ⟨rfl,hJx3⟩)
 ·have hz:W3.cell? ⟨w1.heap.size,4,none⟩=some (.int .i64 3):=by
   have h1:=hk3'.kinds w1.heap.size _ _ (World.alloc_heap_new w1 _)
   rw [World.alloc_heap_new] at h1
   simp [World.cell?,h1]
  have hnb:=hx.below (hb1.alloc hb1.size (.cells #[.int .i64 (k0 x.op),.int .i64 (k1 x.op),.int .i64 (k2 x.op),.int .i64 3,.int .i64 3] 91)) hx.lt
  have q4:W3.cell? ⟨B,4,none⟩=some (.int .i64 x.t):=(hk3'.node hnb).c4
  have q5:W3.cell? ⟨B,5,none⟩=some (.int .i64 x.t):=(hk3'.node hnb).c5.trans (by rw [HE.out])
  gi_wp2
  go_end0
  exact ⟨⟨_,rfl⟩,.inl ⟨_,HX.out.symm,hJ3⟩⟩
 ·gi_wp2
  refine bodyPost_ret (results_none rfl _ _ _) rfl ?_
  exact ⟨⟨_,rfl⟩,.inr ⟨_,by rw [HX.out];simp,hJx3⟩⟩
set_option maxRecDepth 100000 in
theorem exits1_both (n:Nat) (hn:1≤n) (l B:Nat) (x:Nd) (J Jx:List (Ex x)→World→Prop) (W:World) (hJ:AbidesFrom W.heap.size J)
 (hY:∀ pre (y:Ex x) W,J pre W→pre.length<(exo x).length→YieldAt Fence.wide (n-1) Tryz.prog l #[.int .i64 y.1] W fun e W' =>
  (e=.returned (.bool true)∧J (pre++[y]) W' ∧KT B W W')∨(e=.returned (.bool false)∧Jx (pre++[y]) W'))
 (hx:NodeBox W B x) (h0:J [] W) (h3:x.op=11) (he:x.e≠x.t) :
 CallsIn Fence.wide n Tryz.prog 75 #[.func (.yield l) #[] #[],.pointer (some ⟨B,0,none⟩)] W fun e W' =>(∃ v,e=.returned v) ∧
  ((∃ ys,ys=exoA x∧J ys W')∨(∃ pre,pre <+: exoA x∧Jx pre W')):=by
 have c0:=hx.c0
 have hk3:=k3_eq (op:=x.op) (by omega)
 have hk4:k4 x.op=3:=by simp [k4,h3]
 have hex:exo x=[x.t,x.e]:=by
  simp only [exo]
  rw [if_pos h3,if_neg he]
 obtain ⟨ha,hb,hexA⟩:=exoA_two hex
 have hne:(x.e != x.t)=true:=by simpa using he
 have HX:=hide' hexA
 have HY:=hide' hY
 have HL:=hide' hex
 have HE:=hide' he
 have hle:11≤x.op:=by omega
 clear hexA hY hex he h3 hle
 refine callsIn_of_wp Tryz.func75 rfl trivial ?_ rfl
 simp only [Tryz.ntmps75,List.size_toArray,List.length_cons,List.length_nil,Nat.reduceAdd,Nat.reduceSub,Array.replicate_succ,Array.replicate_zero,List.push_toArray,List.append_toArray,List.nil_append,List.cons_append]
 gi_wp2_with (refine ⟨trivial,?_⟩;gi_at_call 47;refine (callsIn_wide.2 (of_any _ _)).mono ?_;rintro e w1 ⟨rfl,hb1⟩;have hs1:=hb1.size;have c4:w1.cell? ⟨B,4,none⟩=some (.int .i64 x.t):=(hb1.cell (p:=⟨B,4,none⟩) hx.lt).trans hx.c4;have hlt:B<w1.heap.size:=Nat.lt_of_lt_of_le hx.lt hb1.size;have hj1:J [] (w1.alloc (.cells #[.int .i64 (k0 x.op),.int .i64 (k1 x.op),.int .i64 (k2 x.op),.int .i64 3,.int .i64 3] 91)):=abides_below hJ h0 (hb1.alloc hb1.size _);obtain ⟨fn,tmps,assign,body,hy,hR⟩:=HY.out [] ⟨x.t,ha⟩ _ hj1 (by rw [HL.out];simp);dsimp only at hy)
 refine hR.mono ?_
 rintro e W3 (⟨rfl,hJ3,hk3'⟩ | ⟨rfl,hJx3⟩)
 ·have hz:W3.cell? ⟨w1.heap.size,4,none⟩=some (.int .i64 3):=by
   have h1:=hk3'.kinds w1.heap.size _ _ (World.alloc_heap_new w1 _)
   rw [World.alloc_heap_new] at h1
   simp [World.cell?,h1]
  have hnb:=hx.below (hb1.alloc hb1.size (.cells #[.int .i64 (k0 x.op),.int .i64 (k1 x.op),.int .i64 (k2 x.op),.int .i64 3,.int .i64 3] 91)) hx.lt
  have q4:W3.cell? ⟨B,4,none⟩=some (.int .i64 x.t):=(hk3'.node hnb).c4
  have q5:W3.cell? ⟨B,5,none⟩=some (.int .i64 x.e):=(hk3'.node hnb).c5
  obtain ⟨fn2,tmps2,assign2,body2,hy2,hR2⟩:=HY.out _ ⟨x.e,hb⟩ _ hJ3 (by have:=congrArg List.length HL.out;simp at this ⊢;omega)
  dsimp only at hy2
  gi_wp2
  refine hR2.mono ?_
  rintro e2 W4 (⟨rfl,hJ4,_⟩ | ⟨rfl,hJx4⟩)
  ·gi_wp2
   go_end0
   exact ⟨⟨_,rfl⟩,.inl ⟨_,HX.out.symm,hJ4⟩⟩
  ·gi_wp2
   go_end0
   exact ⟨⟨_,rfl⟩,.inr ⟨_,by rw [HX.out];simp,hJx4⟩⟩
 ·gi_wp2
  refine bodyPost_ret (results_none rfl _ _ _) rfl ?_
  exact ⟨⟨_,rfl⟩,.inr ⟨_,by rw [HX.out];simp,hJx3⟩⟩
theorem exits_stops (n:Nat) (hn:1≤n) (B:Nat) (x:Nd) (w:World) (hx:NodeBox w B x) :
 SeqStopsK Fence.wide n Tryz.prog 75 #[.pointer (some ⟨B,0,none⟩)] (fun y:Ex x=>#[Value.int .i64 y.1]) (KT B) (fun ys=>ys=exoA x) (fun pre=>pre <+: exoA x) (exo x).length w:=fun l J Jx W hW hJ _ hY h0=>by
 have hx' :NodeBox W B x:=hx.below hW hx.lt
 by_cases h3:0≤x.op∧x.op≤11
 ·by_cases h11:x.op=11
  ·by_cases he:x.e=x.t
   ·exact exits1_same n hn l B x J Jx W hJ hY hx' h0 h11 he
   ·exact exits1_both n hn l B x J Jx W hJ hY hx' h0 h11 he
  ·exact exits1_one n hn l B x J Jx W hJ hY hx' h0 (by omega)
 ·exact exits1_none n hn l B x J Jx W hJ hY hx' h0 h3
theorem exits_in (n:Nat) (op d a b t e:Int) (w:World) :
 CallsIn Fence.wide n Tryz.prog 50 #[.agg #[.int .i64 op,.int .i64 d,.int .i64 a,.int .i64 b,.int .i64 t,.int .i64 e]] w fun r w' =>r=.returned (.func (.func 75) #[] #[.pointer (some ⟨w.heap.size,0,none⟩)])∧w' =w.alloc (.cells #[.int .i64 op,.int .i64 d,.int .i64 a,.int .i64 b,.int .i64 t,.int .i64 e] 48):=by
 refine callsIn_of_wp Tryz.func50 rfl trivial ?_ rfl
 simp only [Tryz.ntmps50,List.size_toArray,List.length_cons,List.length_nil,Nat.reduceAdd,Nat.reduceSub,Array.replicate_succ,Array.replicate_zero,List.push_toArray,List.append_toArray,List.nil_append,List.cons_append]
 gi_wp2
 go_ret
 exact ⟨rfl,rfl⟩
theorem nodeBox_new (w:World) (x:Nd):NodeBox (w.alloc (.cells #[.int .i64 x.op,.int .i64 x.d,.int .i64 x.a,.int .i64 x.b,.int .i64 x.t,.int .i64 x.e] 48)) w.heap.size x:=World.alloc_heap_new w _
theorem KT.appended {W w1:World} {n₀ B N:Nat} {t e:TypeId} {size:Nat} {v v' :Value} {k:Nat} {xs:List Value} {tmp:Obj} (hv1:Boxed w1 B t v) (hte:e≠91) (htt:t≠91) (hrow:W.ownsRow n₀ e size v k xs) (hN:N<W.heap.size) (hNn:N<n₀) (hB:B≠N) (hgrow:(W.alloc tmp).grownBy w1 v.ownBlock):KT N W (w1.setCell ⟨B,0,none⟩ v'):=by
 have h1:KT N W (W.alloc tmp):=KT.of_below ((Below.refl _ W).alloc (Nat.le_refl _) _) hN
 have h2:KT N (W.alloc tmp) w1:=by
  refine KT.grown hgrow (by simp;omega) fun g e' =>?_
  rcases (hrow.alloc tmp).2 with ⟨rfl,_⟩ | ⟨g', cap,cur,rfl,hb,hgb,_⟩
  ·simp [Value.ownBlock] at e'
  ·obtain rfl:g' =g:=by simpa [Value.ownBlock] using e'
   exact ⟨by omega,_,_,_,hgb,hte⟩
 exact (h1.trans h2).trans (KT.setCell (o:=0) hv1 htt hB v')
set_option maxRecDepth 100000 in
theorem appendSeq_in (n:Nat) (hn:3≤n) (B:Nat) (x:Nd) (w:World) (hx:NodeBox w B x) :
 CallsIn Fence.wide n Tryz.prog 171 #[.slice none 0 0,.func (.func 75) #[] #[.pointer (some ⟨B,0,none⟩)]] w fun e W' =>∃ v,e=.returned v∧W'.ownsRow w.heap.size 3 1 v (exo x).length ((exo x).map (Value.int .i64))∧Below w.heap.size w W' :=by
 have h1:1≤n:=by omega
 obtain ⟨i0,hi,hz0,hz1,hz2⟩:=info_parts info_int
 refine callsIn_of_wp_marks Tryz.func171 rfl trivial ?_ rfl
 simp only [Tryz.ntmps171,List.size_toArray,List.length_cons,List.length_nil,Nat.reduceAdd,Nat.reduceSub,Array.replicate_succ,Array.replicate_zero,List.push_toArray,List.append_toArray,List.nil_append,List.cons_append]
 gi_wp2
 have bO:=Boxed.new w 25 (.slice none 0 0)
 have hB0:Below w.heap.size w (w.alloc (.cells #[.slice none 0 0] 25)):=(Below.refl _ w).alloc (Nat.le_refl _) _
 refine wpIn_rangeFunc_ownG rfl h1 (gf:=75) (lb:=#[.pointer (some ⟨B,0,none⟩)]) rfl trivial (enters_of Tryz.func75 (by kernel_rfl) rfl)
  (exits_stops (n-1) (by omega) B x _ (hx.below hB0 hx.lt)) KT.trans (KT.putObj (by have:=hx.lt;simp;omega)) (Below.refl _ _) (fun _=>rfl)
  (fun pre W=>(∃ v,Boxed W w.heap.size 25 v∧W.ownsRow w.heap.size 3 1 v pre.length (pre.map fun y=>Value.int .i64 y.1)∧True)∧Below w.heap.size w W)
  (fun _ _ _=>False)
  (OwnFrom.and (Own.from (holdsRow_own w.heap.size w.heap.size 25 3 1 (fun (pre:List (Ex x))=>pre.length) (fun (pre:List (Ex x))=>pre.map fun y=>Value.int .i64 y.1) (fun pre v=>True)) _) (ownFrom_below (Nat.le_refl _) (by simp)))
  (fun _ _ _ _ _ hs _ _=>hs)
  ⟨⟨_,bO,World.ownsRow_nil _ _ _ _,trivial⟩,hB0⟩
  (fun y=>{ tmps:=#[.slice none 0 0,.func (.func 75) #[] #[.pointer (some ⟨B,0,none⟩)],.pointer (some ⟨w.heap.size,0,none⟩),undef,.slice none 0 0,.int .i64 y.1,.func (.func 75) #[] #[.pointer (some ⟨B,0,none⟩)],.int .i64 y.1,undef,undef,undef,undef,undef],defers:=[] }) ?assign ?body ?done ?stop
 case assign =>
  intro l y W K hK
  gi_wp2
  exact hK
 case body =>
  rintro l pre y W ⟨⟨v,hv,hrow,_⟩,hB⟩ hlt
  have hc:=hv.cell
  have hpl:pre.length<2:=Nat.lt_of_lt_of_le hlt (exo_len x)
  gi_wp2_with (gi_at_builtin;refine wpListIn_append_own _ rfl _ _ 25 rfl w.heap.size 3 i0 (.int .i64 0) 1 8 Tryz.underlying25 hi hz0 hz1 hz2 rfl (by decide) _ _ _ rfl (hrow.alloc _) ⟨W.heap.size,0,none⟩ 1 1 [.int .i64 y.1] rfl rfl (cell_one_new _ _ _) (by simp [Value.oneCell']) (by unfold maxLen;omega) (by omega) (by have:=hB.size;simp;omega) ?_;intro v' w1 hown' hgrow _;obtain ⟨g', cap', rfl⟩:=ownsRow_succ hown'; obtain ⟨hv1,hv2,hr2,hk2,hb2⟩:=hv.appended (by decide) hrow hB.size (Nat.le_refl _) hown' hgrow;have hc1:=hv1.cell;have hf1:=hv1.frozen)
  exact ⟨hk2.from _,KT.appended hv1 (by decide) (by decide) hrow (by have:=hx.lt;have:=hB.size;omega) hx.lt (by have:=hx.lt;omega) hgrow,⟨_,hv2,by simpa using hr2,trivial⟩,hB.trans hb2⟩
 case done =>
  rintro D ys W hD rfl ⟨⟨v,hv,hrow,_⟩,hB⟩ hK
  have hc:=hv.cell
  gi_wp2
  refine ⟨by simp,.inl ⟨_,_,rfl,run_takeDeferred hK,?_⟩⟩
  refine ⟨_,results_tmp rfl _ _ _,v,rfl,?_,hB.trans (belowK_b (w:=w) (Nat.le_refl _) W D _ _ (by simp at hD;omega) hK rfl rfl)⟩
  have h2:=ownsRow_putObj hrow (.deferred none) hK rfl
  have e1:(exoA x).map (fun y=>Value.int .i64 y.1)=(exo x).map (Value.int .i64):=by
   have:=congrArg (List.map (Value.int .i64)) (exoA_map x)
   rw [List.map_map] at this;exact this
  rw [exoA_len,e1] at h2
  exact h2
 case stop =>
  rintro D c pre W _ _ h _
  exact h.elim
theorem collect_in (n:Nat) (hn:4≤n) (B:Nat) (x:Nd) (w:World) (hx:NodeBox w B x) :
 CallsIn Fence.wide n Tryz.prog 142 #[.func (.func 75) #[] #[.pointer (some ⟨B,0,none⟩)]] w fun e W' =>∃ v,e=.returned v∧W'.ownsRow w.heap.size 3 1 v (exo x).length ((exo x).map (Value.int .i64))∧Below w.heap.size w W' :=by
 have h1:1≤n:=by omega
 have hA:=appendSeq_in (n-1) (by omega) B x w hx
 refine callsIn_of_wp Tryz.func142 rfl trivial ?_ rfl
 simp only [Tryz.ntmps142,List.size_toArray,List.length_cons,List.length_nil,Nat.reduceAdd,Nat.reduceSub,Array.replicate_succ,Array.replicate_zero,List.push_toArray,List.append_toArray,List.nil_append,List.cons_append]
 gi_wp2_with (refine ⟨trivial,?_⟩;gi_at_call 171;refine hA.mono ?_;rintro e w1 ⟨v,rfl,hrow,hb⟩)
 go_ret
 exact ⟨v,rfl,hrow,hb⟩
end Go.Proofs.YtkkolclmfcmfbaaGreatDoor
namespace Go.Proofs.YtkkolclmfcmfbaaGreatDoor
open Go.RowKit Go.Maps Go.WideElems Go.ChangeMaps
open Go.WideMaps (KeyLaw)
set_option maxRecDepth 100000 in
theorem own_entry {H:Type} {P:Program} {k e t:TypeId} {w:World} {b n:Nat} {D:DataW H} (h:w.ownsMap P k (plainElem P e) b n D) (K:KeyLaw P k) (ht:P.underlying t=some (.map k e)) (he:P.underlying e=some (.int .i64))
 (hz:∀ u:World,(zeroValue e).run P u=.ok (.int .i64 0) u) (hn:n+1<maxLen) {key:Value} {kl:Lit} (hkey:keyOf P k key=some kl) :
 ∃ (c:Int) (v0:Value) (st:Nat) (es1:Array MapEntry) (clock1:Nat),D.atKey kl (.lit (.int .i64 0))=.lit (.int .i64 c) ∧
  (Instr.lookup t (.map (some b)) key false).run P w=.ok (.int .i64 c) w ∧
  (Instr.mapEntry t (.map (some b)) key).run P w=.ok (.tuple #[v0,goInt st]) (setBlock w b (.map es1 clock1)) ∧
  (Instr.lookup t (.map (some b)) key false).run P (setBlock w b (.map es1 clock1))=.ok (.int .i64 c) (setBlock w b (.map es1 clock1)) ∧
  ∀ val:Int,(Lit.int .i64 val).wf=true→∃ es2 clock2,(Instr.entryStore t (.map (some b)) (goInt st) (.int .i64 val)).run P (setBlock w b (.map es1 clock1))=.ok () (setBlock (setBlock w b (.map es1 clock1)) b (.map es2 clock2)) ∧
   (setBlock (setBlock w b (.map es1 clock1)) b (.map es2 clock2)).ownsMap P k (plainElem P e) b (n+1) (D.put kl (.lit (.int .i64 val))):=by
 have hw0:(Lit.int .i64 0).wf=true:=by decide
 have KK:=Keyed.of_law K
 obtain ⟨c,hrun,hat,hwc⟩:=h.lookup_int KK ht he (hz w) hkey
 have h' :=h
 obtain ⟨es,clock,hb,F,hs,hD⟩:=h
 obtain ⟨v0,st,es1,clock1,hent,hv0,hst⟩:=entry_then_store K ht hz hb F hkey
 have hb1:(setBlock w b (.map es1 clock1)).heap[b]?=some (.map es1 clock1):=heap_setBlock_same hb _
 refine ⟨c,v0,st,es1,clock1,hat,hrun,hent,?_,?_⟩
 ·
  rcases K.find w hkey es.toList F.keys with ⟨h1,h2⟩ | ⟨j,e0,h1,h2,h3⟩
  ·
   have hent2:(Instr.mapEntry t (.map (some b)) key).run P w=.ok (.tuple #[.int .i64 0,goInt clock]) (setBlock w b (.map (es.push ⟨key,.int .i64 0,clock⟩) (clock+1))):=by
    simp [Instr.mapEntry,run_underlying ht,MapKept.run_getObj_map hb,K.check w false hkey,h1,hz,MapKept.run_setObj_map _ hb,Result.andThen,setBlock]
   have hupd:(Instr.mapUpdate t (.map (some b)) key (.int .i64 0)).run P w=.ok () (setBlock w b (.map (es.push ⟨key,.int .i64 0,clock⟩) (clock+1))):=by
    simp [Instr.mapUpdate,run_underlying ht,MapKept.run_getObj_map hb,K.check w false hkey,h1,MapKept.run_setObj_map _ hb,Result.andThen,setBlock]
   obtain ⟨w', hrun', hown', _⟩:=h'.update KK ht (by omega) hkey (plainElem_int he hw0)
   rw [hent2] at hent
   rw [hupd] at hrun'
   obtain ⟨e1,e2⟩:=Result.ok.inj hent
   obtain ⟨e3,e4⟩:=Result.ok.inj hrun'
   rw [← e2,e4]
   obtain ⟨c', hrun2,hat2,_⟩:=hown'.lookup_int KK ht he (hz _) hkey
   have hm:IsMap D:=⟨_,hD⟩
   rw [atKey_put_same hm (KK.key hkey)] at hat2
   have hc0:c=0:=by
    rcases fit_look false KK ht (hz w) hb F hkey with ⟨_,_,ha⟩ | ⟨e0,y,hm0,hk0,_⟩
    ·rw [hD,ha] at hat;exact ((Lit.int.inj (DataW.lit.inj hat)).2).symm
    ·exact absurd hk0 (h2 e0 hm0)
   have hc' :c' =0:=((Lit.int.inj (DataW.lit.inj hat2)).2).symm
   rw [hc0];rw [hc'] at hrun2;exact hrun2
  ·
   have hj:es[j]?=some e0:=by simpa using h2
   have hsame:es.modify j (fun e=>{ e with key:=key })=es:=by
    apply Array.ext'
    rw [Array.toList_modify,modify_eq_set _ _ _ _ h2]
    have:({ e0 with key:=key }:MapEntry)=e0:=by rw [← h3]
    rw [this]
    exact set_self _ _ _ h2
   have hent2:(Instr.mapEntry t (.map (some b)) key).run P w=.ok (.tuple #[e0.val,goInt e0.born]) (setBlock w b (.map es clock)):=by
    simp [Instr.mapEntry,run_underlying ht,MapKept.run_getObj_map hb,K.check w false hkey,h1,hj,h3,K.stays w hkey,hsame,MapKept.run_setObj_map _ hb,Result.andThen,setBlock]
   rw [hent2] at hent
   obtain ⟨e1,e2⟩:=Result.ok.inj hent
   rw [← e2]
   have hown1:(setBlock w b (.map es clock)).ownsMap P k (plainElem P e) b n D:=⟨es,clock,heap_setBlock_same hb _,F,hs,hD⟩
   obtain ⟨c', hrun2,hat2,_⟩:=hown1.lookup_int KK ht he (hz _) hkey
   rw [hat] at hat2
   have q:=(Lit.int.inj (DataW.lit.inj hat2)).2
   rw [q];exact hrun2
 ·intro val hwv
  obtain ⟨es2,clock2,hs2,hu2⟩:=hst (setBlock w b (.map es1 clock1)) (.int .i64 val) hb1
  refine ⟨es2,clock2,hs2,?_⟩
  obtain ⟨w', hrun', hown', _⟩:=h'.update KK ht (by omega) hkey (plainElem_int he hwv)
  rw [hu2] at hrun'
  obtain ⟨_,e4⟩:=Result.ok.inj hrun'
  rw [← e4] at hown'
  obtain ⟨es3,clock3,hb3,F3,hs3,hD3⟩:=hown'
  refine ⟨es3,clock3,?_,F3,hs3,hD3⟩
  rw [heap_setBlock_same hb] at hb3
  rw [heap_setBlock_same hb1];exact hb3
theorem tlaw:KeyLaw Tryz.prog 57:=deep_law_laid (m:=4) (by kernel_rfl) (by omega) (of_decide_eq_true (by kernel_rfl)) (by kernel_rfl) (by kernel_rfl)
def tkl (t:Tm):Lit:=.string (keyBytes [.int .i64 t.op,.int .i64 t.a,.int .i64 t.b])
theorem types_pos:∃ m,Tryz.prog.types.size+1=m+2:=⟨Tryz.prog.types.size-1,by have:1≤Tryz.prog.types.size:=of_decide_eq_true (by kernel_rfl);omega⟩
theorem lits_int (d:Nat) (n:Int) (h:(Lit.int .i64 n).wf=true):Tryz.prog.keyLits (d+1) 3 [.int .i64 n]=some [.int .i64 n]:=by
 simp [Program.keyLits,Tryz.underlying3,h]
theorem tformed (x y z:Int):Value.formed Tryz.prog 57 (.agg #[.int .i64 x,.int .i64 y,.int .i64 z])=true:=by kernel_rfl
set_option maxRecDepth 100000 in
theorem tkey (t:Tm) (h0:(Lit.int .i64 t.op).wf=true) (h1:(Lit.int .i64 t.a).wf=true) (h2:(Lit.int .i64 t.b).wf=true):keyOf Tryz.prog 57 (.agg #[.int .i64 t.op,.int .i64 t.a,.int .i64 t.b])=some (tkl t):=by
 have hk:Tryz.prog.keyType 57=true:=by kernel_rfl
 have hc:Tryz.prog.cellsOf 57=3:=by kernel_rfl
 have hci:Tryz.prog.cellsOf 3=1:=by kernel_rfl
 obtain ⟨m,hm⟩:=types_pos
 have hl:Tryz.prog.keyLits (Tryz.prog.types.size+1) 57 [.int .i64 t.op,.int .i64 t.a,.int .i64 t.b]=some [.int .i64 t.op,.int .i64 t.a,.int .i64 t.b]:=by
  rw [hm]
  unfold Program.keyLits
  simp [Tryz.underlying57,hc,hci,lits_int,h0,h1,h2]
 unfold keyOf
 rw [Tryz.underlying57]
 simp only [hk,tformed,Bool.and_self,if_true]
 show (Tryz.prog.keyLits (Tryz.prog.types.size+1) 57 [.int .i64 t.op,.int .i64 t.a,.int .i64 t.b]).map _=_
 rw [hl];rfl
theorem zero_int (u:World):(zeroValue 3).run Tryz.prog u=.ok (.int .i64 0) u:=by kernel_rfl
end Go.Proofs.YtkkolclmfcmfbaaGreatDoor
namespace Go.Proofs.YtkkolclmfcmfbaaGreatDoor
open Go.RowKit Go.Maps Go.ChangeMaps
structure Keeps (A:List Nat) (w w' :World):Prop where
 os:w'.os=w.os
 tape:w'.tape=w.tape
 output:w'.output=w.output
 size:w.heap.size≤w'.heap.size
 block:∀ k,k<w.heap.size→k∉A→w'.heap[k]?=w.heap[k]?
theorem Keeps.refl (A:List Nat) (w:World):Keeps A w w:=⟨rfl,rfl,rfl,Nat.le_refl _,fun _ _ _=>rfl⟩
theorem Keeps.trans {A:List Nat} {a b c:World} (h:Keeps A a b) (k:Keeps A b c):Keeps A a c :=
 ⟨k.os.trans h.os,k.tape.trans h.tape,k.output.trans h.output,Nat.le_trans h.size k.size,fun i hi hA=>(k.block i (Nat.lt_of_lt_of_le hi h.size) hA).trans (h.block i hi hA)⟩
theorem Keeps.mono {A A' :List Nat} {a b:World} (h:Keeps A a b) (hA:∀ x∈A,x∈A'):Keeps A' a b :=
 ⟨h.os,h.tape,h.output,h.size,fun i hi hn=>h.block i hi (fun hx=>hn (hA i hx))⟩
theorem Keeps.drew {A:List Nat} {a w:World} (h:Keeps A a w):Keeps A a w.drew:=⟨h.os,h.tape,h.output,h.size,h.block⟩
theorem Keeps.drewN {A:List Nat} {a w:World} (h:Keeps A a w) (n:Nat):Keeps A a (w.drewN n):=⟨h.os,h.tape,h.output,h.size,h.block⟩
theorem Keeps.alloc {A:List Nat} {a w:World} (h:Keeps A a w) (o:Obj):Keeps A a (w.alloc o) :=
 ⟨h.os,h.tape,h.output,by simp;have:=h.size;omega,fun k hk hA=>by rw [Below.heap_alloc _ _ _ (Nat.lt_of_lt_of_le hk h.size)];exact h.block k hk hA⟩
theorem Keeps.setCell {A:List Nat} {a w:World} (h:Keeps A a w) {p:Addr} (hp:p.block∈A) (u:Value):Keeps A a (w.setCell p u) :=
 ⟨h.os,h.tape,h.output,by simp [World.setCell];exact h.size,fun k hk hA=>by rw [Below.heap_setCell w p u k (fun e=>hA (by rw [e];exact hp))];exact h.block k hk hA⟩
theorem Keeps.setBlock {A:List Nat} {a w:World} (h:Keeps A a w) {b:Nat} {es:Array MapEntry} {clock:Nat} (hb:w.heap[b]?=some (.map es clock)) (hp:b∈A) (o:Obj):Keeps A a (ChangeMaps.setBlock w b o) :=
 ⟨h.os,h.tape,h.output,by simp [ChangeMaps.setBlock];exact h.size,fun k hk hA=>by rw [heap_setBlock_other (i:=k) hb o (fun e=>hA (by rw [e];exact hp))];exact h.block k hk hA⟩
theorem Keeps.of_below {A:List Nat} {w w' :World} (h:Below w.heap.size w w'):Keeps A w w' :=⟨h.os,h.tape,h.output,h.size,fun k hk _=>h.block k hk⟩
theorem Keeps.below {A:List Nat} {w w' :World} (h:Keeps A w w') {B:Nat} (hA:∀ x∈A,B≤x) (hB:B≤w.heap.size):Below B w w' :=
 ⟨h.os,h.tape,h.output,h.size,fun k hk=>h.block k (Nat.lt_of_lt_of_le hk hB) (fun hx=>by have:=hA k hx;omega)⟩
theorem Keeps.cell {A:List Nat} {w w' :World} (h:Keeps A w w') {b i:Nat} (hb:b<w.heap.size) (hA:b∉A):w'.cell? ⟨b,i,none⟩=w.cell? ⟨b,i,none⟩:=World.cell?_of_block (w:=w) (h.block b hb hA)
theorem Keeps.owns {A:List Nat} {w w' :World} (h:Keeps A w w') {base:Nat} {e:TypeId} {size:Nat} {v:Value} {n:Nat} {xs:List Value} (ho:w.ownsRow base e size v n xs) (hA:∀ x∈A,x<base):w'.ownsRow base e size v n xs:=by
 obtain ⟨hl,ho⟩:=ho
 refine ⟨hl,?_⟩
 rcases ho with ho | ⟨g,cap,cur,rfl,h1,h2,h3⟩
 ·exact Or.inl ho
 ·refine Or.inr ⟨g,cap,cur,rfl,h1,?_,h3⟩
  rw [h.block g (blk_lt h2) (fun hx=>by have:=hA g hx;omega)];exact h2
theorem own_at {w w' :World} {b n:Nat} {D:DataW Unit} (h:w.ownsMap Tryz.prog 57 (plainElem Tryz.prog 3) b n D) (he:w'.heap[b]?=w.heap[b]?):w'.ownsMap Tryz.prog 57 (plainElem Tryz.prog 3) b n D:=by
 obtain ⟨es,clock,hb,F,hs,hD⟩:=h
 exact ⟨es,clock,by rw [he];exact hb,F,hs,hD⟩
theorem small_wf {n:Int} (h0:0≤n) (h1:n≤1000000):(Lit.int .i64 n).wf=true:=by
 simp [Lit.wf,IntKind.min,IntKind.max,IntKind.signed,IntKind.bits];omega
set_option maxRecDepth 100000 in
theorem reckonM_any (mb rb mp:Nat) (v0 v1 v2 v3 v4 v5 v6 v7:Value) (rc:Nat) (ra:Array Value) (regs:List Int) (n:Nat) (D:DataW Unit) (x:Nd) (w:World)
 (hm:w.heap[mb]?=some (.cells #[v0,v1,v2,v3,v4,v5,v6,v7,.slice (some ⟨rb,0,none⟩) regs.length rc,.map (some mp)] 61 (0,0)))
 (hr:w.heap[rb]?=some (.cells (regs.map (Value.int .i64)).toArray 3 (0,0)))
 (ho:w.ownsMap Tryz.prog 57 (plainElem Tryz.prog 3) mp n D) (hn:n≤1000000) (hne:mb≠rb∧mb≠mp∧rb≠mp)
 (hop:3≤x.op∧x.op≤8) (hd:0≤x.d∧x.d<regs.length) (ha:0≤x.a∧x.a<regs.length) (hb:0≤x.b∧x.b<regs.length) (hl:regs.length≤64) :
 Calls Tryz.prog 42 #[.pointer (some ⟨mb,0,none⟩),.agg #[.int .i64 x.op,.int .i64 x.d,.int .i64 x.a,.int .i64 x.b,.int .i64 x.t,.int .i64 x.e]] w fun e w' =>e=.returned (.tuple #[]) ∧
  w'.heap[rb]?=some (.cells ((setR regs x.d (rk x.op (getR regs x.a) (getR regs x.b))).map (Value.int .i64)).toArray 3 (0,0)) ∧
  (∃ c:Int,D.atKey (tkl (tmOf x)) (.lit (.int .i64 0))=.lit (.int .i64 c)∧w'.ownsMap Tryz.prog 57 (plainElem Tryz.prog 3) mp (n+1) (D.put (tkl (tmOf x)) (.lit (.int .i64 (wrap64 (c+1)))))) ∧
  Keeps [rb,mp] w w' :=by
 obtain ⟨hd0,hd1⟩:=hd
 obtain ⟨ha0,ha1⟩:=ha
 obtain ⟨hb0,hb1⟩:=hb
 obtain ⟨dn,hdn⟩:=Int.eq_ofNat_of_zero_le hd0
 obtain ⟨an,han⟩:=Int.eq_ofNat_of_zero_le ha0
 obtain ⟨bn,hbn⟩:=Int.eq_ofNat_of_zero_le hb0
 obtain ⟨op,d,a,b,t,e⟩:=x
 simp only at *
 subst hdn han hbn
 have ho1:=hop.1
 have ho2:=hop.2
 have hml:=blk_lt hm
 have hrl:=blk_lt hr
 have m8:=blk_cell hm 8
 have m9:=blk_cell hm 9
 simp at m8 m9
 have ra' :=blk_cell hr an
 have rb' :=blk_cell hr bn
 have rd' :=blk_cell hr dn
 have rf' :=blk_frozen hr dn
 have hza:((regs.map (Value.int .i64)).toArray)[an]?=some (.int .i64 (getR regs (an:Int))):=by simp [getR];rw [List.getElem?_eq_getElem (by omega)];simp
 have hzb:((regs.map (Value.int .i64)).toArray)[bn]?=some (.int .i64 (getR regs (bn:Int))):=by simp [getR];rw [List.getElem?_eq_getElem (by omega)];simp
 have hzd:((regs.map (Value.int .i64)).toArray)[dn]?=some (.int .i64 (getR regs (dn:Int))):=by simp [getR];rw [List.getElem?_eq_getElem (by omega)];simp
 rw [hza] at ra'
 rw [hzb] at rb'
 rw [hzd] at rd'
 clear hza hzb hzd
 go_enter Tryz.func42,Tryz.ntmps42
 go_wp2_with fail
 refine (term_yes _ _ _ _ _ _ _ ho1 ho2).mono ?_
 rintro e1 w1 ⟨rfl,hb1⟩
 have hs1:=hb1.size
 simp only [World.size_alloc] at hs1 hb1
 go_wp2
 have hne1:=hne.1
 have hne2:=hne.2.1
 have hne3:=hne.2.2
 have K1:Keeps [] w (w1.alloc (.cells #[.int .i64 op,.int .i64 an,.int .i64 bn] 57)):=(((Keeps.refl [] w).alloc _).trans (Keeps.of_below (by simpa using hb1))).alloc _
 have n1:(w1.alloc (.cells #[.int .i64 op,.int .i64 an,.int .i64 bn] 57)).cell? ⟨w.heap.size,1,none⟩=some (.int .i64 dn):=by
  rw [World.cell?_alloc_past _ _ _ (by omega),hb1.cell (p:=⟨w.heap.size,1,none⟩) (by simp)];simp
 have t0:(w1.alloc (.cells #[.int .i64 op,.int .i64 an,.int .i64 bn] 57)).cell? ⟨w1.heap.size,0,none⟩=some (.int .i64 op):=by simp
 have t1:(w1.alloc (.cells #[.int .i64 op,.int .i64 an,.int .i64 bn] 57)).cell? ⟨w1.heap.size,1,none⟩=some (.int .i64 an):=by simp
 have t2:(w1.alloc (.cells #[.int .i64 op,.int .i64 an,.int .i64 bn] 57)).cell? ⟨w1.heap.size,2,none⟩=some (.int .i64 bn):=by simp
 have hw1w:w.heap.size<w1.heap.size:=by omega
 have hs1' :w1.heap.size<(w1.alloc (.cells #[.int .i64 op,.int .i64 an,.int .i64 bn] 57)).heap.size:=by simp
 clear hb1
 generalize w1.alloc (.cells #[.int .i64 op,.int .i64 an,.int .i64 bn] 57)=W1 at K1 n1 t0 t1 t2 hs1' ⊢
 have hmp:mp<w.heap.size:=ho.lt
 have m8' :=(K1.cell (i:=8) hml (by simp)).trans m8
 have m9' :=(K1.cell (i:=9) hml (by simp)).trans m9
 have ra1:=(K1.cell (i:=an) hrl (by simp)).trans ra'
 have rb1:=(K1.cell (i:=bn) hrl (by simp)).trans rb'
 have rd1:=(K1.cell (i:=dn) hrl (by simp)).trans rd'
 have hr1:W1.heap[rb]?=_:=(K1.block rb hrl (by simp)).trans hr
 have rf1:=blk_frozen hr1 dn
 have ho' :=own_at ho (K1.block mp hmp (by simp))
 clear m8 m9 ra' rb' rd' rf'
 refine wp_region_still_tail 26 (by kernel_rfl) (by kernel_rfl) ?_
 simp only [List.take_succ_cons,List.take_zero,List.drop_succ_cons,List.drop_zero]
 repeat still_step
 still_call (value_any _ _ _ _)
 repeat still_step
 refine wpStill_nil ?_
 go_wp2
 have K2:Keeps [rb,mp] w (W1.setCell ⟨rb,dn,none⟩ (.int .i64 (rk op (getR regs an) (getR regs bn)))).drew:=((K1.mono (by simp)).setCell (p:=⟨rb,dn,none⟩) (by simp) _).drew
 have hr2:(W1.setCell ⟨rb,dn,none⟩ (.int .i64 (rk op (getR regs an) (getR regs bn)))).drew.heap[rb]?=some (.cells ((setR regs dn (rk op (getR regs an) (getR regs bn))).map (Value.int .i64)).toArray 3 (0,0)):=by
  have h2:=blk_set (i:=dn) (.int .i64 (rk op (getR regs an) (getR regs bn))) hr1
  rw [show (setR regs (dn:Int) (rk op (getR regs an) (getR regs bn)))=regs.set dn (rk op (getR regs an) (getR regs bn)) from rfl]
  rw [List.map_set]
  have h3:(W1.setCell ⟨rb,dn,none⟩ (.int .i64 (rk op (getR regs an) (getR regs bn)))).heap[rb]?=_:=h2
  show (W1.setCell ⟨rb,dn,none⟩ (.int .i64 (rk op (getR regs an) (getR regs bn)))).heap[rb]?=_
  rw [h3];simp
 have ho2' :=own_at (w' :=(W1.setCell ⟨rb,dn,none⟩ (.int .i64 (rk op (getR regs an) (getR regs bn)))).drew) ho' (Below.heap_setCell _ _ _ _ (by exact fun e=>hne3 e.symm))
 have m92:(W1.setCell ⟨rb,dn,none⟩ (.int .i64 (rk op (getR regs an) (getR regs bn)))).drew.cell? ⟨mb,9,none⟩=some (.map (some mp)):=(World.cell?_of_block (w:=W1) (Below.heap_setCell _ _ _ _ (by exact hne1))).trans m9'
 have htb:w1.heap.size≠rb:=by omega
 have t02:(W1.setCell ⟨rb,dn,none⟩ (.int .i64 (rk op (getR regs an) (getR regs bn)))).drew.cell? ⟨w1.heap.size,0,none⟩=some (.int .i64 op):=(World.cell?_of_block (w:=W1) (Below.heap_setCell _ _ _ _ (by exact htb))).trans t0
 have t12:(W1.setCell ⟨rb,dn,none⟩ (.int .i64 (rk op (getR regs an) (getR regs bn)))).drew.cell? ⟨w1.heap.size,1,none⟩=some (.int .i64 an):=(World.cell?_of_block (w:=W1) (Below.heap_setCell _ _ _ _ (by exact htb))).trans t1
 have t22:(W1.setCell ⟨rb,dn,none⟩ (.int .i64 (rk op (getR regs an) (getR regs bn)))).drew.cell? ⟨w1.heap.size,2,none⟩=some (.int .i64 bn):=(World.cell?_of_block (w:=W1) (Below.heap_setCell _ _ _ _ (by exact htb))).trans t2
 have htm:w1.heap.size≠mp:=by omega
 clear m8' m9' ra1 rb1 rd1 hr1 rf1 ho' n1 t0 t1 t2 hs1' K1
 generalize (W1.setCell ⟨rb,dn,none⟩ (.int .i64 (rk op (getR regs an) (getR regs bn)))).drew=W2 at K2 hr2 ho2' m92 t02 t12 t22 ⊢
 have hkey:=tkey (tmOf ⟨op,dn,an,bn,t,e⟩) (small_wf (by simp [tmOf];omega) (by simp [tmOf];omega)) (small_wf (by simp [tmOf]) (by simp [tmOf];omega)) (small_wf (by simp [tmOf]) (by simp [tmOf];omega))
 have hod:W2.drew.ownsMap Tryz.prog 57 (plainElem (H:=Unit) Tryz.prog 3) mp n D:=ho2'
 obtain ⟨c,v0', st,es1,clock1,hat,hlook,hent,hlook2,hstore⟩:=own_entry hod tlaw Tryz.underlying59 Tryz.underlying3 zero_int (by unfold maxLen;omega) hkey
 obtain ⟨es2,clock2,hst,hown⟩:=hstore (wrap64 (c+1)) (wrap64_wf _)
 have hst' :Sem.run Tryz.prog (Instr.entryStore 59 (.map (some mp)) (.int .i64 (st:Int)) (.int .i64 (IntKind.i64.wrap (c+1)))) (setBlock W2.drew mp (.map es1 clock1))=.ok () (setBlock (setBlock W2.drew mp (.map es1 clock1)) mp (.map es2 clock2)):=by rw [IntWalk.i64_left];exact hst
 clear hst
 obtain ⟨es0,clock0,hbm,_⟩:=hod
 have hbm' :(setBlock W2.drew mp (.map es1 clock1)).heap[mp]?=some (.map es1 clock1):=heap_setBlock_same hbm _
 have K3:Keeps [rb,mp] w (setBlock (setBlock W2.drew mp (.map es1 clock1)) mp (.map es2 clock2)):=(K2.drew.setBlock hbm (by simp) _).setBlock hbm' (by simp) _
 have hr3:(setBlock (setBlock W2.drew mp (.map es1 clock1)) mp (.map es2 clock2)).heap[rb]?=_:=((heap_setBlock_other hbm' _ hne3).trans (heap_setBlock_other hbm _ hne3)).trans hr2
 have HD:=hide (And.intro hr3 (And.intro hat (And.intro hown K3)))
 have S1:=hide (And.intro m92 (And.intro t02 (And.intro t12 t22)))
 have S2:Hid ((setBlock W2.drew mp (.map es1 clock1)).cell? ⟨mb,9,none⟩=some (.map (some mp))∧(setBlock W2.drew mp (.map es1 clock1)).cell? ⟨w1.heap.size,0,none⟩=some (.int .i64 op)∧(setBlock W2.drew mp (.map es1 clock1)).cell? ⟨w1.heap.size,1,none⟩=some (.int .i64 an)∧(setBlock W2.drew mp (.map es1 clock1)).cell? ⟨w1.heap.size,2,none⟩=some (.int .i64 bn)) :=
  ⟨(World.cell?_of_block (w:=W2.drew) (heap_setBlock_other hbm _ hne2)).trans m92,(World.cell?_of_block (w:=W2.drew) (heap_setBlock_other hbm _ htm)).trans t02,(World.cell?_of_block (w:=W2.drew) (heap_setBlock_other hbm _ htm)).trans t12,(World.cell?_of_block (w:=W2.drew) (heap_setBlock_other hbm _ htm)).trans t22⟩
 have S3:Hid ((setBlock (setBlock W2.drew mp (.map es1 clock1)) mp (.map es2 clock2)).cell? ⟨mb,9,none⟩=some (.map (some mp))∧(setBlock (setBlock W2.drew mp (.map es1 clock1)) mp (.map es2 clock2)).cell? ⟨w1.heap.size,0,none⟩=some (.int .i64 op)∧(setBlock (setBlock W2.drew mp (.map es1 clock1)) mp (.map es2 clock2)).cell? ⟨w1.heap.size,1,none⟩=some (.int .i64 an)∧(setBlock (setBlock W2.drew mp (.map es1 clock1)) mp (.map es2 clock2)).cell? ⟨w1.heap.size,2,none⟩=some (.int .i64 bn)) :=
  ⟨(World.cell?_of_block (w:=setBlock W2.drew mp (.map es1 clock1)) (heap_setBlock_other hbm' _ hne2)).trans S2.out.1,(World.cell?_of_block (w:=setBlock W2.drew mp (.map es1 clock1)) (heap_setBlock_other hbm' _ htm)).trans S2.out.2.1,(World.cell?_of_block (w:=setBlock W2.drew mp (.map es1 clock1)) (heap_setBlock_other hbm' _ htm)).trans S2.out.2.2.1,(World.cell?_of_block (w:=setBlock W2.drew mp (.map es1 clock1)) (heap_setBlock_other hbm' _ htm)).trans S2.out.2.2.2⟩
 simp only [tmOf] at hlook hent hlook2
 clear hstore hbm hbm' hr3 hat hown K3 K2 hr2 ho2' hkey
 go_region_held3 (fun u=>u.cell? ⟨mb,9,none⟩=some (.map (some mp))∧u.cell? ⟨w1.heap.size,0,none⟩=some (.int .i64 op)∧u.cell? ⟨w1.heap.size,1,none⟩=some (.int .i64 an)∧u.cell? ⟨w1.heap.size,2,none⟩=some (.int .i64 bn)) (first | exact S1.out | exact S2.out | exact S3.out) (fail)
 all_goals go_wp2
 all_goals go_end0
 all_goals exact ⟨rfl,HD.out.1,⟨c,HD.out.2.1,HD.out.2.2.1⟩,HD.out.2.2.2⟩
end Go.Proofs.YtkkolclmfcmfbaaGreatDoor
namespace Go.Proofs.YtkkolclmfcmfbaaGreatDoor
open Go.RowKit Go.Shelf
structure RowsAt (w:World) (base rb L:Nat) (vs:List Value) (f:Nat→List Int):Prop where
 blk:w.heap[rb]?=some (.cells vs.toArray 25 (0,0))
 len:vs.length=L
 own:∀ (m:Nat) (v:Value),vs[m]?=some v→w.ownsRow base 3 1 v (f m).length ((f m).map (Value.int .i64))
 apart:∀ (m1 m2:Nat) (v1 v2:Value) (g:Nat),vs[m1]?=some v1→vs[m2]?=some v2→v1.ownBlock=some g→v2.ownBlock=some g→m1=m2
theorem owns_ne_ty {w:World} {base b:Nat} {e t:TypeId} {size:Nat} {v:Value} {n:Nat} {xs:List Value} {vs:Array Value} (h:w.ownsRow base e size v n xs) (hb:w.heap[b]?=some (.cells vs t (0,0))) (hte:t≠e):some b≠v.ownBlock:=by
 rcases h.2 with ⟨rfl,_⟩ | ⟨g,cap,cur,rfl,_,hgb,_⟩
 ·simp [Value.ownBlock]
 ·intro e'
  obtain rfl:b=g:=by simpa [Value.ownBlock] using e'
  rw [hb] at hgb
  cases hgb
  exact hte rfl
theorem RowsAt.kept {w w' :World} {base rb L:Nat} {vs:List Value} {f:Nat→List Int} (h:RowsAt w base rb L vs f) {row:Option Nat} (hg:w.grownBy w' row) (hr:∀ r,row=some r→∃ o:Obj,w.heap[r]?=some o∧o.isCells=false):RowsAt w' base rb L vs f:=by
 refine ⟨?_,h.len,fun m v hv=>?_,h.apart⟩
 ·rw [hg.block rb (Array.getElem?_eq_some_iff.1 h.blk).1 (fun e=>by
   obtain ⟨o,h1,h2⟩:=hr rb e.symm
   rw [h.blk] at h1;cases h1;cases h2)]
  exact h.blk
 ·refine (h.own m v hv).kept hg ?_
  rcases (h.own m v hv).2 with ⟨rfl,_⟩ | ⟨g,cap,cur,rfl,_,hgb,_⟩
  ·exact .inl rfl
  ·refine .inr fun e=>?_
   obtain ⟨o,h1,h2⟩:=hr g (by simpa [Value.ownBlock] using e.symm)
   rw [hgb] at h1;cases h1;cases h2
theorem RowsAt.below {w w' :World} {base rb L:Nat} {vs:List Value} {f:Nat→List Int} (h:RowsAt w base rb L vs f) (hb:Below w.heap.size w w'):RowsAt w' base rb L vs f :=
 h.kept (grown_of_below hb none) (fun r e=>by cases e)
theorem RowsAt.grow {w w1:World} {base rb L:Nat} {vs:List Value} {f f' :Nat→List Int} (h:RowsAt w base rb L vs f) {m:Nat} {v:Value} (hv:vs[m]?=some v) {g cap:Nat}
 (hg:w.grownBy w1 v.ownBlock) (hat:v.ownBlock=some g∨w.heap.size≤g) (hown:w1.ownsRow base 3 1 (.slice (some ⟨g,0,none⟩) (f' m).length cap) (f' m).length ((f' m).map (Value.int .i64)))
 (hf:∀ j,j≠m→f' j=f j):RowsAt (w1.setCell ⟨rb,m,none⟩ (.slice (some ⟨g,0,none⟩) (f' m).length cap)) base rb L (vs.set m (.slice (some ⟨g,0,none⟩) (f' m).length cap)) f' :=by
 have hml:m<vs.length:=(List.getElem?_eq_some_iff.1 hv).1
 have hr1:w1.heap[rb]?=some (.cells vs.toArray 25 (0,0)):=(hg.block rb (Array.getElem?_eq_some_iff.1 h.blk).1 (owns_ne_ty (h.own m v hv) h.blk (by decide))).trans h.blk
 have hlt:∀ (j:Nat) (u:Value) (k:Nat),vs[j]?=some u→u.ownBlock=some k→k<w.heap.size:=fun j u k hj hk=>((h.own j u hj).lt k hk).2
 have hset:∀ {e:TypeId} {v' :Value} {n:Nat} {xs:List Value},w1.ownsRow base 3 1 v' n xs→(w1.setCell ⟨rb,m,none⟩ (.slice (some ⟨g,0,none⟩) (f' m).length cap)).ownsRow base 3 1 v' n xs:=by
  intro e v' n xs h2
  have hne:=owns_ne_ty h2 hr1 (by decide)
  obtain ⟨hl,h3⟩:=h2
  refine ⟨hl,?_⟩
  rcases h3 with h3 | ⟨g', cap', cur', rfl,a1,a2,a3⟩
  ·exact Or.inl h3
  ·refine Or.inr ⟨g', cap', cur', rfl,a1,?_,a3⟩
   rw [Below.heap_setCell _ _ _ g' (fun e=>hne (by simp only [Value.ownBlock];exact congrArg some e.symm))]
   exact a2
 refine ⟨?_,by simpa using h.len,fun j u hj=>?_,fun j1 j2 u1 u2 k h1 h2 e1 e2=>?_⟩
 ·rw [blk_set _ hr1];simp
 ·rw [List.getElem?_set] at hj
  by_cases e:m=j
  ·subst e
   rw [if_pos rfl,if_pos hml] at hj
   cases hj
   exact hset (e:=0) hown
  ·rw [if_neg e] at hj
   rw [hf j (fun q=>e q.symm)]
   refine hset (e:=0) ((h.own j u hj).kept hg ?_)
   rcases (h.own j u hj).2 with ⟨rfl,_⟩ | ⟨g', cap', cur', rfl,_⟩
   ·exact .inl rfl
   ·refine .inr fun q=>?_
    exact e (h.apart m j v _ g' hv hj (by rw [← q];rfl) rfl)
 ·rw [List.getElem?_set] at h1 h2
  by_cases q1:m=j1
  ·by_cases q2:m=j2
   ·rw [← q1,← q2]
   ·rw [if_pos q1,if_pos hml] at h1
    rw [if_neg q2] at h2
    cases h1
    simp only [Value.ownBlock,Option.some.injEq] at e1
    subst e1
    exfalso
    rcases hat with hat | hat
    ·exact q2 (h.apart m j2 v u2 g hv h2 hat e2)
    ·have:=hlt j2 u2 g h2 e2;omega
  ·rw [if_neg q1] at h1
   by_cases q2:m=j2
   ·rw [if_pos q2,if_pos hml] at h2
    cases h2
    simp only [Value.ownBlock,Option.some.injEq] at e2
    subst e2
    exfalso
    rcases hat with hat | hat
    ·exact q1 (h.apart m j1 v u1 g hv h1 hat e1)
    ·have:=hlt j1 u1 g h1 e1;omega
   ·rw [if_neg q2] at h2
    exact h.apart j1 j2 u1 u2 k h1 h2 e1 e2
def rowsAt (ns:List Nd) (k:Nat) (pre:List Int) (m:Nat):List Int:=pick (ahB ns m) k++List.replicate (pre.count (m:Int)) (k:Int)
theorem rowsAt_nil (ns:List Nd) (k:Nat):rowsAt ns k []=fun m=>pick (ahB ns m) k:=by funext m;simp [rowsAt]
theorem count_exo (x:Nd) (hk:kn x.op=true) (m:Nat):(exo x).count (m:Int)=if ldB x m then 1 else 0:=by
 have hop:=wi_iff.1 hk
 unfold exo ldB
 by_cases h11:x.op=11
 ·rw [if_pos h11]
  by_cases he:x.e=x.t
  ·rw [if_pos he]
   by_cases ht:x.t=m
   ·simp [h11,ht]
   ·simp [h11,he,ht]
  ·rw [if_neg he]
   by_cases ht:x.t=m
   ·have:¬ x.e=m:=fun q=>he (by rw [q,ht])
    simp [h11,ht,this]
   ·by_cases q:x.e=m
    ·simp [h11,ht,q]
    ·simp [h11,ht,q]
 ·rw [if_neg h11]
  by_cases h12:x.op=12
  ·have e:wi x.op 0 11=false:=wi_false (by omega)
   simp [h12]
   rw [h12] at e;simp [e]
  ·rw [wi_true (by omega) (by omega),if_pos rfl]
   by_cases ht:x.t=m
   ·simp [h11,h12,ht]
   ·simp [h11,h12,ht]
theorem rowsAt_done (ns:List Nd) (k:Nat) {x:Nd} (hx:ns[k]?=some x) (hk:kn x.op=true):rowsAt ns k (exo x)=fun m=>pick (ahB ns m) (k+1):=by
 funext m
 rw [rowsAt,count_exo x hk]
 have:=ahB_at (n:=m) hx
 cases h:ldB x m
 ·rw [pick_no (by rw [this];exact h)];simp
 ·rw [pick_yes (by rw [this];exact h)];simp
theorem rowsAt_len (ns:List Nd) (k:Nat) (pre:List Int) (m:Nat):(rowsAt ns k pre m).length≤k+pre.length:=by
 have h1:=pick_len (ahB ns m) k
 have h2:pre.count (m:Int)≤pre.length:=List.count_le_length
 simp [rowsAt];omega
end Go.Proofs.YtkkolclmfcmfbaaGreatDoor
