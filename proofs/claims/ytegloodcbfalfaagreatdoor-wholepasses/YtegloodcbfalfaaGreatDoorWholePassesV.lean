/-
  Whatever program, passes, text and passes hoistwaylaw.WholePasses is handed, it returns true and leaves its arguments as they were: Passes and Optimise answer just what the document says, errors too.
-/
import Derived.Test.YtegloodcbfalfaaGreatDoorW7
import Derived.Test.YtegloodcbfalfaaGreatDoorW17
import Derived.Test.YtegloodcbfalfaaGreatDoorCards
import Derived.Test.YtegloodcbfalfaaGreatDoorTie
import Derived.SevenTiedAt
set_option linter.unusedVariables false
set_option linter.unusedSimpArgs false
set_option maxHeartbeats 40000000
set_option maxRecDepth 100000
namespace Go.Proofs.YtegloodcbfalfaaGreatDoor
open Go.ChangeShapes Go.WideShapes Go.ChangeAt Go.RowKit Go.Joins Go.Deep Go.ChangeMaps
def bBZ:Lit→Value
 | .int k n=>.int k n
 | _=>.int .i64 0
def YX (d:DataW Unit):Array Value:=(d.flat.map bBZ).toArray
noncomputable def low:Nat:=(World.holding Tryz.prog default ⟨#[],#[],[]⟩).heap.size
noncomputable def OD (os:Os):World :=
 let w0:=World.holding Tryz.prog os ⟨#[.cells #[.string ⟨#[118,97,108,117,101,32,111,117,116,32,111,102,32,114,97,110,103,101]⟩] 244,.cells #[.string ⟨#[105,110,118,97,108,105,100,32,115,121,110,116,97,120]⟩] 244],#[],[]⟩
 let put (w:World) (g:Nat) (cs:Array Value):World:={ w with heap:=w.heap.modify g fun
  | .cells _ t frozen=>.cells cs t frozen
  | o=>o }
 put (put (put (put (put (put (put w0 2 (YX Rows.laid_internal_strconv_uint64pow10)) 0 #[.iface 242 (.pointer (some ⟨low+1,0,none⟩))]) 1 #[.iface 242 (.pointer (some ⟨low,0,none⟩))]) 6 (YX Rows.laid_math_bits_deBruijn32tab)) 7 (YX Rows.laid_math_bits_deBruijn64tab)) 4 (YX Rows.laid_unicode_utf8_first)) 5 (YX Rows.laid_unicode_utf8_acceptRanges)
theorem aQQ (os:Os) (args:Array Value):laidMetH Tryz.prog Rows.wholePassesRow.laid ((OD os).forCall (fun _ _=>0) ⟨#[],args,[]⟩).memory :=
 (laidMet_of_run' 8 fJ fJ:laidMet _ _ _)
theorem wB (os:Os) (started:os.Started) (H:Type) (enc:TypeId × Value→H) (F:Stop.Interp) :
 ReturnsInHanded {} Tryz.checked os 3 .any ((OpenSpec.ofChange Rows.wholePassesSpec).preRow enc Tryz.prog Tryz.f3 Rows.wholePassesRow.domain false Rows.wholePassesRow.laid) (((OpenSpec.ofChange Rows.wholePassesSpec).at F).post enc Tryz.prog Tryz.f3 false true false false):=by
 refine returnsInHanded_of_row (C:=Tryz.checked) (s:=OpenSpec.ofChange Rows.wholePassesSpec) own started fJ Tryz.func3
  (witness_row_at (enc:=enc) (C:=Tryz.checked) (s:=OpenSpec.ofChange Rows.wholePassesSpec) false (OD os) #[.agg #[.int .i64 0,.slice none 0 0],.slice none 0 0,.string ⟨#[]⟩,.slice none 0 0] rfl fJ fJ fJ (OpenSpec.preRow_of_B rfl 8 fJ fJ (aQQ os _))) ?_
 intro W base args ds gs before hval0 hW hcnd _ hsz hL hS _
 have hval:∀ (j:Nat) t v,Tryz.f3.params[j]?=some t→args[j]?=some v→Value.okWide Tryz.prog W .any base t v:=hval0
 have hW' :=hW
 obtain ⟨p,q,hA0,hV,rfl,hfz,hnd⟩:=hW
 have hA:DataW.TrodAll enc Tryz.prog W 0 (fun _=>true) true Tryz.f3.params.toList args.toList ds p:=hA0
 rw [Tryz.params3] at hA hval
 obtain ⟨v0,vs0,d0,ds0,p0,q0,hargs,rfl,rfl,h0,r0⟩:=trodAll_cons hA
 obtain ⟨v1,vs1,d1,ds1,p1,q1,rfl,rfl,rfl,h1,r1⟩:=trodAll_cons r0
 obtain ⟨v2,vs2,d2,ds2,p2,q2,rfl,rfl,rfl,h2,r2⟩:=trodAll_cons r1
 obtain ⟨v3,vs3,d3,ds3,p3,q3,rfl,rfl,rfl,h3,r3⟩:=trodAll_cons r2
 obtain ⟨rfl,rfl,rfl⟩:=trodAll_nil r3
 obtain rfl:args=#[v0,v1,v2,v3]:=by cases args;simp_all
 obtain ⟨rfl,rfl⟩:=trodVars_none hV
 have k0:=h0
 have lt0:∀ x∈p0,x.block<W.heap.size:=by obtain ⟨m,hm⟩:=k0;exact DataW.trod_lt m _ _ _ hm
 have k1:=h1
 have lt1:∀ x∈p1,x.block<W.heap.size:=by obtain ⟨m,hm⟩:=k1;exact DataW.trod_lt m _ _ _ hm
 have k3:=h3
 have lt3:∀ x∈p3,x.block<W.heap.size:=by obtain ⟨m,hm⟩:=k3;exact DataW.trod_lt m _ _ _ hm
 obtain ⟨r,a,cap,ns,rfl,hN,hl⟩:=aGX (hval 0 24 v0 rfl rfl) h0
 obtain ⟨la,lc,l,rfl,hLi,hll,hlc,hwf⟩:=EY (hval 1 25 v1 rfl rfl) h1
 obtain ⟨s,rfl,rfl,rfl,w2⟩:=open_string Tryz.underlying9 (hval 2 9 v2 rfl rfl) h2
 obtain ⟨ma,mc,m,rfl,hMi,jP,hmc,hwm⟩:=EY (hval 3 25 v3 rfl rfl) h3
 have hln:s.data.toList.length≤140737488355328:=Nat.le_trans (sized_string hsz (j:=2) (t:=9) rfl rfl) aL
 clear hA0 hval0
 have hcall:=AZ r a cap ns la lc l s.data.toList ma mc m W (aWI hL hS) hN hLi hwf hln hMi hwm
 rw [aDJ] at hcall
 refine hcall.mono fun e W' ⟨he,bel⟩=>?_
 subst he
 exact ⟨_,rfl,_,_,_,[],_,[],hW', trodAll_mk1 (shut_bool Tryz.underlying4 _),(trodAll_cons_mk (Below.trod laidOut fJ (of_decide_eq_true fJ) k0 bel lt0) (trodAll_cons_mk (Below.trod laidOut fJ (of_decide_eq_true fJ) k1 bel lt1) (trodAll_cons_mk (shut_string Tryz.underlying9 w2) (trodAll_cons_mk (Below.trod laidOut fJ (of_decide_eq_true fJ) k3 bel lt3) trodAll_mk0)))),rfl,bel.frame _,fun h=>by cases h⟩
theorem zC:Rows.wholePassesRow.holds Tryz.pinned (OpenSpec.ofChange Rows.wholePassesSpec) :=
 OpenClaim.holds_of_cond 3 Tryz.f3 rfl rfl rfl rfl rfl rfl rfl ⟨rfl,rfl,rfl,rfl,rfl⟩ rfl rfl rfl rfl rfl fJ Tryz.func3 fJ
  (of_decide_eq_true fJ) (by unfold Func.isWrapper;first | (rw [if_pos (by decide +kernel)];kernel_rfl) | (rw [if_neg (by decide +kernel)];exact ⟨rfl,rfl⟩))
  (fun os started H enc _ F=>by rw [OpenClaim.pre_eq_preRow];exact wB os started H enc F)
theorem wholePasses_card:Rows.WholePassesCardSaid :=
 Claim7.holds_tied_plain_at .later [] [.data,.data,.data,.data,.sentinel,.sentinel,.pinned] true (true, "46737faa96a3ede8f96c5363ad1344fca2edf1b7a8e3dccfc5e6d1f65799c6bc") true
  zC (fun _ h=>by cases h) fJ (fun _ h=>by cases h) wholePasses_row_tie rfl ⟨rfl,rfl⟩ fJ rfl
  (fun f fn hf hfn=>by
   obtain rfl:f=3:=Option.some.inj ((show Tryz.prog.funcNamed "hoistway/hoistwaylaw.WholePasses" = some 3 by kernel_rfl).symm.trans hf) |>.symm
   obtain rfl:fn=Tryz.f3:=(Option.some.inj (Tryz.func3.symm.trans hfn)).symm
   exact ⟨by kernel_rfl,fun j t ht=>by
    rw [Tryz.params3] at ht
    rcases j with _ | _ | _ | _ | j
    ·obtain rfl:24=t:=by simpa using ht
     exact (show Tryz.prog.wantsStandIn 24=false by kernel_rfl)
    ·obtain rfl:25=t:=by simpa using ht
     exact (show Tryz.prog.wantsStandIn 25=false by kernel_rfl)
    ·obtain rfl:9=t:=by simpa using ht
     exact (show Tryz.prog.wantsStandIn 9=false by kernel_rfl)
    ·obtain rfl:25=t:=by simpa using ht
     exact (show Tryz.prog.wantsStandIn 25=false by kernel_rfl)
    ·simp at ht⟩)
  (by kernel_rfl)
end Go.Proofs.YtegloodcbfalfaaGreatDoor
