/-
  Whatever program, passes, numbers and fuel hoistwaylaw.WholeSame is handed, it returns true and leaves its arguments as they were: the program does what it did, whatever the passes, and no run that ends reckons more in all.
-/
import Derived.Test.YtkkolclmfcmfbaaGreatDoorW8
import Derived.Test.YtkkolclmfcmfbaaGreatDoorW16
import Derived.Test.YtkkolclmfcmfbaaGreatDoorCards
import Derived.Test.YtkkolclmfcmfbaaGreatDoorTie
import Derived.SevenTiedAt
set_option linter.unusedVariables false
set_option linter.unusedSimpArgs false
set_option maxHeartbeats 40000000
namespace Go.Proofs.YtkkolclmfcmfbaaGreatDoor
open Go.ChangeShapes Go.WideShapes Go.ChangeAt Go.RowKit Go.Joins Go.Deep Go.ChangeMaps
def litV:Lit→Value
 | .int k n=>.int k n
 | _=>.int .i64 0
def dataV (d:DataW Unit):Array Value:=(d.flat.map litV).toArray
noncomputable def low:Nat:=(World.holding Tryz.prog default ⟨#[],#[],[]⟩).heap.size
noncomputable def laidWorld (os:Os):World :=
 let w0:=World.holding Tryz.prog os ⟨#[.cells #[.string ⟨#[118,97,108,117,101,32,111,117,116,32,111,102,32,114,97,110,103,101]⟩] 229,.cells #[.string ⟨#[105,110,118,97,108,105,100,32,115,121,110,116,97,120]⟩] 229],#[],[]⟩
 let put (w:World) (g:Nat) (cs:Array Value):World:={ w with heap:=w.heap.modify g fun
  | .cells _ t frozen=>.cells cs t frozen
  | o=>o }
 put (put (put (put (put (put (put w0 0 (dataV Rows.laid_internal_strconv_uint64pow10)) 1 #[.iface 227 (.pointer (some ⟨low+1,0,none⟩))]) 2 #[.iface 227 (.pointer (some ⟨low,0,none⟩))]) 4 (dataV Rows.laid_math_bits_deBruijn32tab)) 5 (dataV Rows.laid_math_bits_deBruijn64tab)) 6 (dataV Rows.laid_unicode_utf8_first)) 7 (dataV Rows.laid_unicode_utf8_acceptRanges)
theorem laid_met (os:Os) (args:Array Value):laidMetH Tryz.prog Rows.wholeSameRow.laid ((laidWorld os).forCall (fun _ _=>0) ⟨#[],args,[]⟩).memory :=
 (laidMet_of_run' 8 (by kernel_rfl) (by kernel_rfl):laidMet _ _ _)
set_option maxRecDepth 100000 in
theorem wholeSame_lifted (os:Os) (started:os.Started) (H:Type) (enc:TypeId × Value→H) (F:Stop.Interp) :
 ReturnsInHanded {} Tryz.checked os 3 .any ((OpenSpec.ofChange Rows.wholeSameSpec).preRow enc Tryz.prog Tryz.f3 Rows.wholeSameRow.domain false Rows.wholeSameRow.laid) (((OpenSpec.ofChange Rows.wholeSameSpec).at F).post enc Tryz.prog Tryz.f3 false true false false):=by
 refine returnsInHanded_of_row (C:=Tryz.checked) (s:=OpenSpec.ofChange Rows.wholeSameSpec) own started (by kernel_rfl) Tryz.func3
  (witness_row_at (enc:=enc) (C:=Tryz.checked) (s:=OpenSpec.ofChange Rows.wholeSameSpec) false (laidWorld os) #[.agg #[.int .i64 0,.slice none 0 0],.slice none 0 0,.slice none 0 0,.int .i64 0] rfl (by kernel_rfl) (by kernel_rfl) (by kernel_rfl) (OpenSpec.preRow_of_B rfl 8 (by kernel_rfl) (by kernel_rfl) (laid_met os _))) ?_
 intro W base args ds gs before hval0 hW hcnd _ hsz hL hS _
 have hval:∀ (j:Nat) t v,Tryz.f3.params[j]?=some t→args[j]?=some v→Value.okWide Tryz.prog W .any base t v:=hval0
 have hW' :=hW
 obtain ⟨p,q,hA0,hV,rfl,hfz,hnd⟩:=hW
 have hA:DataW.TrodAll enc Tryz.prog W 0 (fun _=>true) true Tryz.f3.params.toList args.toList ds p:=hA0
 rw [Tryz.params3] at hA hval
 obtain ⟨v0,vs0,d0,ds0,p0,q0,hargs,rfl,rfl,h0,r0⟩:=trodAll_cons hA
 obtain ⟨v1,vs1,d1,ds1,p1,q1,rfl,rfl,rfl,h1,r1⟩:=trodAll_cons r0
 obtain ⟨v2,vs2,d2,ds2,p2,q2,rfl,rfl,rfl,h2,r2⟩:=trodAll_cons r1
 obtain ⟨v3,vs3,d3,ds3,p3,q3,rfl,rfl,rfl,h3,r3⟩:=trodAll_cons r2
 obtain ⟨rfl,rfl,rfl⟩:=trodAll_nil r3
 obtain rfl:args=#[v0,v1,v2,v3]:=by cases args;simp_all
 obtain ⟨rfl,rfl⟩:=trodVars_none hV
 have k0:=h0
 have lt0:∀ x∈p0,x.block<W.heap.size:=by obtain ⟨m,hm⟩:=k0;exact DataW.trod_lt m _ _ _ hm
 have k1:=h1
 have lt1:∀ x∈p1,x.block<W.heap.size:=by obtain ⟨m,hm⟩:=k1;exact DataW.trod_lt m _ _ _ hm
 have k2:=h2
 have lt2:∀ x∈p2,x.block<W.heap.size:=by obtain ⟨m,hm⟩:=k2;exact DataW.trod_lt m _ _ _ hm
 obtain ⟨r,a,cap,ns,rfl,hN,hl⟩:=open_prog (hval 0 24 v0 rfl rfl) h0
 obtain ⟨la,lc,l,rfl,hLi,hll,hlc,hwf⟩:=open_intsW (hval 1 25 v1 rfl rfl) h1
 obtain ⟨ia,ic,inp,rfl,hI,hil,hic,_⟩:=open_intsW (hval 2 25 v2 rfl rfl) h2
 obtain ⟨n,rfl,rfl,rfl,w2⟩:=open_int Tryz.underlying3 (hval 3 3 v3 rfl rfl) h3
 clear hA0 hval0
 have hEn:=env_of hL hS
 have hcall:Calls Tryz.prog 3 #[.agg #[.int .i64 r,.slice a ns.length cap],.slice la l.length lc,.slice ia inp.length ic,.int .i64 n] W fun e w' =>e=.returned (.bool true)∧Below W.heap.size W w' :=by
  by_cases he:passE r ns l=0
  ·exact wholeSame_right r a cap ns la lc l ia ic inp n W hEn hN hLi hwf hI hic hil (wf_range w2) he
  ·exact wholeSame_wrong r a cap ns la lc l ia ic inp n W hEn hN hLi hwf hI hic hil (wf_range w2) he
 refine hcall.mono fun e W' ⟨he,bel⟩=>?_
 subst he
 exact ⟨_,rfl,_,_,_,[],_,[],hW', trodAll_mk1 (shut_bool Tryz.underlying4 _),(trodAll_cons_mk (Below.trod laidOut (by kernel_rfl) (of_decide_eq_true (by kernel_rfl)) k0 bel lt0) (trodAll_cons_mk (Below.trod laidOut (by kernel_rfl) (of_decide_eq_true (by kernel_rfl)) k1 bel lt1) (trodAll_cons_mk (Below.trod laidOut (by kernel_rfl) (of_decide_eq_true (by kernel_rfl)) k2 bel lt2) (trodAll_cons_mk (shut_int Tryz.underlying3 w2) trodAll_mk0)))),rfl,bel.frame _,fun h=>by cases h⟩
theorem wholeSame_over:Rows.wholeSameRow.holds Tryz.pinned (OpenSpec.ofChange Rows.wholeSameSpec) :=
 OpenClaim.holds_of_cond 3 Tryz.f3 rfl rfl rfl rfl rfl rfl rfl ⟨rfl,rfl,rfl,rfl,rfl⟩ rfl rfl rfl rfl rfl (by kernel_rfl) Tryz.func3 (by kernel_rfl)
  (of_decide_eq_true (by kernel_rfl)) (by unfold Func.isWrapper;first | (rw [if_pos (by decide +kernel)];kernel_rfl) | (rw [if_neg (by decide +kernel)];exact ⟨rfl,rfl⟩))
  (fun os started H enc _ F=>by rw [OpenClaim.pre_eq_preRow];exact wholeSame_lifted os started H enc F)
theorem wholeSame_card:Rows.WholeSameCardSaid :=
 Claim7.holds_tied_plain_at .later [] [.data,.data,.data,.data,.sentinel,.sentinel,.pinned] true (true, "09987034242ac3c0f5f91b0a5655744399761d3b6458a95faa7969cf82e49dde") true
  wholeSame_over (fun _ h=>by cases h) (by kernel_rfl) (fun _ h=>by cases h) wholeSame_row_tie rfl ⟨rfl,rfl⟩ (by kernel_rfl) rfl
  (fun f fn hf hfn=>by
   obtain rfl:f=3:=Option.some.inj ((show Tryz.prog.funcNamed "hoistway/hoistwaylaw.WholeSame" = some 3 by kernel_rfl).symm.trans hf) |>.symm
   obtain rfl:fn=Tryz.f3:=(Option.some.inj (Tryz.func3.symm.trans hfn)).symm
   exact ⟨by kernel_rfl,fun j t ht=>by
    rw [Tryz.params3] at ht
    rcases j with _ | _ | _ | _ | j
    ·obtain rfl:24=t:=by simpa using ht
     exact (show Tryz.prog.wantsStandIn 24=false by kernel_rfl)
    ·obtain rfl:25=t:=by simpa using ht
     exact (show Tryz.prog.wantsStandIn 25=false by kernel_rfl)
    ·obtain rfl:25=t:=by simpa using ht
     exact (show Tryz.prog.wantsStandIn 25=false by kernel_rfl)
    ·obtain rfl:3=t:=by simpa using ht
     exact (show Tryz.prog.wantsStandIn 3=false by kernel_rfl)
    ·simp at ht⟩)
  (by kernel_rfl)
end Go.Proofs.YtkkolclmfcmfbaaGreatDoor
