/-
  Of the proof of WholeSame: ZI.
-/
import Derived.Test.YtkkolclmfcmfbaaGreatDoorW15
set_option linter.unusedVariables false
set_option linter.unusedSimpArgs false
set_option maxHeartbeats 40000000
namespace Go.Proofs.YtkkolclmfcmfbaaGreatDoor
open Go.RowKit Go.Shelf
theorem srt_runW {r:Int} {ns:List Nd} (hc:chk r ns=0) (n k:Nat) (inp:List Int):Srt (runN ns n (st0 k inp)).cts:=(DR.run hc n (DR.start hc k inp)).ss
theorem cnt_nonneg:∀ {l:List Ct},(∀ c∈l,0≤c.n)→∀ t,0≤cnt l t
 | [],_,t=>Int.le_refl _
 | c::l,h,t=>by
  rw [cnt_cons]
  split
  ·exact h c (by simp)
  ·exact cnt_nonneg (fun d hd=>h d (by simp [hd])) t
theorem runN_cb {ns:List Nd} (n k:Nat) (inp:List Int):∀ c∈(runN ns n (st0 k inp)).cts,0≤c.n∧c.n≤n:=fun c hc=>by
 have:=runN_cn n (st0 k inp) 0 (Int.le_refl _) (fun d hd=>by cases hd) c hc
 omega
theorem whole_sum {r q:Int} {ns ms:List Nd} (hc:chk r ns=0) (h:GoodP r ns q ms) (jn:List Int) (n:Nat) (he:(runN ns n (st0 r.toNat jn)).ended=true) :
 sumC (runN ms (n*(ms.length+1)) (st0 q.toNat jn)).cts≤sumC (runN ns n (st0 r.toNat jn)).cts:=by
 have e1:=h.sims.ends jn he
 have e2:(runN ms (n*(ms.length+1)) (st0 q.toNat jn)).ended=true:=by rw [runN_stays (Nat.mul_le_mul_left n (Nat.le_succ _)) e1];exact e1
 have b1:=runN_cb (ns:=ns) n r.toNat jn
 exact sum_le_of _ (srt_runW h.ck _ _ _) (srt_runW hc _ _ _) (cnt_nonneg fun c hc=>(b1 c hc).1) (fun c hc=>(b1 c hc).1) (fun t=>h.few jn n _ he e2 t)
def pickH (c:Int):Int:=(if c<0 then -(c+1) else c) % 300
theorem pickH_range (c:Int):0≤pickH c∧pickH c<300:=by unfold pickH;omega
theorem choose300_any (c:Int) (w:World) (h: -9223372036854775808≤c∧c≤9223372036854775807) :
 Calls Tryz.prog 6 #[.int .i64 c,.int .i64 300] w fun e w' =>e=.returned (.int .i64 (pickH c))∧w' =w:=by
 by_cases h0:c<0
 ·go_enter Tryz.func6,Tryz.ntmps6
  go_wp2
  go_ret
  refine ⟨ret_int ?_,rfl⟩
  have e:(c+1).tmod 300= -((-(c+1)).tmod 300):=by rw [Int.neg_tmod];omega
  rw [e,Int.tmod_eq_emod_of_nonneg (by omega),pickH,if_pos h0]
  omega
 ·go_enter Tryz.func6,Tryz.ntmps6
  go_wp2
  go_ret
  refine ⟨ret_int ?_,rfl⟩
  rw [pickH,if_neg (by omega)]
set_option maxRecDepth 100000 in
theorem wholeSame_wrong (r:Int) (a:Option Addr) (cap:Nat) (ns:List Nd) (la:Option Addr) (lc:Nat) (l:List Int) (ia:Option Addr) (ic:Nat) (inp:List Int) (fuel:Int) (w:World) (hEn:Env w) (hN:SlN w a ns) (hL:IntsAt w la l) (hwf:∀ z∈l,(Lit.int .i64 z).wf=true) (hI:IntsAt w ia inp) (hic:inp.length≤ic) (hil:inp.length≤9223372036854775807) (hf: -9223372036854775808≤fuel∧fuel≤9223372036854775807) (he:passE r ns l≠0) :
 Calls Tryz.prog 3 #[.agg #[.int .i64 r,.slice a ns.length cap],.slice la l.length lc,.slice ia inp.length ic,.int .i64 fuel] w fun e w' =>e=.returned (.bool true)∧Below w.heap.size w w' :=by
 have HON:Hid (∀ W,Below w.heap.size w W→Calls Tryz.prog 4 #[.agg #[.int .i64 r,.slice a ns.length cap],.slice la l.length lc] W fun e w' =>e=.returned (.tuple #[.agg #[.int .i64 0,.slice none 0 0],.int .i64 (passE r ns l)])∧Below W.heap.size W w'):=fun W h=>by
  refine (passes_any r a cap ns la lc l W (hN.below h) (hL.below h) hwf).mono ?_
  rintro e w' ⟨h,hB⟩
  rcases h with ⟨_,rfl⟩ | ⟨q,_⟩
  ·exact ⟨rfl,hB⟩
  ·exact absurd q he
 have hcb:(passE r ns l==0)=false:=by simp [he]
 have hcn:(passE r ns l != 0)=true:=by simp [he]
 have HEN:=hide (fun W (h:Below w.heap.size w W)=>wholeBegun_any W (hEn.below h))
 clear he hN hEn hL hwf
 generalize passE r ns l=C at *
 have hb0:Below w.heap.size w (w.alloc (.cells #[.int .i64 r,.slice a ns.length cap] 24)):=(Below.refl _ w).alloc (Nat.le_refl _) _
 have hp0:(w.alloc (.cells #[.int .i64 r,.slice a ns.length cap] 24)).heap[w.heap.size]?=some (.cells #[.int .i64 r,.slice a ns.length cap] 24 (0,0)):=World.alloc_heap_new w _
 go_enter Tryz.func3,Tryz.ntmps3
 go_upto_region 1 with fail
 generalize (w.alloc (.cells #[.int .i64 r,.slice a ns.length cap] 24))=W0 at hb0 hp0 ⊢
 have HB:=hide hb0
 have HP:=hide hp0
 clear hb0 hp0
 have p0:=blk_cell HP.out 0
 have p1:=blk_cell HP.out 1
 simp at p0 p1
 have pl:=blk_lt HP.out
 go_wp2_with fail
 refine (HON.out _ HB.out).mono ?_
 rintro e w1 ⟨rfl,hb1⟩
 have hb1' :=hb1.alloc hb1.size (.cells #[.int .i64 0,.slice none 0 0] 24)
 have HB1:=hide (HB.out.trans (hb1'.mono HB.out.size))
 clear hb1 hb1' HB p0 p1 pl HON
 go_upto_region 2 with fail
 generalize (w1.alloc (.cells #[.int .i64 0,.slice none 0 0] 24))=W1 at HB1 ⊢
 generalize w1.heap.size=QB
 go_wp2_with fail
 refine (HEN.out _ HB1.out).mono ?_
 rintro e w4 ⟨rfl,hb4⟩
 go_wp2
 go_ret
 exact ⟨by first | rfl | simp,HB1.out.trans (hb4.mono HB1.out.size)⟩
set_option maxRecDepth 100000 in
theorem wholeSame_right (r:Int) (a:Option Addr) (cap:Nat) (ns:List Nd) (la:Option Addr) (lc:Nat) (l:List Int) (ia:Option Addr) (ic:Nat) (inp:List Int) (fuel:Int) (w:World) (hEn:Env w) (hN:SlN w a ns) (hL:IntsAt w la l) (hwf:∀ z∈l,(Lit.int .i64 z).wf=true) (hI:IntsAt w ia inp) (hic:inp.length≤ic) (hil:inp.length≤9223372036854775807) (hf: -9223372036854775808≤fuel∧fuel≤9223372036854775807) (he:passE r ns l=0) :
 Calls Tryz.prog 3 #[.agg #[.int .i64 r,.slice a ns.length cap],.slice la l.length lc,.slice ia inp.length ic,.int .i64 fuel] w fun e w' =>e=.returned (.bool true)∧Below w.heap.size w w' :=by
 have HFEW:=hide (fun u=>few_any ia ic inp u hic hil)
 have hJ:=hI.take 256
 have hj256:(inp.take 256).length≤256:=by simp;omega
 have hjc:(inp.take 256).length≤ic:=by simp;omega
 have hjl:(inp.take 256).length≤9223372036854775807:=by omega
 generalize inp.take 256=jn at HFEW hJ hj256 hjc hjl
 have hpf:=pickH_range fuel
 have hc:chk r ns=0:=by
  unfold passE at he
  by_cases q:chk r ns=0
  ·exact q
  ·rw [if_neg q] at he;exact he
 have hgd:GoodP r ns (passesF r ns l).2.1 (passesF r ns l).2.2:=by
  refine passesF_good hc ?_
  unfold passE at he
  rw [if_pos hc] at he
  split at he
  ·split at he
   ·exact he
   ·exact absurd he (by decide)
  ·exact absurd he (by decide)
 have HC:=hide hc
 have HCM:=hide hgd.ck
 have hml:=(chk_full hgd.ck).1
 have HN:=hide hN
 have HJ:=hide hJ
 have HSV:=hide (fun n=>whole_sum hc hgd jn n)
 have HOK:=hide (OkDo.mk hc hgd.ck hgd.sims)
 have HEN:=hide (fun W (h:Below w.heap.size w W)=>wholeBegun_any W (hEn.below h))
 have HON:Hid (∀ W,Below w.heap.size w W→Calls Tryz.prog 4 #[.agg #[.int .i64 r,.slice a ns.length cap],.slice la l.length lc] W fun e w' =>∃ gb gq gc,e=.returned (.tuple #[.agg #[.int .i64 (passesF r ns l).2.1,.slice (some ⟨gb,gq,none⟩) (List.length (passesF r ns l).2.2) gc],.int .i64 0])∧SlN w' (some ⟨gb,gq,none⟩) (passesF r ns l).2.2∧Below W.heap.size W w'):=fun W h=>by
  refine (passes_any r a cap ns la lc l W (hN.below h) (hL.below h) hwf).mono ?_
  rintro e w' ⟨h,hB⟩
  rcases h with ⟨q,_⟩ | ⟨_,gb,gq,gc,rfl,hV,_⟩
  ·exact absurd he q
  ·exact ⟨gb,gq,gc,rfl,Or.inr ⟨gb,gq,rfl,hV⟩,hB⟩
 clear he hgd hc hN hI hJ hil hEn hL hwf
 generalize (passesF r ns l).2.2=ms at *
 generalize (passesF r ns l).2.1=q at *
 have hb0:Below w.heap.size w (w.alloc (.cells #[.int .i64 r,.slice a ns.length cap] 24)):=(Below.refl _ w).alloc (Nat.le_refl _) _
 have hp0:(w.alloc (.cells #[.int .i64 r,.slice a ns.length cap] 24)).heap[w.heap.size]?=some (.cells #[.int .i64 r,.slice a ns.length cap] 24 (0,0)):=World.alloc_heap_new w _
 go_enter Tryz.func3,Tryz.ntmps3
 go_upto_region 1 with fail
 generalize (w.alloc (.cells #[.int .i64 r,.slice a ns.length cap] 24))=W0 at hb0 hp0 ⊢
 have HB:=hide hb0
 have HP:=hide hp0
 clear hb0 hp0
 have p0:=blk_cell HP.out 0
 have p1:=blk_cell HP.out 1
 simp at p0 p1
 have pl:=blk_lt HP.out
 go_wp2_with fail
 refine (HON.out _ HB.out).mono ?_
 rintro e w1 ⟨gb,gq,gc,rfl,hS1,hb1⟩
 have hx:Below w1.heap.size w1 (w1.alloc (.cells #[.int .i64 q,.slice (some ⟨gb,gq,none⟩) (List.length ms) gc] 24)):=(Below.refl _ w1).alloc (Nat.le_refl _) _
 have hq:(w1.alloc (.cells #[.int .i64 q,.slice (some ⟨gb,gq,none⟩) (List.length ms) gc] 24)).heap[w1.heap.size]?=some (.cells #[.int .i64 q,.slice (some ⟨gb,gq,none⟩) (List.length ms) gc] 24 (0,0)):=World.alloc_heap_new w1 _
 have hb' :=hb1.trans (hx.mono hb1.size)
 replace HB:=hide (HB.out.trans (hb'.mono HB.out.size))
 replace HP:=hide ((hb'.block _ (blk_lt HP.out)).trans HP.out)
 have HM:=hide (hS1.below hx)
 clear hb1 hb' hx hS1 HON p0 p1 pl
 go_upto_region 4 with fail
 generalize (w1.alloc (.cells #[.int .i64 q,.slice (some ⟨gb,gq,none⟩) (List.length ms) gc] 24))=W1 at HB HP HM hq ⊢
 generalize w1.heap.size=QB at hq ⊢
 have HQ:=hide hq
 clear hq
 go_upto_region 5 with (go_at_call 6;refine (choose300_any fuel _ hf).mono ?_;rintro e w3 ⟨rfl,hw3⟩;subst w3)
 generalize pickH fuel=n at hpf ⊢
 have n0:=hpf.1
 have n1:=hpf.2
 clear hpf hf
 have hK0:0≤n*((ms.length:Int)+1):=Int.mul_nonneg n0 (by omega)
 have hK1:n*((ms.length:Int)+1)≤300*257:=Int.le_trans (Int.mul_le_mul_of_nonneg_right (by omega) (by omega)) (Int.mul_le_mul_of_nonneg_left (by omega) (by omega))
 have HWW:=hide (show IntKind.i64.wrap (n*IntKind.i64.wrap ((ms.length:Int)+1))=n*((ms.length:Int)+1) by rw [IntWalk.i64_left,IntWalk.i64_left,IntWalk.wrap64_in ((ms.length:Int)+1) (by omega),IntWalk.wrap64_in _ (by omega)])
 have HE1:=hide (rerr_ok (r:=r) (ns:=ns) (il:=jn.length) (n:=n) HC.out hj256 n0 (by omega))
 have HE2:=hide (rerr_ok (r:=q) (ns:=ms) (il:=jn.length) (n:=n*((ms.length:Int)+1)) HCM.out hj256 hK0 (by omega))
 have hsv:=HSV.out n.toNat
 have hb1:=runN_cb (ns:=ns) n.toNat r.toNat jn
 have hb2:=runN_cb (ns:=ms) (n*((ms.length:Int)+1)).toNat q.toNat jn
 have hft:(n*((ms.length:Int)+1)).toNat=n.toNat*(ms.length+1):=by
  obtain ⟨k,rfl⟩:=Int.eq_ofNat_of_zero_le n0
  exact Int.toNat_natCast _
 rw [← hft,← res_fin HE1.out,← res_fin HE2.out] at hsv
 rw [← res_fin HE1.out] at hb1
 rw [← res_fin HE2.out] at hb2
 have HSW:=hide hsv
 have HC1:Hid (∀ c∈(res r ns jn n).cts,0≤c.n∧c.n≤131072):=fun c hc=>by have:=hb1 c hc;omega
 have HC2:Hid (∀ c∈(res q ms jn (n*((ms.length:Int)+1))).cts,0≤c.n∧c.n≤131072):=fun c hc=>by have:=hb2 c hc;omega
 have HLN:=hide (res_len r ns jn n)
 have HLT:=hide (res_len q ms jn (n*((ms.length:Int)+1)))
 clear hsv hb1 hb2 hft hK0 hK1 HSV
 generalize hF:n*((ms.length:Int)+1)=F at HWW HE2 HSW HLT HC2
 have HNk:=hide (HN.out.below HB.out)
 have HJk:=hide (HJ.out.below HB.out)
 have HPK:=hide (fun (u:World) (hB:Below W1.heap.size W1 u)=>(show u.cell? ⟨w.heap.size,0,none⟩=some (.int .i64 r)∧u.cell? ⟨w.heap.size,1,none⟩=some (.slice a (List.length ns) cap) from ⟨(hB.cell (p:=⟨w.heap.size,0,none⟩) (blk_lt HP.out)).trans (blk_cell HP.out 0),(hB.cell (p:=⟨w.heap.size,1,none⟩) (blk_lt HP.out)).trans (blk_cell HP.out 1)⟩))
 go_cut [12,13] from 28 to 34 (fun v1 v2 wx=>Got (res r ns jn n) (rerr r ns jn.length n) W1 wx v1 v2)
 case first =>
  go_region_held3 (fun u=>u.cell? ⟨w.heap.size,0,none⟩=some (.int .i64 r)∧u.cell? ⟨w.heap.size,1,none⟩=some (.slice a (List.length ns) cap)) (first | (with_reducible exact HPK.out _ hB3) | (refine HPK.out _ ?_ <;> ((repeat with_reducible first | exact hB3 | exact Below.refl _ _ | refine Below.drew ?_ | refine Below.alloc ?_ ?_ _) <;> (first | exact hB3.size | exact Nat.le_refl _ | simp))) | exact HPK.out _ (hB3.trans (fill5_below (Nat.le_refl _) hB3.size _ _ _ _ _))) (first
   | (go_at_call 8;refine (HFEW.out _).mono ?_;rintro e w' ⟨rfl,hw'⟩;subst w')
   | (go_at_call 7;refine (run_at2 r a cap ns ia ic jn n W1 HNk.out HJk.out hjc hjl).mono ?_;rintro e w3 ⟨ao3,co3,ac3,cc3,rfl,hI3,hC3,hco3,hB3,hk3,hQ3⟩;have z0:w3.cell? ⟨W1.heap.size,0,none⟩=some (.slice none 0 0):=blk_cell hk3 0;have f0:=blk_frozen hk3 0;have z1:w3.cell? ⟨W1.heap.size,1,none⟩=some (.int .i64 0):=blk_cell hk3 1;have f1:=blk_frozen hk3 1;have z2:w3.cell? ⟨W1.heap.size,2,none⟩=some (.bool false):=blk_cell hk3 2;have f2:=blk_frozen hk3 2;have z3:w3.cell? ⟨W1.heap.size,3,none⟩=some (.int .i64 0):=blk_cell hk3 3;have f3:=blk_frozen hk3 3;have z4:w3.cell? ⟨W1.heap.size,4,none⟩=some (.slice none 0 0):=blk_cell hk3 4;have f4:=blk_frozen hk3 4;have HX3:=hide (And.intro hI3 (And.intro hC3 (And.intro hco3 (And.intro hk3 hQ3))));have hlt3:=blk_lt hk3;clear hI3 hC3 hco3 hk3 hQ3)
   | (go_at_call 7;refine (run_at1 r a cap ns ia ic jn n W1 HNk.out HJk.out hjc hjl).mono ?_;rintro e w3 ⟨ao3,co3,ac3,cc3,rfl,hI3,hC3,hco3,hB3⟩;have HX3:=hide (And.intro hI3 (And.intro hC3 hco3));clear hI3 hC3 hco3))
  all_goals (go_wp2;go_meet)
  all_goals first
   | exact ⟨⟨_,ao3,co3,ac3,cc3,rfl,fill5_blk HX3.out.2.2.2.1 _ _ _ _ _,(HX3.out.2.2.2.2 _ _ _ _ _).1,(HX3.out.2.2.2.2 _ _ _ _ _).2,HX3.out.2.2.1⟩,rfl,hB3.trans (fill5_below (Nat.le_refl _) hB3.size _ _ _ _ _)⟩
   | exact ⟨⟨_,ao3,co3,ac3,cc3,rfl,blk_new rfl,HX3.out.1.below ((Below.refl _ w3).alloc (Nat.le_refl _) _),HX3.out.2.1.below ((Below.refl _ w3).alloc (Nat.le_refl _) _),HX3.out.2.2⟩,rfl,hB3.alloc hB3.size _⟩
 case rest =>
  obtain ⟨⟨ra,aoa,coa,aca,cca,rfl,hka,hIa,hCa,hcoa⟩,rfl,hBc⟩:=hcut
  rw [HE1.out]
  generalize res r ns jn n=σ at *
  replace HB:=hide (HB.out.trans (hBc.mono HB.out.size))
  replace HP:=hide ((hBc.block _ (blk_lt HP.out)).trans HP.out)
  replace HQ:=hide ((hBc.block _ (blk_lt HQ.out)).trans HQ.out)
  replace HM:=hide (HM.out.below hBc)
  have HRa:=hide hka
  have HCa:=hide hCa
  clear hka hIa hCa hcoa hBc HNk HJk HPK
  generalize hW:wc=W2 at *
  clear hW
  have HNk:=hide HM.out
  have HJk:=hide (HJ.out.below HB.out)
  go_upto_region 6 with fail
  have HPK:=hide (fun (u:World) (hB:Below W2.heap.size W2 u)=>(show u.cell? ⟨QB,0,none⟩=some (.int .i64 q)∧u.cell? ⟨QB,1,none⟩=some (.slice (some ⟨gb,gq,none⟩) (List.length ms) gc) from ⟨(hB.cell (p:=⟨QB,0,none⟩) (blk_lt HQ.out)).trans (blk_cell HQ.out 0),(hB.cell (p:=⟨QB,1,none⟩) (blk_lt HQ.out)).trans (blk_cell HQ.out 1)⟩))
  have hF2:Hid (n*((ms.length:Int)+1)=F):=hF
  clear hF
  go_cut [14,15] from 36 to 47 (fun v1 v2 wx=>Got (res q ms jn F) (rerr q ms jn.length F) W2 wx v1 v2)
  case first =>
   go_region_held3 (fun u=>u.cell? ⟨QB,0,none⟩=some (.int .i64 q)∧u.cell? ⟨QB,1,none⟩=some (.slice (some ⟨gb,gq,none⟩) (List.length ms) gc)) (first | (with_reducible exact HPK.out _ hB3) | (refine HPK.out _ ?_ <;> ((repeat with_reducible first | exact hB3 | exact Below.refl _ _ | refine Below.drew ?_ | refine Below.alloc ?_ ?_ _) <;> (first | exact hB3.size | exact Nat.le_refl _ | simp))) | exact HPK.out _ (hB3.trans (fill5_below (Nat.le_refl _) hB3.size _ _ _ _ _))) (first
    | (go_at_call 8;refine (HFEW.out _).mono ?_;rintro e w' ⟨rfl,hw'⟩;subst w')
    | (go_at_call 7;rw [HWW.out];refine (run_at2 q (some ⟨gb,gq,none⟩) gc ms ia ic jn F W2 HNk.out HJk.out hjc hjl).mono ?_;rintro e w3 ⟨ao3,co3,ac3,cc3,rfl,hI3,hC3,hco3,hB3,hk3,hQ3⟩;have z0:w3.cell? ⟨W2.heap.size,0,none⟩=some (.slice none 0 0):=blk_cell hk3 0;have f0:=blk_frozen hk3 0;have z1:w3.cell? ⟨W2.heap.size,1,none⟩=some (.int .i64 0):=blk_cell hk3 1;have f1:=blk_frozen hk3 1;have z2:w3.cell? ⟨W2.heap.size,2,none⟩=some (.bool false):=blk_cell hk3 2;have f2:=blk_frozen hk3 2;have z3:w3.cell? ⟨W2.heap.size,3,none⟩=some (.int .i64 0):=blk_cell hk3 3;have f3:=blk_frozen hk3 3;have z4:w3.cell? ⟨W2.heap.size,4,none⟩=some (.slice none 0 0):=blk_cell hk3 4;have f4:=blk_frozen hk3 4;have HX3:=hide (And.intro hI3 (And.intro hC3 (And.intro hco3 (And.intro hk3 hQ3))));have hlt3:=blk_lt hk3;clear hI3 hC3 hco3 hk3 hQ3)
    | (go_at_call 7;rw [HWW.out];refine (run_at1 q (some ⟨gb,gq,none⟩) gc ms ia ic jn F W2 HNk.out HJk.out hjc hjl).mono ?_;rintro e w3 ⟨ao3,co3,ac3,cc3,rfl,hI3,hC3,hco3,hB3⟩;have HX3:=hide (And.intro hI3 (And.intro hC3 hco3));clear hI3 hC3 hco3))
   all_goals (go_wp2;go_meet)
   all_goals first
    | exact ⟨⟨_,ao3,co3,ac3,cc3,rfl,fill5_blk HX3.out.2.2.2.1 _ _ _ _ _,(HX3.out.2.2.2.2 _ _ _ _ _).1,(HX3.out.2.2.2.2 _ _ _ _ _).2,HX3.out.2.2.1⟩,rfl,hB3.trans (fill5_below (Nat.le_refl _) hB3.size _ _ _ _ _)⟩
    | exact ⟨⟨_,ao3,co3,ac3,cc3,rfl,blk_new rfl,HX3.out.1.below ((Below.refl _ w3).alloc (Nat.le_refl _) _),HX3.out.2.1.below ((Below.refl _ w3).alloc (Nat.le_refl _) _),HX3.out.2.2⟩,rfl,hB3.alloc hB3.size _⟩
  case rest =>
   obtain ⟨⟨rb,aob,cob,acb,ccb,rfl,hkb,hIb,hCb,hcob⟩,rfl,hBc⟩:=hcut
   rw [HE2.out]
   generalize res q ms jn F=τ at *
   replace HB:=hide (HB.out.trans (hBc.mono HB.out.size))
   replace HP:=hide ((hBc.block _ (blk_lt HP.out)).trans HP.out)
   replace HQ:=hide ((hBc.block _ (blk_lt HQ.out)).trans HQ.out)
   replace HM:=hide (HM.out.below hBc)
   replace HRa:=hide ((hBc.block _ (blk_lt HRa.out)).trans HRa.out)
   replace HCa:=hide (HCa.out.below hBc)
   have HRb:=hide hkb
   have HCb:=hide hCb
   clear hkb hIb hCb hcob hBc HNk HJk HPK
   generalize hW:wc=W3 at *
   clear hW
   have HNk:=hide (HN.out.below HB.out)
   have HJk:=hide (HJ.out.below HB.out)
   have HDO:=hide (fun (u:World) (hB:Below W3.heap.size W3 u)=>doesD_any r q a (some ⟨gb,gq,none⟩) cap gc ns ms ia ic jn n u HOK.out (HNk.out.below hB) (HM.out.below hB) (HJk.out.below hB) hjc hj256 n0 (by omega))
   have HWB:=hide (fun (u:World) (hB:Below W3.heap.size W3 u)=>HEN.out u (HB.out.trans (hB.mono HB.out.size)))
   have l1:=HLN.out.2
   have l2:=HLT.out.2
   have HRKa:=hide (fun (u:World) (hB:Below W3.heap.size W3 u) (v:Value)=>reckoned_any (.slice aoa σ.out.length coa) (.int .i64 σ.ret) v (.int .i64 σ.steps) aca cca σ.cts u (HCa.out.below hB) l1 HC1.out)
   have HRKb:=hide (fun (u:World) (hB:Below W3.heap.size W3 u)=>reckoned_any (.slice aob τ.out.length cob) (.int .i64 τ.ret) (.bool τ.ended) (.int .i64 τ.steps) acb ccb τ.cts u (HCb.out.below hB) l2 HC2.out)
   have x0:=blk_cell HRa.out 0
   have x1:=blk_cell HRa.out 1
   have x2:=blk_cell HRa.out 2
   have x3:=blk_cell HRa.out 3
   have x4:=blk_cell HRa.out 4
   simp at x0 x1 x2 x3 x4
   have xl:=blk_lt HRa.out
   have y0:=blk_cell HRb.out 0
   have y1:=blk_cell HRb.out 1
   have y2:=blk_cell HRb.out 2
   have y3:=blk_cell HRb.out 3
   have y4:=blk_cell HRb.out 4
   simp at y0 y1 y2 y3 y4
   have yl:=blk_lt HRb.out
   have p0:=blk_cell HP.out 0
   have p1:=blk_cell HP.out 1
   simp at p0 p1
   have pl:=blk_lt HP.out
   have q0:=blk_cell HQ.out 0
   have q1:=blk_cell HQ.out 1
   simp at q0 q1
   have ql:=blk_lt HQ.out
   go_upto_region 7 with fail
   cases hend:σ.ended
   ·rw [hend] at x2
    refine wp_region_held_drew (S:=fun u=>∀ p:Addr,p.block<W3.heap.size→u.cell? p=W3.cell? p) (by kernel_rfl) (fun p hp=>rfl) (fun hHeld=>?_)
    refine thw 0 ?_
    iterate 9 (refine thv ?_)
    iterate 5 (refine thu ?_)
    iterate 2 (refine thv ?_)
    refine wpAnyH_done (by kernel_rfl) ?_ _
    clear hHeld
    refine (show ∀ W4:World,Below W3.heap.size W3 W4→Exit.then _ _ Exit.normal _ W4 from fun W4 hD=>?_) _ (Below.refl _ W3).drew
    replace p0:=(hD.cell (p:=⟨w.heap.size,0,none⟩) pl).trans p0
    replace p1:=(hD.cell (p:=⟨w.heap.size,1,none⟩) pl).trans p1
    replace q0:=(hD.cell (p:=⟨QB,0,none⟩) ql).trans q0
    replace q1:=(hD.cell (p:=⟨QB,1,none⟩) ql).trans q1
    have pl4:=Nat.lt_of_lt_of_le pl hD.size
    have ql4:=Nat.lt_of_lt_of_le ql hD.size
    clear x0 x1 x2 x3 x4 xl y0 y1 y2 y3 y4 yl pl ql hend
    go_upto_region 9 with fail
    refine wp_region_L 9 (S:=fun u=>∀ p:Addr,p.block<W4.heap.size→u.cell? p=W4.cell? p) (by kernel_rfl) (fun p hp=>rfl) (fun hHeld=>?_)
    refine tlr 0 (fun K hK=>?_)
    go_simp
    refine (HWB.out _ hD.drew).mono ?_
    rintro e w5 ⟨rfl,hb5⟩
    have hB5:=hD.drew.trans (hb5.mono hD.size)
    refine hK.out _ _ (fun p hp=>hb5.cell hp) (fun hHeld=>?_)
    clear hK K
    refine tlw 1 ?_
    iterate 3 (refine tlv ?_)
    refine tlw 6 ?_
    refine tlr 5 (fun K hK=>?_)
    go_simp
    refine (HFEW.out _).mono ?_
    rintro e w' ⟨rfl,hw'⟩
    subst w'
    refine hK.out _ _ (fun p hp=>hb5.cell hp) (fun hHeld=>?_)
    clear hK K
    refine tlr 7 (fun K hK=>?_)
    go_simp
    refine (HDO.out _ hB5).mono ?_
    rintro e w6 ⟨rfl,hb6⟩
    refine hK.out _ _ (fun p hp=>(hb6.cell (Nat.lt_of_lt_of_le hp hb5.size)).trans (hb5.cell hp)) (fun hHeld=>?_)
    clear hK K
    refine tlv ?_
    refine tls 9 (fun K hK=>?_)
    go_simp
    refine hK.out _ _ ?_
    refine wpAnyL_done (by kernel_rfl) ?_ _
    clear hK K hHeld
    go_wp2
    go_ret
    exact ⟨by first | rfl | simp,HB.out.trans ((hB5.trans (hb6.mono hB5.size)).mono HB.out.size)⟩
   ·rw [hend] at x2
    have hle:=HSW.out hend
    refine wp_region_held_drew (S:=fun u=>∀ p:Addr,p.block<W3.heap.size→u.cell? p=W3.cell? p) (by kernel_rfl) (fun p hp=>rfl) (fun hHeld=>?_)
    refine thw 0 ?_
    iterate 10 (refine thv ?_)
    refine thw 12 ?_
    refine tkr 11 (fun K hK=>?_)
    go_simp
    refine (HRKb.out _ (Below.refl _ W3).drew).mono ?_
    rintro e w7 ⟨rfl,hb7⟩
    have hB7:Below W3.heap.size W3 w7:=(Below.refl _ W3).drew.trans hb7
    refine hK.out _ _ (fun p hp=>hB7.cell hp) (fun hHeld=>?_)
    clear hK K
    refine tkr 13 (fun K hK=>?_)
    go_simp
    refine (HRKa.out _ hB7 _).mono ?_
    rintro e w8 ⟨rfl,hb8⟩
    have hD:=hB7.trans (hb8.mono hB7.size)
    refine hK.out _ _ (fun p hp=>hD.cell hp) (fun hHeld=>?_)
    clear hK K hb7 hb8 hB7
    have hgt:decide (sumC τ.cts>sumC σ.cts)=false:=by simp;exact hle
    generalize sumC τ.cts=T1 at *
    generalize sumC σ.cts=T2 at *
    iterate 3 (refine thv ?_)
    refine wpAnyH_done (by kernel_rfl) ?_ _
    clear hHeld
    obtain ⟨W4,rfl⟩:∃ W4,W4=w8:=⟨_,rfl⟩
    replace p0:=(hD.cell (p:=⟨w.heap.size,0,none⟩) pl).trans p0
    replace p1:=(hD.cell (p:=⟨w.heap.size,1,none⟩) pl).trans p1
    replace q0:=(hD.cell (p:=⟨QB,0,none⟩) ql).trans q0
    replace q1:=(hD.cell (p:=⟨QB,1,none⟩) ql).trans q1
    have pl4:=Nat.lt_of_lt_of_le pl hD.size
    have ql4:=Nat.lt_of_lt_of_le ql hD.size
    clear x0 x1 x2 x3 x4 xl y0 y1 y2 y3 y4 yl pl ql hend
    go_upto_region 9 with fail
    refine wp_region_L 9 (S:=fun u=>∀ p:Addr,p.block<W4.heap.size→u.cell? p=W4.cell? p) (by kernel_rfl) (fun p hp=>rfl) (fun hHeld=>?_)
    refine tlr 0 (fun K hK=>?_)
    go_simp
    refine (HWB.out _ hD.drew).mono ?_
    rintro e w5 ⟨rfl,hb5⟩
    have hB5:=hD.drew.trans (hb5.mono hD.size)
    refine hK.out _ _ (fun p hp=>hb5.cell hp) (fun hHeld=>?_)
    clear hK K
    refine tlw 1 ?_
    iterate 3 (refine tlv ?_)
    refine tlw 6 ?_
    refine tlr 5 (fun K hK=>?_)
    go_simp
    refine (HFEW.out _).mono ?_
    rintro e w' ⟨rfl,hw'⟩
    subst w'
    refine hK.out _ _ (fun p hp=>hb5.cell hp) (fun hHeld=>?_)
    clear hK K
    refine tlr 7 (fun K hK=>?_)
    go_simp
    refine (HDO.out _ hB5).mono ?_
    rintro e w6 ⟨rfl,hb6⟩
    refine hK.out _ _ (fun p hp=>(hb6.cell (Nat.lt_of_lt_of_le hp hb5.size)).trans (hb5.cell hp)) (fun hHeld=>?_)
    clear hK K
    refine tlv ?_
    refine tls 9 (fun K hK=>?_)
    go_simp
    refine hK.out _ _ ?_
    refine wpAnyL_done (by kernel_rfl) ?_ _
    clear hK K hHeld
    go_wp2
    go_ret
    exact ⟨by first | rfl | simp,HB.out.trans ((hB5.trans (hb6.mono hB5.size)).mono HB.out.size)⟩
end Go.Proofs.YtkkolclmfcmfbaaGreatDoor
