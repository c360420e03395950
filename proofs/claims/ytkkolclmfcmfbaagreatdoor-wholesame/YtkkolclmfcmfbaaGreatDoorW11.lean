/-
  Of the proof of WholeSame: FH.
-/
import Derived.Test.YtkkolclmfcmfbaaGreatDoorW10
import Derived.BigQuiet
import Derived.Laws.EntriesVeiled
set_option linter.unusedVariables false
set_option linter.unusedSimpArgs false
set_option maxHeartbeats 40000000
namespace Go.Proofs.YtkkolclmfcmfbaaGreatDoor
open Go.RowKit Go.Shelf
theorem bothl_eq (ns:List Nd) (t:Tm):((List.range ns.length).map fun n=>bat (kpl ns t) n&&bat (rcl ns t) n)=bothl ns t:=by
 refine bat_ext (by simp [bothl]) fun n hn=>?_
 have hn' :n<ns.length:=by simpa using hn
 obtain ⟨x,hx⟩:=get_lt hn'
 rw [bat_map _ hn', kpl,rcl,bothl,bat_mapn hx,bat_mapn hx,bat_mapn hx]
theorem up1_any (m B k:Nat) (rk kp:List Bool) (ka pa:Option Addr) (kc pc:Nat) (w:World) (h4:w.cell? ⟨B,4,none⟩=some (.slice ka k kc)) (h5:w.cell? ⟨B,5,none⟩=some (.slice pa k pc)) (hB:B<w.heap.size) (hk:BoolsAt w ka rk) (hp:BoolsAt w pa kp) (e1:rk.length=k) (e2:kp.length=k) (hm:m<k) :
 Calls Tryz.prog 165 #[.int .i64 m,.pointer (some ⟨B,0,none⟩)] w fun e w' =>e=.returned (.bool (bat kp m&&bat rk m))∧w' =w:=by
 obtain ⟨b3,o3,rfl,l3,v3⟩:=bools_cell hk (k:=m) (by omega)
 obtain ⟨b4,o4,rfl,l4,v4⟩:=bools_cell hp (k:=m) (by omega)
 have hmi:(m:Int)<(k:Int):=by omega
 generalize bat rk m=R at v3 ⊢
 generalize bat kp m=K at v4 ⊢
 clear hk hp e1 e2
 cases K
 ·go_enter Tryz.func165,Tryz.ntmps165
  go_wp2
  go_ret
  exact ⟨rfl,rfl⟩
 ·go_enter Tryz.func165,Tryz.ntmps165
  go_wp2
  go_ret
  exact ⟨ret_bool (by simp),rfl⟩
set_option maxRecDepth 100000 in
theorem up_any (r:Int) (b off cap:Nat) (ns:List Nd) (t:Tm) (rb1 rb2:Nat) (ka pa:Option Addr) (kc pc:Nat) (w:World) (hN:NodesAt w b off ns) (hc:chk r ns=0) (hM:SM w ns t rb1 rb2 ka pa) :
 Calls Tryz.prog 136 #[.agg #[.int .i64 r,.slice (some ⟨b,off,none⟩) ns.length cap,.slice (some ⟨rb1,0,none⟩) ns.length ns.length,.slice (some ⟨rb2,0,none⟩) ns.length ns.length,.slice ka ns.length kc,.slice pa ns.length pc]] w fun e w' =>∃ v,e=.returned v∧w'.ownsRow w.heap.size 4 1 v ns.length ((upL ns t).map Value.bool)∧Below w.heap.size w w' :=by
 have eg:∀ args w,(callFunc 165 args).run Tryz.prog w=.ok (.enter 165 args) w:=enters_of Tryz.func165 (by kernel_rfl) rfl
 have hl:=(chk_zero hc).1
 have hfc:fchk r ns (upW ns t)=0:=fchk_of hc (nol_len _) (yesl_len _) (bothl_len ns t) (kpl_len ns t)
 have hbA:Below w.heap.size w (w.alloc (.cells #[.int .i64 r,.slice (some ⟨b,off,none⟩) ns.length cap,.slice (some ⟨rb1,0,none⟩) ns.length ns.length,.slice (some ⟨rb2,0,none⟩) ns.length ns.length,.slice ka ns.length kc,.slice pa ns.length pc] 195)):=(Below.refl _ w).alloc (Nat.le_refl _) _
 have hs:(w.alloc (.cells #[.int .i64 r,.slice (some ⟨b,off,none⟩) ns.length cap,.slice (some ⟨rb1,0,none⟩) ns.length ns.length,.slice (some ⟨rb2,0,none⟩) ns.length ns.length,.slice ka ns.length kc,.slice pa ns.length pc] 195)).heap[w.heap.size]?=some (.cells #[.int .i64 r,.slice (some ⟨b,off,none⟩) ns.length cap,.slice (some ⟨rb1,0,none⟩) ns.length ns.length,.slice (some ⟨rb2,0,none⟩) ns.length ns.length,.slice ka ns.length kc,.slice pa ns.length pc] 195 (0,0)):=World.alloc_heap_new w _
 go_enter Tryz.func136,Tryz.ntmps136
 go_upto_region 1 with fail
 generalize (w.alloc (.cells #[.int .i64 r,.slice (some ⟨b,off,none⟩) ns.length cap,.slice (some ⟨rb1,0,none⟩) ns.length ns.length,.slice (some ⟨rb2,0,none⟩) ns.length ns.length,.slice ka ns.length kc,.slice pa ns.length pc] 195))=W at hbA hs ⊢
 have hea:=each_any (fun n=>bat (kpl ns t) n&&bat (rcl ns t) n) 165 #[.pointer (some ⟨w.heap.size,0,none⟩)] r (some ⟨b,off,none⟩) ns.length cap (.slice (some ⟨rb1,0,none⟩) ns.length ns.length) (.slice (some ⟨rb2,0,none⟩) ns.length ns.length) (.slice ka ns.length kc) (.slice pa ns.length pc) W hl.2 eg (fun i hi U hU=>by
  have hs1:=(hU.block _ (blk_lt hs)).trans hs
  have hm:=hM.below (hbA.trans (hU.mono hbA.size))
  refine (up1_any i w.heap.size ns.length (rcl ns t) (kpl ns t) ka pa kc pc U (by rw [blk_cell hs1];rfl) (by rw [blk_cell hs1];rfl) (blk_lt hs1) hm.rk hm.kp (rcl_len ns t) (kpl_len ns t) hi).mono ?_
  rintro e w' ⟨rfl,rfl⟩
  exact ⟨rfl,Below.refl _ _⟩)
 rw [bothl_eq] at hea
 have HS:Hid (∀ u:World,Below W.heap.size W u→u.cell? ⟨w.heap.size,0,none⟩=some (.int .i64 r)∧u.cell? ⟨w.heap.size,1,none⟩=some (.slice (some ⟨b,off,none⟩) ns.length cap)∧u.cell? ⟨w.heap.size,2,none⟩=some (.slice (some ⟨rb1,0,none⟩) ns.length ns.length)∧u.cell? ⟨w.heap.size,3,none⟩=some (.slice (some ⟨rb2,0,none⟩) ns.length ns.length)∧u.cell? ⟨w.heap.size,4,none⟩=some (.slice ka ns.length kc)∧u.cell? ⟨w.heap.size,5,none⟩=some (.slice pa ns.length pc)):=fun u h=>by
  have k1:=(h.block _ (blk_lt hs)).trans hs
  refine ⟨?_,?_,?_,?_,?_,?_⟩
  ·rw [blk_cell k1];rfl
  ·rw [blk_cell k1];rfl
  ·rw [blk_cell k1];rfl
  ·rw [blk_cell k1];rfl
  ·rw [blk_cell k1];rfl
  ·rw [blk_cell k1];rfl
 have HSV:Hid (∀ (u:World),Below W.heap.size W u→∀ (na ya ba:Option Addr) (nc yc bc:Nat),BoolsAt u na (nol ns.length)→BoolsAt u ya (yesl ns.length)→BoolsAt u ba (bothl ns t)→Calls Tryz.prog 162 #[.agg #[.int .i64 r,.slice (some ⟨b,off,none⟩) ns.length cap,.slice (some ⟨rb1,0,none⟩) ns.length ns.length,.slice (some ⟨rb2,0,none⟩) ns.length ns.length,.slice ka ns.length kc,.slice pa ns.length pc],.agg #[.bool false,.bool false,.slice na ns.length nc,.slice ya ns.length yc,.slice ba ns.length bc,.slice pa ns.length pc]] u fun e w' =>∃ v,e=.returned v∧w'.ownsRow u.heap.size 4 1 v ns.length ((upL ns t).map Value.bool)∧Below u.heap.size u w'):=fun u h na ya ba nc yc bc h1 h2 h3=>by
  have hu:=hbA.trans (h.mono hbA.size)
  have hm:=hM.below hu
  exact ssolveL_any r b off cap ns (upW ns t) na ya ba pa nc yc bc pc _ _ _ _ u (hN.below hu hN.lt) hfc h1 h2 h3 hm.kp
 have HW:=hide hbA
 have HEA:=hide hea
 have sl:=blk_lt hs
 obtain ⟨s0,s1,s2,s3,s4,s5⟩:=HS.out _ (Below.refl _ W)
 clear hs hbA hM hN hc hfc hea
 go_upto_region 2 with (go_at_call 158;refine HEA.out.mono ?_;rintro e we ⟨ve,rfl,hve,hbe⟩;obtain ⟨ba,bc,rfl⟩:=owns_slice hve)
 clear s0 s1 s2 s3 s4 s5 HEA
 go_region_held3 (fun u=>u.cell? ⟨w.heap.size,0,none⟩=some (.int .i64 r)∧u.cell? ⟨w.heap.size,1,none⟩=some (.slice (some ⟨b,off,none⟩) ns.length cap)∧u.cell? ⟨w.heap.size,2,none⟩=some (.slice (some ⟨rb1,0,none⟩) ns.length ns.length)∧u.cell? ⟨w.heap.size,3,none⟩=some (.slice (some ⟨rb2,0,none⟩) ns.length ns.length)∧u.cell? ⟨w.heap.size,4,none⟩=some (.slice ka ns.length kc)∧u.cell? ⟨w.heap.size,5,none⟩=some (.slice pa ns.length pc)) (first
  | (with_reducible refine HS.out _ ?_;first | with_reducible exact hB3 | with_reducible exact hB2 | with_reducible exact hB1 | with_reducible exact hbe.drew | with_reducible exact hbe)) (first
  | (go_at_call 163;refine (none_any r _ ns.length cap _ _ _ _ _ hl.2).mono ?_;rintro e wa ⟨va,rfl,hva,hba⟩;obtain ⟨na,nc,rfl⟩:=owns_slice hva;have hE1:Below we.heap.size we wa:=(by first | exact (Below.refl _ we).drew.trans hba | exact hba);have hB1:Below W.heap.size W wa:=hbe.trans (hE1.mono hbe.size))
  | (go_at_call 164;refine (all_any r _ ns.length cap _ _ _ _ _ hl.2).mono ?_;rintro e wb ⟨vb,rfl,hvb,hbb⟩;obtain ⟨ya,yc,rfl⟩:=owns_slice hvb;have hB2:Below W.heap.size W wb:=hB1.trans (hbb.mono hB1.size))
  | (go_at_call 162;refine (HSV.out _ hB2 na ya ba nc yc bc (bools_owned (ownsRow_below hva hbb (Nat.le_refl _)) (nol_len _)) (bools_owned hvb (yesl_len _)) (bools_owned (ownsRow_below (ownsRow_below hve hE1 (Nat.le_refl _)) hbb (Nat.le_refl _)) (bothl_len ns t))).mono ?_;rintro e wd ⟨vd,rfl,hvd,hbd⟩;have hB3:Below W.heap.size W wd:=hB2.trans (hbd.mono hB2.size)))
 have HVD:=hide hvd
 have HB3:=hide hB3
 have hle:w.heap.size≤wb.heap.size:=Nat.le_trans HW.out.size hB2.size
 clear hvd hva hvb hve hba hbb hbd hbe hE1 hB1 hB2 hB3
 go_wp2
 go_ret
 exact ⟨_,rfl,ownsRow_base HVD.out hle,HW.out.trans (HB3.out.mono HW.out.size)⟩
set_option maxRecDepth 100000 in
theorem delay_any (r:Int) (b off cap:Nat) (ns:List Nd) (t:Tm) (rb1 rb2:Nat) (ka pa ga:Option Addr) (kc pc gc:Nat) (g0 g1 g3 g4 g5:Value) (w:World) (hN:NodesAt w b off ns) (hc:chk r ns=0) (hM:SM w ns t rb1 rb2 ka pa) (hG:BoolsAt w ga (earlyL ns t)) :
 Calls Tryz.prog 138 #[.agg #[.int .i64 r,.slice (some ⟨b,off,none⟩) ns.length cap,.slice (some ⟨rb1,0,none⟩) ns.length ns.length,.slice (some ⟨rb2,0,none⟩) ns.length ns.length,.slice ka ns.length kc,.slice pa ns.length pc],.agg #[g0,g1,.slice ga ns.length gc,g3,g4,g5]] w fun e w' =>∃ v,e=.returned v∧w'.ownsRow w.heap.size 4 1 v ns.length ((delayL ns t).map Value.bool)∧Below w.heap.size w w' :=by
 have hl:=(chk_zero hc).1
 have hfc:fchk r ns (delayW ns t)=0:=fchk_of hc (by simp [earlyL,delayW]) (yesl_len _) (nol_len _) (nrcl_len ns t)
 have hbA:Below w.heap.size w ((w.alloc (.cells #[.int .i64 r,.slice (some ⟨b,off,none⟩) ns.length cap,.slice (some ⟨rb1,0,none⟩) ns.length ns.length,.slice (some ⟨rb2,0,none⟩) ns.length ns.length,.slice ka ns.length kc,.slice pa ns.length pc] 195)).alloc (.cells #[g0,g1,.slice ga ns.length gc,g3,g4,g5] 164)):=((Below.refl _ w).alloc (Nat.le_refl _) _).alloc (by simp) _
 have hs:((w.alloc (.cells #[.int .i64 r,.slice (some ⟨b,off,none⟩) ns.length cap,.slice (some ⟨rb1,0,none⟩) ns.length ns.length,.slice (some ⟨rb2,0,none⟩) ns.length ns.length,.slice ka ns.length kc,.slice pa ns.length pc] 195)).alloc (.cells #[g0,g1,.slice ga ns.length gc,g3,g4,g5] 164)).heap[w.heap.size]?=some (.cells #[.int .i64 r,.slice (some ⟨b,off,none⟩) ns.length cap,.slice (some ⟨rb1,0,none⟩) ns.length ns.length,.slice (some ⟨rb2,0,none⟩) ns.length ns.length,.slice ka ns.length kc,.slice pa ns.length pc] 195 (0,0)):=(Below.heap_alloc _ _ _ (by simp)).trans (World.alloc_heap_new w _)
 have hf:((w.alloc (.cells #[.int .i64 r,.slice (some ⟨b,off,none⟩) ns.length cap,.slice (some ⟨rb1,0,none⟩) ns.length ns.length,.slice (some ⟨rb2,0,none⟩) ns.length ns.length,.slice ka ns.length kc,.slice pa ns.length pc] 195)).alloc (.cells #[g0,g1,.slice ga ns.length gc,g3,g4,g5] 164)).heap[w.heap.size+1]?=some (.cells #[g0,g1,.slice ga ns.length gc,g3,g4,g5] 164 (0,0)):=by
  have:=World.alloc_heap_new (w.alloc (.cells #[.int .i64 r,.slice (some ⟨b,off,none⟩) ns.length cap,.slice (some ⟨rb1,0,none⟩) ns.length ns.length,.slice (some ⟨rb2,0,none⟩) ns.length ns.length,.slice ka ns.length kc,.slice pa ns.length pc] 195)) (.cells #[g0,g1,.slice ga ns.length gc,g3,g4,g5] 164)
  rwa [World.size_alloc] at this
 go_enter Tryz.func138,Tryz.ntmps138
 go_upto_region 1 with fail
 generalize ((w.alloc (.cells #[.int .i64 r,.slice (some ⟨b,off,none⟩) ns.length cap,.slice (some ⟨rb1,0,none⟩) ns.length ns.length,.slice (some ⟨rb2,0,none⟩) ns.length ns.length,.slice ka ns.length kc,.slice pa ns.length pc] 195)).alloc (.cells #[g0,g1,.slice ga ns.length gc,g3,g4,g5] 164))=W at hbA hs hf ⊢
 have HS:Hid (∀ u:World,Below W.heap.size W u→u.cell? ⟨w.heap.size,0,none⟩=some (.int .i64 r)∧u.cell? ⟨w.heap.size,1,none⟩=some (.slice (some ⟨b,off,none⟩) ns.length cap)∧u.cell? ⟨w.heap.size,2,none⟩=some (.slice (some ⟨rb1,0,none⟩) ns.length ns.length)∧u.cell? ⟨w.heap.size,3,none⟩=some (.slice (some ⟨rb2,0,none⟩) ns.length ns.length)∧u.cell? ⟨w.heap.size,4,none⟩=some (.slice ka ns.length kc)∧u.cell? ⟨w.heap.size,5,none⟩=some (.slice pa ns.length pc)∧u.cell? ⟨w.heap.size+1,2,none⟩=some (.slice ga ns.length gc)):=fun u h=>by
  have k1:=(h.block _ (blk_lt hs)).trans hs
  have k2:=(h.block _ (blk_lt hf)).trans hf
  refine ⟨?_,?_,?_,?_,?_,?_,?_⟩
  ·rw [blk_cell k1];rfl
  ·rw [blk_cell k1];rfl
  ·rw [blk_cell k1];rfl
  ·rw [blk_cell k1];rfl
  ·rw [blk_cell k1];rfl
  ·rw [blk_cell k1];rfl
  ·rw [blk_cell k2];rfl
 have HSV:Hid (∀ (u:World),Below W.heap.size W u→∀ (na ya qa:Option Addr) (nc yc qc:Nat),BoolsAt u na (nol ns.length)→BoolsAt u ya (yesl ns.length)→BoolsAt u qa (nrcl ns t)→Calls Tryz.prog 162 #[.agg #[.int .i64 r,.slice (some ⟨b,off,none⟩) ns.length cap,.slice (some ⟨rb1,0,none⟩) ns.length ns.length,.slice (some ⟨rb2,0,none⟩) ns.length ns.length,.slice ka ns.length kc,.slice pa ns.length pc],.agg #[.bool false,.bool false,.slice ga ns.length gc,.slice ya ns.length yc,.slice na ns.length nc,.slice qa ns.length qc]] u fun e w' =>∃ v,e=.returned v∧w'.ownsRow u.heap.size 4 1 v ns.length ((delayL ns t).map Value.bool)∧Below u.heap.size u w'):=fun u h na ya qa nc yc qc h1 h2 h3=>by
  have hu:=hbA.trans (h.mono hbA.size)
  exact ssolveL_any r b off cap ns (delayW ns t) ga ya na qa gc yc nc qc _ _ _ _ u (hN.below hu hN.lt) hfc (hG.below hu) h2 h1 h3
 have HNR:Hid (∀ (u:World),Below W.heap.size W u→Calls Tryz.prog 168 #[.agg #[.int .i64 r,.slice (some ⟨b,off,none⟩) ns.length cap,.slice (some ⟨rb1,0,none⟩) ns.length ns.length,.slice (some ⟨rb2,0,none⟩) ns.length ns.length,.slice ka ns.length kc,.slice pa ns.length pc]] u fun e w' =>∃ v,e=.returned v∧w'.ownsRow u.heap.size 4 1 v ns.length ((nrcl ns t).map Value.bool)∧Below u.heap.size u w'):=fun u h=>by
  have hm:=hM.below (hbA.trans (h.mono hbA.size))
  have:=notReckoning_any r b off cap ns (rcl ns t) ka kc (.slice (some ⟨rb1,0,none⟩) ns.length ns.length) (.slice (some ⟨rb2,0,none⟩) ns.length ns.length) (.slice pa ns.length pc) u hm.rk (rcl_len ns t) hl.2
  rw [nrcl_eq] at this
  exact this
 have HW:=hide hbA
 have sl:=blk_lt hs
 have fl:=blk_lt hf
 clear hs hf hbA hM hN hc hfc hG
 go_region_held3 (fun u=>u.cell? ⟨w.heap.size,0,none⟩=some (.int .i64 r)∧u.cell? ⟨w.heap.size,1,none⟩=some (.slice (some ⟨b,off,none⟩) ns.length cap)∧u.cell? ⟨w.heap.size,2,none⟩=some (.slice (some ⟨rb1,0,none⟩) ns.length ns.length)∧u.cell? ⟨w.heap.size,3,none⟩=some (.slice (some ⟨rb2,0,none⟩) ns.length ns.length)∧u.cell? ⟨w.heap.size,4,none⟩=some (.slice ka ns.length kc)∧u.cell? ⟨w.heap.size,5,none⟩=some (.slice pa ns.length pc)∧u.cell? ⟨w.heap.size+1,2,none⟩=some (.slice ga ns.length gc)) (first
  | (with_reducible refine HS.out _ ?_;first | with_reducible exact hB4 | with_reducible exact hB3 | with_reducible exact hB2 | with_reducible exact hB1 | with_reducible exact (Below.refl _ W).drew | with_reducible exact (Below.refl _ W))) (first
  | (go_at_call 164;refine (all_any r _ ns.length cap _ _ _ _ _ hl.2).mono ?_;rintro e w1 ⟨v1,rfl,hv1,hb1⟩;obtain ⟨ya,yc,rfl⟩:=owns_slice hv1;have hB1:Below W.heap.size W w1:=(by first | exact (Below.refl _ W).drew.trans hb1 | exact hb1))
  | (go_at_call 163;refine (none_any r _ ns.length cap _ _ _ _ _ hl.2).mono ?_;rintro e w2 ⟨v2,rfl,hv2,hb2⟩;obtain ⟨na,nc,rfl⟩:=owns_slice hv2;have hB2:Below W.heap.size W w2:=hB1.trans (hb2.mono hB1.size))
  | (go_at_call 168;refine (HNR.out _ hB2).mono ?_;rintro e w3 ⟨v3,rfl,hv3,hb3⟩;obtain ⟨qa,qc,rfl⟩:=owns_slice hv3;have hB3:Below W.heap.size W w3:=hB2.trans (hb3.mono hB2.size))
  | (go_at_call 162;refine (HSV.out _ hB3 na ya qa nc yc qc (bools_owned (ownsRow_below hv2 hb3 (Nat.le_refl _)) (nol_len _)) (bools_owned (ownsRow_below (ownsRow_below hv1 hb2 (Nat.le_refl _)) hb3 (Nat.le_refl _)) (yesl_len _)) (bools_owned hv3 (nrcl_len ns t))).mono ?_;rintro e wd ⟨vd,rfl,hvd,hbd⟩;have hB4:Below W.heap.size W wd:=hB3.trans (hbd.mono hB3.size)))
 have HVD:=hide hvd
 have HB4:=hide hB4
 have hle:w.heap.size≤w3.heap.size:=Nat.le_trans HW.out.size hB3.size
 clear hvd hv1 hv2 hv3 hb1 hb2 hb3 hbd hB1 hB2 hB3 hB4
 go_wp2
 go_ret
 exact ⟨_,rfl,ownsRow_base HVD.out hle,HW.out.trans (HB4.out.mono HW.out.size)⟩
set_option maxRecDepth 100000 in
theorem alone_any (r:Int) (b off cap:Nat) (ns:List Nd) (t:Tm) (rb1 rb2:Nat) (ka pa ga:Option Addr) (kc pc gc:Nat) (g0 g1 g2 g3 g5:Value) (w:World) (hN:NodesAt w b off ns) (hc:chk r ns=0) (hM:SM w ns t rb1 rb2 ka pa) (hG:BoolsAt w ga (lateL ns t)) :
 Calls Tryz.prog 140 #[.agg #[.int .i64 r,.slice (some ⟨b,off,none⟩) ns.length cap,.slice (some ⟨rb1,0,none⟩) ns.length ns.length,.slice (some ⟨rb2,0,none⟩) ns.length ns.length,.slice ka ns.length kc,.slice pa ns.length pc],.agg #[g0,g1,g2,g3,.slice ga ns.length gc,g5]] w fun e w' =>∃ v,e=.returned v∧w'.ownsRow w.heap.size 4 1 v ns.length ((aloneL ns t).map Value.bool)∧Below w.heap.size w w' :=by
 have hl:=(chk_zero hc).1
 have hfc:fchk r ns (aloneW ns t)=0:=fchk_of hc (nol_len _) (yesl_len _) (by simp [lateL,aloneW]) (nrcl_len ns t)
 have hbA:Below w.heap.size w ((w.alloc (.cells #[.int .i64 r,.slice (some ⟨b,off,none⟩) ns.length cap,.slice (some ⟨rb1,0,none⟩) ns.length ns.length,.slice (some ⟨rb2,0,none⟩) ns.length ns.length,.slice ka ns.length kc,.slice pa ns.length pc] 195)).alloc (.cells #[g0,g1,g2,g3,.slice ga ns.length gc,g5] 164)):=((Below.refl _ w).alloc (Nat.le_refl _) _).alloc (by simp) _
 have hs:((w.alloc (.cells #[.int .i64 r,.slice (some ⟨b,off,none⟩) ns.length cap,.slice (some ⟨rb1,0,none⟩) ns.length ns.length,.slice (some ⟨rb2,0,none⟩) ns.length ns.length,.slice ka ns.length kc,.slice pa ns.length pc] 195)).alloc (.cells #[g0,g1,g2,g3,.slice ga ns.length gc,g5] 164)).heap[w.heap.size]?=some (.cells #[.int .i64 r,.slice (some ⟨b,off,none⟩) ns.length cap,.slice (some ⟨rb1,0,none⟩) ns.length ns.length,.slice (some ⟨rb2,0,none⟩) ns.length ns.length,.slice ka ns.length kc,.slice pa ns.length pc] 195 (0,0)):=(Below.heap_alloc _ _ _ (by simp)).trans (World.alloc_heap_new w _)
 have hf:((w.alloc (.cells #[.int .i64 r,.slice (some ⟨b,off,none⟩) ns.length cap,.slice (some ⟨rb1,0,none⟩) ns.length ns.length,.slice (some ⟨rb2,0,none⟩) ns.length ns.length,.slice ka ns.length kc,.slice pa ns.length pc] 195)).alloc (.cells #[g0,g1,g2,g3,.slice ga ns.length gc,g5] 164)).heap[w.heap.size+1]?=some (.cells #[g0,g1,g2,g3,.slice ga ns.length gc,g5] 164 (0,0)):=by
  have:=World.alloc_heap_new (w.alloc (.cells #[.int .i64 r,.slice (some ⟨b,off,none⟩) ns.length cap,.slice (some ⟨rb1,0,none⟩) ns.length ns.length,.slice (some ⟨rb2,0,none⟩) ns.length ns.length,.slice ka ns.length kc,.slice pa ns.length pc] 195)) (.cells #[g0,g1,g2,g3,.slice ga ns.length gc,g5] 164)
  rwa [World.size_alloc] at this
 go_enter Tryz.func140,Tryz.ntmps140
 go_upto_region 1 with fail
 generalize ((w.alloc (.cells #[.int .i64 r,.slice (some ⟨b,off,none⟩) ns.length cap,.slice (some ⟨rb1,0,none⟩) ns.length ns.length,.slice (some ⟨rb2,0,none⟩) ns.length ns.length,.slice ka ns.length kc,.slice pa ns.length pc] 195)).alloc (.cells #[g0,g1,g2,g3,.slice ga ns.length gc,g5] 164))=W at hbA hs hf ⊢
 have HS:Hid (∀ u:World,Below W.heap.size W u→u.cell? ⟨w.heap.size,0,none⟩=some (.int .i64 r)∧u.cell? ⟨w.heap.size,1,none⟩=some (.slice (some ⟨b,off,none⟩) ns.length cap)∧u.cell? ⟨w.heap.size,2,none⟩=some (.slice (some ⟨rb1,0,none⟩) ns.length ns.length)∧u.cell? ⟨w.heap.size,3,none⟩=some (.slice (some ⟨rb2,0,none⟩) ns.length ns.length)∧u.cell? ⟨w.heap.size,4,none⟩=some (.slice ka ns.length kc)∧u.cell? ⟨w.heap.size,5,none⟩=some (.slice pa ns.length pc)∧u.cell? ⟨w.heap.size+1,4,none⟩=some (.slice ga ns.length gc)):=fun u h=>by
  have k1:=(h.block _ (blk_lt hs)).trans hs
  have k2:=(h.block _ (blk_lt hf)).trans hf
  refine ⟨?_,?_,?_,?_,?_,?_,?_⟩
  ·rw [blk_cell k1];rfl
  ·rw [blk_cell k1];rfl
  ·rw [blk_cell k1];rfl
  ·rw [blk_cell k1];rfl
  ·rw [blk_cell k1];rfl
  ·rw [blk_cell k1];rfl
  ·rw [blk_cell k2];rfl
 have HSV:Hid (∀ (u:World),Below W.heap.size W u→∀ (na ya qa:Option Addr) (nc yc qc:Nat),BoolsAt u na (nol ns.length)→BoolsAt u ya (yesl ns.length)→BoolsAt u qa (nrcl ns t)→Calls Tryz.prog 162 #[.agg #[.int .i64 r,.slice (some ⟨b,off,none⟩) ns.length cap,.slice (some ⟨rb1,0,none⟩) ns.length ns.length,.slice (some ⟨rb2,0,none⟩) ns.length ns.length,.slice ka ns.length kc,.slice pa ns.length pc],.agg #[.bool true,.bool true,.slice na ns.length nc,.slice ya ns.length yc,.slice ga ns.length gc,.slice qa ns.length qc]] u fun e w' =>∃ v,e=.returned v∧w'.ownsRow u.heap.size 4 1 v ns.length ((aloneL ns t).map Value.bool)∧Below u.heap.size u w'):=fun u h na ya qa nc yc qc h1 h2 h3=>by
  have hu:=hbA.trans (h.mono hbA.size)
  exact ssolveL_any r b off cap ns (aloneW ns t) na ya ga qa nc yc gc qc _ _ _ _ u (hN.below hu hN.lt) hfc h1 h2 (hG.below hu) h3
 have HNR:Hid (∀ (u:World),Below W.heap.size W u→Calls Tryz.prog 168 #[.agg #[.int .i64 r,.slice (some ⟨b,off,none⟩) ns.length cap,.slice (some ⟨rb1,0,none⟩) ns.length ns.length,.slice (some ⟨rb2,0,none⟩) ns.length ns.length,.slice ka ns.length kc,.slice pa ns.length pc]] u fun e w' =>∃ v,e=.returned v∧w'.ownsRow u.heap.size 4 1 v ns.length ((nrcl ns t).map Value.bool)∧Below u.heap.size u w'):=fun u h=>by
  have hm:=hM.below (hbA.trans (h.mono hbA.size))
  have:=notReckoning_any r b off cap ns (rcl ns t) ka kc (.slice (some ⟨rb1,0,none⟩) ns.length ns.length) (.slice (some ⟨rb2,0,none⟩) ns.length ns.length) (.slice pa ns.length pc) u hm.rk (rcl_len ns t) hl.2
  rw [nrcl_eq] at this
  exact this
 have HW:=hide hbA
 have sl:=blk_lt hs
 have fl:=blk_lt hf
 clear hs hf hbA hM hN hc hfc hG
 go_region_held3 (fun u=>u.cell? ⟨w.heap.size,0,none⟩=some (.int .i64 r)∧u.cell? ⟨w.heap.size,1,none⟩=some (.slice (some ⟨b,off,none⟩) ns.length cap)∧u.cell? ⟨w.heap.size,2,none⟩=some (.slice (some ⟨rb1,0,none⟩) ns.length ns.length)∧u.cell? ⟨w.heap.size,3,none⟩=some (.slice (some ⟨rb2,0,none⟩) ns.length ns.length)∧u.cell? ⟨w.heap.size,4,none⟩=some (.slice ka ns.length kc)∧u.cell? ⟨w.heap.size,5,none⟩=some (.slice pa ns.length pc)∧u.cell? ⟨w.heap.size+1,4,none⟩=some (.slice ga ns.length gc)) (first
  | (with_reducible refine HS.out _ ?_;first | with_reducible exact hB4 | with_reducible exact hB3 | with_reducible exact hB2 | with_reducible exact hB1 | with_reducible exact (Below.refl _ W).drew | with_reducible exact (Below.refl _ W))) (first
  | (go_at_call 163;refine (none_any r _ ns.length cap _ _ _ _ _ hl.2).mono ?_;rintro e w1 ⟨v1,rfl,hv1,hb1⟩;obtain ⟨na,nc,rfl⟩:=owns_slice hv1;have hB1:Below W.heap.size W w1:=(by first | exact (Below.refl _ W).drew.trans hb1 | exact hb1))
  | (go_at_call 164;refine (all_any r _ ns.length cap _ _ _ _ _ hl.2).mono ?_;rintro e w2 ⟨v2,rfl,hv2,hb2⟩;obtain ⟨ya,yc,rfl⟩:=owns_slice hv2;have hB2:Below W.heap.size W w2:=hB1.trans (hb2.mono hB1.size))
  | (go_at_call 168;refine (HNR.out _ hB2).mono ?_;rintro e w3 ⟨v3,rfl,hv3,hb3⟩;obtain ⟨qa,qc,rfl⟩:=owns_slice hv3;have hB3:Below W.heap.size W w3:=hB2.trans (hb3.mono hB2.size))
  | (go_at_call 162;refine (HSV.out _ hB3 na ya qa nc yc qc (bools_owned (ownsRow_below (ownsRow_below hv1 hb2 (Nat.le_refl _)) hb3 (Nat.le_refl _)) (nol_len _)) (bools_owned (ownsRow_below hv2 hb3 (Nat.le_refl _)) (yesl_len _)) (bools_owned hv3 (nrcl_len ns t))).mono ?_;rintro e wd ⟨vd,rfl,hvd,hbd⟩;have hB4:Below W.heap.size W wd:=hB3.trans (hbd.mono hB3.size)))
 have HVD:=hide hvd
 have HB4:=hide hB4
 have hle:w.heap.size≤w3.heap.size:=Nat.le_trans HW.out.size hB3.size
 clear hvd hv1 hv2 hv3 hb1 hb2 hb3 hbd hB1 hB2 hB3 hB4
 go_wp2
 go_ret
 exact ⟨_,rfl,ownsRow_base HVD.out hle,HW.out.trans (HB4.out.mono HW.out.size)⟩
set_option maxRecDepth 100000 in
theorem everyIntS_any (R:Int→Bool) (g:Nat) (cb:Array Value) (a:Option Addr) (cap:Nat) (zs:List Int) (w:World) (hz:IntsAt w a zs) (hl:zs.length≤140737488351232)
 (eg:∀ args w,(callFunc g args).run Tryz.prog w=.ok (.enter g args) w)
 (hg:∀ z∈zs,Calls Tryz.prog g (#[.int .i64 z]++cb) w fun e w' =>e=.returned (.bool (R z))∧w' =w) :
 Calls Tryz.prog 14 #[.slice a zs.length cap,.func (.func g) #[] cb] w fun e w' =>e=.returned (.bool (zs.all R))∧w' =w:=by
 go_enter Tryz.func14,Tryz.ntmps14
 have HG:=hide hg
 clear hg
 go_wp2
 go_loopw [9] (fun i wr=>∃ k:Nat,k≤zs.length∧i=.int .i64 k∧Hid ((zs.take k).all R=true)∧wr=w) (fun i _=>zs.length-(intOf i).toNat)
 case atStart=>exact ⟨0,Nat.zero_le _,rfl,rfl,rfl⟩
 case round =>
  obtain ⟨k,hk,rfl,hA,rfl⟩:=hrel
  by_cases hlt:k<zs.length
  ·obtain ⟨z,hz'⟩:=get_lt hlt
   obtain ⟨b,off,rfl,hbl,hc⟩:=hz.at hlt
   have c0:=hc k z hz'
   have HX:Hid (zs[k]?=some z):=hz'
   have hm:z∈zs:=List.mem_of_getElem? hz'
   clear hz' hc
   go_wp2_with fail
   refine (HG.out z hm).mono ?_
   rintro e w1 ⟨rfl,rfl⟩
   cases hR:R z
   ·go_wp2
    go_ret
    exact ⟨ret_bool (all_false_at R HX.out hR).symm,rfl⟩
   ·go_wp2
    go_roundw
    case rel=>exact ⟨k+1,by omega,by go_num,(by show _=_;rw [all_take_succ _ HX.out,hA.out,hR];rfl),trivial⟩
    case measure=>simp [intOf];omega
  ·go_wp2
   go_ret
   refine ⟨ret_bool ?_,rfl⟩
   rw [← hA.out,take_all_len (by omega)]
theorem latest1_any (m B k:Nat) (dl:List Bool) (da:Option Addr) (dc:Nat) (w:World) (h3:w.cell? ⟨B,3,none⟩=some (.slice da k dc)) (hB:B<w.heap.size) (hd:BoolsAt w da dl) (e1:dl.length=k) (hm:m<k) :
 Calls Tryz.prog 169 #[.int .i64 m,.pointer (some ⟨B,0,none⟩)] w fun e w' =>e=.returned (.bool (bat dl m))∧w' =w:=by
 obtain ⟨b3,o3,rfl,l3,v3⟩:=bools_cell hd (k:=m) (by omega)
 have hmi:(m:Int)<(k:Int):=by omega
 generalize bat dl m=P at v3 ⊢
 clear hd e1
 go_enter Tryz.func169,Tryz.ntmps169
 go_wp2
 go_ret
 exact ⟨rfl,rfl⟩
set_option maxRecDepth 100000 in
theorem latest2_any (n FB SB GB k rb1:Nat) (F:Nat→List Nat) (dl rk:List Bool) (da ka:Option Addr) (dc kc:Nat) (w:World) (h3:w.cell? ⟨FB,3,none⟩=some (.slice da k dc)) (s4:w.cell? ⟨SB,4,none⟩=some (.slice ka k kc)) (s2:w.cell? ⟨SB,2,none⟩=some (.slice (some ⟨rb1,0,none⟩) k k)) (hg:w.cell? ⟨GB,0,none⟩=some (.func (.func 169) #[] #[.pointer (some ⟨FB,0,none⟩)]))
 (hF:FB<w.heap.size) (hS:SB<w.heap.size) (hG:GB<w.heap.size) (hd:BoolsAt w da dl) (hk:BoolsAt w ka rk) (hR:RowsR w rb1 k F) (e1:dl.length=k) (e2:rk.length=k) (hn:n<k) (hFl:∀ m,(F m).length≤k) (hFm:∀ m j,j∈F m→j<k) (hk256:k≤256) :
 Calls Tryz.prog 170 #[.int .i64 n,.pointer (some ⟨FB,0,none⟩),.pointer (some ⟨SB,0,none⟩),.pointer (some ⟨GB,0,none⟩)] w fun e w' =>e=.returned (.bool (bat dl n&&(bat rk n||!(F n).all fun m=>bat dl m)))∧Below w.heap.size w w' :=by
 have eg:∀ args w,(callFunc 169 args).run Tryz.prog w=.ok (.enter 169 args) w:=enters_of Tryz.func169 (by kernel_rfl) rfl
 obtain ⟨ra,rc,hrc,hI⟩:=hR.row n hn
 have hrl:=hR.lt
 have hni:(n:Int)<(k:Int):=by omega
 have hev:∀ q,Calls Tryz.prog 14 #[.slice ra (F n).length rc,.func (.func 169) #[] #[.pointer (some ⟨FB,0,none⟩)]] (w.drewN q) fun e w' =>e=.returned (.bool ((F n).all fun m=>bat dl m))∧w' =w.drewN q:=fun q=>by
  have hb:=below_drewN (Below.refl w.heap.size w) q
  have h:=everyIntS_any (fun z=>bat dl z.toNat) 169 #[.pointer (some ⟨FB,0,none⟩)] ra rc (ints (F n)) (w.drewN q) (hI.below hb) (by rw [ints_len];have:=hFl n;omega) eg (fun z hz=>by
   obtain ⟨m,hm,rfl⟩:=List.mem_map.1 hz
   exact latest1_any m FB k dl da dc _ ((hb.cell (p:=⟨FB,3,none⟩) hF).trans h3) (Nat.lt_of_lt_of_le hF hb.size) (hd.below hb) e1 (hFm n m hm))
  rw [ints_len] at h
  have e:((ints (F n)).all fun z=>bat dl z.toNat)=(F n).all fun m=>bat dl m:=by simp [ints,List.all_map,Function.comp_def]
  rw [e] at h
  exact h
 obtain ⟨b3,o3,rfl,l3,v3⟩:=bools_cell hd (k:=n) (by omega)
 obtain ⟨b4,o4,rfl,l4,v4⟩:=bools_cell hk (k:=n) (by omega)
 generalize ((F n).all fun m=>bat dl m)=E at hev ⊢
 generalize bat dl n=D at v3 ⊢
 generalize bat rk n=K at v4 ⊢
 have HEV:=hide hev
 clear hev hI hR hd hk e1 e2 hFl hFm
 cases D
 ·go_enter Tryz.func170,Tryz.ntmps170
  go_wp2
  go_quiet (fail)
  go_wp2
  go_ret
  exact ⟨rfl,below_drewN (Below.refl _ _) _⟩
 ·cases K
  ·go_enter Tryz.func170,Tryz.ntmps170
   go_wp2
   go_quiet (first | (go_at_call 14;exact Calls.quiet_of_same (HEV.out _)))
   go_wp2
   go_ret
   exact ⟨ret_bool (by simp),below_drewN (Below.refl _ _) _⟩
  ·go_enter Tryz.func170,Tryz.ntmps170
   go_wp2
   go_quiet (fail)
   go_wp2
   go_ret
   exact ⟨ret_bool (by simp),below_drewN (Below.refl _ _) _⟩
set_option maxRecDepth 100000 in
theorem latest_any (r:Int) (b off cap:Nat) (ns:List Nd) (t:Tm) (rb1 rb2:Nat) (ka pa da:Option Addr) (kc pc dc:Nat) (g0 g1 g2 g4 g5:Value) (w:World) (hl:ns.length≤256) (hM:SM w ns t rb1 rb2 ka pa) (hd:BoolsAt w da (delayL ns t)) :
 Calls Tryz.prog 139 #[.agg #[.int .i64 r,.slice (some ⟨b,off,none⟩) ns.length cap,.slice (some ⟨rb1,0,none⟩) ns.length ns.length,.slice (some ⟨rb2,0,none⟩) ns.length ns.length,.slice ka ns.length kc,.slice pa ns.length pc],.agg #[g0,g1,g2,.slice da ns.length dc,g4,g5]] w fun e w' =>∃ v,e=.returned v∧w'.ownsRow w.heap.size 4 1 v ns.length ((lateL ns t).map Value.bool)∧Below w.heap.size w w' :=by
 have eg:∀ args w,(callFunc 170 args).run Tryz.prog w=.ok (.enter 170 args) w:=enters_of Tryz.func170 (by kernel_rfl) rfl
 have hbA:Below w.heap.size w (((w.alloc (.cells #[.int .i64 r,.slice (some ⟨b,off,none⟩) ns.length cap,.slice (some ⟨rb1,0,none⟩) ns.length ns.length,.slice (some ⟨rb2,0,none⟩) ns.length ns.length,.slice ka ns.length kc,.slice pa ns.length pc] 195)).alloc (.cells #[g0,g1,g2,.slice da ns.length dc,g4,g5] 164)).alloc (.cells #[.func (.func 169) #[] #[.pointer (some ⟨w.heap.size+1,0,none⟩)]] 44)):=(((Below.refl _ w).alloc (Nat.le_refl _) _).alloc (by simp) _).alloc (by simp;omega) _
 have hs:(((w.alloc (.cells #[.int .i64 r,.slice (some ⟨b,off,none⟩) ns.length cap,.slice (some ⟨rb1,0,none⟩) ns.length ns.length,.slice (some ⟨rb2,0,none⟩) ns.length ns.length,.slice ka ns.length kc,.slice pa ns.length pc] 195)).alloc (.cells #[g0,g1,g2,.slice da ns.length dc,g4,g5] 164)).alloc (.cells #[.func (.func 169) #[] #[.pointer (some ⟨w.heap.size+1,0,none⟩)]] 44)).heap[w.heap.size]?=some (.cells #[.int .i64 r,.slice (some ⟨b,off,none⟩) ns.length cap,.slice (some ⟨rb1,0,none⟩) ns.length ns.length,.slice (some ⟨rb2,0,none⟩) ns.length ns.length,.slice ka ns.length kc,.slice pa ns.length pc] 195 (0,0)):=(Below.heap_alloc _ _ _ (by simp;omega)).trans ((Below.heap_alloc _ _ _ (by simp)).trans (World.alloc_heap_new w _))
 have hf:(((w.alloc (.cells #[.int .i64 r,.slice (some ⟨b,off,none⟩) ns.length cap,.slice (some ⟨rb1,0,none⟩) ns.length ns.length,.slice (some ⟨rb2,0,none⟩) ns.length ns.length,.slice ka ns.length kc,.slice pa ns.length pc] 195)).alloc (.cells #[g0,g1,g2,.slice da ns.length dc,g4,g5] 164)).alloc (.cells #[.func (.func 169) #[] #[.pointer (some ⟨w.heap.size+1,0,none⟩)]] 44)).heap[w.heap.size+1]?=some (.cells #[g0,g1,g2,.slice da ns.length dc,g4,g5] 164 (0,0)):=by
  have:=World.alloc_heap_new (w.alloc (.cells #[.int .i64 r,.slice (some ⟨b,off,none⟩) ns.length cap,.slice (some ⟨rb1,0,none⟩) ns.length ns.length,.slice (some ⟨rb2,0,none⟩) ns.length ns.length,.slice ka ns.length kc,.slice pa ns.length pc] 195)) (.cells #[g0,g1,g2,.slice da ns.length dc,g4,g5] 164)
  rw [World.size_alloc] at this
  exact (Below.heap_alloc _ _ _ (by simp)).trans this
 have hg:(((w.alloc (.cells #[.int .i64 r,.slice (some ⟨b,off,none⟩) ns.length cap,.slice (some ⟨rb1,0,none⟩) ns.length ns.length,.slice (some ⟨rb2,0,none⟩) ns.length ns.length,.slice ka ns.length kc,.slice pa ns.length pc] 195)).alloc (.cells #[g0,g1,g2,.slice da ns.length dc,g4,g5] 164)).alloc (.cells #[.func (.func 169) #[] #[.pointer (some ⟨w.heap.size+1,0,none⟩)]] 44)).heap[w.heap.size+1+1]?=some (.cells #[.func (.func 169) #[] #[.pointer (some ⟨w.heap.size+1,0,none⟩)]] 44 (0,0)):=by
  have:=World.alloc_heap_new ((w.alloc (.cells #[.int .i64 r,.slice (some ⟨b,off,none⟩) ns.length cap,.slice (some ⟨rb1,0,none⟩) ns.length ns.length,.slice (some ⟨rb2,0,none⟩) ns.length ns.length,.slice ka ns.length kc,.slice pa ns.length pc] 195)).alloc (.cells #[g0,g1,g2,.slice da ns.length dc,g4,g5] 164)) (.cells #[.func (.func 169) #[] #[.pointer (some ⟨w.heap.size+1,0,none⟩)]] 44)
  rwa [World.size_alloc,World.size_alloc] at this
 go_enter Tryz.func139,Tryz.ntmps139
 go_upto_region 2 with fail
 generalize (((w.alloc (.cells #[.int .i64 r,.slice (some ⟨b,off,none⟩) ns.length cap,.slice (some ⟨rb1,0,none⟩) ns.length ns.length,.slice (some ⟨rb2,0,none⟩) ns.length ns.length,.slice ka ns.length kc,.slice pa ns.length pc] 195)).alloc (.cells #[g0,g1,g2,.slice da ns.length dc,g4,g5] 164)).alloc (.cells #[.func (.func 169) #[] #[.pointer (some ⟨w.heap.size+1,0,none⟩)]] 44))=W at hbA hs hf hg ⊢
 have hea:=each_any (fun n=>bat (delayL ns t) n&&(bat (rcl ns t) n||!(nxl ns n).all fun m=>bat (delayL ns t) m)) 170 #[.pointer (some ⟨w.heap.size+1,0,none⟩),.pointer (some ⟨w.heap.size,0,none⟩),.pointer (some ⟨w.heap.size+1+1,0,none⟩)] r (some ⟨b,off,none⟩) ns.length cap (.slice (some ⟨rb1,0,none⟩) ns.length ns.length) (.slice (some ⟨rb2,0,none⟩) ns.length ns.length) (.slice ka ns.length kc) (.slice pa ns.length pc) W hl eg (fun i hi U hU=>by
  have k1:=(hU.block _ (blk_lt hs)).trans hs
  have k2:=(hU.block _ (blk_lt hf)).trans hf
  have k3:=(hU.block _ (blk_lt hg)).trans hg
  have hu:=hbA.trans (hU.mono hbA.size)
  have hm:=hM.below hu
  exact latest2_any i (w.heap.size+1) w.heap.size (w.heap.size+1+1) ns.length rb1 (nxl ns) (delayL ns t) (rcl ns t) da ka dc kc U (by rw [blk_cell k2];rfl) (by rw [blk_cell k1];rfl) (by rw [blk_cell k1];rfl) (by rw [blk_cell k3];rfl) (blk_lt k2) (blk_lt k1) (blk_lt k3) (hd.below hu) hm.rk hm.nx (solve_len ns _) (rcl_len ns t) hi (nxl_len ns) (fun m j h=>(mem_nxl.1 h).1) hl)
 have s0:=blk_cell hs 0
 have s1:=blk_cell hs 1
 have s2:=blk_cell hs 2
 have s3:=blk_cell hs 3
 have s4:=blk_cell hs 4
 have s5:=blk_cell hs 5
 simp at s0 s1 s2 s3 s4 s5
 have sl:=blk_lt hs
 have HEA:=hide hea
 have HW:=hide hbA
 clear hea hs hf hg hbA hM hd
 go_wp2_with fail
 refine HEA.out.mono ?_
 rintro e w1 ⟨v,rfl,hv,hb1⟩
 have HV:=hide hv
 clear hv
 go_wp2
 go_ret
 exact ⟨_,rfl,ownsRow_base HV.out HW.out.size,HW.out.trans (hb1.mono HW.out.size)⟩
theorem early1_any (m SB FB k:Nat) (kp dl ul:List Bool) (pa da ua:Option Addr) (pc dc uc:Nat) (w:World) (s5:w.cell? ⟨SB,5,none⟩=some (.slice pa k pc)) (f0:w.cell? ⟨FB,0,none⟩=some (.slice da k dc)) (f1:w.cell? ⟨FB,1,none⟩=some (.slice ua k uc)) (hS:SB<w.heap.size) (hF:FB<w.heap.size) (hp:BoolsAt w pa kp) (hd:BoolsAt w da dl) (hu:BoolsAt w ua ul) (e1:kp.length=k) (e2:dl.length=k) (e3:ul.length=k) (hm:m<k) :
 Calls Tryz.prog 166 #[.int .i64 m,.pointer (some ⟨SB,0,none⟩),.pointer (some ⟨FB,0,none⟩)] w fun e w' =>e=.returned (.bool (bat kp m&&(bat dl m||bat ul m)))∧w' =w:=by
 obtain ⟨b3,o3,rfl,l3,v3⟩:=bools_cell hp (k:=m) (by omega)
 obtain ⟨b4,o4,rfl,l4,v4⟩:=bools_cell hd (k:=m) (by omega)
 obtain ⟨b5,o5,rfl,l5,v5⟩:=bools_cell hu (k:=m) (by omega)
 have hmi:(m:Int)<(k:Int):=by omega
 generalize bat kp m=K at v3 ⊢
 generalize bat dl m=D at v4 ⊢
 generalize bat ul m=U at v5 ⊢
 clear hp hd hu e1 e2 e3
 cases K
 ·go_enter Tryz.func166,Tryz.ntmps166
  go_wp2
  go_ret
  exact ⟨rfl,rfl⟩
 ·cases D
  ·go_enter Tryz.func166,Tryz.ntmps166
   go_wp2
   go_ret
   exact ⟨ret_bool (by simp),rfl⟩
  ·go_enter Tryz.func166,Tryz.ntmps166
   go_wp2
   go_ret
   exact ⟨rfl,rfl⟩
set_option maxRecDepth 100000 in
theorem early2_any (n FB SB GB k rb2:Nat) (F:Nat→List Nat) (kp dl ul:List Bool) (pa da ua:Option Addr) (pc dc uc:Nat) (w:World) (s5:w.cell? ⟨SB,5,none⟩=some (.slice pa k pc)) (s3:w.cell? ⟨SB,3,none⟩=some (.slice (some ⟨rb2,0,none⟩) k k)) (f0:w.cell? ⟨FB,0,none⟩=some (.slice da k dc)) (f1:w.cell? ⟨FB,1,none⟩=some (.slice ua k uc)) (hg:w.cell? ⟨GB,0,none⟩=some (.func (.func 166) #[] #[.pointer (some ⟨SB,0,none⟩),.pointer (some ⟨FB,0,none⟩)]))
 (hF:FB<w.heap.size) (hS:SB<w.heap.size) (hG:GB<w.heap.size) (hp:BoolsAt w pa kp) (hd:BoolsAt w da dl) (hu:BoolsAt w ua ul) (hR:RowsR w rb2 k F) (e1:kp.length=k) (e2:dl.length=k) (e3:ul.length=k) (hn:n<k) (hFl:∀ m,(F m).length≤k) (hFm:∀ m j,j∈F m→j<k) (hk256:k≤256) :
 Calls Tryz.prog 167 #[.int .i64 n,.pointer (some ⟨FB,0,none⟩),.pointer (some ⟨SB,0,none⟩),.pointer (some ⟨GB,0,none⟩)] w fun e w' =>e=.returned (.bool (bat dl n&&((F n).isEmpty||!(F n).all fun m=>bat kp m&&(bat dl m||bat ul m))))∧Below w.heap.size w w' :=by
 have eg:∀ args w,(callFunc 166 args).run Tryz.prog w=.ok (.enter 166 args) w:=enters_of Tryz.func166 (by kernel_rfl) rfl
 obtain ⟨ra,rc,hrc,hI⟩:=hR.row n hn
 have hrl:=hR.lt
 have hni:(n:Int)<(k:Int):=by omega
 have hev:∀ q,Calls Tryz.prog 14 #[.slice ra (F n).length rc,.func (.func 166) #[] #[.pointer (some ⟨SB,0,none⟩),.pointer (some ⟨FB,0,none⟩)]] (w.drewN q) fun e w' =>e=.returned (.bool ((F n).all fun m=>bat kp m&&(bat dl m||bat ul m)))∧w' =w.drewN q:=fun q=>by
  have hb:=below_drewN (Below.refl w.heap.size w) q
  have h:=everyIntS_any (fun z=>bat kp z.toNat&&(bat dl z.toNat||bat ul z.toNat)) 166 #[.pointer (some ⟨SB,0,none⟩),.pointer (some ⟨FB,0,none⟩)] ra rc (ints (F n)) (w.drewN q) (hI.below hb) (by rw [ints_len];have:=hFl n;omega) eg (fun z hz=>by
   obtain ⟨m,hm,rfl⟩:=List.mem_map.1 hz
   exact early1_any m SB FB k kp dl ul pa da ua pc dc uc _ ((hb.cell (p:=⟨SB,5,none⟩) hS).trans s5) ((hb.cell (p:=⟨FB,0,none⟩) hF).trans f0) ((hb.cell (p:=⟨FB,1,none⟩) hF).trans f1) (Nat.lt_of_lt_of_le hS hb.size) (Nat.lt_of_lt_of_le hF hb.size) (hp.below hb) (hd.below hb) (hu.below hb) e1 e2 e3 (hFm n m hm))
  rw [ints_len] at h
  have e:((ints (F n)).all fun z=>bat kp z.toNat&&(bat dl z.toNat||bat ul z.toNat))=(F n).all fun m=>bat kp m&&(bat dl m||bat ul m):=by simp [ints,List.all_map,Function.comp_def]
  rw [e] at h
  exact h
 have HE:Hid ((F n).isEmpty=decide ((F n).length=0)):=by show _=_;cases F n <;> simp
 obtain ⟨b3,o3,rfl,l3,v3⟩:=bools_cell hd (k:=n) (by omega)
 generalize ((F n).all fun m=>bat kp m&&(bat dl m||bat ul m))=E at hev ⊢
 generalize (F n).isEmpty=Z at HE ⊢
 generalize (F n).length=len at HE hev hrc
 generalize bat dl n=D at v3 ⊢
 have HEV:=hide hev
 clear hev hI hR hd hp hu e1 e2 e3 hFl hFm
 cases D
 ·go_enter Tryz.func167,Tryz.ntmps167
  go_wp2
  go_quiet (fail)
  go_wp2
  go_ret
  exact ⟨rfl,below_drewN (Below.refl _ _) _⟩
 ·rcases Nat.eq_zero_or_pos len with rfl | hpos
  ·obtain rfl:Z=true:=by rw [HE.out];simp
   go_enter Tryz.func167,Tryz.ntmps167
   go_wp2
   go_quiet (fail)
   go_wp2
   go_ret
   exact ⟨ret_bool (by simp),below_drewN (Below.refl _ _) _⟩
  ·obtain rfl:Z=false:=by rw [HE.out];simp;omega
   have hz0:¬ len=0:=by omega
   have hdl:decide (len=0)=false:=by simp [hz0]
   have hdm:((len:Int)==0)=false:=by rw [beq_eq_false_iff_ne];omega
   have hdn:(len==0)=false:=by rw [beq_eq_false_iff_ne];exact hz0
   go_enter Tryz.func167,Tryz.ntmps167
   go_wp2
   go_quiet (first | (go_at_call 14;exact Calls.quiet_of_same (HEV.out _)))
   go_wp2
   go_ret
   exact ⟨ret_bool (by simp),below_drewN (Below.refl _ _) _⟩
set_option maxRecDepth 100000 in
theorem earliest_any (r:Int) (b off cap:Nat) (ns:List Nd) (t:Tm) (rb1 rb2:Nat) (ka pa da ua:Option Addr) (kc pc dc uc:Nat) (g2 g3 g4 g5:Value) (w:World) (hl:ns.length≤256) (hM:SM w ns t rb1 rb2 ka pa) (hd:BoolsAt w da (downL ns t)) (hup:BoolsAt w ua (upL ns t)) :
 Calls Tryz.prog 137 #[.agg #[.int .i64 r,.slice (some ⟨b,off,none⟩) ns.length cap,.slice (some ⟨rb1,0,none⟩) ns.length ns.length,.slice (some ⟨rb2,0,none⟩) ns.length ns.length,.slice ka ns.length kc,.slice pa ns.length pc],.agg #[.slice da ns.length dc,.slice ua ns.length uc,g2,g3,g4,g5]] w fun e w' =>∃ v,e=.returned v∧w'.ownsRow w.heap.size 4 1 v ns.length ((earlyL ns t).map Value.bool)∧Below w.heap.size w w' :=by
 have eg:∀ args w,(callFunc 167 args).run Tryz.prog w=.ok (.enter 167 args) w:=enters_of Tryz.func167 (by kernel_rfl) rfl
 have hbA:Below w.heap.size w (((w.alloc (.cells #[.int .i64 r,.slice (some ⟨b,off,none⟩) ns.length cap,.slice (some ⟨rb1,0,none⟩) ns.length ns.length,.slice (some ⟨rb2,0,none⟩) ns.length ns.length,.slice ka ns.length kc,.slice pa ns.length pc] 195)).alloc (.cells #[.slice da ns.length dc,.slice ua ns.length uc,g2,g3,g4,g5] 164)).alloc (.cells #[.func (.func 166) #[] #[.pointer (some ⟨w.heap.size,0,none⟩),.pointer (some ⟨w.heap.size+1,0,none⟩)]] 44)):=(((Below.refl _ w).alloc (Nat.le_refl _) _).alloc (by simp) _).alloc (by simp;omega) _
 have hs:(((w.alloc (.cells #[.int .i64 r,.slice (some ⟨b,off,none⟩) ns.length cap,.slice (some ⟨rb1,0,none⟩) ns.length ns.length,.slice (some ⟨rb2,0,none⟩) ns.length ns.length,.slice ka ns.length kc,.slice pa ns.length pc] 195)).alloc (.cells #[.slice da ns.length dc,.slice ua ns.length uc,g2,g3,g4,g5] 164)).alloc (.cells #[.func (.func 166) #[] #[.pointer (some ⟨w.heap.size,0,none⟩),.pointer (some ⟨w.heap.size+1,0,none⟩)]] 44)).heap[w.heap.size]?=some (.cells #[.int .i64 r,.slice (some ⟨b,off,none⟩) ns.length cap,.slice (some ⟨rb1,0,none⟩) ns.length ns.length,.slice (some ⟨rb2,0,none⟩) ns.length ns.length,.slice ka ns.length kc,.slice pa ns.length pc] 195 (0,0)):=(Below.heap_alloc _ _ _ (by simp;omega)).trans ((Below.heap_alloc _ _ _ (by simp)).trans (World.alloc_heap_new w _))
 have hf:(((w.alloc (.cells #[.int .i64 r,.slice (some ⟨b,off,none⟩) ns.length cap,.slice (some ⟨rb1,0,none⟩) ns.length ns.length,.slice (some ⟨rb2,0,none⟩) ns.length ns.length,.slice ka ns.length kc,.slice pa ns.length pc] 195)).alloc (.cells #[.slice da ns.length dc,.slice ua ns.length uc,g2,g3,g4,g5] 164)).alloc (.cells #[.func (.func 166) #[] #[.pointer (some ⟨w.heap.size,0,none⟩),.pointer (some ⟨w.heap.size+1,0,none⟩)]] 44)).heap[w.heap.size+1]?=some (.cells #[.slice da ns.length dc,.slice ua ns.length uc,g2,g3,g4,g5] 164 (0,0)):=by
  have:=World.alloc_heap_new (w.alloc (.cells #[.int .i64 r,.slice (some ⟨b,off,none⟩) ns.length cap,.slice (some ⟨rb1,0,none⟩) ns.length ns.length,.slice (some ⟨rb2,0,none⟩) ns.length ns.length,.slice ka ns.length kc,.slice pa ns.length pc] 195)) (.cells #[.slice da ns.length dc,.slice ua ns.length uc,g2,g3,g4,g5] 164)
  rw [World.size_alloc] at this
  exact (Below.heap_alloc _ _ _ (by simp)).trans this
 have hg:(((w.alloc (.cells #[.int .i64 r,.slice (some ⟨b,off,none⟩) ns.length cap,.slice (some ⟨rb1,0,none⟩) ns.length ns.length,.slice (some ⟨rb2,0,none⟩) ns.length ns.length,.slice ka ns.length kc,.slice pa ns.length pc] 195)).alloc (.cells #[.slice da ns.length dc,.slice ua ns.length uc,g2,g3,g4,g5] 164)).alloc (.cells #[.func (.func 166) #[] #[.pointer (some ⟨w.heap.size,0,none⟩),.pointer (some ⟨w.heap.size+1,0,none⟩)]] 44)).heap[w.heap.size+1+1]?=some (.cells #[.func (.func 166) #[] #[.pointer (some ⟨w.heap.size,0,none⟩),.pointer (some ⟨w.heap.size+1,0,none⟩)]] 44 (0,0)):=by
  have:=World.alloc_heap_new ((w.alloc (.cells #[.int .i64 r,.slice (some ⟨b,off,none⟩) ns.length cap,.slice (some ⟨rb1,0,none⟩) ns.length ns.length,.slice (some ⟨rb2,0,none⟩) ns.length ns.length,.slice ka ns.length kc,.slice pa ns.length pc] 195)).alloc (.cells #[.slice da ns.length dc,.slice ua ns.length uc,g2,g3,g4,g5] 164)) (.cells #[.func (.func 166) #[] #[.pointer (some ⟨w.heap.size,0,none⟩),.pointer (some ⟨w.heap.size+1,0,none⟩)]] 44)
  rwa [World.size_alloc,World.size_alloc] at this
 go_enter Tryz.func137,Tryz.ntmps137
 go_upto_region 2 with fail
 generalize (((w.alloc (.cells #[.int .i64 r,.slice (some ⟨b,off,none⟩) ns.length cap,.slice (some ⟨rb1,0,none⟩) ns.length ns.length,.slice (some ⟨rb2,0,none⟩) ns.length ns.length,.slice ka ns.length kc,.slice pa ns.length pc] 195)).alloc (.cells #[.slice da ns.length dc,.slice ua ns.length uc,g2,g3,g4,g5] 164)).alloc (.cells #[.func (.func 166) #[] #[.pointer (some ⟨w.heap.size,0,none⟩),.pointer (some ⟨w.heap.size+1,0,none⟩)]] 44))=W at hbA hs hf hg ⊢
 have hea:=each_any (fun n=>bat (downL ns t) n&&((ahl ns n).isEmpty||!(ahl ns n).all fun m=>bat (kpl ns t) m&&(bat (downL ns t) m||bat (upL ns t) m))) 167 #[.pointer (some ⟨w.heap.size+1,0,none⟩),.pointer (some ⟨w.heap.size,0,none⟩),.pointer (some ⟨w.heap.size+1+1,0,none⟩)] r (some ⟨b,off,none⟩) ns.length cap (.slice (some ⟨rb1,0,none⟩) ns.length ns.length) (.slice (some ⟨rb2,0,none⟩) ns.length ns.length) (.slice ka ns.length kc) (.slice pa ns.length pc) W hl eg (fun i hi U hU=>by
  have k1:=(hU.block _ (blk_lt hs)).trans hs
  have k2:=(hU.block _ (blk_lt hf)).trans hf
  have k3:=(hU.block _ (blk_lt hg)).trans hg
  have hu:=hbA.trans (hU.mono hbA.size)
  have hm:=hM.below hu
  exact early2_any i (w.heap.size+1) w.heap.size (w.heap.size+1+1) ns.length rb2 (ahl ns) (kpl ns t) (downL ns t) (upL ns t) pa da ua pc dc uc U (by rw [blk_cell k1];rfl) (by rw [blk_cell k1];rfl) (by rw [blk_cell k2];rfl) (by rw [blk_cell k2];rfl) (by rw [blk_cell k3];rfl) (blk_lt k2) (blk_lt k1) (blk_lt k3) hm.kp (hd.below hu) (hup.below hu) hm.ah (kpl_len ns t) (solve_len ns _) (solve_len ns _) hi (ahl_len ns) (fun m j h=>(mem_ahl.1 h).1) hl)
 have s0:=blk_cell hs 0
 have s1:=blk_cell hs 1
 have s2:=blk_cell hs 2
 have s3:=blk_cell hs 3
 have s4:=blk_cell hs 4
 have s5:=blk_cell hs 5
 simp at s0 s1 s2 s3 s4 s5
 have sl:=blk_lt hs
 have HEA:=hide hea
 have HW:=hide hbA
 clear hea hs hf hg hbA hM hd hup
 go_wp2_with fail
 refine HEA.out.mono ?_
 rintro e w1 ⟨v,rfl,hv,hb1⟩
 have HV:=hide hv
 clear hv
 go_wp2
 go_ret
 exact ⟨_,rfl,ownsRow_base HV.out HW.out.size,HW.out.trans (hb1.mono HW.out.size)⟩
def tchk (r:Int) (ns:List Nd) (t:Tm):Int:=if chk r ns=0 then (if 3≤t.op∧t.op≤8 then (if (0≤t.a∧t.a<r)∧(0≤t.b∧t.b<r) then 0 else 3) else 4) else chk r ns
theorem check1_any (z r:Int) (B:Nat) (w:World) (h0:w.cell? ⟨B,0,none⟩=some (.int .i64 r)) (hB:B<w.heap.size) :
 Calls Tryz.prog 157 #[.int .i64 z,.pointer (some ⟨B,0,none⟩)] w fun e w' =>e=.returned (.bool (decide (0≤z∧z<r)))∧w' =w:=by
 by_cases h1:0≤z
 ·by_cases h2:z<r
  ·go_enter Tryz.func157,Tryz.ntmps157
   go_wp2
   go_ret
   exact ⟨ret_bool (by simp [h1,h2]),rfl⟩
  ·go_enter Tryz.func157,Tryz.ntmps157
   go_wp2
   go_ret
   exact ⟨ret_bool (by simp [h2]),rfl⟩
 ·go_enter Tryz.func157,Tryz.ntmps157
  go_wp2
  go_ret
  exact ⟨ret_bool (by have hz:¬ (0≤z):=by omega
                      simp [hz]),rfl⟩
set_option maxRecDepth 100000 in
theorem tcheck_any (r:Int) (a:Option Addr) (cap:Nat) (ns:List Nd) (t:Tm) (w:World) (hN:SlN w a ns) :
 Calls Tryz.prog 133 #[.agg #[.int .i64 r,.slice a ns.length cap],.agg #[.int .i64 t.op,.int .i64 t.a,.int .i64 t.b]] w fun e w' =>e=.returned (.int .i64 (tchk r ns t))∧Below w.heap.size w w' :=by
 have eg:∀ args w,(callFunc 157 args).run Tryz.prog w=.ok (.enter 157 args) w:=enters_of Tryz.func157 (by kernel_rfl) rfl
 have HF:Hid (tchk r ns t=if chk r ns=0 then (if 3≤t.op∧t.op≤8 then (if (0≤t.a∧t.a<r)∧(0≤t.b∧t.b<r) then 0 else 3) else 4) else chk r ns):=rfl
 generalize tchk r ns t=C at HF ⊢
 have HN:=hide hN
 clear hN
 have hbA:Below w.heap.size w ((w.alloc (.cells #[.int .i64 r,.slice a ns.length cap] 24)).alloc (.cells #[.int .i64 t.op,.int .i64 t.a,.int .i64 t.b] 57)):=((Below.refl _ w).alloc (Nat.le_refl _) _).alloc (by simp) _
 have hp:((w.alloc (.cells #[.int .i64 r,.slice a ns.length cap] 24)).alloc (.cells #[.int .i64 t.op,.int .i64 t.a,.int .i64 t.b] 57)).heap[w.heap.size]?=some (.cells #[.int .i64 r,.slice a ns.length cap] 24 (0,0)):=(Below.heap_alloc _ _ _ (by simp)).trans (World.alloc_heap_new w _)
 have hq:((w.alloc (.cells #[.int .i64 r,.slice a ns.length cap] 24)).alloc (.cells #[.int .i64 t.op,.int .i64 t.a,.int .i64 t.b] 57)).heap[w.heap.size+1]?=some (.cells #[.int .i64 t.op,.int .i64 t.a,.int .i64 t.b] 57 (0,0)):=by
  have:=World.alloc_heap_new (w.alloc (.cells #[.int .i64 r,.slice a ns.length cap] 24)) (.cells #[.int .i64 t.op,.int .i64 t.a,.int .i64 t.b] 57)
  rwa [World.size_alloc] at this
 go_enter Tryz.func133,Tryz.ntmps133
 go_upto_region 1 with fail
 generalize ((w.alloc (.cells #[.int .i64 r,.slice a ns.length cap] 24)).alloc (.cells #[.int .i64 t.op,.int .i64 t.a,.int .i64 t.b] 57))=W at hbA hp hq ⊢
 have p0:=blk_cell hp 0
 have p1:=blk_cell hp 1
 simp at p0 p1
 have pl:=blk_lt hp
 have ql:=blk_lt hq
 have HB:=hide hbA
 have HP:=hide hp
 have HQ:=hide hq
 clear hbA hp hq
 go_upto_region 2 with (go_at_call 11;refine (check_any r a cap ns _ (HN.out.below HB.out)).mono ?_;rintro e w1 ⟨rfl,hb1⟩)
 have hp1:=(hb1.block _ pl).trans HP.out
 have hq1:=(hb1.block _ ql).trans HQ.out
 have hB1:Below w.heap.size w w1:=HB.out.trans (hb1.mono HB.out.size)
 clear p0 p1 pl ql hb1 HP HQ HB
 by_cases hc:chk r ns=0
 ·rw [hc]
  have HC:=hide hc
  have z0:=blk_cell hp1 0
  have y0:=blk_cell hq1 0
  have y1:=blk_cell hq1 1
  have y2:=blk_cell hq1 2
  simp at z0 y0 y1 y2
  have pl:=blk_lt hp1
  have ql:=blk_lt hq1
  clear hp1 hq1 hc
  by_cases h3:t.op<3
  ·go_wp2
   go_ret
   refine ⟨ret_int ?_,hB1⟩
   rw [HF.out,if_pos HC.out,if_neg (by omega)]
  ·by_cases h8:t.op>8
   ·go_wp2
    go_ret
    refine ⟨ret_int ?_,hB1⟩
    rw [HF.out,if_pos HC.out,if_neg (by omega)]
   ·have H38:Hid (3≤t.op∧t.op≤8):=⟨by omega,by omega⟩
    go_wp2_with fail
    have hbE:Below w1.heap.size w1 (w1.alloc (.cells #[.int .i64 t.a,.int .i64 t.b] 3)):=(Below.refl _ w1).alloc (Nat.le_refl _) _
    have hn:=World.alloc_heap_new w1 (.cells #[.int .i64 t.a,.int .i64 t.b] 3)
    generalize (w1.alloc (.cells #[.int .i64 t.a,.int .i64 t.b] 3))=W2 at hbE hn ⊢
    have hz2:=(hbE.cell (p:=⟨w.heap.size,0,none⟩) pl).trans z0
    have hl2:=Nat.lt_of_lt_of_le pl hbE.size
    refine (everyInt_any (fun z=>decide (0≤z∧z<r)) 157 #[.pointer (some ⟨w.heap.size,0,none⟩)] (some ⟨w1.heap.size,0,none⟩) 2 [t.a,t.b] W2 (Or.inr ⟨w1.heap.size,0,rfl,blk_lt hn,fun j z hj=>?_⟩) (by simp) eg (fun z hz U hU=>?_)).mono ?_
    ·rw [Nat.zero_add,blk_cell hn]
     match j,hj with
     | 0,hj | 1,hj=>simp at hj;subst hj;rfl
     | j+2,hj=>simp at hj
    ·refine (check1_any z r w.heap.size U ((hU.cell (p:=⟨w.heap.size,0,none⟩) hl2).trans hz2) (Nat.lt_of_lt_of_le hl2 hU.size)).mono ?_
     rintro e w' ⟨rfl,rfl⟩
     exact ⟨rfl,Below.refl _ _⟩
    rintro e w3 ⟨rfl,hb3⟩
    have hB3:Below w.heap.size w w3:=hB1.trans ((hbE.trans (hb3.mono hbE.size)).mono hB1.size)
    have HA:Hid (([t.a,t.b].all fun z=>decide (0≤z∧z<r))=decide ((0≤t.a∧t.a<r)∧(0≤t.b∧t.b<r))):=by show _=_;simp
    clear hbE hn hz2 hl2 hb3 z0 y0 y1 y2
    generalize ([t.a,t.b].all fun z=>decide (0≤z∧z<r))=A at HA ⊢
    cases A
    ·go_wp2
     go_ret
     refine ⟨ret_int ?_,hB3⟩
     rw [HF.out,if_pos HC.out,if_pos H38.out,if_neg (of_decide_eq_false HA.out.symm)]
    ·go_wp2
     go_ret
     refine ⟨ret_int ?_,hB3⟩
     rw [HF.out,if_pos HC.out,if_pos H38.out,if_pos (of_decide_eq_true HA.out.symm)]
 ·have HC:=hide hc
  have hne:¬ (chk r ns=0):=hc
  clear hp1 hq1
  go_wp2
  go_ret
  refine ⟨ret_int ?_,hB1⟩
  rw [HF.out,if_neg HC.out]
end Go.Proofs.YtkkolclmfcmfbaaGreatDoor
