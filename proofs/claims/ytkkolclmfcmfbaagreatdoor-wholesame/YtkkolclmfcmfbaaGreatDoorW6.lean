/-
  Of the proof of WholeSame: LD, LH.
-/
import Derived.Test.YtkkolclmfcmfbaaGreatDoorW1
import Derived.Test.YtkkolclmfcmfbaaGreatDoorW2
import Derived.Test.YtkkolclmfcmfbaaGreatDoorW4
import Derived.Test.YtkkolclmfcmfbaaGreatDoorW5
import Derived.Laws.MakeOwn
import Derived.Stop.RegionWithIn
import Derived.Sort.CutIn
set_option linter.unusedVariables false
set_option linter.unusedSimpArgs false
set_option maxHeartbeats 40000000
namespace Go.Proofs.YtkkolclmfcmfbaaGreatDoor
open Go.RowKit Go.Shelf
attribute [local go_sem] Oper.semAt_some
theorem exo_lt {r:Int} {ns:List Nd} (hc:chk r ns=0) {x:Nd} (hx:x∈ns) {m:Int} (hm:m∈exo x):0≤m∧m<ns.length:=by
 unfold exo at hm
 have hk:=wi_iff.1 ((chk_zero hc).2.2.1 x hx)
 split at hm
 ·rename_i h11
  have a:=then_ok hc hx (by omega)
  have b:=else_ok hc hx h11
  split at hm
  ·simp at hm;omega
  ·simp at hm;omega
 ·split at hm
  ·rename_i h11 hw
   have:=wi_iff.1 hw
   have a:=then_ok hc hx (by omega)
   simp at hm;omega
  ·simp at hm
theorem info_ints:(Tryz.prog.info? 25).map (fun i=>(i.zero,i.size,i.bytes))=some (some (.slice none 0 0),1,24):=by kernel_rfl
theorem rowsAt_more (ns:List Nd) (k:Nat) (l:List Int) (m:Nat):rowsAt ns k (l++[(m:Int)]) m=rowsAt ns k l m++[(k:Int)]:=by
 simp [rowsAt,List.count_append,List.replicate_succ']
theorem rowsAt_else (ns:List Nd) (k:Nat) (l:List Int) {m j:Nat} (h:j≠m):rowsAt ns k (l++[(m:Int)]) j=rowsAt ns k l j:=by
 have:List.count (j:Int) [(m:Int)]=0:=by
  rw [List.count_eq_zero];simp;omega
 simp only [rowsAt,List.count_append,this,Nat.add_zero]
theorem made_rows (n:Nat):madeCells #[Value.slice none 0 0] n=(List.replicate n (Value.slice none 0 0)).toArray:=by
 apply Array.ext'
 rw [toList_madeCells_one]
theorem rows_new {w:World} {base rb L:Nat} {ns:List Nd} (h:w.heap[rb]?=some (.cells (madeCells #[Value.slice none 0 0] L) 25 (0,0))):RowsAt w base rb L (List.replicate L (.slice none 0 0)) (fun m=>pick (ahB ns m) 0):=by
 refine ⟨by rw [h,made_rows],by simp,fun m v hv=>?_,fun m1 m2 v1 v2 g h1 h2 e1 e2=>?_⟩
 ·obtain rfl:=List.eq_of_mem_replicate (List.mem_of_getElem? hv)
  exact World.ownsRow_nil _ _ _ _
 ·obtain rfl:=List.eq_of_mem_replicate (List.mem_of_getElem? h1)
  simp [Value.ownBlock] at e1
set_option maxRecDepth 100000 in
theorem linksAhead_in (n:Nat) (hn:4≤n) (r:Int) (b off cap:Nat) (ns:List Nd) (w:World) (hN:NodesAt w b off ns) (hc:chk r ns=0) :
 CallsIn Fence.wide n Tryz.prog 49 #[.agg #[.int .i64 r,.slice (some ⟨b,off,none⟩) ns.length cap]] w fun e w' =>∃ rb vs,e=.returned (.slice (some ⟨rb,0,none⟩) ns.length ns.length)∧RowsAt w' w.heap.size rb ns.length vs (fun m=>pick (ahB ns m) ns.length)∧Below w.heap.size w w' :=by
 have h1:1≤n:=by omega
 have h2:1≤n-1-1:=by omega
 have hl:=(chk_zero hc).1
 obtain ⟨i0,hi,hz0,hz1,hz2⟩:=info_parts info_int
 refine callsIn_of_wp_marks Tryz.func49 rfl trivial ?_ rfl
 simp only [Tryz.ntmps49,List.size_toArray,List.length_cons,List.length_nil,Nat.reduceAdd,Nat.reduceSub,Array.replicate_succ,Array.replicate_zero,List.push_toArray,List.append_toArray,List.nil_append,List.cons_append]
 have hms:∀ W:World,Sem.run Tryz.prog (Instr.makeSlice 96 (.int .i64 (ns.length:Int)) (.int .i64 (ns.length:Int))) W=.ok (.slice (some ⟨W.heap.size,0,none⟩) ns.length ns.length) (W.alloc (.cells (madeCells #[.slice none 0 0] ns.length) 25)):=fun W=>run_make_row' 96 25 _ 24 Tryz.underlying96 info_ints rfl .i64 .i64 ns.length (by omega) (by omega) W
 gi_wp2
 have hB0:Below w.heap.size w (((w.alloc (.cells #[.int .i64 r,.slice (some ⟨b,off,none⟩) ns.length cap] 24)).alloc (.cells (madeCells #[.slice none 0 0] ns.length) 25)).alloc (.cells #[.slice (some ⟨w.heap.size+1,0,none⟩) ns.length ns.length] 96)):=(((Below.refl _ w).alloc (Nat.le_refl _) _).alloc (by simp) _).alloc (by simp;omega) _
 have hbx0:Boxed (((w.alloc (.cells #[.int .i64 r,.slice (some ⟨b,off,none⟩) ns.length cap] 24)).alloc (.cells (madeCells #[.slice none 0 0] ns.length) 25)).alloc (.cells #[.slice (some ⟨w.heap.size+1,0,none⟩) ns.length ns.length] 96)) (w.heap.size+1+1) 96 (.slice (some ⟨w.heap.size+1,0,none⟩) ns.length ns.length):=by
  have:=Boxed.new ((w.alloc (.cells #[.int .i64 r,.slice (some ⟨b,off,none⟩) ns.length cap] 24)).alloc (.cells (madeCells #[.slice none 0 0] ns.length) 25)) 96 (.slice (some ⟨w.heap.size+1,0,none⟩) ns.length ns.length)
  simpa only [World.size_alloc] using this
 have hR0:RowsAt (((w.alloc (.cells #[.int .i64 r,.slice (some ⟨b,off,none⟩) ns.length cap] 24)).alloc (.cells (madeCells #[.slice none 0 0] ns.length) 25)).alloc (.cells #[.slice (some ⟨w.heap.size+1,0,none⟩) ns.length ns.length] 96)) w.heap.size (w.heap.size+1) ns.length (List.replicate ns.length (.slice none 0 0)) (fun m=>pick (ahB ns m) 0):=by
  refine rows_new ((Below.heap_alloc _ _ _ (by simp)).trans ?_)
  have:=World.alloc_heap_new (w.alloc (.cells #[.int .i64 r,.slice (some ⟨b,off,none⟩) ns.length cap] 24)) (.cells (madeCells #[.slice none 0 0] ns.length) 25)
  simpa only [World.size_alloc] using this
 generalize (((w.alloc (.cells #[.int .i64 r,.slice (some ⟨b,off,none⟩) ns.length cap] 24)).alloc (.cells (madeCells #[.slice none 0 0] ns.length) 25)).alloc (.cells #[.slice (some ⟨w.heap.size+1,0,none⟩) ns.length ns.length] 96))=W0 at hB0 hbx0 hR0 ⊢
 refine wpIn_loop (fun a W=>∃ (k:Nat) (u4 u5 u15 u16 u17 u18 u19 u20 u32:Value) (ds:List Nat),k≤ns.length∧(∃ vs,RowsAt W w.heap.size (w.heap.size+1) ns.length vs (fun m=>pick (ahB ns m) k))∧Boxed W (w.heap.size+1+1) 96 (.slice (some ⟨w.heap.size+1,0,none⟩) ns.length ns.length)∧Below w.heap.size w W∧Marks ds W∧(∀ D∈ds,w.heap.size≤D) ∧
  a={ tmps:=#[.agg #[.int .i64 r,.slice (some ⟨b,off,none⟩) ns.length cap],.pointer (some ⟨w.heap.size,0,none⟩),.slice none 0 0,.pointer (some ⟨w.heap.size+1+1,0,none⟩),u4,u5,undef,.pointer (some ⟨w.heap.size,1,none⟩),.slice (some ⟨b,off,none⟩) ns.length cap,.int .i64 ns.length,.slice (some ⟨w.heap.size+1,0,none⟩) ns.length ns.length,.pointer (some ⟨w.heap.size,1,none⟩),.slice (some ⟨b,off,none⟩) ns.length cap,.int .i64 ns.length,.int .i64 k,u15,u16,u17,u18,u19,u20,undef,undef,undef,undef,undef,undef,undef,undef,undef,undef,undef,u32,undef],defers:=ds.map markD })
  (fun a _=>ns.length-(intOf (a.tmps.getD 14 undef)).toNat) ?atStart ?round
 case atStart=>exact ⟨0,_,_,_,_,_,_,_,_,_,[],Nat.zero_le _,⟨_,hR0⟩,hbx0,hB0,Marks.nil _,by simp,rfl⟩
 case round =>
  rintro _ wr ⟨k,u4,u5,u15,u16,u17,u18,u19,u20,u32,ds,hk,⟨vs,hR⟩,hbx,hB,hM,hD', rfl⟩
  have hcb:=hbx.cell
  have hblx:=hbx.lt
  by_cases hlt:k<ns.length
  ·obtain ⟨x,hx⟩:=get_lt hlt
   have hN1:=hN.below hB hN.lt
   have c0:=hN1.c0 k x hx
   have c1:=hN1.c1 k x hx
   have c2:=hN1.c2 k x hx
   have c3:=hN1.c3 k x hx
   have c4:=hN1.c4 k x hx
   have c5:=hN1.c5 k x hx
   have hblt:=hN1.lt
   have HX:=hide' hx
   have HN:=hide' hN1
   have HR:=hide' hR
   clear hx hN1 hR
   gi_wp2_with (refine ⟨trivial,?_⟩;gi_at_call 50;refine (exits_in _ _ _ _ _ _ _ _).mono ?_;rintro e w' ⟨rfl,rfl⟩)
   have hBL:Below wr.heap.size wr (((wr.alloc (.cells #[.int .i64 k] 3)).alloc (.cells #[.int .i64 x.op,.int .i64 x.d,.int .i64 x.a,.int .i64 x.b,.int .i64 x.t,.int .i64 x.e] 48)).alloc (.cells #[.int .i64 x.op,.int .i64 x.d,.int .i64 x.a,.int .i64 x.b,.int .i64 x.t,.int .i64 x.e] 48)):=(((Below.refl _ wr).alloc (Nat.le_refl _) _).alloc (by simp) _).alloc (by simp;omega) _
   have hn4:Boxed (((wr.alloc (.cells #[.int .i64 k] 3)).alloc (.cells #[.int .i64 x.op,.int .i64 x.d,.int .i64 x.a,.int .i64 x.b,.int .i64 x.t,.int .i64 x.e] 48)).alloc (.cells #[.int .i64 x.op,.int .i64 x.d,.int .i64 x.a,.int .i64 x.b,.int .i64 x.t,.int .i64 x.e] 48)) wr.heap.size 3 (.int .i64 k):=((Boxed.new wr 3 (.int .i64 k)).alloc _).alloc _
   have hnb:NodeBox (((wr.alloc (.cells #[.int .i64 k] 3)).alloc (.cells #[.int .i64 x.op,.int .i64 x.d,.int .i64 x.a,.int .i64 x.b,.int .i64 x.t,.int .i64 x.e] 48)).alloc (.cells #[.int .i64 x.op,.int .i64 x.d,.int .i64 x.a,.int .i64 x.b,.int .i64 x.t,.int .i64 x.e] 48)) (wr.heap.size+1+1) x:=by
    have:=nodeBox_new ((wr.alloc (.cells #[.int .i64 k] 3)).alloc (.cells #[.int .i64 x.op,.int .i64 x.d,.int .i64 x.a,.int .i64 x.b,.int .i64 x.t,.int .i64 x.e] 48)) x
    simpa only [World.size_alloc] using this
   generalize (((wr.alloc (.cells #[.int .i64 k] 3)).alloc (.cells #[.int .i64 x.op,.int .i64 x.d,.int .i64 x.a,.int .i64 x.b,.int .i64 x.t,.int .i64 x.e] 48)).alloc (.cells #[.int .i64 x.op,.int .i64 x.d,.int .i64 x.a,.int .i64 x.b,.int .i64 x.t,.int .i64 x.e] 48))=WL at hBL hn4 hnb ⊢
   have hbxL:Boxed WL (w.heap.size+1+1) 96 _:=(hBL.block _ hbx.lt).trans hbx
   have hBL' :=hB.trans (hBL.mono hB.size)
   have hsL:=hBL.size
   have hsz:=hB.size
   have hltB:=hnb.lt
   have hmk:=chk_zero hc
   have hkx:=hmk.2.2.1 x (List.mem_of_getElem? HX.out)
   have hmx:∀ y:Ex x,0≤y.1∧y.1<ns.length:=fun y=>exo_lt hc (List.mem_of_getElem? HX.out) y.2
   clear hmk c0 c1 c2 c3 c4 c5 hcb
   refine wpIn_rangeFunc_ownG rfl h1 (gf:=75) (lb:=#[.pointer (some ⟨wr.heap.size+1+1,0,none⟩)]) rfl trivial (enters_of Tryz.func75 (by kernel_rfl) rfl)
    (exits_stops (n-1) (by omega) (wr.heap.size+1+1) x _ hnb) KT.trans (KT.putObj hltB) (Below.refl _ _) (fun _=>rfl)
    (fun pre W=>((∃ vs,RowsAt W w.heap.size (w.heap.size+1) ns.length vs (rowsAt ns k (pre.map (·.1)))∧∀ (j:Nat) (v:Value),vs[j]?=some v→v.ownBlock≠some wr.heap.size)∧Boxed W (w.heap.size+1+1) 96 (.slice (some ⟨w.heap.size+1,0,none⟩) ns.length ns.length)∧Boxed W wr.heap.size 3 (.int .i64 k)∧NodeBox W (wr.heap.size+1+1) x∧Marks ds W)∧Below w.heap.size w W)
    (fun _ _ _=>False)
    (OwnFrom.and ?own (ownFrom_below (by omega) (by omega)))
    (fun _ _ _ _ _ hs _ _=>hs)
    ⟨⟨⟨vs,by rw [show rowsAt ns k (([]:List (Ex x)).map (·.1))=fun m=>pick (ahB ns m) k from rowsAt_nil ns k];exact HR.out.below hBL,fun j v hj e=>by have:=((HR.out.own j v hj).lt _ e).2;omega⟩,hbxL,hn4,hnb,hM.below hBL⟩,hBL'⟩
    (fun y=>{ tmps:=#[.agg #[.int .i64 r,.slice (some ⟨b,off,none⟩) ns.length cap],.pointer (some ⟨w.heap.size,0,none⟩),.slice none 0 0,.pointer (some ⟨w.heap.size+1+1,0,none⟩),.pointer (some ⟨wr.heap.size,0,none⟩),.pointer (some ⟨wr.heap.size+1,0,none⟩),.int .i64 y.1,.pointer (some ⟨w.heap.size,1,none⟩),.slice (some ⟨b,off,none⟩) ns.length cap,.int .i64 ns.length,.slice (some ⟨w.heap.size+1,0,none⟩) ns.length ns.length,.pointer (some ⟨w.heap.size,1,none⟩),.slice (some ⟨b,off,none⟩) ns.length cap,.int .i64 ns.length,.int .i64 k,.bool true,.int .i64 k,.pointer (some ⟨b,off+k*6,none⟩),.agg #[.int .i64 x.op,.int .i64 x.d,.int .i64 x.a,.int .i64 x.b,.int .i64 x.t,.int .i64 x.e],.agg #[.int .i64 x.op,.int .i64 x.d,.int .i64 x.a,.int .i64 x.b,.int .i64 x.t,.int .i64 x.e],.func (.func 75) #[] #[.pointer (some ⟨wr.heap.size+1+1,0,none⟩)],.int .i64 y.1,undef,undef,undef,undef,undef,undef,undef,undef,undef,undef,u32,undef],defers:=[] }) ?assign ?body ?done ?stop
   case own =>
    rintro pre A C row ⟨⟨vs,hvs,hno⟩,hb1,hb2,hb3,hm1⟩ hg hr
    have hcl:∀ (b:Nat) (o:Obj),A.heap[b]?=some o→o.isCells=true→some b≠row:=fun b o h1 h2 e=>by
     obtain ⟨_,o', h3,h4⟩:=hr b e.symm
     rw [h1] at h3;cases h3;rw [h2] at h4;cases h4
    exact ⟨⟨vs,hvs.kept hg (fun r e=>(hr r e).2),hno⟩,hb1.kept hg (hcl _ _ hb1 rfl),hb2.kept hg (hcl _ _ hb2 rfl),(hg.block _ hb3.lt (hcl _ _ hb3 rfl)).trans hb3,hm1.grown hg fun q e hq=>by
     have h1:=(hr q e).1
     have h2:=hM.lt hq
     omega⟩
   case assign =>
    intro l y W K hK
    gi_wp2
    exact hK
   case body =>
    rintro l pre y W ⟨⟨⟨vs,hvs,hno⟩,hb1,hb2,hb3,hm1⟩,hB1⟩ hpl
    obtain ⟨hm0,hm2⟩:=hmx y
    obtain ⟨m,hmy⟩:=Int.eq_ofNat_of_zero_le hm0
    have hml:m<ns.length:=by omega
    have hml' :m<vs.length:=by rw [hvs.len];exact hml
    obtain ⟨v,hv⟩:=get_lt hml'
    have hown:=hvs.own m v hv
    have hcb:=hb1.cell
    have hck:=hb2.cell
    have hrc:W.cell? ⟨w.heap.size+1,m,none⟩=some v:=by rw [blk_cell hvs.blk];simpa using hv
    have hpl2:pre.length<2:=Nat.lt_of_lt_of_le hpl (exo_len x)
    have hrl:=rowsAt_len ns k (pre.map (·.1)) m
    rw [List.length_map] at hrl
    obtain ⟨g,cap1,w1,hrun,hown1,hgrow,hat,hgl⟩:=run_append_lies (P:=Tryz.prog) (W.drew.alloc (.cells #[.int .i64 k] 3)) 25 25 w.heap.size 3 i0 (.int .i64 0) 1 8 Tryz.underlying25 hi hz0 hz1 hz2 rfl (by decide) v _ _ (World.ownsRow.alloc (show W.drew.ownsRow _ _ _ _ _ _ from hown) _) ⟨W.heap.size,0,none⟩ 1 1 [.int .i64 k] rfl (cell_one_new _ _ _) (by simp [Value.oneCell']) (by decide) (by unfold maxLen;omega) (by omega) (by have:=hB1.size;simp;omega) _ rfl
    have HO:=hide' hown1
    have HG:=hide' hgrow
    have HA:=hide' hat
    have HV:=hide' hvs
    have HM:=hide' hm1
    have HH:=hide' hv
    have HW:=hide' hown
    have HNO:=hide' hno
    have HB3:=hide' hb3
    clear hno hb3
    have hb1' :Boxed w1 (w.heap.size+1+1) 96 (.slice (some ⟨w.heap.size+1,0,none⟩) ns.length ns.length):=Boxed.kept (Boxed.alloc (show Boxed W.drew _ _ _ from hb1) _) hgrow (owns_ne_ty hown hb1 (by decide))
    have hr1' :w1.heap[w.heap.size+1]?=some (.cells vs.toArray 25 (0,0)):=(hgrow.block _ (by have:=(Array.getElem?_eq_some_iff.1 hvs.blk).1;simp;omega) (owns_ne_ty hown hvs.blk (by decide))).trans ((Below.heap_alloc W.drew _ _ (Array.getElem?_eq_some_iff.1 hvs.blk).1).trans hvs.blk)
    have q1:=hb1'.cell
    have q2:=blk_frozen hr1' m
    have q3:=blk_cell hr1' m
    have q3' :vs.toArray[m]?=some v:=by simpa using hv
    rw [q3'] at q3
    rw [hmy]
    have HR1:=hide' hr1'
    have HB1:=hide' hb1'
    clear hown1 hgrow hat hvs hm1 hv hown hr1' q3'
    have hlt1:(m:Int)<(ns.length:Int):=by omega
    have z1:=hb1.lt
    have z2:=hb2.lt
    have z3:w.heap.size+1<W.heap.size:=by omega
    generalize hN0:(rowsAt ns k (List.map (fun x=>x.val) pre) m).length=N0 at hrun HO HW hrl
    have HN0:=hide' hN0
    clear hN0
    gi_wp2
    have hcd:Boxed w1 wr.heap.size 3 (.int .i64 k):=Boxed.kept (Boxed.alloc (show Boxed W.drew _ _ _ from hb2) _) HG.out (fun e=>HNO.out m v HH.out e.symm)
    have q4:=hcd.cell
    have hbA:Below W.heap.size W (W.drew.alloc (.cells #[.int .i64 k] 3)):=(Below.refl _ W).drew.alloc (Nat.le_refl _) _
    refine wpIn_region_I 10 (S:=fun u=>u.cell? ⟨w.heap.size+1+1,0,none⟩=some (.slice (some ⟨w.heap.size+1,0,none⟩) ns.length ns.length)∧u.cell? ⟨w.heap.size+1,m,none⟩=some v∧u.cell? ⟨wr.heap.size,0,none⟩=some (.int .i64 k)) (by kernel_rfl) ⟨hcb,hrc,hck⟩ (fun hQp hHeld=>?_)
    refine tiw 0 ?_
    iterate 6 refine tiv ?_
    refine tir 7 (fun K hK=>?_)
    go_simp
    refine hK.out _ _ ⟨(hbA.cell (p:=⟨w.heap.size+1+1,0,none⟩) z1).trans hcb,(hbA.cell (p:=⟨w.heap.size+1,m,none⟩) z3).trans hrc,(hbA.cell (p:=⟨wr.heap.size,0,none⟩) z2).trans hck⟩ (fun hHeld=>?_)
    clear hK K
    refine tia 8 (.tmp 27) (.tmp 29) 25 hrun ⟨q1,q3,q4⟩ (fun hHeld=>?_)
    refine tiv ?_
    refine tis 10 (fun K hK=>?_)
    go_simp
    refine hK.out _ _ ?_
    clear hK K
    refine wpAnyI_done (by kernel_rfl) ?_ _
    refine ⟨fun c e=>(by cases e),?_⟩
    have hown:=HW.out
    have hgrow:=HG.out
    have hvs:=HV.out
    have hv:=HH.out
    have hrowc:∀ (j:Nat) (o:Obj),v.ownBlock=some j→(W.drew.alloc (.cells #[.int .i64 k] 3)).heap[j]?=some o→w.heap.size≤j∧∃ cur,o=.cells cur 3 (0,0):=by
     intro j o ej hj
     rcases hown.2 with ⟨rfl,_⟩ | ⟨g', cap', cur', rfl,hb', hgb,_⟩
     ·simp [Value.ownBlock] at ej
     ·obtain rfl:g' =j:=by simpa [Value.ownBlock] using ej
      rw [Below.heap_alloc W.drew _ _ (Array.getElem?_eq_some_iff.1 hgb).1] at hj
      rw [show W.drew.heap[g']?=W.heap[g']? from rfl,hgb] at hj
      cases hj
      exact ⟨hb', _,rfl⟩
    have hsA:W.heap.size≤(W.drew.alloc (.cells #[.int .i64 k] 3)).heap.size:=hbA.size
    have hlive:∀ j,v.ownBlock=some j→∃ o,(W.drew.alloc (.cells #[.int .i64 k] 3)).heap[j]?=some o:=fun j ej=>by
     have:=(hown.lt j ej).2
     exact ⟨_,Array.getElem?_eq_getElem (by omega)⟩
    have hKO:KeepsOthers W (w1.setCell ⟨w.heap.size+1,m,none⟩ (.slice (some ⟨g,0,none⟩) (N0+1) cap1)):=by
     refine ((KeepsOthers.drew W).trans (KeepsOthers.alloc W.drew _)).trans ((KeepsOthers.of_grownBy hgrow fun j o ej hj=>?_).trans (KeepsOthers.setCell _ _ _))
     obtain ⟨_,cur,rfl⟩:=hrowc j o ej hj
     rfl
    have hgB:∀ j,v.ownBlock=some j→w.heap.size≤j:=fun j ej=>by
     obtain ⟨o,ho⟩:=hlive j ej
     exact (hrowc j o ej ho).1
    have hBf:Below w.heap.size W (w1.setCell ⟨w.heap.size+1,m,none⟩ (.slice (some ⟨g,0,none⟩) (N0+1) cap1)) :=
     ((hbA.mono (by omega)).grown hgrow (by omega) hgB).setCell (p:=⟨w.heap.size+1,m,none⟩) (by simp) _
    have hKT:KT (wr.heap.size+1+1) W (w1.setCell ⟨w.heap.size+1,m,none⟩ (.slice (some ⟨g,0,none⟩) (N0+1) cap1)):=by
     refine ((KT.of_below hbA HB3.out.lt).trans (KT.grown hgrow (by have:=HB3.out.lt;omega) fun j ej=>?_)).trans (KT.setCell HR1.out (by decide) (by omega) _)
     obtain ⟨o,ho⟩:=hlive j ej
     obtain ⟨_,cur,rfl⟩:=hrowc j o ej ho
     exact ⟨fun e=>owns_ne_ty hown HB3.out (by decide) (by rw [ej,e]),_,_,_,ho,by decide⟩
    have hrw:RowsAt (w1.setCell ⟨w.heap.size+1,m,none⟩ (.slice (some ⟨g,0,none⟩) (N0+1) cap1)) w.heap.size (w.heap.size+1) ns.length (vs.set m (.slice (some ⟨g,0,none⟩) (N0+1) cap1)) (rowsAt ns k ((pre++[y]).map (·.1))):=by
     have e1:rowsAt ns k ((pre++[y]).map (·.1))=rowsAt ns k (pre.map (·.1)++[(m:Int)]):=by rw [List.map_append];simp [hmy]
     have e2:(rowsAt ns k (pre.map (·.1)++[(m:Int)]) m).length=N0+1:=by rw [rowsAt_more,List.length_append,HN0.out];rfl
     rw [e1,← e2]
     refine RowsAt.grow (hvs.below hbA) hv hgrow ?_ ?_ fun j hj=>rowsAt_else ns k _ hj
     ·rcases HA.out with h | h
      ·exact Or.inl h
      ·right;rw [h];exact Nat.le_refl _
     ·have:=HO.out
      rw [e2]
      rw [rowsAt_more,List.map_append]
      exact this
    refine ⟨hKO.from _,hKT,⟨⟨_,hrw,fun j u hj e=>?_⟩,?_,?_,hKT.node HB3.out,HM.out.others hKO⟩,hB1.trans hBf⟩
    ·rw [List.getElem?_set] at hj
     split at hj
     ·cases hj
      simp only [Value.ownBlock,Option.some.injEq] at e
      rcases HA.out with h | h
      ·exact HNO.out m v hv (by rw [h,e])
      ·have:=hb2.lt;omega
     ·exact HNO.out j u hj e
    ·exact (Below.heap_setCell _ _ _ _ (by simp)).trans HB1.out
    ·refine (Below.heap_setCell _ _ _ _ (by simp;omega)).trans ?_
     exact Boxed.kept (Boxed.alloc (show Boxed W.drew _ _ _ from hb2) _) hgrow (fun e=>HNO.out m v hv e.symm)
   case done =>
    rintro D ys W hD rfl ⟨⟨⟨vs,hvs,hno⟩,hb1,hb2,hb3,hm1⟩,hB1⟩ hK
    have hrow:=hvs
    rw [exoA_map,rowsAt_done ns k HX.out hkx] at hrow
    have HRR:=hide' hrow
    have HM1:=hide' (hm1.cons hK fun E hE=>by have:=hM.lt hE;omega)
    clear hvs hrow hm1
    gi_wp2
    refine ⟨⟨k+1,_,_,_,_,_,_,_,_,_,D::ds,by omega,⟨vs,HRR.out⟩,hb1,hB1,HM1.out,fun E hE=>?_,rfl⟩,?_⟩
    ·rcases List.mem_cons.1 hE with rfl | hE
     ·omega
     ·exact hD' E hE
    ·simp [intOf];omega
   case stop =>
    rintro D c pre W _ _ h _
    exact h.elim
  ·have ek:k=ns.length:=by omega
   have HK:=hide' ek
   clear ek
   gi_wp2
   refine leaves_marks ds _ hM hD' fun W' hS=>?_
   refine ⟨_,results_tmp rfl _ _ _,w.heap.size+1,vs,rfl,?_,hB.trans hS.below⟩
   have:=hS.rows hR
   rw [HK.out] at this
   exact this
theorem info_bool:(Tryz.prog.info? 4).map (fun i=>(i.zero,i.size,i.bytes))=some (some (.bool false),1,1):=by kernel_rfl
theorem made_bools (n:Nat):madeCells #[Value.bool false] n=((List.replicate n false).map Value.bool).toArray:=by
 apply Array.ext'
 rw [toList_madeCells_one]
 simp
structure RM (w:World) (base q cb L:Nat) (x:List Bool) (cs:List Int) (vc:Value):Prop where
 row:w.heap[q]?=some (.cells (x.map Value.bool).toArray 4 (0,0))
 rbx:Boxed w (q+1) 116 (.slice (some ⟨q,0,none⟩) L L)
 cbx:Boxed w cb 25 vc
 come:w.ownsRow base 3 1 vc cs.length (cs.map (Value.int .i64))
theorem RM.kept {w w' :World} {base q cb L:Nat} {x:List Bool} {cs:List Int} {vc:Value} (h:RM w base q cb L x cs vc) {row:Option Nat} (hg:w.grownBy w' row) (hr:∀ r,row=some r→∃ o:Obj,w.heap[r]?=some o∧o.isCells=false):RM w' base q cb L x cs vc:=by
 have hcl:∀ (b:Nat) (o:Obj),w.heap[b]?=some o→o.isCells=true→some b≠row:=fun b o h1 h2 e=>by
  obtain ⟨o', h3,h4⟩:=hr b e.symm
  rw [h1] at h3;cases h3;rw [h2] at h4;cases h4
 refine ⟨(hg.block q (blk_lt h.row) (hcl _ _ h.row rfl)).trans h.row,h.rbx.kept hg (hcl _ _ h.rbx rfl),h.cbx.kept hg (hcl _ _ h.cbx rfl),h.come.kept hg ?_⟩
 rcases h.come.2 with ⟨rfl,_⟩ | ⟨g,cap,cur,rfl,_,hgb,_⟩
 ·exact .inl rfl
 ·exact .inr (by
   have:=hcl g _ hgb rfl
   simpa [Value.ownBlock] using this)
theorem RM.below {w w' :World} {base q cb L:Nat} {x:List Bool} {cs:List Int} {vc:Value} (h:RM w base q cb L x cs vc) (hb:Below w.heap.size w w'):RM w' base q cb L x cs vc:=h.kept (grown_of_below hb none) (fun r e=>by cases e)
theorem RM.set {w:World} {base q cb L:Nat} {x:List Bool} {cs:List Int} {vc:Value} (h:RM w base q cb L x cs vc) (m:Nat):RM (w.setCell ⟨q,m,none⟩ (.bool true)) base q cb L (x.set m true) cs vc:=by
 refine ⟨?_,?_,?_,owns_set h.come h.row (by decide)⟩
 ·rw [blk_set _ h.row];simp [List.map_set]
 ·exact (Below.heap_setCell _ _ _ _ (boxed_ne h.rbx h.row (by decide))).trans h.rbx
 ·exact (Below.heap_setCell _ _ _ _ (boxed_ne h.cbx h.row (by decide))).trans h.cbx
set_option maxRecDepth 100000 in
theorem reach_ok (r:Int) (b off cap:Nat) (ns:List Nd) (w:World) (hN:NodesAt w b off ns) (hc:chk r ns=0) :
 CallsIn Fence.wide 5 Tryz.prog 59 #[.agg #[.int .i64 r,.slice (some ⟨b,off,none⟩) ns.length cap]] w fun e w' =>∃ v,e=.returned (.tuple #[v,.int .i64 0])∧w'.ownsRow w.heap.size 4 1 v ns.length ((rchL ns).map Value.bool)∧Below w.heap.size w w' :=by
 have hl:=(chk_zero hc).1
 obtain ⟨i0,hi0,hz0,hz1,hz2⟩:=info_parts info_int
 refine callsIn_of_wp_marks Tryz.func59 rfl trivial ?_ rfl
 simp only [Tryz.ntmps59,List.size_toArray,List.length_cons,List.length_nil,Nat.reduceAdd,Nat.reduceSub,Array.replicate_succ,Array.replicate_zero,List.push_toArray,List.append_toArray,List.nil_append,List.cons_append]
 have hb0:Below w.heap.size w (w.alloc (.cells #[.int .i64 r,.slice (some ⟨b,off,none⟩) ns.length cap] 24)):=(Below.refl _ w).alloc (Nat.le_refl _) _
 have hck:=check_any r (some ⟨b,off,none⟩) cap ns _ (Or.inr ⟨b,off,rfl,hN.below hb0 hN.lt⟩:SlN (w.alloc (.cells #[.int .i64 r,.slice (some ⟨b,off,none⟩) ns.length cap] 24)) _ ns)
 rw [hc] at hck
 have HCK:=hide' hck
 clear hck
 have h15:1≤5:=by decide
 gi_wp2_with (refine ⟨trivial,?_⟩;gi_at_call 11;refine (callsIn_wide.2 HCK.out).mono ?_)
 rintro e w1 ⟨rfl,hb1⟩
 have hs1:=hb1.size
 simp only [World.size_alloc] at hs1 hb1
 have hB1:Below w.heap.size w w1:=hb0.trans (hb1.mono (by omega))
 have p1:w1.cell? ⟨w.heap.size,1,none⟩=some (.slice (some ⟨b,off,none⟩) ns.length cap):=by rw [hb1.cell (p:=⟨w.heap.size,1,none⟩) (by simp)];simp
 have hlt1:w.heap.size<w1.heap.size:=by omega
 have hms:∀ W:World,Sem.run Tryz.prog (Instr.makeSlice 116 (.int .i64 (ns.length:Int)) (.int .i64 (ns.length:Int))) W=.ok (.slice (some ⟨W.heap.size,0,none⟩) ns.length ns.length) (W.alloc (.cells (madeCells #[.bool false] ns.length) 4)):=fun W=>run_make_row' 116 4 _ 1 Tryz.underlying116 info_bool rfl .i64 .i64 ns.length (by omega) (by omega) W
 have hpos:(0:Int)<(ns.length:Int):=by omega
 have hposn:0<ns.length:=by omega
 clear hb1 hb0
 gi_upto_region 5 with fail
 have hr0:((w1.alloc (.cells (madeCells #[.bool false] ns.length) 4)).alloc (.cells #[.slice (some ⟨w1.heap.size,0,none⟩) ns.length ns.length] 116)).heap[w1.heap.size]?=some (.cells ((List.replicate ns.length false).map Value.bool).toArray 4 (0,0)):=by
  rw [Below.heap_alloc _ _ _ (by simp),World.alloc_heap_new,made_bools]
 have hx0:Boxed ((w1.alloc (.cells (madeCells #[.bool false] ns.length) 4)).alloc (.cells #[.slice (some ⟨w1.heap.size,0,none⟩) ns.length ns.length] 116)) (w1.heap.size+1) 116 (.slice (some ⟨w1.heap.size,0,none⟩) ns.length ns.length):=by
  have:=Boxed.new (w1.alloc (.cells (madeCells #[.bool false] ns.length) 4)) 116 (.slice (some ⟨w1.heap.size,0,none⟩) ns.length ns.length)
  simpa only [World.size_alloc] using this
 have hbA:Below w1.heap.size w1 ((w1.alloc (.cells (madeCells #[.bool false] ns.length) 4)).alloc (.cells #[.slice (some ⟨w1.heap.size,0,none⟩) ns.length ns.length] 116)):=((Below.refl _ w1).alloc (Nat.le_refl _) _).alloc (by simp) _
 have hsA:Hid (((w1.alloc (.cells (madeCells #[.bool false] ns.length) 4)).alloc (.cells #[.slice (some ⟨w1.heap.size,0,none⟩) ns.length ns.length] 116)).heap.size=w1.heap.size+2):=by show _=_;simp
 generalize ((w1.alloc (.cells (madeCells #[.bool false] ns.length) 4)).alloc (.cells #[.slice (some ⟨w1.heap.size,0,none⟩) ns.length ns.length] 116))=WA at hr0 hx0 hbA hsA ⊢
 have xc:=hx0.cell
 have rc0:=blk_cell hr0 0
 have rf0:=blk_frozen hr0 0
 have rc1:((List.replicate ns.length false).map Value.bool).toArray[0]?=some (.bool false):=by
  rw [List.getElem?_toArray,List.getElem?_map,List.getElem?_replicate,if_pos hposn];rfl
 rw [rc1] at rc0
 gi_upto_region 6 with fail
 have hM0:RM (((WA.setCell ⟨w1.heap.size,0,none⟩ (.bool true)).alloc (.cells #[.int .i64 0] 3)).alloc (.cells #[.slice (some ⟨WA.heap.size,0,none⟩) 1 1] 25)) w1.heap.size w1.heap.size (WA.heap.size+1) ns.length ((List.replicate ns.length false).set 0 true) [0] (.slice (some ⟨WA.heap.size,0,none⟩) 1 1):=by
  have e1:(WA.setCell ⟨w1.heap.size,0,none⟩ (.bool true)).heap.size=WA.heap.size:=by simp
  have h1:(WA.setCell ⟨w1.heap.size,0,none⟩ (.bool true)).heap[w1.heap.size]?=some (.cells (((List.replicate ns.length false).set 0 true).map Value.bool).toArray 4 (0,0)):=by
   rw [blk_set _ hr0];simp only [List.map_set,List.setIfInBounds_toArray]
  have h2:Boxed (WA.setCell ⟨w1.heap.size,0,none⟩ (.bool true)) (w1.heap.size+1) 116 (.slice (some ⟨w1.heap.size,0,none⟩) ns.length ns.length):=(Below.heap_setCell _ _ _ _ (boxed_ne hx0 hr0 (by decide))).trans hx0
  have h3:=Boxed.new ((WA.setCell ⟨w1.heap.size,0,none⟩ (.bool true)).alloc (.cells #[.int .i64 0] 3)) 25 (.slice (some ⟨WA.heap.size,0,none⟩) 1 1)
  rw [World.size_alloc,e1] at h3
  have h4:=World.alloc_heap_new (WA.setCell ⟨w1.heap.size,0,none⟩ (.bool true)) (.cells #[.int .i64 0] 3)
  rw [e1] at h4
  refine ⟨(Below.heap_alloc _ _ _ (by have:=blk_lt h1;simp at this ⊢;omega)).trans ((Below.heap_alloc _ _ _ (blk_lt h1)).trans h1),(h2.alloc _).alloc _,h3,⟨rfl,Or.inr ⟨WA.heap.size,1,#[.int .i64 0],rfl,by have:=hbA.size;omega,?_,Nat.le_refl _,by decide,rfl,rfl⟩⟩⟩
  exact (Below.heap_alloc _ _ _ (by simp)).trans h4
 have hB0:Below w1.heap.size w1 (((WA.setCell ⟨w1.heap.size,0,none⟩ (.bool true)).alloc (.cells #[.int .i64 0] 3)).alloc (.cells #[.slice (some ⟨WA.heap.size,0,none⟩) 1 1] 25)) :=
  ((hbA.setCell (p:=⟨w1.heap.size,0,none⟩) (Nat.le_refl _) _).alloc (by have:=hbA.size;simp;omega) _).alloc (by have:=hbA.size;simp;omega) _
 have hsWA:=hbA.size
 clear hr0 hx0 hbA xc rc0 rf0 rc1
 gi_upto_region 7 with fail
 generalize (((WA.setCell ⟨w1.heap.size,0,none⟩ (.bool true)).alloc (.cells #[.int .i64 0] 3)).alloc (.cells #[.slice (some ⟨WA.heap.size,0,none⟩) 1 1] 25))=W0 at hM0 hB0 ⊢
 gi_wp2
 have hbf0:=Bfs.start (ns:=ns) hposn
 refine wpIn_loop (fun a W=>∃ (i:Nat) (x:List Bool) (cs:List Int) (vc u21 u22 u23 u24 u25 u26 u27 u28 u29 u30 u31 u32 u33 u34 u35:Value) (ds:List Nat),Bfs ns x cs i []∧i≤cs.length∧RM W w1.heap.size w1.heap.size (WA.heap.size+1) ns.length x cs vc∧Below w1.heap.size w1 W∧Marks ds W∧(∀ D∈ds,w1.heap.size≤D) ∧
  a={ tmps:=#[.agg #[.int .i64 r,.slice (some ⟨b,off,none⟩) ns.length cap],.pointer (some ⟨w.heap.size,0,none⟩),.slice none 0 0,.int .i64 0,.int .i64 0,.pointer (some ⟨w1.heap.size+1,0,none⟩),.pointer (some ⟨WA.heap.size+1,0,none⟩),.int .i64 i,undef,.agg #[.int .i64 r,.slice (some ⟨b,off,none⟩) ns.length cap],.int .i64 0,.int .i64 0,.bool false,undef,.pointer (some ⟨w.heap.size,1,none⟩),.slice (some ⟨b,off,none⟩) ns.length cap,.int .i64 ns.length,.slice (some ⟨w1.heap.size,0,none⟩) ns.length ns.length,.slice (some ⟨w1.heap.size,0,none⟩) ns.length ns.length,.pointer (some ⟨w1.heap.size,0,none⟩),.slice (some ⟨WA.heap.size,0,none⟩) 1 1,u21,u22,u23,u24,u25,u26,u27,u28,u29,u30,u31,u32,u33,u34,u35,undef,undef,undef,undef,undef,undef,undef,undef,undef,undef,undef,undef,undef,undef],defers:=ds.map markD })
  (fun a _=>ns.length-(intOf (a.tmps.getD 7 undef)).toNat) ?atStart ?round
 case atStart=>exact ⟨0,_,[0],_,_,_,_,_,_,_,_,_,_,_,_,_,_,_,_,[],hbf0,by simp,hM0,hB0,Marks.nil _,by simp,rfl⟩
 case round =>
  rintro _ wr ⟨i,x,cs,vc,u21,u22,u23,u24,u25,u26,u27,u28,u29,u30,u31,u32,u33,u34,u35,ds,hbf,hi,hM,hB,hMk,hD', rfl⟩
  have hcl:=hbf.len_le
  have xc:=hM.cbx.cell
  have xr:=hM.rbx.cell
  have p2:wr.cell? ⟨w.heap.size,1,none⟩=some (.slice (some ⟨b,off,none⟩) ns.length cap):=(hB.cell (p:=⟨w.heap.size,1,none⟩) hlt1).trans p1
  have hszr:=hB.size
  have hltr:w.heap.size<wr.heap.size:=by omega
  have hxl:=hM.rbx.lt
  have hcl2:=hM.cbx.lt
  by_cases hlt:i<cs.length
  ·obtain ⟨c,hci⟩:=get_lt hlt
   have hcr:=hbf.rng c (List.mem_of_getElem? hci)
   obtain ⟨cn,rfl⟩:=Int.eq_ofNat_of_zero_le hcr.1
   obtain ⟨g,gcap,rfl,hbase,hglt⟩:=hM.come.form (by omega)
   have hgc:wr.cell? ⟨g,i,none⟩=some (.int .i64 cn):=by
    have:=hM.come.cells (g:=g) rfl i (.int .i64 cn) (by simp [hci])
    have e:(⟨g,0,none⟩:Addr).add i=⟨g,i,none⟩:=by cases i <;> simp [Addr.add]
    rw [e] at this;exact this
   have hcn:cn<ns.length:=by omega
   obtain ⟨y,hy⟩:=get_lt hcn
   have hN1:=hN.below (hB1.trans (hB.mono (by omega))) hN.lt
   have c0:=hN1.c0 cn y hy
   have c1:=hN1.c1 cn y hy
   have c2:=hN1.c2 cn y hy
   have c3:=hN1.c3 cn y hy
   have c4:=hN1.c4 cn y hy
   have c5:=hN1.c5 cn y hy
   have hblt:=hN1.lt
   have HY:=hide' hy
   have HN:=hide' hN1
   have HM:=hide' hM
   have HBF:=hide' hbf
   have HCI:=hide' hci
   clear hy hN1 hM hbf hci
   gi_wp2
   refine wpIn_wide.2 ?_
   refine wp_region_calm (S:=fun u=>∀ p:Addr,p.block<wr.heap.size→u.cell? p=wr.cell? p) (by kernel_rfl) (fun p hp=>rfl) (fun hQp hHeld=>?_)
   refine tkw 0 ?_
   iterate 7 (refine tkv ?_)
   refine tkr 8 (fun K hK=>?_)
   go_simp
   refine (callsIn_wide.1 (exits_in 0 _ _ _ _ _ _ _)).mono ?_
   rintro e w' ⟨rfl,rfl⟩
   refine hK.out _ _ (fun p hp=>((Below.refl wr.heap.size wr.drew).alloc (Nat.le_refl _) _).cell hp) (fun hHeld=>?_)
   clear hK K hHeld
   refine wpAnyH_done (by kernel_rfl) ⟨fun _=>Exit.noConfusion,?_⟩ _
   clear hQp
   rw [show ∀ o,wr.drew.alloc o=(wr.alloc o).drew from fun _=>rfl]
   gi_wp2
   have hBL:Below wr.heap.size wr ((wr.alloc (.cells #[.int .i64 y.op,.int .i64 y.d,.int .i64 y.a,.int .i64 y.b,.int .i64 y.t,.int .i64 y.e] 48)).drew):=((Below.refl _ wr).alloc (Nat.le_refl _) _).drew
   have hnb:NodeBox ((wr.alloc (.cells #[.int .i64 y.op,.int .i64 y.d,.int .i64 y.a,.int .i64 y.b,.int .i64 y.t,.int .i64 y.e] 48)).drew) wr.heap.size y:=nodeBox_new wr y
   generalize (wr.alloc (.cells #[.int .i64 y.op,.int .i64 y.d,.int .i64 y.a,.int .i64 y.b,.int .i64 y.t,.int .i64 y.e] 48)).drew=WL at hBL hnb ⊢
   have hsL:=hBL.size
   have hltB:=hnb.lt
   have hMkL:=hMk.below hBL
   have hMl:∀ E∈ds,E<wr.heap.size:=fun E hE=>hMk.lt hE
   have hyn:nd ns cn=y:=nd_get HY.out
   have hmx:∀ z:Ex y,0≤z.1∧z.1<ns.length:=fun z=>by
    have:=exo_bounds (chk_at hc hcn) (m:=z.1) (by rw [hyn];exact z.2)
    omega
   have HYN:=hide' hyn
   clear hyn c0 c1 c2 c3 c4 c5 xc xr p2 hgc hMk
   refine wpIn_rangeFunc_ownG rfl (by decide) (gf:=75) (lb:=#[.pointer (some ⟨wr.heap.size,0,none⟩)]) rfl trivial (enters_of Tryz.func75 (by kernel_rfl) rfl)
    (exits_stops 4 (by omega) wr.heap.size y _ hnb) KT.trans (KT.putObj hltB) (Below.refl _ _) (fun _=>rfl)
    (fun pre W=>((∃ x cs vc,Bfs ns x cs i (pre.map (·.1))∧cs[i]?=some (cn:Int)∧RM W w1.heap.size w1.heap.size (WA.heap.size+1) ns.length x cs vc)∧NodeBox W wr.heap.size y∧Marks ds W)∧Below w1.heap.size w1 W)
    (fun _ _ _=>False)
    (OwnFrom.and ?own (ownFrom_below (by omega) (by omega)))
    (fun _ _ _ _ _ hs _ _=>hs)
    ⟨⟨⟨x,cs,_,HBF.out,HCI.out,HM.out.below hBL⟩,hnb,hMkL⟩,hB.trans (hBL.mono hszr)⟩
    (fun z=>{ tmps:=#[.agg #[.int .i64 r,.slice (some ⟨b,off,none⟩) ns.length cap],.pointer (some ⟨w.heap.size,0,none⟩),.slice none 0 0,.int .i64 0,.int .i64 0,.pointer (some ⟨w1.heap.size+1,0,none⟩),.pointer (some ⟨WA.heap.size+1,0,none⟩),.int .i64 i,.int .i64 z.1,.agg #[.int .i64 r,.slice (some ⟨b,off,none⟩) ns.length cap],.int .i64 0,.int .i64 0,.bool false,undef,.pointer (some ⟨w.heap.size,1,none⟩),.slice (some ⟨b,off,none⟩) ns.length cap,.int .i64 ns.length,.slice (some ⟨w1.heap.size,0,none⟩) ns.length ns.length,.slice (some ⟨w1.heap.size,0,none⟩) ns.length ns.length,.pointer (some ⟨w1.heap.size,0,none⟩),.slice (some ⟨WA.heap.size,0,none⟩) 1 1,.int .i64 i,.slice (some ⟨g,0,none⟩) cs.length gcap,.int .i64 cs.length,.bool true,u25,u26,.pointer (some ⟨w.heap.size,1,none⟩),.slice (some ⟨b,off,none⟩) ns.length cap,.slice (some ⟨g,0,none⟩) cs.length gcap,.int .i64 (i:Int),.pointer (some ⟨g,i,none⟩),.int .i64 (cn:Int),.pointer (some ⟨b,off+cn*6,none⟩),.agg #[.int .i64 y.op,.int .i64 y.d,.int .i64 y.a,.int .i64 y.b,.int .i64 y.t,.int .i64 y.e],.func (.func 75) #[] #[.pointer (some ⟨wr.heap.size,0,none⟩)],.int .i64 z.1,undef,undef,undef,undef,undef,undef,undef,undef,undef,undef,undef,undef,undef],defers:=[] }) ?assign ?body ?done ?stop
   case own =>
    rintro pre A C row ⟨⟨x,cs,vc,h1,h2,h3⟩,hb3,hm1⟩ hg hr
    have hcl:∀ (b:Nat) (o:Obj),A.heap[b]?=some o→o.isCells=true→some b≠row:=fun b o h1 h2 e=>by
     obtain ⟨_,o', h3,h4⟩:=hr b e.symm
     rw [h1] at h3;cases h3;rw [h2] at h4;cases h4
    exact ⟨⟨x,cs,vc,h1,h2,h3.kept hg (fun r e=>(hr r e).2)⟩,(hg.block _ hb3.lt (hcl _ _ hb3 rfl)).trans hb3,hm1.grown hg fun q e hq=>by
     have h1:=(hr q e).1
     have h2:=hMl q hq
     omega⟩
   case assign =>
    intro l z W K hK
    gi_wp2
    exact hK
   case body =>
    rintro l pre z W ⟨⟨⟨x,cs,vc,hbf,hci,hRM⟩,hb3,hm1⟩,hB2⟩ hpl
    obtain ⟨hm0,hm2⟩:=hmx z
    obtain ⟨m,hmz⟩:=Int.eq_ofNat_of_zero_le hm0
    have hml:m<ns.length:=by omega
    have hmx' :m<x.length:=by rw [hbf.len];exact hml
    have hbox:=hRM.rbx.cell
    have hrc:W.cell? ⟨w1.heap.size,m,none⟩=some (.bool (bat x m)):=by
     rw [blk_cell hRM.row]
     rw [List.getElem?_toArray,List.getElem?_map,get_bat hmx'];rfl
    have hlt2:(m:Int)<(ns.length:Int):=by omega
    rw [hmz]
    cases hxm:bat x m
    ·rw [hxm] at hrc
     have hrf:=blk_frozen hRM.row m
     have hS:=hRM.set m
     have hbfN:=hbf.new hc hml hxm hci (by rw [Int.toNat_natCast,HYN.out,← hmz];exact z.2)
     have hbS:Below w1.heap.size W (W.setCell ⟨w1.heap.size,m,none⟩ (.bool true)):=(Below.refl _ W).setCell (p:=⟨w1.heap.size,m,none⟩) (Nat.le_refl _) _
     have hKS:KT wr.heap.size W (W.setCell ⟨w1.heap.size,m,none⟩ (.bool true)):=KT.setCell hRM.row (by decide) (boxed_ne hRM.row hb3 (by decide)) _
     have hOS:KeepsOthers W (W.setCell ⟨w1.heap.size,m,none⟩ (.bool true)):=KeepsOthers.setCell _ _ _
     have hpl2:=hbfN.len_le
     have hcl3:cs.length+1≤256:=by simp at hpl2;omega
     have HBN:=hide' hbfN
     have HCI2:=hide' hci
     gi_upto_region 14 with fail
     clear hRM hbox hrc hrf
     generalize W.setCell ⟨w1.heap.size,m,none⟩ (.bool true)=WS at hS hbS hKS hOS ⊢
     have hcb:=hS.cbx.cell
     have hsS:=hbS.size
     have hb3S:=hKS.node hb3
     gi_wp2_with (gi_at_builtin;refine wpListIn_append_own _ rfl _ _ 25 rfl w1.heap.size 3 i0 (.int .i64 0) 1 8 Tryz.underlying25 hi0 hz0 hz1 hz2 rfl (by decide) _ _ _ rfl (hS.come.alloc _) ⟨WS.heap.size,0,none⟩ 1 1 [.int .i64 (m:Int)] rfl rfl (cell_one_new _ _ _) (by simp [Value.oneCell']) (by unfold maxLen;omega) (by omega) (by have:=hB2.size;simp;omega) ?_;intro v' w5 hown' hgrow _;obtain ⟨g', cap', rfl⟩:=ownsRow_succ hown'; obtain ⟨hv1,hv2,hr2,hk2,hb2⟩:=hS.cbx.appended (by decide) hS.come (by have:=hB2.size;omega) (by have:=hsWA;omega) hown' hgrow;have hc1:=hv1.cell;have hf1:=hv1.frozen)
     have hgrow' :(WS.alloc (.cells #[.int .i64 (m:Int)] 3)).grownBy w5 vc.ownBlock:=hgrow
     have hv1' :w5.heap[WA.heap.size+1]?=some (.cells #[vc] 25 (0,0)):=hv1
     have hrow5:w5.heap[w1.heap.size]?=some (.cells ((x.set m true).map Value.bool).toArray 4 (0,0)):=(hgrow'.block _ (by have:=blk_lt hS.row;simp;omega) (owns_ne_ty hS.come hS.row (by decide))).trans ((Below.heap_alloc _ _ _ (blk_lt hS.row)).trans hS.row)
     have hrbx5:Boxed w5 (w1.heap.size+1) 116 (.slice (some ⟨w1.heap.size,0,none⟩) ns.length ns.length):=(hS.rbx.alloc _).kept hgrow' (hS.rbx.not_row (by decide) hS.come)
     have hKA:KT wr.heap.size WS (w5.setCell ⟨WA.heap.size+1,0,none⟩ (.slice (some ⟨g', 0,none⟩) (cs.length+1) cap')):=by
      refine ((KT.of_below ((Below.refl _ WS).alloc (Nat.le_refl _) _) hb3S.lt).trans (KT.grown hgrow' (by have:=hb3S.lt;simp;omega) fun j ej=>?_)).trans (KT.setCell (o:=0) hv1 (by decide) (boxed_ne hS.cbx hb3S (by decide)) _)
      rcases (hS.come.alloc (.cells #[.int .i64 (m:Int)] 3)).2 with ⟨e,_⟩ | ⟨g9,cap9,cur9,e,hb9,hgb9,_⟩
      ·rw [e] at ej;cases ej
      ·rw [e] at ej
       obtain rfl:g9=j:=by simpa [Value.ownBlock] using ej
       refine ⟨?_,_,_,_,hgb9,by decide⟩
       exact boxed_ne hgb9 ((Below.heap_alloc _ _ _ hb3S.lt).trans hb3S) (by decide)
     have hrm2:RM (w5.setCell ⟨WA.heap.size+1,0,none⟩ (.slice (some ⟨g', 0,none⟩) (cs.length+1) cap')) w1.heap.size w1.heap.size (WA.heap.size+1) ns.length (x.set m true) (cs++[(m:Int)]) (.slice (some ⟨g', 0,none⟩) (cs.length+1) cap'):=by
      refine ⟨(Below.heap_setCell _ _ _ _ (boxed_ne hrow5 hv1' (by decide))).trans hrow5,(Below.heap_setCell _ _ _ _ (boxed_ne hrbx5 hv1' (by decide))).trans hrbx5,hv2,?_⟩
      simpa using hr2
     refine ⟨(hOS.trans hk2).from _,hKS.trans hKA,⟨⟨_,_,_,?_,?_,hrm2⟩,(hKS.trans hKA).node hb3,hm1.others (hOS.trans hk2)⟩,hB2.trans (hbS.trans hb2)⟩
     ·rw [List.map_append];simpa [hmz] using HBN.out
     ·rw [List.getElem?_append_left (List.getElem?_eq_some_iff.1 HCI2.out).1];exact HCI2.out
    ·rw [hxm] at hrc
     have HBF2:=hide' hbf
     have HRM2:=hide' hRM
     clear hbf hRM
     gi_wp2
     refine ⟨KeepsFrom.refl _ _,KT.refl _ _,⟨⟨x,cs,vc,?_,hci,HRM2.out⟩,hb3,hm1⟩,hB2⟩
     rw [List.map_append]
     simpa [hmz] using HBF2.out.hit hml hxm
   case done =>
    rintro D ys W hD rfl ⟨⟨⟨x,cs,vc,hbf,hci,hRM⟩,hb3,hm1⟩,hB2⟩ hK
    rw [exoA_map] at hbf
    have hbf2:=Bfs.next (c:=(cn:Int)) (by rw [Int.toNat_natCast,HYN.out];exact hbf) hci
    have hil:=(List.getElem?_eq_some_iff.1 hci).1
    have HBF3:=hide' hbf2
    have HRM3:=hide' hRM
    have HM1:=hide' (hm1.cons hK fun E hE=>by have:=hMl E hE;omega)
    clear hbf hbf2 hRM hm1 hci
    gi_wp2
    refine ⟨⟨i+1,x,cs,vc,_,_,_,_,_,_,_,_,_,_,_,_,_,_,_,D::ds,HBF3.out,hil,HRM3.out,hB2,HM1.out,fun E hE=>?_,rfl⟩,?_⟩
    ·rcases List.mem_cons.1 hE with rfl | hE
     ·omega
     ·exact hD' E hE
    ·simp [intOf];omega
   case stop =>
    rintro D c pre W _ _ h _
    exact h.elim
  ·have ei:i=cs.length:=by omega
   obtain ⟨g,gcap,rfl,hbase,hglt⟩:=hM.come.form (List.length_pos_of_mem hbf.zero)
   have HEI:=hide' ei
   have HM2:=hide' hM
   have HBF4:=hide' hbf
   clear ei hM hbf
   gi_wp2
   refine leaves_marks ds _ hMk (fun D hD=>Nat.le_trans (Nat.le_of_lt hlt1) (hD' D hD)) fun W' hS=>?_
   refine ⟨.tuple #[.slice (some ⟨w1.heap.size,0,none⟩) ns.length ns.length,.int .i64 0],by simp [results,Tryz.results59,go_sem],_,rfl,?_,hB1.trans ((hB.mono (by omega)).trans hS.below)⟩
   have hf:=HBF4.out
   rw [HEI.out] at hf
   have hx:=hf.fin hc
   refine hS.owns ⟨by simp [rchL_len],Or.inr ⟨w1.heap.size,ns.length,_,rfl,by omega,HM2.out.row,Nat.le_refl _,by unfold maxLen;omega,by simp [hf.len],?_⟩⟩
   rw [hx,Nat.mul_one]
   exact List.take_of_length_le (by simp [rchL_len])
end Go.Proofs.YtkkolclmfcmfbaaGreatDoor
