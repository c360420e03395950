/-
  Of the proof of MovePlaces: PA, PB, FH.
-/
import Derived.Test.YtnbdnbcnlgnicaaGreatP3
import Derived.Test.YtnbdnbcnlgnicaaGreatP4
import Derived.BigQuiet
import Derived.Laws.EntriesVeiled
set_option linter.unusedVariables false
set_option linter.unusedSimpArgs false
set_option maxHeartbeats 40000000
namespace Go.Proofs.YtnbdnbcnlgnicaaGreat
open Go.RowKit Go.Shelf
theorem busy1_any (m B k:Nat) (ys:List Bool) (ya:Option Addr) (yc:Nat) (w:World) (h2:w.cell? ⟨B,2,none⟩=some (.slice ya k yc)) (hB:B<w.heap.size) (hy:BoolsAt w ya ys) (e1:ys.length=k) (hm:m<k) :
 Calls Tryz.prog 18 #[.int .i64 m,.pointer (some ⟨B,0,none⟩)] w fun e w' =>e=.returned (.bool (bat ys m))∧w' =w:=by
 obtain ⟨b3,o3,rfl,l3,v3⟩:=bools_cell hy (k:=m) (by omega)
 have hmi:(m:Int)<(k:Int):=by omega
 generalize bat ys m=P at v3 ⊢
 clear hy e1
 go_enter Tryz.func18,Tryz.ntmps18
 go_wp2
 go_ret
 exact ⟨rfl,rfl⟩
theorem lazy1_any (m B k:Nat) (ys zs:List Bool) (ya za:Option Addr) (yc zc:Nat) (w:World) (h4:w.cell? ⟨B,4,none⟩=some (.slice ya k yc)) (h5:w.cell? ⟨B,5,none⟩=some (.slice za k zc)) (hB:B<w.heap.size) (hy:BoolsAt w ya ys) (hz:BoolsAt w za zs) (e1:ys.length=k) (e2:zs.length=k) (hm:m<k) :
 Calls Tryz.prog 14 #[.int .i64 m,.pointer (some ⟨B,0,none⟩)] w fun e w' =>e=.returned (.bool (bat ys m&&!bat zs m))∧w' =w:=by
 obtain ⟨b3,o3,rfl,l3,v3⟩:=bools_cell hy (k:=m) (by omega)
 obtain ⟨b4,o4,rfl,l4,v4⟩:=bools_cell hz (k:=m) (by omega)
 have hmi:(m:Int)<(k:Int):=by omega
 generalize bat ys m=P at v3 ⊢
 generalize bat zs m=Q at v4 ⊢
 clear hy hz e1 e2
 cases P
 ·go_enter Tryz.func14,Tryz.ntmps14
  go_wp2
  go_ret
  exact ⟨rfl,rfl⟩
 ·go_enter Tryz.func14,Tryz.ntmps14
  go_wp2
  go_ret
  exact ⟨rfl,rfl⟩
theorem rival1_any (m A B k:Nat) (ys zs:List Bool) (ya za:Option Addr) (yc zc:Nat) (w:World) (h4:w.cell? ⟨A,0,none⟩=some (.slice ya k yc)) (h5:w.cell? ⟨B,0,none⟩=some (.slice za k zc)) (hA:A<w.heap.size) (hB:B<w.heap.size) (hy:BoolsAt w ya ys) (hz:BoolsAt w za zs) (e1:ys.length=k) (e2:zs.length=k) (hm:m<k) :
 Calls Tryz.prog 20 #[.int .i64 m,.pointer (some ⟨A,0,none⟩),.pointer (some ⟨B,0,none⟩)] w fun e w' =>e=.returned (.bool (bat ys m&&bat zs m))∧w' =w:=by
 obtain ⟨b3,o3,rfl,l3,v3⟩:=bools_cell hy (k:=m) (by omega)
 obtain ⟨b4,o4,rfl,l4,v4⟩:=bools_cell hz (k:=m) (by omega)
 have hmi:(m:Int)<(k:Int):=by omega
 generalize bat ys m=P at v3 ⊢
 generalize bat zs m=Q at v4 ⊢
 clear hy hz e1 e2
 cases P
 ·go_enter Tryz.func20,Tryz.ntmps20
  go_wp2
  go_ret
  exact ⟨rfl,rfl⟩
 ·go_enter Tryz.func20,Tryz.ntmps20
  go_wp2
  go_ret
  exact ⟨rfl,rfl⟩
theorem there2_any (i:Int) (w:World):Calls Tryz.prog 48 #[.int .i64 i] w fun e w' =>e=.returned (.bool true)∧w' =w:=by
 go_enter Tryz.func48,Tryz.ntmps48
 go_wp2
 go_ret
 exact ⟨rfl,rfl⟩
theorem there3_any (i:Int) (w:World):Calls Tryz.prog 49 #[.int .i64 i] w fun e w' =>e=.returned (.bool false)∧w' =w:=by
 go_enter Tryz.func49,Tryz.ntmps49
 go_wp2
 go_ret
 exact ⟨rfl,rfl⟩
set_option maxRecDepth 100000 in
theorem busy2_any (i P T:Nat) (r:Int) (b off cap:Nat) (ns:List Nd) (t:Tm) (w:World) (hN:NodesAt w b off ns) (hi:i<ns.length) (hP:w.heap[P]?=some (.cells #[.int .i64 r,.slice (some ⟨b,off,none⟩) ns.length cap] 24 (0,0))) (hT:w.heap[T]?=some (.cells #[.int .i64 t.op,.int .i64 t.a,.int .i64 t.b] 26 (0,0))) (ht:3≤t.op∧t.op≤8) :
 Calls Tryz.prog 19 #[.int .i64 i,.pointer (some ⟨P,0,none⟩),.pointer (some ⟨T,0,none⟩)] w fun e w' =>e=.returned (.bool (bat (ns.map (rcB t)) i))∧Below w.heap.size w w' :=by
 obtain ⟨x,hx⟩:=get_lt hi
 have hb:bat (ns.map (rcB t)) i=rcB t x:=bat_mapn hx
 have hii:(i:Int)<(ns.length:Int):=by omega
 have HS:Hid (∀ u:World,Below w.heap.size w u→u.cell? ⟨P,0,none⟩=some (.int .i64 r)∧u.cell? ⟨P,1,none⟩=some (.slice (some ⟨b,off,none⟩) ns.length cap)∧u.cell? ⟨T,0,none⟩=some (.int .i64 t.op)∧u.cell? ⟨T,1,none⟩=some (.int .i64 t.a)∧u.cell? ⟨T,2,none⟩=some (.int .i64 t.b)∧u.cell? ⟨b,off+i*6,none⟩=some (.int .i64 x.op)∧u.cell? ⟨b,off+i*6+1,none⟩=some (.int .i64 x.d)∧u.cell? ⟨b,off+i*6+2,none⟩=some (.int .i64 x.a)∧u.cell? ⟨b,off+i*6+3,none⟩=some (.int .i64 x.b)∧u.cell? ⟨b,off+i*6+4,none⟩=some (.int .i64 x.t)∧u.cell? ⟨b,off+i*6+5,none⟩=some (.int .i64 x.e)):=fun u h=>by
  have k1:=(h.block _ (blk_lt hP)).trans hP
  have k2:=(h.block _ (blk_lt hT)).trans hT
  have k3:=hN.below h hN.lt
  refine ⟨?_,?_,?_,?_,?_,k3.c0 i x hx,k3.c1 i x hx,k3.c2 i x hx,k3.c3 i x hx,k3.c4 i x hx,k3.c5 i x hx⟩
  ·rw [blk_cell k1];rfl
  ·rw [blk_cell k1];rfl
  ·rw [blk_cell k2];rfl
  ·rw [blk_cell k2];rfl
  ·rw [blk_cell k2];rfl
 have pl:=blk_lt hP
 have tl:=blk_lt hT
 have bl:=hN.lt
 have HBI:=hide hb
 have HT:=hide ht
 clear hP hT hN hx hb ht
 go_enter Tryz.func19,Tryz.ntmps19
 go_upto_region 1 with fail
 go_region_held3 (fun u=>u.cell? ⟨P,0,none⟩=some (.int .i64 r)∧u.cell? ⟨P,1,none⟩=some (.slice (some ⟨b,off,none⟩) ns.length cap)∧u.cell? ⟨T,0,none⟩=some (.int .i64 t.op)∧u.cell? ⟨T,1,none⟩=some (.int .i64 t.a)∧u.cell? ⟨T,2,none⟩=some (.int .i64 t.b)∧u.cell? ⟨b,off+i*6,none⟩=some (.int .i64 x.op)∧u.cell? ⟨b,off+i*6+1,none⟩=some (.int .i64 x.d)∧u.cell? ⟨b,off+i*6+2,none⟩=some (.int .i64 x.a)∧u.cell? ⟨b,off+i*6+3,none⟩=some (.int .i64 x.b)∧u.cell? ⟨b,off+i*6+4,none⟩=some (.int .i64 x.t)∧u.cell? ⟨b,off+i*6+5,none⟩=some (.int .i64 x.e)) (first
  | (with_reducible refine HS.out _ ?_;first | with_reducible exact hB2 | with_reducible exact (Below.refl _ w).drew | with_reducible exact (Below.refl _ w))) (first
  | (go_at_call 16;refine (sreckons_any x t _ HT.out).mono ?_;rintro e wa ⟨rfl,hba⟩;have hB2:Below w.heap.size w wa:=(by first | exact (Below.refl _ w).drew.trans hba | exact hba)))
 go_wp2
 go_ret
 exact ⟨ret_bool HBI.out.symm,hB2⟩
set_option maxRecDepth 100000 in
theorem there4_any (i P T:Nat) (r:Int) (b off cap:Nat) (ns:List Nd) (t:Tm) (w:World) (hN:NodesAt w b off ns) (hi:i<ns.length) (hP:w.heap[P]?=some (.cells #[.int .i64 r,.slice (some ⟨b,off,none⟩) ns.length cap] 24 (0,0))) (hT:w.heap[T]?=some (.cells #[.int .i64 t.op,.int .i64 t.a,.int .i64 t.b] 26 (0,0))) (ht:3≤t.op∧t.op≤8) :
 Calls Tryz.prog 50 #[.int .i64 i,.pointer (some ⟨P,0,none⟩),.pointer (some ⟨T,0,none⟩)] w fun e w' =>e=.returned (.bool (bat (ns.map (kpB t)) i))∧Below w.heap.size w w' :=by
 obtain ⟨x,hx⟩:=get_lt hi
 have hb:bat (ns.map (kpB t)) i=kpB t x:=bat_mapn hx
 have hii:(i:Int)<(ns.length:Int):=by omega
 have HS:Hid (∀ u:World,Below w.heap.size w u→u.cell? ⟨P,0,none⟩=some (.int .i64 r)∧u.cell? ⟨P,1,none⟩=some (.slice (some ⟨b,off,none⟩) ns.length cap)∧u.cell? ⟨T,0,none⟩=some (.int .i64 t.op)∧u.cell? ⟨T,1,none⟩=some (.int .i64 t.a)∧u.cell? ⟨T,2,none⟩=some (.int .i64 t.b)∧u.cell? ⟨b,off+i*6,none⟩=some (.int .i64 x.op)∧u.cell? ⟨b,off+i*6+1,none⟩=some (.int .i64 x.d)∧u.cell? ⟨b,off+i*6+2,none⟩=some (.int .i64 x.a)∧u.cell? ⟨b,off+i*6+3,none⟩=some (.int .i64 x.b)∧u.cell? ⟨b,off+i*6+4,none⟩=some (.int .i64 x.t)∧u.cell? ⟨b,off+i*6+5,none⟩=some (.int .i64 x.e)):=fun u h=>by
  have k1:=(h.block _ (blk_lt hP)).trans hP
  have k2:=(h.block _ (blk_lt hT)).trans hT
  have k3:=hN.below h hN.lt
  refine ⟨?_,?_,?_,?_,?_,k3.c0 i x hx,k3.c1 i x hx,k3.c2 i x hx,k3.c3 i x hx,k3.c4 i x hx,k3.c5 i x hx⟩
  ·rw [blk_cell k1];rfl
  ·rw [blk_cell k1];rfl
  ·rw [blk_cell k2];rfl
  ·rw [blk_cell k2];rfl
  ·rw [blk_cell k2];rfl
 have pl:=blk_lt hP
 have tl:=blk_lt hT
 have bl:=hN.lt
 have HBI:=hide hb
 have HT:=hide ht
 clear hP hT hN hx hb ht
 go_enter Tryz.func50,Tryz.ntmps50
 go_upto_region 1 with fail
 go_region_held3 (fun u=>u.cell? ⟨P,0,none⟩=some (.int .i64 r)∧u.cell? ⟨P,1,none⟩=some (.slice (some ⟨b,off,none⟩) ns.length cap)∧u.cell? ⟨T,0,none⟩=some (.int .i64 t.op)∧u.cell? ⟨T,1,none⟩=some (.int .i64 t.a)∧u.cell? ⟨T,2,none⟩=some (.int .i64 t.b)∧u.cell? ⟨b,off+i*6,none⟩=some (.int .i64 x.op)∧u.cell? ⟨b,off+i*6+1,none⟩=some (.int .i64 x.d)∧u.cell? ⟨b,off+i*6+2,none⟩=some (.int .i64 x.a)∧u.cell? ⟨b,off+i*6+3,none⟩=some (.int .i64 x.b)∧u.cell? ⟨b,off+i*6+4,none⟩=some (.int .i64 x.t)∧u.cell? ⟨b,off+i*6+5,none⟩=some (.int .i64 x.e)) (first
  | (with_reducible refine HS.out _ ?_;first | with_reducible exact hB2 | with_reducible exact (Below.refl _ w).drew | with_reducible exact (Below.refl _ w))) (first
  | (go_at_call 51;refine (keeps_any x t _).mono ?_;rintro e wa ⟨rfl,hba⟩;have hB2:Below w.heap.size w wa:=(by first | exact (Below.refl _ w).drew.trans hba | exact hba)))
 go_wp2
 go_ret
 exact ⟨ret_bool HBI.out.symm,hB2⟩
theorem PM1 {α:Type} (l:List α) (i:Nat) (a:α):l.toArray.setIfInBounds i a=(l.set i a).toArray:=List.setIfInBounds_toArray l i a
theorem PM2 {α:Type} {x a:α} {xs:List α}:(x::xs).set 0 a=a::xs:=rfl
theorem PM3 {α:Type} {x a:α} {i:Nat} {xs:List α}:(x::xs).set (i+1) a=x::xs.set i a:=rfl
set_option maxRecDepth 100000 in
theorem rival2_any (i P T D:Nat) (r:Int) (b off cap:Nat) (ns:List Nd) (t:Tm) (ys:List Bool) (da:Option Addr) (dc:Nat) (w:World) (hN:NodesAt w b off ns) (hi:i<ns.length) (hP:w.heap[P]?=some (.cells #[.int .i64 r,.slice (some ⟨b,off,none⟩) ns.length cap] 24 (0,0))) (hT:w.heap[T]?=some (.cells #[.int .i64 t.op,.int .i64 t.a,.int .i64 t.b] 26 (0,0))) (ht:3≤t.op∧t.op≤8) (hD:w.heap[D]?=some (.cells #[.slice da ns.length dc] 27 (0,0))) (hy:BoolsAt w da ys) (e1:ys.length=ns.length) :
 Calls Tryz.prog 22 #[.int .i64 i,.pointer (some ⟨P,0,none⟩),.pointer (some ⟨T,0,none⟩),.pointer (some ⟨D,0,none⟩)] w fun e w' =>e=.returned (.bool (bat (rcl ns t) i&&bat ys i))∧Below w.heap.size w w' :=by
 obtain ⟨x,hx⟩:=get_lt hi
 have hb:bat (rcl ns t) i=rcB t x:=bat_mapn hx
 have hii:(i:Int)<(ns.length:Int):=by omega
 obtain ⟨b3,o3,rfl,l3,v3⟩:=bools_cell hy (k:=i) (by omega)
 generalize bat ys i=Q at v3 ⊢
 have HS:Hid (∀ u:World,Below w.heap.size w u→u.cell? ⟨P,0,none⟩=some (.int .i64 r)∧u.cell? ⟨P,1,none⟩=some (.slice (some ⟨b,off,none⟩) ns.length cap)∧u.cell? ⟨T,0,none⟩=some (.int .i64 t.op)∧u.cell? ⟨T,1,none⟩=some (.int .i64 t.a)∧u.cell? ⟨T,2,none⟩=some (.int .i64 t.b)∧u.cell? ⟨b,off+i*6,none⟩=some (.int .i64 x.op)∧u.cell? ⟨b,off+i*6+1,none⟩=some (.int .i64 x.d)∧u.cell? ⟨b,off+i*6+2,none⟩=some (.int .i64 x.a)∧u.cell? ⟨b,off+i*6+3,none⟩=some (.int .i64 x.b)∧u.cell? ⟨b,off+i*6+4,none⟩=some (.int .i64 x.t)∧u.cell? ⟨b,off+i*6+5,none⟩=some (.int .i64 x.e)∧u.cell? ⟨D,0,none⟩=some (.slice (some ⟨b3,o3,none⟩) ns.length dc)∧u.cell? ⟨b3,o3+i,none⟩=some (.bool Q)):=fun u h=>by
  have k1:=(h.block _ (blk_lt hP)).trans hP
  have k2:=(h.block _ (blk_lt hT)).trans hT
  have k3:=hN.below h hN.lt
  have k4:=(h.block _ (blk_lt hD)).trans hD
  refine ⟨?_,?_,?_,?_,?_,k3.c0 i x hx,k3.c1 i x hx,k3.c2 i x hx,k3.c3 i x hx,k3.c4 i x hx,k3.c5 i x hx,?_,?_⟩
  ·rw [blk_cell k1];rfl
  ·rw [blk_cell k1];rfl
  ·rw [blk_cell k2];rfl
  ·rw [blk_cell k2];rfl
  ·rw [blk_cell k2];rfl
  ·rw [blk_cell k4];rfl
  ·rw [World.cell?_of_block (h.block _ l3)];exact v3
 have pl:=blk_lt hP
 have tl:=blk_lt hT
 have bl:=hN.lt
 have dl:=blk_lt hD
 have HBI:=hide hb
 have HT:=hide ht
 clear hP hT hN hx hb ht hD hy e1 v3
 cases hq:rcB t x
 ·have HRC:=hide hq
  clear hq
  go_enter Tryz.func22,Tryz.ntmps22
  go_upto_region 1 with fail
  refine wp_region_held_drew (S:=(fun u=>u.cell? ⟨P,0,none⟩=some (.int .i64 r)∧u.cell? ⟨P,1,none⟩=some (.slice (some ⟨b,off,none⟩) ns.length cap)∧u.cell? ⟨T,0,none⟩=some (.int .i64 t.op)∧u.cell? ⟨T,1,none⟩=some (.int .i64 t.a)∧u.cell? ⟨T,2,none⟩=some (.int .i64 t.b)∧u.cell? ⟨b,off+i*6,none⟩=some (.int .i64 x.op)∧u.cell? ⟨b,off+i*6+1,none⟩=some (.int .i64 x.d)∧u.cell? ⟨b,off+i*6+2,none⟩=some (.int .i64 x.a)∧u.cell? ⟨b,off+i*6+3,none⟩=some (.int .i64 x.b)∧u.cell? ⟨b,off+i*6+4,none⟩=some (.int .i64 x.t)∧u.cell? ⟨b,off+i*6+5,none⟩=some (.int .i64 x.e)∧u.cell? ⟨D,0,none⟩=some (.slice (some ⟨b3,o3,none⟩) ns.length dc)∧u.cell? ⟨b3,o3+i,none⟩=some (.bool Q))) (by as_aux_lemma=>kernel_rfl) (by (try dsimp only);first | (with_reducible exact HS.out _ hB2) | exact HS.out _ (Below.refl _ w).drew | exact HS.out _ (Below.refl _ w)) (fun hHeld=>?_)
  refine tky 0 ⟨some 6,.fieldAddr 24 (.tmp 1) 1,0, "move.go:49", #[],none⟩ (v:=?_) ?_ ?_
  rotate_left 1
  ·intro w hSw;(try dsimp only at hSw);go_simp;all_goals with_reducible rfl
  (try simp only [Act.put,PM1,PM2,PM3])
  refine tky 1 ⟨some 7,.load 22 (.tmp 6),22, "move.go:49", #[⟨0,.data⟩],none⟩ (v:=?_) ?_ ?_
  rotate_left 1
  ·intro w hSw;(try dsimp only at hSw);go_simp;all_goals with_reducible rfl
  (try simp only [Act.put,PM1,PM2,PM3])
  refine tky 2 ⟨some 8,.move (.tmp 0),3, "move.go:49", #[],none⟩ (v:=?_) ?_ ?_
  rotate_left 1
  ·intro w hSw;(try dsimp only at hSw);go_simp;all_goals with_reducible rfl
  (try simp only [Act.put,PM1,PM2,PM3])
  refine tky 3 ⟨some 9,.indexAddr 22 (.tmp 7) (.tmp 8),0, "move.go:49", #[⟨1,.data⟩,⟨2,.data⟩],none⟩ (v:=?_) ?_ ?_
  rotate_left 1
  ·intro w hSw;(try dsimp only at hSw);go_simp;all_goals with_reducible rfl
  (try simp only [Act.put,PM1,PM2,PM3])
  refine tky 4 ⟨some 10,.load 47 (.tmp 9),47, "move.go:49", #[⟨3,.data⟩],none⟩ (v:=?_) ?_ ?_
  rotate_left 1
  ·intro w hSw;(try dsimp only at hSw);go_simp;all_goals with_reducible rfl
  (try simp only [Act.put,PM1,PM2,PM3])
  refine tky 5 ⟨some 11,.load 26 (.tmp 2),26, "move.go:49", #[],none⟩ (v:=?_) ?_ ?_
  rotate_left 1
  ·intro w hSw;(try dsimp only at hSw);go_simp;all_goals with_reducible rfl
  (try simp only [Act.put,PM1,PM2,PM3])
  refine wpAnyH_ready (rs:=[6]) (by as_aux_lemma=>kernel_rfl) (by simp) (AllReadyH.cons (o:=⟨some 12,.call { callee:=.value (.func 16),args:=#[.tmp 10,.tmp 11],argTypes:=#[47,26] },4, "move.go:49", #[⟨4,.data⟩,⟨5,.data⟩],none⟩) rfl (fun K hK=>?_) AllReadyH.nil)
  go_simp
  go_at_call 16;refine (sreckons_any x t _ HT.out).mono ?_;rintro e wa ⟨rfl,hba⟩;have hB2:Below w.heap.size w wa:=(by first | exact (Below.refl _ w).drew.trans hba | exact hba);rw [HRC.out];(try go_wp2_with fail)
  refine hK.out _ _ (by (try dsimp only);first | (with_reducible exact HS.out _ hB2) | exact HS.out _ (Below.refl _ w).drew | exact HS.out _ (Below.refl _ w)) (fun hHeld=>?_)
  clear hK K
  (try simp only [Act.put,PM1,PM2,PM3])
  refine tky 7 ⟨some 13,.move (.tmp 12),4, "move.go:49", #[⟨6,.data⟩,⟨6,.chain⟩],none⟩ (v:=?_) ?_ ?_
  rotate_left 1
  ·intro w hSw;(try dsimp only at hSw);go_simp;all_goals with_reducible rfl
  (try simp only [Act.put,PM1,PM2,PM3])
  refine tkn 8 ⟨some 14,.load 27 (.tmp 3),27, "move.go:49", #[⟨7,.guard⟩],some (7,true)⟩ ?_
  (try simp only [Act.put,PM1,PM2,PM3])
  refine tkn 9 ⟨some 15,.move (.tmp 0),3, "move.go:49", #[⟨7,.guard⟩],some (7,true)⟩ ?_
  (try simp only [Act.put,PM1,PM2,PM3])
  refine tkn 10 ⟨some 16,.indexAddr 27 (.tmp 14) (.tmp 15),0, "move.go:49", #[⟨8,.data⟩,⟨9,.data⟩,⟨7,.guard⟩],some (7,true)⟩ ?_
  (try simp only [Act.put,PM1,PM2,PM3])
  refine tkn 11 ⟨some 17,.load 4 (.tmp 16),4, "move.go:49", #[⟨10,.data⟩,⟨7,.guard⟩],some (7,true)⟩ ?_
  (try simp only [Act.put,PM1,PM2,PM3])
  refine tky 12 ⟨some 18,.pick (.tmp 13) (.tmp 17) (.const (Go.Value.bool false)),4, "move.go:49", #[⟨7,.data⟩,⟨11,.data⟩],none⟩ (v:=?_) ?_ ?_
  rotate_left 1
  ·intro w hSw;(try dsimp only at hSw);go_simp;all_goals with_reducible rfl
  (try simp only [Act.put,PM1,PM2,PM3])
  refine tky 13 ⟨some 5,.assign (.tmp 18),4, "move.go:49", #[⟨12,.data⟩,⟨7,.chain⟩,⟨0,.phase⟩,⟨1,.phase⟩,⟨2,.phase⟩,⟨3,.phase⟩,⟨4,.phase⟩,⟨5,.phase⟩,⟨6,.phase⟩,⟨7,.phase⟩,⟨8,.phase⟩,⟨9,.phase⟩,⟨10,.phase⟩,⟨11,.phase⟩,⟨12,.phase⟩],none⟩ (v:=?_) ?_ ?_
  rotate_left 1
  ·intro w hSw;(try dsimp only at hSw);go_simp;all_goals with_reducible rfl
  (try simp only [Act.put,PM1,PM2,PM3])
  refine wpAnyH_done (by as_aux_lemma=>kernel_rfl) ?_ _
  go_wp2
  go_ret
  exact ⟨ret_bool (by rw [HBI.out,HRC.out];rfl),hB2⟩
 ·have HRC:=hide hq
  clear hq
  go_enter Tryz.func22,Tryz.ntmps22
  go_upto_region 1 with fail
  go_region_held3 (fun u=>u.cell? ⟨P,0,none⟩=some (.int .i64 r)∧u.cell? ⟨P,1,none⟩=some (.slice (some ⟨b,off,none⟩) ns.length cap)∧u.cell? ⟨T,0,none⟩=some (.int .i64 t.op)∧u.cell? ⟨T,1,none⟩=some (.int .i64 t.a)∧u.cell? ⟨T,2,none⟩=some (.int .i64 t.b)∧u.cell? ⟨b,off+i*6,none⟩=some (.int .i64 x.op)∧u.cell? ⟨b,off+i*6+1,none⟩=some (.int .i64 x.d)∧u.cell? ⟨b,off+i*6+2,none⟩=some (.int .i64 x.a)∧u.cell? ⟨b,off+i*6+3,none⟩=some (.int .i64 x.b)∧u.cell? ⟨b,off+i*6+4,none⟩=some (.int .i64 x.t)∧u.cell? ⟨b,off+i*6+5,none⟩=some (.int .i64 x.e)∧u.cell? ⟨D,0,none⟩=some (.slice (some ⟨b3,o3,none⟩) ns.length dc)∧u.cell? ⟨b3,o3+i,none⟩=some (.bool Q)) (first
   | (with_reducible refine HS.out _ ?_;first | with_reducible exact hB2 | with_reducible exact (Below.refl _ w).drew | with_reducible exact (Below.refl _ w))) (first
   | (go_at_call 16;refine (sreckons_any x t _ HT.out).mono ?_;rintro e wa ⟨rfl,hba⟩;have hB2:Below w.heap.size w wa:=(by first | exact (Below.refl _ w).drew.trans hba | exact hba);rw [HRC.out]))
  go_wp2
  go_ret
  exact ⟨ret_bool (by rw [HBI.out,HRC.out];rfl),hB2⟩
set_option maxRecDepth 100000 in
theorem lazy2_any (i P T D:Nat) (r:Int) (b off cap:Nat) (ns:List Nd) (t:Tm) (ys zs:List Bool) (da ea:Option Addr) (dc ec:Nat) (w:World) (hN:NodesAt w b off ns) (hi:i<ns.length) (hP:w.heap[P]?=some (.cells #[.int .i64 r,.slice (some ⟨b,off,none⟩) ns.length cap] 24 (0,0))) (hT:w.heap[T]?=some (.cells #[.int .i64 t.op,.int .i64 t.a,.int .i64 t.b] 26 (0,0))) (ht:3≤t.op∧t.op≤8) (hl:D<w.heap.size) (h4:w.cell? ⟨D,4,none⟩=some (.slice da ns.length dc)) (h5:w.cell? ⟨D,5,none⟩=some (.slice ea ns.length ec)) (hy:BoolsAt w da ys) (hz:BoolsAt w ea zs) (e1:ys.length=ns.length) (e2:zs.length=ns.length) :
 Calls Tryz.prog 15 #[.int .i64 i,.pointer (some ⟨P,0,none⟩),.pointer (some ⟨T,0,none⟩),.pointer (some ⟨D,0,none⟩)] w fun e w' =>e=.returned (.bool (bat (rcl ns t) i&&!(bat ys i&&bat zs i)))∧Below w.heap.size w w' :=by
 obtain ⟨x,hx⟩:=get_lt hi
 have hb:bat (rcl ns t) i=rcB t x:=bat_mapn hx
 have hii:(i:Int)<(ns.length:Int):=by omega
 obtain ⟨b3,o3,rfl,l3,v3⟩:=bools_cell hy (k:=i) (by omega)
 obtain ⟨b4,o4,rfl,l4,v4⟩:=bools_cell hz (k:=i) (by omega)
 generalize bat ys i=QY at v3 ⊢
 generalize bat zs i=Q at v4 ⊢
 have HS:Hid (∀ u:World,Below w.heap.size w u→u.cell? ⟨P,0,none⟩=some (.int .i64 r)∧u.cell? ⟨P,1,none⟩=some (.slice (some ⟨b,off,none⟩) ns.length cap)∧u.cell? ⟨T,0,none⟩=some (.int .i64 t.op)∧u.cell? ⟨T,1,none⟩=some (.int .i64 t.a)∧u.cell? ⟨T,2,none⟩=some (.int .i64 t.b)∧u.cell? ⟨b,off+i*6,none⟩=some (.int .i64 x.op)∧u.cell? ⟨b,off+i*6+1,none⟩=some (.int .i64 x.d)∧u.cell? ⟨b,off+i*6+2,none⟩=some (.int .i64 x.a)∧u.cell? ⟨b,off+i*6+3,none⟩=some (.int .i64 x.b)∧u.cell? ⟨b,off+i*6+4,none⟩=some (.int .i64 x.t)∧u.cell? ⟨b,off+i*6+5,none⟩=some (.int .i64 x.e)∧u.cell? ⟨D,4,none⟩=some (.slice (some ⟨b3,o3,none⟩) ns.length dc)∧u.cell? ⟨D,5,none⟩=some (.slice (some ⟨b4,o4,none⟩) ns.length ec)∧u.cell? ⟨b3,o3+i,none⟩=some (.bool QY)∧u.cell? ⟨b4,o4+i,none⟩=some (.bool Q)):=fun u h=>by
  have k1:=(h.block _ (blk_lt hP)).trans hP
  have k2:=(h.block _ (blk_lt hT)).trans hT
  have k3:=hN.below h hN.lt
  refine ⟨?_,?_,?_,?_,?_,k3.c0 i x hx,k3.c1 i x hx,k3.c2 i x hx,k3.c3 i x hx,k3.c4 i x hx,k3.c5 i x hx,?_,?_,?_,?_⟩
  ·rw [blk_cell k1];rfl
  ·rw [blk_cell k1];rfl
  ·rw [blk_cell k2];rfl
  ·rw [blk_cell k2];rfl
  ·rw [blk_cell k2];rfl
  ·rw [World.cell?_of_block (h.block _ hl)];exact h4
  ·rw [World.cell?_of_block (h.block _ hl)];exact h5
  ·rw [World.cell?_of_block (h.block _ l3)];exact v3
  ·rw [World.cell?_of_block (h.block _ l4)];exact v4
 have pl:=blk_lt hP
 have tl:=blk_lt hT
 have bl:=hN.lt
 have HBI:=hide hb
 have HT:=hide ht
 clear hP hT hN hx hb ht hy hz e1 e2 v3 v4 h4 h5
 cases hq:rcB t x
 ·have HRC:=hide hq
  clear hq
  go_enter Tryz.func15,Tryz.ntmps15
  go_upto_region 1 with fail
  refine wp_region_held_drew (S:=(fun u=>u.cell? ⟨P,0,none⟩=some (.int .i64 r)∧u.cell? ⟨P,1,none⟩=some (.slice (some ⟨b,off,none⟩) ns.length cap)∧u.cell? ⟨T,0,none⟩=some (.int .i64 t.op)∧u.cell? ⟨T,1,none⟩=some (.int .i64 t.a)∧u.cell? ⟨T,2,none⟩=some (.int .i64 t.b)∧u.cell? ⟨b,off+i*6,none⟩=some (.int .i64 x.op)∧u.cell? ⟨b,off+i*6+1,none⟩=some (.int .i64 x.d)∧u.cell? ⟨b,off+i*6+2,none⟩=some (.int .i64 x.a)∧u.cell? ⟨b,off+i*6+3,none⟩=some (.int .i64 x.b)∧u.cell? ⟨b,off+i*6+4,none⟩=some (.int .i64 x.t)∧u.cell? ⟨b,off+i*6+5,none⟩=some (.int .i64 x.e)∧u.cell? ⟨D,4,none⟩=some (.slice (some ⟨b3,o3,none⟩) ns.length dc)∧u.cell? ⟨D,5,none⟩=some (.slice (some ⟨b4,o4,none⟩) ns.length ec)∧u.cell? ⟨b3,o3+i,none⟩=some (.bool QY)∧u.cell? ⟨b4,o4+i,none⟩=some (.bool Q))) (by as_aux_lemma=>kernel_rfl) (by (try dsimp only);first | (with_reducible exact HS.out _ hB2) | exact HS.out _ (Below.refl _ w).drew | exact HS.out _ (Below.refl _ w)) (fun hHeld=>?_)
  refine tky 0 ⟨some 6,.fieldAddr 24 (.tmp 1) 1,0, "move.go:23", #[],none⟩ (v:=?_) ?_ ?_
  rotate_left 1
  ·intro w hSw;(try dsimp only at hSw);go_simp;all_goals with_reducible rfl
  (try simp only [Act.put,PM1,PM2,PM3])
  refine tky 1 ⟨some 7,.load 22 (.tmp 6),22, "move.go:23", #[⟨0,.data⟩],none⟩ (v:=?_) ?_ ?_
  rotate_left 1
  ·intro w hSw;(try dsimp only at hSw);go_simp;all_goals with_reducible rfl
  (try simp only [Act.put,PM1,PM2,PM3])
  refine tky 2 ⟨some 8,.move (.tmp 0),3, "move.go:23", #[],none⟩ (v:=?_) ?_ ?_
  rotate_left 1
  ·intro w hSw;(try dsimp only at hSw);go_simp;all_goals with_reducible rfl
  (try simp only [Act.put,PM1,PM2,PM3])
  refine tky 3 ⟨some 9,.indexAddr 22 (.tmp 7) (.tmp 8),0, "move.go:23", #[⟨1,.data⟩,⟨2,.data⟩],none⟩ (v:=?_) ?_ ?_
  rotate_left 1
  ·intro w hSw;(try dsimp only at hSw);go_simp;all_goals with_reducible rfl
  (try simp only [Act.put,PM1,PM2,PM3])
  refine tky 4 ⟨some 10,.load 47 (.tmp 9),47, "move.go:23", #[⟨3,.data⟩],none⟩ (v:=?_) ?_ ?_
  rotate_left 1
  ·intro w hSw;(try dsimp only at hSw);go_simp;all_goals with_reducible rfl
  (try simp only [Act.put,PM1,PM2,PM3])
  refine tky 5 ⟨some 11,.load 26 (.tmp 2),26, "move.go:23", #[],none⟩ (v:=?_) ?_ ?_
  rotate_left 1
  ·intro w hSw;(try dsimp only at hSw);go_simp;all_goals with_reducible rfl
  (try simp only [Act.put,PM1,PM2,PM3])
  refine wpAnyH_ready (rs:=[6]) (by as_aux_lemma=>kernel_rfl) (by simp) (AllReadyH.cons (o:=⟨some 12,.call { callee:=.value (.func 16),args:=#[.tmp 10,.tmp 11],argTypes:=#[47,26] },4, "move.go:23", #[⟨4,.data⟩,⟨5,.data⟩],none⟩) rfl (fun K hK=>?_) AllReadyH.nil)
  go_simp
  go_at_call 16;refine (sreckons_any x t _ HT.out).mono ?_;rintro e wa ⟨rfl,hba⟩;have hB2:Below w.heap.size w wa:=(by first | exact (Below.refl _ w).drew.trans hba | exact hba);rw [HRC.out];(try go_wp2_with fail)
  refine hK.out _ _ (by (try dsimp only);first | (with_reducible exact HS.out _ hB2) | exact HS.out _ (Below.refl _ w).drew | exact HS.out _ (Below.refl _ w)) (fun hHeld=>?_)
  clear hK K
  (try simp only [Act.put,PM1,PM2,PM3])
  refine tky 7 ⟨some 13,.move (.tmp 12),4, "move.go:23", #[⟨6,.data⟩,⟨6,.chain⟩],none⟩ (v:=?_) ?_ ?_
  rotate_left 1
  ·intro w hSw;(try dsimp only at hSw);go_simp;all_goals with_reducible rfl
  (try simp only [Act.put,PM1,PM2,PM3])
  refine tkn 8 ⟨some 14,.fieldAddr 41 (.tmp 3) 4,0, "move.go:23", #[⟨7,.guard⟩],some (7,true)⟩ ?_
  (try simp only [Act.put,PM1,PM2,PM3])
  refine tkn 9 ⟨some 15,.load 27 (.tmp 14),27, "move.go:23", #[⟨8,.data⟩,⟨7,.guard⟩],some (7,true)⟩ ?_
  (try simp only [Act.put,PM1,PM2,PM3])
  refine tkn 10 ⟨some 16,.move (.tmp 0),3, "move.go:23", #[⟨7,.guard⟩],some (7,true)⟩ ?_
  (try simp only [Act.put,PM1,PM2,PM3])
  refine tkn 11 ⟨some 17,.indexAddr 27 (.tmp 15) (.tmp 16),0, "move.go:23", #[⟨9,.data⟩,⟨10,.data⟩,⟨7,.guard⟩],some (7,true)⟩ ?_
  (try simp only [Act.put,PM1,PM2,PM3])
  refine tkn 12 ⟨some 18,.load 4 (.tmp 17),4, "move.go:23", #[⟨11,.data⟩,⟨7,.guard⟩],some (7,true)⟩ ?_
  (try simp only [Act.put,PM1,PM2,PM3])
  refine tkn 13 ⟨some 19,.move (.tmp 18),4, "move.go:23", #[⟨12,.data⟩,⟨7,.chain⟩,⟨7,.guard⟩],some (7,true)⟩ ?_
  (try simp only [Act.put,PM1,PM2,PM3])
  refine tkn 14 ⟨some 20,.fieldAddr 41 (.tmp 3) 5,0, "move.go:23", #[⟨13,.guard⟩],some (13,true)⟩ ?_
  (try simp only [Act.put,PM1,PM2,PM3])
  refine tkn 15 ⟨some 21,.load 27 (.tmp 20),27, "move.go:23", #[⟨14,.data⟩,⟨13,.guard⟩],some (13,true)⟩ ?_
  (try simp only [Act.put,PM1,PM2,PM3])
  refine tkn 16 ⟨some 22,.move (.tmp 0),3, "move.go:23", #[⟨13,.guard⟩],some (13,true)⟩ ?_
  (try simp only [Act.put,PM1,PM2,PM3])
  refine tkn 17 ⟨some 23,.indexAddr 27 (.tmp 21) (.tmp 22),0, "move.go:23", #[⟨15,.data⟩,⟨16,.data⟩,⟨13,.guard⟩],some (13,true)⟩ ?_
  (try simp only [Act.put,PM1,PM2,PM3])
  refine tkn 18 ⟨some 24,.load 4 (.tmp 23),4, "move.go:23", #[⟨17,.data⟩,⟨13,.guard⟩],some (13,true)⟩ ?_
  (try simp only [Act.put,PM1,PM2,PM3])
  refine tkn 19 ⟨some 25,.pick (.tmp 19) (.tmp 24) (.const (Go.Value.bool false)),4, "move.go:23", #[⟨13,.data⟩,⟨18,.data⟩,⟨7,.guard⟩],some (7,true)⟩ ?_
  (try simp only [Act.put,PM1,PM2,PM3])
  refine tkn 20 ⟨some 26,.unOp Go.UnOp.not 4 (.tmp 25),4, "move.go:23", #[⟨19,.data⟩,⟨7,.guard⟩],some (7,true)⟩ ?_
  (try simp only [Act.put,PM1,PM2,PM3])
  refine tky 21 ⟨some 27,.pick (.tmp 13) (.tmp 26) (.const (Go.Value.bool false)),4, "move.go:23", #[⟨7,.data⟩,⟨20,.data⟩],none⟩ (v:=?_) ?_ ?_
  rotate_left 1
  ·intro w hSw;(try dsimp only at hSw);go_simp;all_goals with_reducible rfl
  (try simp only [Act.put,PM1,PM2,PM3])
  refine tky 22 ⟨some 5,.assign (.tmp 27),4, "move.go:23", #[⟨21,.data⟩,⟨13,.chain⟩,⟨0,.phase⟩,⟨1,.phase⟩,⟨2,.phase⟩,⟨3,.phase⟩,⟨4,.phase⟩,⟨5,.phase⟩,⟨6,.phase⟩,⟨7,.phase⟩,⟨8,.phase⟩,⟨9,.phase⟩,⟨10,.phase⟩,⟨11,.phase⟩,⟨12,.phase⟩,⟨13,.phase⟩,⟨14,.phase⟩,⟨15,.phase⟩,⟨16,.phase⟩,⟨17,.phase⟩,⟨18,.phase⟩,⟨19,.phase⟩,⟨20,.phase⟩,⟨21,.phase⟩],none⟩ (v:=?_) ?_ ?_
  rotate_left 1
  ·intro w hSw;(try dsimp only at hSw);go_simp;all_goals with_reducible rfl
  (try simp only [Act.put,PM1,PM2,PM3])
  refine wpAnyH_done (by as_aux_lemma=>kernel_rfl) ?_ _
  go_wp2
  go_ret
  exact ⟨ret_bool (by rw [HBI.out,HRC.out];rfl),hB2⟩
 ·have HRC:=hide hq
  clear hq
  cases QY
  ·go_enter Tryz.func15,Tryz.ntmps15
   go_upto_region 1 with fail
   refine wp_region_held_drew (S:=(fun u=>u.cell? ⟨P,0,none⟩=some (.int .i64 r)∧u.cell? ⟨P,1,none⟩=some (.slice (some ⟨b,off,none⟩) ns.length cap)∧u.cell? ⟨T,0,none⟩=some (.int .i64 t.op)∧u.cell? ⟨T,1,none⟩=some (.int .i64 t.a)∧u.cell? ⟨T,2,none⟩=some (.int .i64 t.b)∧u.cell? ⟨b,off+i*6,none⟩=some (.int .i64 x.op)∧u.cell? ⟨b,off+i*6+1,none⟩=some (.int .i64 x.d)∧u.cell? ⟨b,off+i*6+2,none⟩=some (.int .i64 x.a)∧u.cell? ⟨b,off+i*6+3,none⟩=some (.int .i64 x.b)∧u.cell? ⟨b,off+i*6+4,none⟩=some (.int .i64 x.t)∧u.cell? ⟨b,off+i*6+5,none⟩=some (.int .i64 x.e)∧u.cell? ⟨D,4,none⟩=some (.slice (some ⟨b3,o3,none⟩) ns.length dc)∧u.cell? ⟨D,5,none⟩=some (.slice (some ⟨b4,o4,none⟩) ns.length ec)∧u.cell? ⟨b3,o3+i,none⟩=some (.bool false)∧u.cell? ⟨b4,o4+i,none⟩=some (.bool Q))) (by as_aux_lemma=>kernel_rfl) (by (try dsimp only);first | (with_reducible exact HS.out _ hB2) | exact HS.out _ (Below.refl _ w).drew | exact HS.out _ (Below.refl _ w)) (fun hHeld=>?_)
   refine tky 0 ⟨some 6,.fieldAddr 24 (.tmp 1) 1,0, "move.go:23", #[],none⟩ (v:=?_) ?_ ?_
   rotate_left 1
   ·intro w hSw;(try dsimp only at hSw);go_simp;all_goals with_reducible rfl
   (try simp only [Act.put,PM1,PM2,PM3])
   refine tky 1 ⟨some 7,.load 22 (.tmp 6),22, "move.go:23", #[⟨0,.data⟩],none⟩ (v:=?_) ?_ ?_
   rotate_left 1
   ·intro w hSw;(try dsimp only at hSw);go_simp;all_goals with_reducible rfl
   (try simp only [Act.put,PM1,PM2,PM3])
   refine tky 2 ⟨some 8,.move (.tmp 0),3, "move.go:23", #[],none⟩ (v:=?_) ?_ ?_
   rotate_left 1
   ·intro w hSw;(try dsimp only at hSw);go_simp;all_goals with_reducible rfl
   (try simp only [Act.put,PM1,PM2,PM3])
   refine tky 3 ⟨some 9,.indexAddr 22 (.tmp 7) (.tmp 8),0, "move.go:23", #[⟨1,.data⟩,⟨2,.data⟩],none⟩ (v:=?_) ?_ ?_
   rotate_left 1
   ·intro w hSw;(try dsimp only at hSw);go_simp;all_goals with_reducible rfl
   (try simp only [Act.put,PM1,PM2,PM3])
   refine tky 4 ⟨some 10,.load 47 (.tmp 9),47, "move.go:23", #[⟨3,.data⟩],none⟩ (v:=?_) ?_ ?_
   rotate_left 1
   ·intro w hSw;(try dsimp only at hSw);go_simp;all_goals with_reducible rfl
   (try simp only [Act.put,PM1,PM2,PM3])
   refine tky 5 ⟨some 11,.load 26 (.tmp 2),26, "move.go:23", #[],none⟩ (v:=?_) ?_ ?_
   rotate_left 1
   ·intro w hSw;(try dsimp only at hSw);go_simp;all_goals with_reducible rfl
   (try simp only [Act.put,PM1,PM2,PM3])
   refine wpAnyH_ready (rs:=[6]) (by as_aux_lemma=>kernel_rfl) (by simp) (AllReadyH.cons (o:=⟨some 12,.call { callee:=.value (.func 16),args:=#[.tmp 10,.tmp 11],argTypes:=#[47,26] },4, "move.go:23", #[⟨4,.data⟩,⟨5,.data⟩],none⟩) rfl (fun K hK=>?_) AllReadyH.nil)
   go_simp
   go_at_call 16;refine (sreckons_any x t _ HT.out).mono ?_;rintro e wa ⟨rfl,hba⟩;have hB2:Below w.heap.size w wa:=(by first | exact (Below.refl _ w).drew.trans hba | exact hba);rw [HRC.out];(try go_wp2_with fail)
   refine hK.out _ _ (by (try dsimp only);first | (with_reducible exact HS.out _ hB2) | exact HS.out _ (Below.refl _ w).drew | exact HS.out _ (Below.refl _ w)) (fun hHeld=>?_)
   clear hK K
   (try simp only [Act.put,PM1,PM2,PM3])
   refine tky 7 ⟨some 13,.move (.tmp 12),4, "move.go:23", #[⟨6,.data⟩,⟨6,.chain⟩],none⟩ (v:=?_) ?_ ?_
   rotate_left 1
   ·intro w hSw;(try dsimp only at hSw);go_simp;all_goals with_reducible rfl
   (try simp only [Act.put,PM1,PM2,PM3])
   refine tky 8 ⟨some 14,.fieldAddr 41 (.tmp 3) 4,0, "move.go:23", #[⟨7,.guard⟩],some (7,true)⟩ (v:=?_) ?_ ?_
   rotate_left 1
   ·intro w hSw;(try dsimp only at hSw);go_simp;all_goals with_reducible rfl
   (try simp only [Act.put,PM1,PM2,PM3])
   refine tky 9 ⟨some 15,.load 27 (.tmp 14),27, "move.go:23", #[⟨8,.data⟩,⟨7,.guard⟩],some (7,true)⟩ (v:=?_) ?_ ?_
   rotate_left 1
   ·intro w hSw;(try dsimp only at hSw);go_simp;all_goals with_reducible rfl
   (try simp only [Act.put,PM1,PM2,PM3])
   refine tky 10 ⟨some 16,.move (.tmp 0),3, "move.go:23", #[⟨7,.guard⟩],some (7,true)⟩ (v:=?_) ?_ ?_
   rotate_left 1
   ·intro w hSw;(try dsimp only at hSw);go_simp;all_goals with_reducible rfl
   (try simp only [Act.put,PM1,PM2,PM3])
   refine tky 11 ⟨some 17,.indexAddr 27 (.tmp 15) (.tmp 16),0, "move.go:23", #[⟨9,.data⟩,⟨10,.data⟩,⟨7,.guard⟩],some (7,true)⟩ (v:=?_) ?_ ?_
   rotate_left 1
   ·intro w hSw;(try dsimp only at hSw);go_simp;all_goals with_reducible rfl
   (try simp only [Act.put,PM1,PM2,PM3])
   refine tky 12 ⟨some 18,.load 4 (.tmp 17),4, "move.go:23", #[⟨11,.data⟩,⟨7,.guard⟩],some (7,true)⟩ (v:=?_) ?_ ?_
   rotate_left 1
   ·intro w hSw;(try dsimp only at hSw);go_simp;all_goals with_reducible rfl
   (try simp only [Act.put,PM1,PM2,PM3])
   refine tky 13 ⟨some 19,.move (.tmp 18),4, "move.go:23", #[⟨12,.data⟩,⟨7,.chain⟩,⟨7,.guard⟩],some (7,true)⟩ (v:=?_) ?_ ?_
   rotate_left 1
   ·intro w hSw;(try dsimp only at hSw);go_simp;all_goals with_reducible rfl
   (try simp only [Act.put,PM1,PM2,PM3])
   refine tkn 14 ⟨some 20,.fieldAddr 41 (.tmp 3) 5,0, "move.go:23", #[⟨13,.guard⟩],some (13,true)⟩ ?_
   (try simp only [Act.put,PM1,PM2,PM3])
   refine tkn 15 ⟨some 21,.load 27 (.tmp 20),27, "move.go:23", #[⟨14,.data⟩,⟨13,.guard⟩],some (13,true)⟩ ?_
   (try simp only [Act.put,PM1,PM2,PM3])
   refine tkn 16 ⟨some 22,.move (.tmp 0),3, "move.go:23", #[⟨13,.guard⟩],some (13,true)⟩ ?_
   (try simp only [Act.put,PM1,PM2,PM3])
   refine tkn 17 ⟨some 23,.indexAddr 27 (.tmp 21) (.tmp 22),0, "move.go:23", #[⟨15,.data⟩,⟨16,.data⟩,⟨13,.guard⟩],some (13,true)⟩ ?_
   (try simp only [Act.put,PM1,PM2,PM3])
   refine tkn 18 ⟨some 24,.load 4 (.tmp 23),4, "move.go:23", #[⟨17,.data⟩,⟨13,.guard⟩],some (13,true)⟩ ?_
   (try simp only [Act.put,PM1,PM2,PM3])
   refine tky 19 ⟨some 25,.pick (.tmp 19) (.tmp 24) (.const (Go.Value.bool false)),4, "move.go:23", #[⟨13,.data⟩,⟨18,.data⟩,⟨7,.guard⟩],some (7,true)⟩ (v:=?_) ?_ ?_
   rotate_left 1
   ·intro w hSw;(try dsimp only at hSw);go_simp;all_goals with_reducible rfl
   (try simp only [Act.put,PM1,PM2,PM3])
   refine tky 20 ⟨some 26,.unOp Go.UnOp.not 4 (.tmp 25),4, "move.go:23", #[⟨19,.data⟩,⟨7,.guard⟩],some (7,true)⟩ (v:=?_) ?_ ?_
   rotate_left 1
   ·intro w hSw;(try dsimp only at hSw);go_simp;all_goals with_reducible rfl
   (try simp only [Act.put,PM1,PM2,PM3])
   refine tky 21 ⟨some 27,.pick (.tmp 13) (.tmp 26) (.const (Go.Value.bool false)),4, "move.go:23", #[⟨7,.data⟩,⟨20,.data⟩],none⟩ (v:=?_) ?_ ?_
   rotate_left 1
   ·intro w hSw;(try dsimp only at hSw);go_simp;all_goals with_reducible rfl
   (try simp only [Act.put,PM1,PM2,PM3])
   refine tky 22 ⟨some 5,.assign (.tmp 27),4, "move.go:23", #[⟨21,.data⟩,⟨13,.chain⟩,⟨0,.phase⟩,⟨1,.phase⟩,⟨2,.phase⟩,⟨3,.phase⟩,⟨4,.phase⟩,⟨5,.phase⟩,⟨6,.phase⟩,⟨7,.phase⟩,⟨8,.phase⟩,⟨9,.phase⟩,⟨10,.phase⟩,⟨11,.phase⟩,⟨12,.phase⟩,⟨13,.phase⟩,⟨14,.phase⟩,⟨15,.phase⟩,⟨16,.phase⟩,⟨17,.phase⟩,⟨18,.phase⟩,⟨19,.phase⟩,⟨20,.phase⟩,⟨21,.phase⟩],none⟩ (v:=?_) ?_ ?_
   rotate_left 1
   ·intro w hSw;(try dsimp only at hSw);go_simp;all_goals with_reducible rfl
   (try simp only [Act.put,PM1,PM2,PM3])
   refine wpAnyH_done (by as_aux_lemma=>kernel_rfl) ?_ _
   go_wp2
   go_ret
   exact ⟨ret_bool (by rw [HBI.out,HRC.out];rfl),hB2⟩
  ·go_enter Tryz.func15,Tryz.ntmps15
   go_upto_region 1 with fail
   go_region_held3 (fun u=>u.cell? ⟨P,0,none⟩=some (.int .i64 r)∧u.cell? ⟨P,1,none⟩=some (.slice (some ⟨b,off,none⟩) ns.length cap)∧u.cell? ⟨T,0,none⟩=some (.int .i64 t.op)∧u.cell? ⟨T,1,none⟩=some (.int .i64 t.a)∧u.cell? ⟨T,2,none⟩=some (.int .i64 t.b)∧u.cell? ⟨b,off+i*6,none⟩=some (.int .i64 x.op)∧u.cell? ⟨b,off+i*6+1,none⟩=some (.int .i64 x.d)∧u.cell? ⟨b,off+i*6+2,none⟩=some (.int .i64 x.a)∧u.cell? ⟨b,off+i*6+3,none⟩=some (.int .i64 x.b)∧u.cell? ⟨b,off+i*6+4,none⟩=some (.int .i64 x.t)∧u.cell? ⟨b,off+i*6+5,none⟩=some (.int .i64 x.e)∧u.cell? ⟨D,4,none⟩=some (.slice (some ⟨b3,o3,none⟩) ns.length dc)∧u.cell? ⟨D,5,none⟩=some (.slice (some ⟨b4,o4,none⟩) ns.length ec)∧u.cell? ⟨b3,o3+i,none⟩=some (.bool true)∧u.cell? ⟨b4,o4+i,none⟩=some (.bool Q)) (first
    | (with_reducible refine HS.out _ ?_;first | with_reducible exact hB2 | with_reducible exact (Below.refl _ w).drew | with_reducible exact (Below.refl _ w))) (first
    | (go_at_call 16;refine (sreckons_any x t _ HT.out).mono ?_;rintro e wa ⟨rfl,hba⟩;have hB2:Below w.heap.size w wa:=(by first | exact (Below.refl _ w).drew.trans hba | exact hba);rw [HRC.out]))
   go_wp2
   go_ret
   exact ⟨ret_bool (by rw [HBI.out,HRC.out];rfl),hB2⟩
theorem cells_setP {w:World} {b k:Nat} (h:k≠b) (o:Nat) (v:Value):(w.setCell ⟨b,o,none⟩ v).heap[k]?=w.heap[k]? :=Below.heap_setCell _ _ _ _ h
set_option maxRecDepth 100000 in
theorem places_any (R1 R2:Nat→Bool) (g1 g2:Nat) (cb1 cb2:Array Value) (r:Int) (pa:Option Addr) (n cap:Nat) (w:World) (hn:n≤256)
 (eg1:∀ args w,(callFunc g1 args).run Tryz.prog w=.ok (.enter g1 args) w) (eg2:∀ args w,(callFunc g2 args).run Tryz.prog w=.ok (.enter g2 args) w)
 (hg1:∀ i,i<n→∀ W:World,Below w.heap.size w W→Calls Tryz.prog g1 (#[.int .i64 (i:Int)]++cb1) W fun e w' =>e=.returned (.bool (R1 i))∧Below W.heap.size W w')
 (hg2:∀ i,i<n→∀ W:World,Below w.heap.size w W→Calls Tryz.prog g2 (#[.int .i64 (i:Int)]++cb2) W fun e w' =>e=.returned (.bool (R2 i))∧Below W.heap.size W w') :
 Calls Tryz.prog 17 #[.agg #[.int .i64 r,.slice pa n cap],.func (.func g1) #[] cb1,.func (.func g2) #[] cb2] w fun e w' =>∃ a1 c1 a2 c2,e=.returned (.agg #[.slice a1 n c1,.slice a2 n c2])∧w'.ownsRow w.heap.size 4 1 (.slice a1 n c1) n (((List.range n).map R1).map Value.bool)∧w'.ownsRow w.heap.size 4 1 (.slice a2 n c2) n (((List.range n).map R2).map Value.bool)∧Below w.heap.size w w' :=by
 have HE1:=hide (fun W (h:Below w.heap.size w W)=>askEach_any R1 g1 cb1 n W hn eg1 (fun i hi V hV=>hg1 i hi V (h.trans (hV.mono h.size))))
 have HE2:=hide (fun W (h:Below w.heap.size w W)=>askEach_any R2 g2 cb2 n W hn eg2 (fun i hi V hV=>hg2 i hi V (h.trans (hV.mono h.size))))
 clear hg1 hg2 eg1 eg2
 have hbA:Below w.heap.size w ((w.alloc (.cells #[.int .i64 r,.slice pa n cap] 24)).alloc (.cells #[.slice none 0 0,.slice none 0 0] 29)):=((Below.refl _ w).alloc (Nat.le_refl _) _).alloc (by simp) _
 have hp:((w.alloc (.cells #[.int .i64 r,.slice pa n cap] 24)).alloc (.cells #[.slice none 0 0,.slice none 0 0] 29)).heap[w.heap.size]?=some (.cells #[.int .i64 r,.slice pa n cap] 24 (0,0)):=(Below.heap_alloc _ _ _ (by simp)).trans (World.alloc_heap_new w _)
 have hq:((w.alloc (.cells #[.int .i64 r,.slice pa n cap] 24)).alloc (.cells #[.slice none 0 0,.slice none 0 0] 29)).heap[w.heap.size+1]?=some (.cells #[.slice none 0 0,.slice none 0 0] 29 (0,0)):=by
  have:=World.alloc_heap_new (w.alloc (.cells #[.int .i64 r,.slice pa n cap] 24)) (.cells #[.slice none 0 0,.slice none 0 0] 29)
  rwa [World.size_alloc] at this
 go_enter Tryz.func17,Tryz.ntmps17
 go_upto_region 1 with fail
 generalize ((w.alloc (.cells #[.int .i64 r,.slice pa n cap] 24)).alloc (.cells #[.slice none 0 0,.slice none 0 0] 29))=W at hbA hp hq ⊢
 have HH:Hid (∀ u:World,Below W.heap.size W u→u.heap[w.heap.size]?=some (.cells #[.int .i64 r,.slice pa n cap] 24 (0,0))∧u.heap[w.heap.size+1]?=some (.cells #[.slice none 0 0,.slice none 0 0] 29 (0,0))):=fun u h=>⟨(h.block _ (blk_lt hp)).trans hp,(h.block _ (blk_lt hq)).trans hq⟩
 have HS:Hid (∀ u:World,Below W.heap.size W u→u.cell? ⟨w.heap.size,0,none⟩=some (.int .i64 r)∧u.cell? ⟨w.heap.size,1,none⟩=some (.slice pa n cap)):=fun u h=>by
  obtain ⟨k1,_⟩:=HH.out u h
  refine ⟨?_,?_⟩
  ·rw [blk_cell k1];rfl
  ·rw [blk_cell k1];rfl
 have HW:=hide hbA
 clear hp hq hbA
 have XF:Hid (∀ u:World,Below W.heap.size W u→∀ k,k<2→u.cell? ⟨w.heap.size+1,k,none⟩=#[.slice none 0 0,.slice none 0 0][k]?∧u.frozen? ⟨w.heap.size+1,k,none⟩=false):=fun u h k _=>⟨blk_cell (HH.out u h).2 k,blk_frozen (HH.out u h).2 k⟩
 have HSet:Hid (∀ (u:World) (v0 v1:Value),(u.cell? ⟨w.heap.size,0,none⟩=some (.int .i64 r)∧u.cell? ⟨w.heap.size,1,none⟩=some (.slice pa n cap))→((u.setCell ⟨w.heap.size+1,0,none⟩ v0).setCell ⟨w.heap.size+1,1,none⟩ v1).cell? ⟨w.heap.size,0,none⟩=some (.int .i64 r)∧((u.setCell ⟨w.heap.size+1,0,none⟩ v0).setCell ⟨w.heap.size+1,1,none⟩ v1).cell? ⟨w.heap.size,1,none⟩=some (.slice pa n cap)):=fun u v0 v1 h=>by
  have e:∀ (B k:Nat),B≠w.heap.size+1→((u.setCell ⟨w.heap.size+1,0,none⟩ v0).setCell ⟨w.heap.size+1,1,none⟩ v1).cell? ⟨B,k,none⟩=u.cell? ⟨B,k,none⟩:=fun B k h=>World.cell?_of_block (by
   show ((u.setCell ⟨w.heap.size+1,0,none⟩ v0).setCell ⟨w.heap.size+1,1,none⟩ v1).heap[B]?=u.heap[B]?
   simp only [cells_setP h])
  simp only [e w.heap.size _ (by omega)]
  exact h
 go_region_held3 (fun u=>u.cell? ⟨w.heap.size,0,none⟩=some (.int .i64 r)∧u.cell? ⟨w.heap.size,1,none⟩=some (.slice pa n cap)) (first
  | (with_reducible refine HSet.out _ _ _ ?_;exact HS.out _ hB2)
  | (with_reducible refine HS.out _ ?_;first | with_reducible exact hB2 | with_reducible exact hB1 | with_reducible exact (Below.refl _ W).drew | with_reducible exact (Below.refl _ W))) (first
  | (go_at_call 45;have hB1' :=hB1;refine (HE2.out _ (HW.out.trans (hB1.mono HW.out.size))).mono ?_;rintro e wb ⟨y2,rfl,hV2,hbb⟩;obtain ⟨a2,c2,rfl⟩:=owns_slice hV2;have hB2:Below W.heap.size W wb:=hB1.trans (hbb.mono hB1.size);have x0:=XF.out _ hB2 0 (by decide);have x1:=XF.out _ hB2 1 (by decide);simp at x0 x1;have xl:=blk_lt (HH.out _ hB2).2;obtain ⟨x00,x01⟩:=x0;obtain ⟨x10,x11⟩:=x1)
  | (go_at_call 45;refine (HE1.out _ (by first | exact HW.out.trans ((Below.refl _ W).drew.mono HW.out.size) | exact HW.out)).mono ?_;rintro e wa ⟨y1,rfl,hV1,hba⟩;obtain ⟨a1,c1,rfl⟩:=owns_slice hV1;have hB1:Below W.heap.size W wa:=(by first | exact (Below.refl _ W).drew.trans hba | exact hba)))
 all_goals have hs1:=hB1.size
 all_goals have hsW:=HW.out.size
 all_goals have HV1:=hide (ownsRow_base (ownsRow_below hV1 hbb (Nat.le_refl _)) (base' :=w.heap.size) (by (try simp);omega))
 all_goals have HV2:=hide (ownsRow_base hV2 (base' :=w.heap.size) (by (try simp);omega))
 all_goals have k0:=blk_set (i:=0) (.slice a1 n c1) (HH.out _ hB2).2
 all_goals have k1:=blk_set (i:=1) (.slice a2 n c2) k0
 all_goals have T1:=owns_set (o:=1) (u:=.slice a2 n c2) (owns_set (o:=0) (u:=.slice a1 n c1) HV1.out (HH.out _ hB2).2 (by decide)) k0 (by decide)
 all_goals have T2:=owns_set (o:=1) (u:=.slice a2 n c2) (owns_set (o:=0) (u:=.slice a1 n c1) HV2.out (HH.out _ hB2).2 (by decide)) k0 (by decide)
 all_goals have hBf:=((HW.out.trans (hB2.mono HW.out.size)).setCell (p:=⟨w.heap.size+1,0,none⟩) (by simp) (.slice a1 n c1)).setCell (p:=⟨w.heap.size+1,1,none⟩) (by simp) (.slice a2 n c2)
 all_goals clear hB1' k0 hV1 hV2 x00 x01 x10 x11 hs1 hsW
 all_goals simp only [List.setIfInBounds_toArray,List.set_cons_zero,List.set_cons_succ] at k1
 all_goals go_wp2_with fail
 all_goals generalize ((wb.setCell ⟨w.heap.size+1,0,none⟩ (.slice a1 n c1)).setCell ⟨w.heap.size+1,1,none⟩ (.slice a2 n c2))=Wf at k1 T1 T2 hBf ⊢
 all_goals have y0:=blk_cell k1 0
 all_goals have y1:=blk_cell k1 1
 all_goals simp at y0 y1
 all_goals exact bodyPost_ret (v:=(.agg #[.slice a1 n c1,.slice a2 n c2])) (by simp [results,Tryz.results17,go_sem,y0,y1]) rfl ⟨a1,c1,a2,c2,rfl,T1,T2,hBf⟩
theorem bothl_eq (ns:List Nd) (t:Tm):((List.range ns.length).map fun n=>bat (kpl ns t) n&&bat (rcl ns t) n)=bothl ns t:=by
 refine bat_ext (by simp [bothl]) fun n hn=>?_
 have hn' :n<ns.length:=by simpa using hn
 obtain ⟨x,hx⟩:=get_lt hn'
 rw [bat_map _ hn', kpl,rcl,bothl,bat_mapn hx,bat_mapn hx,bat_mapn hx]
theorem up1_any (m B k:Nat) (rk kp:List Bool) (ka pa:Option Addr) (kc pc:Nat) (w:World) (h4:w.cell? ⟨B,4,none⟩=some (.slice ka k kc)) (h5:w.cell? ⟨B,5,none⟩=some (.slice pa k pc)) (hB:B<w.heap.size) (hk:BoolsAt w ka rk) (hp:BoolsAt w pa kp) (e1:rk.length=k) (e2:kp.length=k) (hm:m<k) :
 Calls Tryz.prog 74 #[.int .i64 m,.pointer (some ⟨B,0,none⟩)] w fun e w' =>e=.returned (.bool (bat kp m&&bat rk m))∧w' =w:=by
 obtain ⟨b3,o3,rfl,l3,v3⟩:=bools_cell hk (k:=m) (by omega)
 obtain ⟨b4,o4,rfl,l4,v4⟩:=bools_cell hp (k:=m) (by omega)
 have hmi:(m:Int)<(k:Int):=by omega
 generalize bat rk m=R at v3 ⊢
 generalize bat kp m=K at v4 ⊢
 clear hk hp e1 e2
 cases K
 ·go_enter Tryz.func74,Tryz.ntmps74
  go_wp2
  go_ret
  exact ⟨rfl,rfl⟩
 ·go_enter Tryz.func74,Tryz.ntmps74
  go_wp2
  go_ret
  exact ⟨ret_bool (by simp),rfl⟩
set_option maxRecDepth 100000 in
theorem up_any (r:Int) (b off cap:Nat) (ns:List Nd) (t:Tm) (rb1 rb2:Nat) (ka pa:Option Addr) (kc pc:Nat) (w:World) (hN:NodesAt w b off ns) (hc:chk r ns=0) (hM:SM w ns t rb1 rb2 ka pa) :
 Calls Tryz.prog 39 #[.agg #[.int .i64 r,.slice (some ⟨b,off,none⟩) ns.length cap,.slice (some ⟨rb1,0,none⟩) ns.length ns.length,.slice (some ⟨rb2,0,none⟩) ns.length ns.length,.slice ka ns.length kc,.slice pa ns.length pc]] w fun e w' =>∃ v,e=.returned v∧w'.ownsRow w.heap.size 4 1 v ns.length ((upL ns t).map Value.bool)∧Below w.heap.size w w' :=by
 have eg:∀ args w,(callFunc 74 args).run Tryz.prog w=.ok (.enter 74 args) w:=enters_of Tryz.func74 (by kernel_rfl) rfl
 have hl:=(chk_zero hc).1
 have hfc:fchk r ns (upW ns t)=0:=fchk_of hc (nol_len _) (yesl_len _) (bothl_len ns t) (kpl_len ns t)
 have hbA:Below w.heap.size w (w.alloc (.cells #[.int .i64 r,.slice (some ⟨b,off,none⟩) ns.length cap,.slice (some ⟨rb1,0,none⟩) ns.length ns.length,.slice (some ⟨rb2,0,none⟩) ns.length ns.length,.slice ka ns.length kc,.slice pa ns.length pc] 68)):=(Below.refl _ w).alloc (Nat.le_refl _) _
 have hs:(w.alloc (.cells #[.int .i64 r,.slice (some ⟨b,off,none⟩) ns.length cap,.slice (some ⟨rb1,0,none⟩) ns.length ns.length,.slice (some ⟨rb2,0,none⟩) ns.length ns.length,.slice ka ns.length kc,.slice pa ns.length pc] 68)).heap[w.heap.size]?=some (.cells #[.int .i64 r,.slice (some ⟨b,off,none⟩) ns.length cap,.slice (some ⟨rb1,0,none⟩) ns.length ns.length,.slice (some ⟨rb2,0,none⟩) ns.length ns.length,.slice ka ns.length kc,.slice pa ns.length pc] 68 (0,0)):=World.alloc_heap_new w _
 go_enter Tryz.func39,Tryz.ntmps39
 go_upto_region 1 with fail
 generalize (w.alloc (.cells #[.int .i64 r,.slice (some ⟨b,off,none⟩) ns.length cap,.slice (some ⟨rb1,0,none⟩) ns.length ns.length,.slice (some ⟨rb2,0,none⟩) ns.length ns.length,.slice ka ns.length kc,.slice pa ns.length pc] 68))=W at hbA hs ⊢
 have hea:=each_any (fun n=>bat (kpl ns t) n&&bat (rcl ns t) n) 74 #[.pointer (some ⟨w.heap.size,0,none⟩)] r (some ⟨b,off,none⟩) ns.length cap (.slice (some ⟨rb1,0,none⟩) ns.length ns.length) (.slice (some ⟨rb2,0,none⟩) ns.length ns.length) (.slice ka ns.length kc) (.slice pa ns.length pc) W hl.2 eg (fun i hi U hU=>by
  have hs1:=(hU.block _ (blk_lt hs)).trans hs
  have hm:=hM.below (hbA.trans (hU.mono hbA.size))
  refine (up1_any i w.heap.size ns.length (rcl ns t) (kpl ns t) ka pa kc pc U (by rw [blk_cell hs1];rfl) (by rw [blk_cell hs1];rfl) (blk_lt hs1) hm.rk hm.kp (rcl_len ns t) (kpl_len ns t) hi).mono ?_
  rintro e w' ⟨rfl,rfl⟩
  exact ⟨rfl,Below.refl _ _⟩)
 rw [bothl_eq] at hea
 have HS:Hid (∀ u:World,Below W.heap.size W u→u.cell? ⟨w.heap.size,0,none⟩=some (.int .i64 r)∧u.cell? ⟨w.heap.size,1,none⟩=some (.slice (some ⟨b,off,none⟩) ns.length cap)∧u.cell? ⟨w.heap.size,2,none⟩=some (.slice (some ⟨rb1,0,none⟩) ns.length ns.length)∧u.cell? ⟨w.heap.size,3,none⟩=some (.slice (some ⟨rb2,0,none⟩) ns.length ns.length)∧u.cell? ⟨w.heap.size,4,none⟩=some (.slice ka ns.length kc)∧u.cell? ⟨w.heap.size,5,none⟩=some (.slice pa ns.length pc)):=fun u h=>by
  have k1:=(h.block _ (blk_lt hs)).trans hs
  refine ⟨?_,?_,?_,?_,?_,?_⟩
  ·rw [blk_cell k1];rfl
  ·rw [blk_cell k1];rfl
  ·rw [blk_cell k1];rfl
  ·rw [blk_cell k1];rfl
  ·rw [blk_cell k1];rfl
  ·rw [blk_cell k1];rfl
 have HSV:Hid (∀ (u:World),Below W.heap.size W u→∀ (na ya ba:Option Addr) (nc yc bc:Nat),BoolsAt u na (nol ns.length)→BoolsAt u ya (yesl ns.length)→BoolsAt u ba (bothl ns t)→Calls Tryz.prog 71 #[.agg #[.int .i64 r,.slice (some ⟨b,off,none⟩) ns.length cap,.slice (some ⟨rb1,0,none⟩) ns.length ns.length,.slice (some ⟨rb2,0,none⟩) ns.length ns.length,.slice ka ns.length kc,.slice pa ns.length pc],.agg #[.bool false,.bool false,.slice na ns.length nc,.slice ya ns.length yc,.slice ba ns.length bc,.slice pa ns.length pc]] u fun e w' =>∃ v,e=.returned v∧w'.ownsRow u.heap.size 4 1 v ns.length ((upL ns t).map Value.bool)∧Below u.heap.size u w'):=fun u h na ya ba nc yc bc h1 h2 h3=>by
  have hu:=hbA.trans (h.mono hbA.size)
  have hm:=hM.below hu
  exact ssolveL_any r b off cap ns (upW ns t) na ya ba pa nc yc bc pc _ _ _ _ u (hN.below hu hN.lt) hfc h1 h2 h3 hm.kp
 have HW:=hide hbA
 have HEA:=hide hea
 have sl:=blk_lt hs
 obtain ⟨s0,s1,s2,s3,s4,s5⟩:=HS.out _ (Below.refl _ W)
 clear hs hbA hM hN hc hfc hea
 go_upto_region 2 with (go_at_call 68;refine HEA.out.mono ?_;rintro e we ⟨ve,rfl,hve,hbe⟩;obtain ⟨ba,bc,rfl⟩:=owns_slice hve)
 clear s0 s1 s2 s3 s4 s5 HEA
 go_region_held3 (fun u=>u.cell? ⟨w.heap.size,0,none⟩=some (.int .i64 r)∧u.cell? ⟨w.heap.size,1,none⟩=some (.slice (some ⟨b,off,none⟩) ns.length cap)∧u.cell? ⟨w.heap.size,2,none⟩=some (.slice (some ⟨rb1,0,none⟩) ns.length ns.length)∧u.cell? ⟨w.heap.size,3,none⟩=some (.slice (some ⟨rb2,0,none⟩) ns.length ns.length)∧u.cell? ⟨w.heap.size,4,none⟩=some (.slice ka ns.length kc)∧u.cell? ⟨w.heap.size,5,none⟩=some (.slice pa ns.length pc)) (first
  | (with_reducible refine HS.out _ ?_;first | with_reducible exact hB3 | with_reducible exact hB2 | with_reducible exact hB1 | with_reducible exact hbe.drew | with_reducible exact hbe)) (first
  | (go_at_call 72;refine (none_any r _ ns.length cap _ _ _ _ _ hl.2).mono ?_;rintro e wa ⟨va,rfl,hva,hba⟩;obtain ⟨na,nc,rfl⟩:=owns_slice hva;have hE1:Below we.heap.size we wa:=(by first | exact (Below.refl _ we).drew.trans hba | exact hba);have hB1:Below W.heap.size W wa:=hbe.trans (hE1.mono hbe.size))
  | (go_at_call 73;refine (all_any r _ ns.length cap _ _ _ _ _ hl.2).mono ?_;rintro e wb ⟨vb,rfl,hvb,hbb⟩;obtain ⟨ya,yc,rfl⟩:=owns_slice hvb;have hB2:Below W.heap.size W wb:=hB1.trans (hbb.mono hB1.size))
  | (go_at_call 71;refine (HSV.out _ hB2 na ya ba nc yc bc (bools_owned (ownsRow_below hva hbb (Nat.le_refl _)) (nol_len _)) (bools_owned hvb (yesl_len _)) (bools_owned (ownsRow_below (ownsRow_below hve hE1 (Nat.le_refl _)) hbb (Nat.le_refl _)) (bothl_len ns t))).mono ?_;rintro e wd ⟨vd,rfl,hvd,hbd⟩;have hB3:Below W.heap.size W wd:=hB2.trans (hbd.mono hB2.size)))
 have HVD:=hide hvd
 have HB3:=hide hB3
 have hle:w.heap.size≤wb.heap.size:=Nat.le_trans HW.out.size hB2.size
 clear hvd hva hvb hve hba hbb hbd hbe hE1 hB1 hB2 hB3
 go_wp2
 go_ret
 exact ⟨_,rfl,ownsRow_base HVD.out hle,HW.out.trans (HB3.out.mono HW.out.size)⟩
set_option maxRecDepth 100000 in
theorem delay_any (r:Int) (b off cap:Nat) (ns:List Nd) (t:Tm) (rb1 rb2:Nat) (ka pa ga:Option Addr) (kc pc gc:Nat) (g0 g1 g3 g4 g5:Value) (w:World) (hN:NodesAt w b off ns) (hc:chk r ns=0) (hM:SM w ns t rb1 rb2 ka pa) (hG:BoolsAt w ga (earlyL ns t)) :
 Calls Tryz.prog 41 #[.agg #[.int .i64 r,.slice (some ⟨b,off,none⟩) ns.length cap,.slice (some ⟨rb1,0,none⟩) ns.length ns.length,.slice (some ⟨rb2,0,none⟩) ns.length ns.length,.slice ka ns.length kc,.slice pa ns.length pc],.agg #[g0,g1,.slice ga ns.length gc,g3,g4,g5]] w fun e w' =>∃ v,e=.returned v∧w'.ownsRow w.heap.size 4 1 v ns.length ((delayL ns t).map Value.bool)∧Below w.heap.size w w' :=by
 have hl:=(chk_zero hc).1
 have hfc:fchk r ns (delayW ns t)=0:=fchk_of hc (by simp [earlyL,delayW]) (yesl_len _) (nol_len _) (nrcl_len ns t)
 have hbA:Below w.heap.size w ((w.alloc (.cells #[.int .i64 r,.slice (some ⟨b,off,none⟩) ns.length cap,.slice (some ⟨rb1,0,none⟩) ns.length ns.length,.slice (some ⟨rb2,0,none⟩) ns.length ns.length,.slice ka ns.length kc,.slice pa ns.length pc] 68)).alloc (.cells #[g0,g1,.slice ga ns.length gc,g3,g4,g5] 41)):=((Below.refl _ w).alloc (Nat.le_refl _) _).alloc (by simp) _
 have hs:((w.alloc (.cells #[.int .i64 r,.slice (some ⟨b,off,none⟩) ns.length cap,.slice (some ⟨rb1,0,none⟩) ns.length ns.length,.slice (some ⟨rb2,0,none⟩) ns.length ns.length,.slice ka ns.length kc,.slice pa ns.length pc] 68)).alloc (.cells #[g0,g1,.slice ga ns.length gc,g3,g4,g5] 41)).heap[w.heap.size]?=some (.cells #[.int .i64 r,.slice (some ⟨b,off,none⟩) ns.length cap,.slice (some ⟨rb1,0,none⟩) ns.length ns.length,.slice (some ⟨rb2,0,none⟩) ns.length ns.length,.slice ka ns.length kc,.slice pa ns.length pc] 68 (0,0)):=(Below.heap_alloc _ _ _ (by simp)).trans (World.alloc_heap_new w _)
 have hf:((w.alloc (.cells #[.int .i64 r,.slice (some ⟨b,off,none⟩) ns.length cap,.slice (some ⟨rb1,0,none⟩) ns.length ns.length,.slice (some ⟨rb2,0,none⟩) ns.length ns.length,.slice ka ns.length kc,.slice pa ns.length pc] 68)).alloc (.cells #[g0,g1,.slice ga ns.length gc,g3,g4,g5] 41)).heap[w.heap.size+1]?=some (.cells #[g0,g1,.slice ga ns.length gc,g3,g4,g5] 41 (0,0)):=by
  have:=World.alloc_heap_new (w.alloc (.cells #[.int .i64 r,.slice (some ⟨b,off,none⟩) ns.length cap,.slice (some ⟨rb1,0,none⟩) ns.length ns.length,.slice (some ⟨rb2,0,none⟩) ns.length ns.length,.slice ka ns.length kc,.slice pa ns.length pc] 68)) (.cells #[g0,g1,.slice ga ns.length gc,g3,g4,g5] 41)
  rwa [World.size_alloc] at this
 go_enter Tryz.func41,Tryz.ntmps41
 go_upto_region 1 with fail
 generalize ((w.alloc (.cells #[.int .i64 r,.slice (some ⟨b,off,none⟩) ns.length cap,.slice (some ⟨rb1,0,none⟩) ns.length ns.length,.slice (some ⟨rb2,0,none⟩) ns.length ns.length,.slice ka ns.length kc,.slice pa ns.length pc] 68)).alloc (.cells #[g0,g1,.slice ga ns.length gc,g3,g4,g5] 41))=W at hbA hs hf ⊢
 have HS:Hid (∀ u:World,Below W.heap.size W u→u.cell? ⟨w.heap.size,0,none⟩=some (.int .i64 r)∧u.cell? ⟨w.heap.size,1,none⟩=some (.slice (some ⟨b,off,none⟩) ns.length cap)∧u.cell? ⟨w.heap.size,2,none⟩=some (.slice (some ⟨rb1,0,none⟩) ns.length ns.length)∧u.cell? ⟨w.heap.size,3,none⟩=some (.slice (some ⟨rb2,0,none⟩) ns.length ns.length)∧u.cell? ⟨w.heap.size,4,none⟩=some (.slice ka ns.length kc)∧u.cell? ⟨w.heap.size,5,none⟩=some (.slice pa ns.length pc)∧u.cell? ⟨w.heap.size+1,2,none⟩=some (.slice ga ns.length gc)):=fun u h=>by
  have k1:=(h.block _ (blk_lt hs)).trans hs
  have k2:=(h.block _ (blk_lt hf)).trans hf
  refine ⟨?_,?_,?_,?_,?_,?_,?_⟩
  ·rw [blk_cell k1];rfl
  ·rw [blk_cell k1];rfl
  ·rw [blk_cell k1];rfl
  ·rw [blk_cell k1];rfl
  ·rw [blk_cell k1];rfl
  ·rw [blk_cell k1];rfl
  ·rw [blk_cell k2];rfl
 have HSV:Hid (∀ (u:World),Below W.heap.size W u→∀ (na ya qa:Option Addr) (nc yc qc:Nat),BoolsAt u na (nol ns.length)→BoolsAt u ya (yesl ns.length)→BoolsAt u qa (nrcl ns t)→Calls Tryz.prog 71 #[.agg #[.int .i64 r,.slice (some ⟨b,off,none⟩) ns.length cap,.slice (some ⟨rb1,0,none⟩) ns.length ns.length,.slice (some ⟨rb2,0,none⟩) ns.length ns.length,.slice ka ns.length kc,.slice pa ns.length pc],.agg #[.bool false,.bool false,.slice ga ns.length gc,.slice ya ns.length yc,.slice na ns.length nc,.slice qa ns.length qc]] u fun e w' =>∃ v,e=.returned v∧w'.ownsRow u.heap.size 4 1 v ns.length ((delayL ns t).map Value.bool)∧Below u.heap.size u w'):=fun u h na ya qa nc yc qc h1 h2 h3=>by
  have hu:=hbA.trans (h.mono hbA.size)
  exact ssolveL_any r b off cap ns (delayW ns t) ga ya na qa gc yc nc qc _ _ _ _ u (hN.below hu hN.lt) hfc (hG.below hu) h2 h1 h3
 have HNR:Hid (∀ (u:World),Below W.heap.size W u→Calls Tryz.prog 77 #[.agg #[.int .i64 r,.slice (some ⟨b,off,none⟩) ns.length cap,.slice (some ⟨rb1,0,none⟩) ns.length ns.length,.slice (some ⟨rb2,0,none⟩) ns.length ns.length,.slice ka ns.length kc,.slice pa ns.length pc]] u fun e w' =>∃ v,e=.returned v∧w'.ownsRow u.heap.size 4 1 v ns.length ((nrcl ns t).map Value.bool)∧Below u.heap.size u w'):=fun u h=>by
  have hm:=hM.below (hbA.trans (h.mono hbA.size))
  have:=notReckoning_any r b off cap ns (rcl ns t) ka kc (.slice (some ⟨rb1,0,none⟩) ns.length ns.length) (.slice (some ⟨rb2,0,none⟩) ns.length ns.length) (.slice pa ns.length pc) u hm.rk (rcl_len ns t) hl.2
  rw [nrcl_eq] at this
  exact this
 have HW:=hide hbA
 have sl:=blk_lt hs
 have fl:=blk_lt hf
 clear hs hf hbA hM hN hc hfc hG
 go_region_held3 (fun u=>u.cell? ⟨w.heap.size,0,none⟩=some (.int .i64 r)∧u.cell? ⟨w.heap.size,1,none⟩=some (.slice (some ⟨b,off,none⟩) ns.length cap)∧u.cell? ⟨w.heap.size,2,none⟩=some (.slice (some ⟨rb1,0,none⟩) ns.length ns.length)∧u.cell? ⟨w.heap.size,3,none⟩=some (.slice (some ⟨rb2,0,none⟩) ns.length ns.length)∧u.cell? ⟨w.heap.size,4,none⟩=some (.slice ka ns.length kc)∧u.cell? ⟨w.heap.size,5,none⟩=some (.slice pa ns.length pc)∧u.cell? ⟨w.heap.size+1,2,none⟩=some (.slice ga ns.length gc)) (first
  | (with_reducible refine HS.out _ ?_;first | with_reducible exact hB4 | with_reducible exact hB3 | with_reducible exact hB2 | with_reducible exact hB1 | with_reducible exact (Below.refl _ W).drew | with_reducible exact (Below.refl _ W))) (first
  | (go_at_call 73;refine (all_any r _ ns.length cap _ _ _ _ _ hl.2).mono ?_;rintro e w1 ⟨v1,rfl,hv1,hb1⟩;obtain ⟨ya,yc,rfl⟩:=owns_slice hv1;have hB1:Below W.heap.size W w1:=(by first | exact (Below.refl _ W).drew.trans hb1 | exact hb1))
  | (go_at_call 72;refine (none_any r _ ns.length cap _ _ _ _ _ hl.2).mono ?_;rintro e w2 ⟨v2,rfl,hv2,hb2⟩;obtain ⟨na,nc,rfl⟩:=owns_slice hv2;have hB2:Below W.heap.size W w2:=hB1.trans (hb2.mono hB1.size))
  | (go_at_call 77;refine (HNR.out _ hB2).mono ?_;rintro e w3 ⟨v3,rfl,hv3,hb3⟩;obtain ⟨qa,qc,rfl⟩:=owns_slice hv3;have hB3:Below W.heap.size W w3:=hB2.trans (hb3.mono hB2.size))
  | (go_at_call 71;refine (HSV.out _ hB3 na ya qa nc yc qc (bools_owned (ownsRow_below hv2 hb3 (Nat.le_refl _)) (nol_len _)) (bools_owned (ownsRow_below (ownsRow_below hv1 hb2 (Nat.le_refl _)) hb3 (Nat.le_refl _)) (yesl_len _)) (bools_owned hv3 (nrcl_len ns t))).mono ?_;rintro e wd ⟨vd,rfl,hvd,hbd⟩;have hB4:Below W.heap.size W wd:=hB3.trans (hbd.mono hB3.size)))
 have HVD:=hide hvd
 have HB4:=hide hB4
 have hle:w.heap.size≤w3.heap.size:=Nat.le_trans HW.out.size hB3.size
 clear hvd hv1 hv2 hv3 hb1 hb2 hb3 hbd hB1 hB2 hB3 hB4
 go_wp2
 go_ret
 exact ⟨_,rfl,ownsRow_base HVD.out hle,HW.out.trans (HB4.out.mono HW.out.size)⟩
set_option maxRecDepth 100000 in
theorem alone_any (r:Int) (b off cap:Nat) (ns:List Nd) (t:Tm) (rb1 rb2:Nat) (ka pa ga:Option Addr) (kc pc gc:Nat) (g0 g1 g2 g3 g5:Value) (w:World) (hN:NodesAt w b off ns) (hc:chk r ns=0) (hM:SM w ns t rb1 rb2 ka pa) (hG:BoolsAt w ga (lateL ns t)) :
 Calls Tryz.prog 43 #[.agg #[.int .i64 r,.slice (some ⟨b,off,none⟩) ns.length cap,.slice (some ⟨rb1,0,none⟩) ns.length ns.length,.slice (some ⟨rb2,0,none⟩) ns.length ns.length,.slice ka ns.length kc,.slice pa ns.length pc],.agg #[g0,g1,g2,g3,.slice ga ns.length gc,g5]] w fun e w' =>∃ v,e=.returned v∧w'.ownsRow w.heap.size 4 1 v ns.length ((aloneL ns t).map Value.bool)∧Below w.heap.size w w' :=by
 have hl:=(chk_zero hc).1
 have hfc:fchk r ns (aloneW ns t)=0:=fchk_of hc (nol_len _) (yesl_len _) (by simp [lateL,aloneW]) (nrcl_len ns t)
 have hbA:Below w.heap.size w ((w.alloc (.cells #[.int .i64 r,.slice (some ⟨b,off,none⟩) ns.length cap,.slice (some ⟨rb1,0,none⟩) ns.length ns.length,.slice (some ⟨rb2,0,none⟩) ns.length ns.length,.slice ka ns.length kc,.slice pa ns.length pc] 68)).alloc (.cells #[g0,g1,g2,g3,.slice ga ns.length gc,g5] 41)):=((Below.refl _ w).alloc (Nat.le_refl _) _).alloc (by simp) _
 have hs:((w.alloc (.cells #[.int .i64 r,.slice (some ⟨b,off,none⟩) ns.length cap,.slice (some ⟨rb1,0,none⟩) ns.length ns.length,.slice (some ⟨rb2,0,none⟩) ns.length ns.length,.slice ka ns.length kc,.slice pa ns.length pc] 68)).alloc (.cells #[g0,g1,g2,g3,.slice ga ns.length gc,g5] 41)).heap[w.heap.size]?=some (.cells #[.int .i64 r,.slice (some ⟨b,off,none⟩) ns.length cap,.slice (some ⟨rb1,0,none⟩) ns.length ns.length,.slice (some ⟨rb2,0,none⟩) ns.length ns.length,.slice ka ns.length kc,.slice pa ns.length pc] 68 (0,0)):=(Below.heap_alloc _ _ _ (by simp)).trans (World.alloc_heap_new w _)
 have hf:((w.alloc (.cells #[.int .i64 r,.slice (some ⟨b,off,none⟩) ns.length cap,.slice (some ⟨rb1,0,none⟩) ns.length ns.length,.slice (some ⟨rb2,0,none⟩) ns.length ns.length,.slice ka ns.length kc,.slice pa ns.length pc] 68)).alloc (.cells #[g0,g1,g2,g3,.slice ga ns.length gc,g5] 41)).heap[w.heap.size+1]?=some (.cells #[g0,g1,g2,g3,.slice ga ns.length gc,g5] 41 (0,0)):=by
  have:=World.alloc_heap_new (w.alloc (.cells #[.int .i64 r,.slice (some ⟨b,off,none⟩) ns.length cap,.slice (some ⟨rb1,0,none⟩) ns.length ns.length,.slice (some ⟨rb2,0,none⟩) ns.length ns.length,.slice ka ns.length kc,.slice pa ns.length pc] 68)) (.cells #[g0,g1,g2,g3,.slice ga ns.length gc,g5] 41)
  rwa [World.size_alloc] at this
 go_enter Tryz.func43,Tryz.ntmps43
 go_upto_region 1 with fail
 generalize ((w.alloc (.cells #[.int .i64 r,.slice (some ⟨b,off,none⟩) ns.length cap,.slice (some ⟨rb1,0,none⟩) ns.length ns.length,.slice (some ⟨rb2,0,none⟩) ns.length ns.length,.slice ka ns.length kc,.slice pa ns.length pc] 68)).alloc (.cells #[g0,g1,g2,g3,.slice ga ns.length gc,g5] 41))=W at hbA hs hf ⊢
 have HS:Hid (∀ u:World,Below W.heap.size W u→u.cell? ⟨w.heap.size,0,none⟩=some (.int .i64 r)∧u.cell? ⟨w.heap.size,1,none⟩=some (.slice (some ⟨b,off,none⟩) ns.length cap)∧u.cell? ⟨w.heap.size,2,none⟩=some (.slice (some ⟨rb1,0,none⟩) ns.length ns.length)∧u.cell? ⟨w.heap.size,3,none⟩=some (.slice (some ⟨rb2,0,none⟩) ns.length ns.length)∧u.cell? ⟨w.heap.size,4,none⟩=some (.slice ka ns.length kc)∧u.cell? ⟨w.heap.size,5,none⟩=some (.slice pa ns.length pc)∧u.cell? ⟨w.heap.size+1,4,none⟩=some (.slice ga ns.length gc)):=fun u h=>by
  have k1:=(h.block _ (blk_lt hs)).trans hs
  have k2:=(h.block _ (blk_lt hf)).trans hf
  refine ⟨?_,?_,?_,?_,?_,?_,?_⟩
  ·rw [blk_cell k1];rfl
  ·rw [blk_cell k1];rfl
  ·rw [blk_cell k1];rfl
  ·rw [blk_cell k1];rfl
  ·rw [blk_cell k1];rfl
  ·rw [blk_cell k1];rfl
  ·rw [blk_cell k2];rfl
 have HSV:Hid (∀ (u:World),Below W.heap.size W u→∀ (na ya qa:Option Addr) (nc yc qc:Nat),BoolsAt u na (nol ns.length)→BoolsAt u ya (yesl ns.length)→BoolsAt u qa (nrcl ns t)→Calls Tryz.prog 71 #[.agg #[.int .i64 r,.slice (some ⟨b,off,none⟩) ns.length cap,.slice (some ⟨rb1,0,none⟩) ns.length ns.length,.slice (some ⟨rb2,0,none⟩) ns.length ns.length,.slice ka ns.length kc,.slice pa ns.length pc],.agg #[.bool true,.bool true,.slice na ns.length nc,.slice ya ns.length yc,.slice ga ns.length gc,.slice qa ns.length qc]] u fun e w' =>∃ v,e=.returned v∧w'.ownsRow u.heap.size 4 1 v ns.length ((aloneL ns t).map Value.bool)∧Below u.heap.size u w'):=fun u h na ya qa nc yc qc h1 h2 h3=>by
  have hu:=hbA.trans (h.mono hbA.size)
  exact ssolveL_any r b off cap ns (aloneW ns t) na ya ga qa nc yc gc qc _ _ _ _ u (hN.below hu hN.lt) hfc h1 h2 (hG.below hu) h3
 have HNR:Hid (∀ (u:World),Below W.heap.size W u→Calls Tryz.prog 77 #[.agg #[.int .i64 r,.slice (some ⟨b,off,none⟩) ns.length cap,.slice (some ⟨rb1,0,none⟩) ns.length ns.length,.slice (some ⟨rb2,0,none⟩) ns.length ns.length,.slice ka ns.length kc,.slice pa ns.length pc]] u fun e w' =>∃ v,e=.returned v∧w'.ownsRow u.heap.size 4 1 v ns.length ((nrcl ns t).map Value.bool)∧Below u.heap.size u w'):=fun u h=>by
  have hm:=hM.below (hbA.trans (h.mono hbA.size))
  have:=notReckoning_any r b off cap ns (rcl ns t) ka kc (.slice (some ⟨rb1,0,none⟩) ns.length ns.length) (.slice (some ⟨rb2,0,none⟩) ns.length ns.length) (.slice pa ns.length pc) u hm.rk (rcl_len ns t) hl.2
  rw [nrcl_eq] at this
  exact this
 have HW:=hide hbA
 have sl:=blk_lt hs
 have fl:=blk_lt hf
 clear hs hf hbA hM hN hc hfc hG
 go_region_held3 (fun u=>u.cell? ⟨w.heap.size,0,none⟩=some (.int .i64 r)∧u.cell? ⟨w.heap.size,1,none⟩=some (.slice (some ⟨b,off,none⟩) ns.length cap)∧u.cell? ⟨w.heap.size,2,none⟩=some (.slice (some ⟨rb1,0,none⟩) ns.length ns.length)∧u.cell? ⟨w.heap.size,3,none⟩=some (.slice (some ⟨rb2,0,none⟩) ns.length ns.length)∧u.cell? ⟨w.heap.size,4,none⟩=some (.slice ka ns.length kc)∧u.cell? ⟨w.heap.size,5,none⟩=some (.slice pa ns.length pc)∧u.cell? ⟨w.heap.size+1,4,none⟩=some (.slice ga ns.length gc)) (first
  | (with_reducible refine HS.out _ ?_;first | with_reducible exact hB4 | with_reducible exact hB3 | with_reducible exact hB2 | with_reducible exact hB1 | with_reducible exact (Below.refl _ W).drew | with_reducible exact (Below.refl _ W))) (first
  | (go_at_call 72;refine (none_any r _ ns.length cap _ _ _ _ _ hl.2).mono ?_;rintro e w1 ⟨v1,rfl,hv1,hb1⟩;obtain ⟨na,nc,rfl⟩:=owns_slice hv1;have hB1:Below W.heap.size W w1:=(by first | exact (Below.refl _ W).drew.trans hb1 | exact hb1))
  | (go_at_call 73;refine (all_any r _ ns.length cap _ _ _ _ _ hl.2).mono ?_;rintro e w2 ⟨v2,rfl,hv2,hb2⟩;obtain ⟨ya,yc,rfl⟩:=owns_slice hv2;have hB2:Below W.heap.size W w2:=hB1.trans (hb2.mono hB1.size))
  | (go_at_call 77;refine (HNR.out _ hB2).mono ?_;rintro e w3 ⟨v3,rfl,hv3,hb3⟩;obtain ⟨qa,qc,rfl⟩:=owns_slice hv3;have hB3:Below W.heap.size W w3:=hB2.trans (hb3.mono hB2.size))
  | (go_at_call 71;refine (HSV.out _ hB3 na ya qa nc yc qc (bools_owned (ownsRow_below (ownsRow_below hv1 hb2 (Nat.le_refl _)) hb3 (Nat.le_refl _)) (nol_len _)) (bools_owned (ownsRow_below hv2 hb3 (Nat.le_refl _)) (yesl_len _)) (bools_owned hv3 (nrcl_len ns t))).mono ?_;rintro e wd ⟨vd,rfl,hvd,hbd⟩;have hB4:Below W.heap.size W wd:=hB3.trans (hbd.mono hB3.size)))
 have HVD:=hide hvd
 have HB4:=hide hB4
 have hle:w.heap.size≤w3.heap.size:=Nat.le_trans HW.out.size hB3.size
 clear hvd hv1 hv2 hv3 hb1 hb2 hb3 hbd hB1 hB2 hB3 hB4
 go_wp2
 go_ret
 exact ⟨_,rfl,ownsRow_base HVD.out hle,HW.out.trans (HB4.out.mono HW.out.size)⟩
set_option maxRecDepth 100000 in
theorem everyIntS_any (R:Int→Bool) (g:Nat) (cb:Array Value) (a:Option Addr) (cap:Nat) (zs:List Int) (w:World) (hz:IntsAt w a zs) (hl:zs.length≤140737488351232)
 (eg:∀ args w,(callFunc g args).run Tryz.prog w=.ok (.enter g args) w)
 (hg:∀ z∈zs,Calls Tryz.prog g (#[.int .i64 z]++cb) w fun e w' =>e=.returned (.bool (R z))∧w' =w) :
 Calls Tryz.prog 65 #[.slice a zs.length cap,.func (.func g) #[] cb] w fun e w' =>e=.returned (.bool (zs.all R))∧w' =w:=by
 go_enter Tryz.func65,Tryz.ntmps65
 have HG:=hide hg
 clear hg
 go_wp2
 go_loopw [9] (fun i wr=>∃ k:Nat,k≤zs.length∧i=.int .i64 k∧Hid ((zs.take k).all R=true)∧wr=w) (fun i _=>zs.length-(intOf i).toNat)
 case atStart=>exact ⟨0,Nat.zero_le _,rfl,rfl,rfl⟩
 case round =>
  obtain ⟨k,hk,rfl,hA,rfl⟩:=hrel
  by_cases hlt:k<zs.length
  ·obtain ⟨z,hz'⟩:=get_lt hlt
   obtain ⟨b,off,rfl,hbl,hc⟩:=hz.at hlt
   have c0:=hc k z hz'
   have HX:Hid (zs[k]?=some z):=hz'
   have hm:z∈zs:=List.mem_of_getElem? hz'
   clear hz' hc
   go_wp2_with fail
   refine (HG.out z hm).mono ?_
   rintro e w1 ⟨rfl,rfl⟩
   cases hR:R z
   ·go_wp2
    go_ret
    exact ⟨ret_bool (all_false_at R HX.out hR).symm,rfl⟩
   ·go_wp2
    go_roundw
    case rel=>exact ⟨k+1,by omega,by go_num,(by show _=_;rw [all_take_succ _ HX.out,hA.out,hR];rfl),trivial⟩
    case measure=>simp [intOf];omega
  ·go_wp2
   go_ret
   refine ⟨ret_bool ?_,rfl⟩
   rw [← hA.out,take_all_len (by omega)]
theorem latest1_any (m B k:Nat) (dl:List Bool) (da:Option Addr) (dc:Nat) (w:World) (h3:w.cell? ⟨B,3,none⟩=some (.slice da k dc)) (hB:B<w.heap.size) (hd:BoolsAt w da dl) (e1:dl.length=k) (hm:m<k) :
 Calls Tryz.prog 78 #[.int .i64 m,.pointer (some ⟨B,0,none⟩)] w fun e w' =>e=.returned (.bool (bat dl m))∧w' =w:=by
 obtain ⟨b3,o3,rfl,l3,v3⟩:=bools_cell hd (k:=m) (by omega)
 have hmi:(m:Int)<(k:Int):=by omega
 generalize bat dl m=P at v3 ⊢
 clear hd e1
 go_enter Tryz.func78,Tryz.ntmps78
 go_wp2
 go_ret
 exact ⟨rfl,rfl⟩
set_option maxRecDepth 100000 in
theorem latest2_any (n FB SB GB k rb1:Nat) (F:Nat→List Nat) (dl rk:List Bool) (da ka:Option Addr) (dc kc:Nat) (w:World) (h3:w.cell? ⟨FB,3,none⟩=some (.slice da k dc)) (s4:w.cell? ⟨SB,4,none⟩=some (.slice ka k kc)) (s2:w.cell? ⟨SB,2,none⟩=some (.slice (some ⟨rb1,0,none⟩) k k)) (hg:w.cell? ⟨GB,0,none⟩=some (.func (.func 78) #[] #[.pointer (some ⟨FB,0,none⟩)]))
 (hF:FB<w.heap.size) (hS:SB<w.heap.size) (hG:GB<w.heap.size) (hd:BoolsAt w da dl) (hk:BoolsAt w ka rk) (hR:RowsR w rb1 k F) (e1:dl.length=k) (e2:rk.length=k) (hn:n<k) (hFl:∀ m,(F m).length≤k) (hFm:∀ m j,j∈F m→j<k) (hk256:k≤256) :
 Calls Tryz.prog 79 #[.int .i64 n,.pointer (some ⟨FB,0,none⟩),.pointer (some ⟨SB,0,none⟩),.pointer (some ⟨GB,0,none⟩)] w fun e w' =>e=.returned (.bool (bat dl n&&(bat rk n||!(F n).all fun m=>bat dl m)))∧Below w.heap.size w w' :=by
 have eg:∀ args w,(callFunc 78 args).run Tryz.prog w=.ok (.enter 78 args) w:=enters_of Tryz.func78 (by kernel_rfl) rfl
 obtain ⟨ra,rc,hrc,hI⟩:=hR.row n hn
 have hrl:=hR.lt
 have hni:(n:Int)<(k:Int):=by omega
 have hev:∀ q,Calls Tryz.prog 65 #[.slice ra (F n).length rc,.func (.func 78) #[] #[.pointer (some ⟨FB,0,none⟩)]] (w.drewN q) fun e w' =>e=.returned (.bool ((F n).all fun m=>bat dl m))∧w' =w.drewN q:=fun q=>by
  have hb:=below_drewN (Below.refl w.heap.size w) q
  have h:=everyIntS_any (fun z=>bat dl z.toNat) 78 #[.pointer (some ⟨FB,0,none⟩)] ra rc (ints (F n)) (w.drewN q) (hI.below hb) (by rw [ints_len];have:=hFl n;omega) eg (fun z hz=>by
   obtain ⟨m,hm,rfl⟩:=List.mem_map.1 hz
   exact latest1_any m FB k dl da dc _ ((hb.cell (p:=⟨FB,3,none⟩) hF).trans h3) (Nat.lt_of_lt_of_le hF hb.size) (hd.below hb) e1 (hFm n m hm))
  rw [ints_len] at h
  have e:((ints (F n)).all fun z=>bat dl z.toNat)=(F n).all fun m=>bat dl m:=by simp [ints,List.all_map,Function.comp_def]
  rw [e] at h
  exact h
 obtain ⟨b3,o3,rfl,l3,v3⟩:=bools_cell hd (k:=n) (by omega)
 obtain ⟨b4,o4,rfl,l4,v4⟩:=bools_cell hk (k:=n) (by omega)
 generalize ((F n).all fun m=>bat dl m)=E at hev ⊢
 generalize bat dl n=D at v3 ⊢
 generalize bat rk n=K at v4 ⊢
 have HEV:=hide hev
 clear hev hI hR hd hk e1 e2 hFl hFm
 cases D
 ·go_enter Tryz.func79,Tryz.ntmps79
  go_wp2
  go_quiet (fail)
  go_wp2
  go_ret
  exact ⟨rfl,below_drewN (Below.refl _ _) _⟩
 ·cases K
  ·go_enter Tryz.func79,Tryz.ntmps79
   go_wp2
   go_quiet (first | (go_at_call 65;exact Calls.quiet_of_same (HEV.out _)))
   go_wp2
   go_ret
   exact ⟨ret_bool (by simp),below_drewN (Below.refl _ _) _⟩
  ·go_enter Tryz.func79,Tryz.ntmps79
   go_wp2
   go_quiet (fail)
   go_wp2
   go_ret
   exact ⟨ret_bool (by simp),below_drewN (Below.refl _ _) _⟩
set_option maxRecDepth 100000 in
theorem latest_any (r:Int) (b off cap:Nat) (ns:List Nd) (t:Tm) (rb1 rb2:Nat) (ka pa da:Option Addr) (kc pc dc:Nat) (g0 g1 g2 g4 g5:Value) (w:World) (hl:ns.length≤256) (hM:SM w ns t rb1 rb2 ka pa) (hd:BoolsAt w da (delayL ns t)) :
 Calls Tryz.prog 42 #[.agg #[.int .i64 r,.slice (some ⟨b,off,none⟩) ns.length cap,.slice (some ⟨rb1,0,none⟩) ns.length ns.length,.slice (some ⟨rb2,0,none⟩) ns.length ns.length,.slice ka ns.length kc,.slice pa ns.length pc],.agg #[g0,g1,g2,.slice da ns.length dc,g4,g5]] w fun e w' =>∃ v,e=.returned v∧w'.ownsRow w.heap.size 4 1 v ns.length ((lateL ns t).map Value.bool)∧Below w.heap.size w w' :=by
 have eg:∀ args w,(callFunc 79 args).run Tryz.prog w=.ok (.enter 79 args) w:=enters_of Tryz.func79 (by kernel_rfl) rfl
 have hbA:Below w.heap.size w (((w.alloc (.cells #[.int .i64 r,.slice (some ⟨b,off,none⟩) ns.length cap,.slice (some ⟨rb1,0,none⟩) ns.length ns.length,.slice (some ⟨rb2,0,none⟩) ns.length ns.length,.slice ka ns.length kc,.slice pa ns.length pc] 68)).alloc (.cells #[g0,g1,g2,.slice da ns.length dc,g4,g5] 41)).alloc (.cells #[.func (.func 78) #[] #[.pointer (some ⟨w.heap.size+1,0,none⟩)]] 44)):=(((Below.refl _ w).alloc (Nat.le_refl _) _).alloc (by simp) _).alloc (by simp;omega) _
 have hs:(((w.alloc (.cells #[.int .i64 r,.slice (some ⟨b,off,none⟩) ns.length cap,.slice (some ⟨rb1,0,none⟩) ns.length ns.length,.slice (some ⟨rb2,0,none⟩) ns.length ns.length,.slice ka ns.length kc,.slice pa ns.length pc] 68)).alloc (.cells #[g0,g1,g2,.slice da ns.length dc,g4,g5] 41)).alloc (.cells #[.func (.func 78) #[] #[.pointer (some ⟨w.heap.size+1,0,none⟩)]] 44)).heap[w.heap.size]?=some (.cells #[.int .i64 r,.slice (some ⟨b,off,none⟩) ns.length cap,.slice (some ⟨rb1,0,none⟩) ns.length ns.length,.slice (some ⟨rb2,0,none⟩) ns.length ns.length,.slice ka ns.length kc,.slice pa ns.length pc] 68 (0,0)):=(Below.heap_alloc _ _ _ (by simp;omega)).trans ((Below.heap_alloc _ _ _ (by simp)).trans (World.alloc_heap_new w _))
 have hf:(((w.alloc (.cells #[.int .i64 r,.slice (some ⟨b,off,none⟩) ns.length cap,.slice (some ⟨rb1,0,none⟩) ns.length ns.length,.slice (some ⟨rb2,0,none⟩) ns.length ns.length,.slice ka ns.length kc,.slice pa ns.length pc] 68)).alloc (.cells #[g0,g1,g2,.slice da ns.length dc,g4,g5] 41)).alloc (.cells #[.func (.func 78) #[] #[.pointer (some ⟨w.heap.size+1,0,none⟩)]] 44)).heap[w.heap.size+1]?=some (.cells #[g0,g1,g2,.slice da ns.length dc,g4,g5] 41 (0,0)):=by
  have:=World.alloc_heap_new (w.alloc (.cells #[.int .i64 r,.slice (some ⟨b,off,none⟩) ns.length cap,.slice (some ⟨rb1,0,none⟩) ns.length ns.length,.slice (some ⟨rb2,0,none⟩) ns.length ns.length,.slice ka ns.length kc,.slice pa ns.length pc] 68)) (.cells #[g0,g1,g2,.slice da ns.length dc,g4,g5] 41)
  rw [World.size_alloc] at this
  exact (Below.heap_alloc _ _ _ (by simp)).trans this
 have hg:(((w.alloc (.cells #[.int .i64 r,.slice (some ⟨b,off,none⟩) ns.length cap,.slice (some ⟨rb1,0,none⟩) ns.length ns.length,.slice (some ⟨rb2,0,none⟩) ns.length ns.length,.slice ka ns.length kc,.slice pa ns.length pc] 68)).alloc (.cells #[g0,g1,g2,.slice da ns.length dc,g4,g5] 41)).alloc (.cells #[.func (.func 78) #[] #[.pointer (some ⟨w.heap.size+1,0,none⟩)]] 44)).heap[w.heap.size+1+1]?=some (.cells #[.func (.func 78) #[] #[.pointer (some ⟨w.heap.size+1,0,none⟩)]] 44 (0,0)):=by
  have:=World.alloc_heap_new ((w.alloc (.cells #[.int .i64 r,.slice (some ⟨b,off,none⟩) ns.length cap,.slice (some ⟨rb1,0,none⟩) ns.length ns.length,.slice (some ⟨rb2,0,none⟩) ns.length ns.length,.slice ka ns.length kc,.slice pa ns.length pc] 68)).alloc (.cells #[g0,g1,g2,.slice da ns.length dc,g4,g5] 41)) (.cells #[.func (.func 78) #[] #[.pointer (some ⟨w.heap.size+1,0,none⟩)]] 44)
  rwa [World.size_alloc,World.size_alloc] at this
 go_enter Tryz.func42,Tryz.ntmps42
 go_upto_region 2 with fail
 generalize (((w.alloc (.cells #[.int .i64 r,.slice (some ⟨b,off,none⟩) ns.length cap,.slice (some ⟨rb1,0,none⟩) ns.length ns.length,.slice (some ⟨rb2,0,none⟩) ns.length ns.length,.slice ka ns.length kc,.slice pa ns.length pc] 68)).alloc (.cells #[g0,g1,g2,.slice da ns.length dc,g4,g5] 41)).alloc (.cells #[.func (.func 78) #[] #[.pointer (some ⟨w.heap.size+1,0,none⟩)]] 44))=W at hbA hs hf hg ⊢
 have hea:=each_any (fun n=>bat (delayL ns t) n&&(bat (rcl ns t) n||!(nxl ns n).all fun m=>bat (delayL ns t) m)) 79 #[.pointer (some ⟨w.heap.size+1,0,none⟩),.pointer (some ⟨w.heap.size,0,none⟩),.pointer (some ⟨w.heap.size+1+1,0,none⟩)] r (some ⟨b,off,none⟩) ns.length cap (.slice (some ⟨rb1,0,none⟩) ns.length ns.length) (.slice (some ⟨rb2,0,none⟩) ns.length ns.length) (.slice ka ns.length kc) (.slice pa ns.length pc) W hl eg (fun i hi U hU=>by
  have k1:=(hU.block _ (blk_lt hs)).trans hs
  have k2:=(hU.block _ (blk_lt hf)).trans hf
  have k3:=(hU.block _ (blk_lt hg)).trans hg
  have hu:=hbA.trans (hU.mono hbA.size)
  have hm:=hM.below hu
  exact latest2_any i (w.heap.size+1) w.heap.size (w.heap.size+1+1) ns.length rb1 (nxl ns) (delayL ns t) (rcl ns t) da ka dc kc U (by rw [blk_cell k2];rfl) (by rw [blk_cell k1];rfl) (by rw [blk_cell k1];rfl) (by rw [blk_cell k3];rfl) (blk_lt k2) (blk_lt k1) (blk_lt k3) (hd.below hu) hm.rk hm.nx (solve_len ns _) (rcl_len ns t) hi (nxl_len ns) (fun m j h=>(mem_nxl.1 h).1) hl)
 have s0:=blk_cell hs 0
 have s1:=blk_cell hs 1
 have s2:=blk_cell hs 2
 have s3:=blk_cell hs 3
 have s4:=blk_cell hs 4
 have s5:=blk_cell hs 5
 simp at s0 s1 s2 s3 s4 s5
 have sl:=blk_lt hs
 have HEA:=hide hea
 have HW:=hide hbA
 clear hea hs hf hg hbA hM hd
 go_wp2_with fail
 refine HEA.out.mono ?_
 rintro e w1 ⟨v,rfl,hv,hb1⟩
 have HV:=hide hv
 clear hv
 go_wp2
 go_ret
 exact ⟨_,rfl,ownsRow_base HV.out HW.out.size,HW.out.trans (hb1.mono HW.out.size)⟩
theorem early1_any (m SB FB k:Nat) (kp dl ul:List Bool) (pa da ua:Option Addr) (pc dc uc:Nat) (w:World) (s5:w.cell? ⟨SB,5,none⟩=some (.slice pa k pc)) (f0:w.cell? ⟨FB,0,none⟩=some (.slice da k dc)) (f1:w.cell? ⟨FB,1,none⟩=some (.slice ua k uc)) (hS:SB<w.heap.size) (hF:FB<w.heap.size) (hp:BoolsAt w pa kp) (hd:BoolsAt w da dl) (hu:BoolsAt w ua ul) (e1:kp.length=k) (e2:dl.length=k) (e3:ul.length=k) (hm:m<k) :
 Calls Tryz.prog 75 #[.int .i64 m,.pointer (some ⟨SB,0,none⟩),.pointer (some ⟨FB,0,none⟩)] w fun e w' =>e=.returned (.bool (bat kp m&&(bat dl m||bat ul m)))∧w' =w:=by
 obtain ⟨b3,o3,rfl,l3,v3⟩:=bools_cell hp (k:=m) (by omega)
 obtain ⟨b4,o4,rfl,l4,v4⟩:=bools_cell hd (k:=m) (by omega)
 obtain ⟨b5,o5,rfl,l5,v5⟩:=bools_cell hu (k:=m) (by omega)
 have hmi:(m:Int)<(k:Int):=by omega
 generalize bat kp m=K at v3 ⊢
 generalize bat dl m=D at v4 ⊢
 generalize bat ul m=U at v5 ⊢
 clear hp hd hu e1 e2 e3
 cases K
 ·go_enter Tryz.func75,Tryz.ntmps75
  go_wp2
  go_ret
  exact ⟨rfl,rfl⟩
 ·cases D
  ·go_enter Tryz.func75,Tryz.ntmps75
   go_wp2
   go_ret
   exact ⟨ret_bool (by simp),rfl⟩
  ·go_enter Tryz.func75,Tryz.ntmps75
   go_wp2
   go_ret
   exact ⟨rfl,rfl⟩
set_option maxRecDepth 100000 in
theorem early2_any (n FB SB GB k rb2:Nat) (F:Nat→List Nat) (kp dl ul:List Bool) (pa da ua:Option Addr) (pc dc uc:Nat) (w:World) (s5:w.cell? ⟨SB,5,none⟩=some (.slice pa k pc)) (s3:w.cell? ⟨SB,3,none⟩=some (.slice (some ⟨rb2,0,none⟩) k k)) (f0:w.cell? ⟨FB,0,none⟩=some (.slice da k dc)) (f1:w.cell? ⟨FB,1,none⟩=some (.slice ua k uc)) (hg:w.cell? ⟨GB,0,none⟩=some (.func (.func 75) #[] #[.pointer (some ⟨SB,0,none⟩),.pointer (some ⟨FB,0,none⟩)]))
 (hF:FB<w.heap.size) (hS:SB<w.heap.size) (hG:GB<w.heap.size) (hp:BoolsAt w pa kp) (hd:BoolsAt w da dl) (hu:BoolsAt w ua ul) (hR:RowsR w rb2 k F) (e1:kp.length=k) (e2:dl.length=k) (e3:ul.length=k) (hn:n<k) (hFl:∀ m,(F m).length≤k) (hFm:∀ m j,j∈F m→j<k) (hk256:k≤256) :
 Calls Tryz.prog 76 #[.int .i64 n,.pointer (some ⟨FB,0,none⟩),.pointer (some ⟨SB,0,none⟩),.pointer (some ⟨GB,0,none⟩)] w fun e w' =>e=.returned (.bool (bat dl n&&((F n).isEmpty||!(F n).all fun m=>bat kp m&&(bat dl m||bat ul m))))∧Below w.heap.size w w' :=by
 have eg:∀ args w,(callFunc 75 args).run Tryz.prog w=.ok (.enter 75 args) w:=enters_of Tryz.func75 (by kernel_rfl) rfl
 obtain ⟨ra,rc,hrc,hI⟩:=hR.row n hn
 have hrl:=hR.lt
 have hni:(n:Int)<(k:Int):=by omega
 have hev:∀ q,Calls Tryz.prog 65 #[.slice ra (F n).length rc,.func (.func 75) #[] #[.pointer (some ⟨SB,0,none⟩),.pointer (some ⟨FB,0,none⟩)]] (w.drewN q) fun e w' =>e=.returned (.bool ((F n).all fun m=>bat kp m&&(bat dl m||bat ul m)))∧w' =w.drewN q:=fun q=>by
  have hb:=below_drewN (Below.refl w.heap.size w) q
  have h:=everyIntS_any (fun z=>bat kp z.toNat&&(bat dl z.toNat||bat ul z.toNat)) 75 #[.pointer (some ⟨SB,0,none⟩),.pointer (some ⟨FB,0,none⟩)] ra rc (ints (F n)) (w.drewN q) (hI.below hb) (by rw [ints_len];have:=hFl n;omega) eg (fun z hz=>by
   obtain ⟨m,hm,rfl⟩:=List.mem_map.1 hz
   exact early1_any m SB FB k kp dl ul pa da ua pc dc uc _ ((hb.cell (p:=⟨SB,5,none⟩) hS).trans s5) ((hb.cell (p:=⟨FB,0,none⟩) hF).trans f0) ((hb.cell (p:=⟨FB,1,none⟩) hF).trans f1) (Nat.lt_of_lt_of_le hS hb.size) (Nat.lt_of_lt_of_le hF hb.size) (hp.below hb) (hd.below hb) (hu.below hb) e1 e2 e3 (hFm n m hm))
  rw [ints_len] at h
  have e:((ints (F n)).all fun z=>bat kp z.toNat&&(bat dl z.toNat||bat ul z.toNat))=(F n).all fun m=>bat kp m&&(bat dl m||bat ul m):=by simp [ints,List.all_map,Function.comp_def]
  rw [e] at h
  exact h
 have HE:Hid ((F n).isEmpty=decide ((F n).length=0)):=by show _=_;cases F n <;> simp
 obtain ⟨b3,o3,rfl,l3,v3⟩:=bools_cell hd (k:=n) (by omega)
 generalize ((F n).all fun m=>bat kp m&&(bat dl m||bat ul m))=E at hev ⊢
 generalize (F n).isEmpty=Z at HE ⊢
 generalize (F n).length=len at HE hev hrc
 generalize bat dl n=D at v3 ⊢
 have HEV:=hide hev
 clear hev hI hR hd hp hu e1 e2 e3 hFl hFm
 cases D
 ·go_enter Tryz.func76,Tryz.ntmps76
  go_wp2
  go_quiet (fail)
  go_wp2
  go_ret
  exact ⟨rfl,below_drewN (Below.refl _ _) _⟩
 ·rcases Nat.eq_zero_or_pos len with rfl | hpos
  ·obtain rfl:Z=true:=by rw [HE.out];simp
   go_enter Tryz.func76,Tryz.ntmps76
   go_wp2
   go_quiet (fail)
   go_wp2
   go_ret
   exact ⟨ret_bool (by simp),below_drewN (Below.refl _ _) _⟩
  ·obtain rfl:Z=false:=by rw [HE.out];simp;omega
   have hz0:¬ len=0:=by omega
   have hdl:decide (len=0)=false:=by simp [hz0]
   have hdm:((len:Int)==0)=false:=by rw [beq_eq_false_iff_ne];omega
   have hdn:(len==0)=false:=by rw [beq_eq_false_iff_ne];exact hz0
   go_enter Tryz.func76,Tryz.ntmps76
   go_wp2
   go_quiet (first | (go_at_call 65;exact Calls.quiet_of_same (HEV.out _)))
   go_wp2
   go_ret
   exact ⟨ret_bool (by simp),below_drewN (Below.refl _ _) _⟩
set_option maxRecDepth 100000 in
theorem earliest_any (r:Int) (b off cap:Nat) (ns:List Nd) (t:Tm) (rb1 rb2:Nat) (ka pa da ua:Option Addr) (kc pc dc uc:Nat) (g2 g3 g4 g5:Value) (w:World) (hl:ns.length≤256) (hM:SM w ns t rb1 rb2 ka pa) (hd:BoolsAt w da (downL ns t)) (hup:BoolsAt w ua (upL ns t)) :
 Calls Tryz.prog 40 #[.agg #[.int .i64 r,.slice (some ⟨b,off,none⟩) ns.length cap,.slice (some ⟨rb1,0,none⟩) ns.length ns.length,.slice (some ⟨rb2,0,none⟩) ns.length ns.length,.slice ka ns.length kc,.slice pa ns.length pc],.agg #[.slice da ns.length dc,.slice ua ns.length uc,g2,g3,g4,g5]] w fun e w' =>∃ v,e=.returned v∧w'.ownsRow w.heap.size 4 1 v ns.length ((earlyL ns t).map Value.bool)∧Below w.heap.size w w' :=by
 have eg:∀ args w,(callFunc 76 args).run Tryz.prog w=.ok (.enter 76 args) w:=enters_of Tryz.func76 (by kernel_rfl) rfl
 have hbA:Below w.heap.size w (((w.alloc (.cells #[.int .i64 r,.slice (some ⟨b,off,none⟩) ns.length cap,.slice (some ⟨rb1,0,none⟩) ns.length ns.length,.slice (some ⟨rb2,0,none⟩) ns.length ns.length,.slice ka ns.length kc,.slice pa ns.length pc] 68)).alloc (.cells #[.slice da ns.length dc,.slice ua ns.length uc,g2,g3,g4,g5] 41)).alloc (.cells #[.func (.func 75) #[] #[.pointer (some ⟨w.heap.size,0,none⟩),.pointer (some ⟨w.heap.size+1,0,none⟩)]] 44)):=(((Below.refl _ w).alloc (Nat.le_refl _) _).alloc (by simp) _).alloc (by simp;omega) _
 have hs:(((w.alloc (.cells #[.int .i64 r,.slice (some ⟨b,off,none⟩) ns.length cap,.slice (some ⟨rb1,0,none⟩) ns.length ns.length,.slice (some ⟨rb2,0,none⟩) ns.length ns.length,.slice ka ns.length kc,.slice pa ns.length pc] 68)).alloc (.cells #[.slice da ns.length dc,.slice ua ns.length uc,g2,g3,g4,g5] 41)).alloc (.cells #[.func (.func 75) #[] #[.pointer (some ⟨w.heap.size,0,none⟩),.pointer (some ⟨w.heap.size+1,0,none⟩)]] 44)).heap[w.heap.size]?=some (.cells #[.int .i64 r,.slice (some ⟨b,off,none⟩) ns.length cap,.slice (some ⟨rb1,0,none⟩) ns.length ns.length,.slice (some ⟨rb2,0,none⟩) ns.length ns.length,.slice ka ns.length kc,.slice pa ns.length pc] 68 (0,0)):=(Below.heap_alloc _ _ _ (by simp;omega)).trans ((Below.heap_alloc _ _ _ (by simp)).trans (World.alloc_heap_new w _))
 have hf:(((w.alloc (.cells #[.int .i64 r,.slice (some ⟨b,off,none⟩) ns.length cap,.slice (some ⟨rb1,0,none⟩) ns.length ns.length,.slice (some ⟨rb2,0,none⟩) ns.length ns.length,.slice ka ns.length kc,.slice pa ns.length pc] 68)).alloc (.cells #[.slice da ns.length dc,.slice ua ns.length uc,g2,g3,g4,g5] 41)).alloc (.cells #[.func (.func 75) #[] #[.pointer (some ⟨w.heap.size,0,none⟩),.pointer (some ⟨w.heap.size+1,0,none⟩)]] 44)).heap[w.heap.size+1]?=some (.cells #[.slice da ns.length dc,.slice ua ns.length uc,g2,g3,g4,g5] 41 (0,0)):=by
  have:=World.alloc_heap_new (w.alloc (.cells #[.int .i64 r,.slice (some ⟨b,off,none⟩) ns.length cap,.slice (some ⟨rb1,0,none⟩) ns.length ns.length,.slice (some ⟨rb2,0,none⟩) ns.length ns.length,.slice ka ns.length kc,.slice pa ns.length pc] 68)) (.cells #[.slice da ns.length dc,.slice ua ns.length uc,g2,g3,g4,g5] 41)
  rw [World.size_alloc] at this
  exact (Below.heap_alloc _ _ _ (by simp)).trans this
 have hg:(((w.alloc (.cells #[.int .i64 r,.slice (some ⟨b,off,none⟩) ns.length cap,.slice (some ⟨rb1,0,none⟩) ns.length ns.length,.slice (some ⟨rb2,0,none⟩) ns.length ns.length,.slice ka ns.length kc,.slice pa ns.length pc] 68)).alloc (.cells #[.slice da ns.length dc,.slice ua ns.length uc,g2,g3,g4,g5] 41)).alloc (.cells #[.func (.func 75) #[] #[.pointer (some ⟨w.heap.size,0,none⟩),.pointer (some ⟨w.heap.size+1,0,none⟩)]] 44)).heap[w.heap.size+1+1]?=some (.cells #[.func (.func 75) #[] #[.pointer (some ⟨w.heap.size,0,none⟩),.pointer (some ⟨w.heap.size+1,0,none⟩)]] 44 (0,0)):=by
  have:=World.alloc_heap_new ((w.alloc (.cells #[.int .i64 r,.slice (some ⟨b,off,none⟩) ns.length cap,.slice (some ⟨rb1,0,none⟩) ns.length ns.length,.slice (some ⟨rb2,0,none⟩) ns.length ns.length,.slice ka ns.length kc,.slice pa ns.length pc] 68)).alloc (.cells #[.slice da ns.length dc,.slice ua ns.length uc,g2,g3,g4,g5] 41)) (.cells #[.func (.func 75) #[] #[.pointer (some ⟨w.heap.size,0,none⟩),.pointer (some ⟨w.heap.size+1,0,none⟩)]] 44)
  rwa [World.size_alloc,World.size_alloc] at this
 go_enter Tryz.func40,Tryz.ntmps40
 go_upto_region 2 with fail
 generalize (((w.alloc (.cells #[.int .i64 r,.slice (some ⟨b,off,none⟩) ns.length cap,.slice (some ⟨rb1,0,none⟩) ns.length ns.length,.slice (some ⟨rb2,0,none⟩) ns.length ns.length,.slice ka ns.length kc,.slice pa ns.length pc] 68)).alloc (.cells #[.slice da ns.length dc,.slice ua ns.length uc,g2,g3,g4,g5] 41)).alloc (.cells #[.func (.func 75) #[] #[.pointer (some ⟨w.heap.size,0,none⟩),.pointer (some ⟨w.heap.size+1,0,none⟩)]] 44))=W at hbA hs hf hg ⊢
 have hea:=each_any (fun n=>bat (downL ns t) n&&((ahl ns n).isEmpty||!(ahl ns n).all fun m=>bat (kpl ns t) m&&(bat (downL ns t) m||bat (upL ns t) m))) 76 #[.pointer (some ⟨w.heap.size+1,0,none⟩),.pointer (some ⟨w.heap.size,0,none⟩),.pointer (some ⟨w.heap.size+1+1,0,none⟩)] r (some ⟨b,off,none⟩) ns.length cap (.slice (some ⟨rb1,0,none⟩) ns.length ns.length) (.slice (some ⟨rb2,0,none⟩) ns.length ns.length) (.slice ka ns.length kc) (.slice pa ns.length pc) W hl eg (fun i hi U hU=>by
  have k1:=(hU.block _ (blk_lt hs)).trans hs
  have k2:=(hU.block _ (blk_lt hf)).trans hf
  have k3:=(hU.block _ (blk_lt hg)).trans hg
  have hu:=hbA.trans (hU.mono hbA.size)
  have hm:=hM.below hu
  exact early2_any i (w.heap.size+1) w.heap.size (w.heap.size+1+1) ns.length rb2 (ahl ns) (kpl ns t) (downL ns t) (upL ns t) pa da ua pc dc uc U (by rw [blk_cell k1];rfl) (by rw [blk_cell k1];rfl) (by rw [blk_cell k2];rfl) (by rw [blk_cell k2];rfl) (by rw [blk_cell k3];rfl) (blk_lt k2) (blk_lt k1) (blk_lt k3) hm.kp (hd.below hu) (hup.below hu) hm.ah (kpl_len ns t) (solve_len ns _) (solve_len ns _) hi (ahl_len ns) (fun m j h=>(mem_ahl.1 h).1) hl)
 have s0:=blk_cell hs 0
 have s1:=blk_cell hs 1
 have s2:=blk_cell hs 2
 have s3:=blk_cell hs 3
 have s4:=blk_cell hs 4
 have s5:=blk_cell hs 5
 simp at s0 s1 s2 s3 s4 s5
 have sl:=blk_lt hs
 have HEA:=hide hea
 have HW:=hide hbA
 clear hea hs hf hg hbA hM hd hup
 go_wp2_with fail
 refine HEA.out.mono ?_
 rintro e w1 ⟨v,rfl,hv,hb1⟩
 have HV:=hide hv
 clear hv
 go_wp2
 go_ret
 exact ⟨_,rfl,ownsRow_base HV.out HW.out.size,HW.out.trans (hb1.mono HW.out.size)⟩
def tchk (r:Int) (ns:List Nd) (t:Tm):Int:=if chk r ns=0 then (if 3≤t.op∧t.op≤8 then (if (0≤t.a∧t.a<r)∧(0≤t.b∧t.b<r) then 0 else 3) else 4) else chk r ns
theorem check1_any (z r:Int) (B:Nat) (w:World) (h0:w.cell? ⟨B,0,none⟩=some (.int .i64 r)) (hB:B<w.heap.size) :
 Calls Tryz.prog 64 #[.int .i64 z,.pointer (some ⟨B,0,none⟩)] w fun e w' =>e=.returned (.bool (decide (0≤z∧z<r)))∧w' =w:=by
 by_cases h1:0≤z
 ·by_cases h2:z<r
  ·go_enter Tryz.func64,Tryz.ntmps64
   go_wp2
   go_ret
   exact ⟨ret_bool (by simp [h1,h2]),rfl⟩
  ·go_enter Tryz.func64,Tryz.ntmps64
   go_wp2
   go_ret
   exact ⟨ret_bool (by simp [h2]),rfl⟩
 ·go_enter Tryz.func64,Tryz.ntmps64
  go_wp2
  go_ret
  exact ⟨ret_bool (by have hz:¬ (0≤z):=by omega
                      simp [hz]),rfl⟩
set_option maxRecDepth 100000 in
theorem tcheck_any (r:Int) (a:Option Addr) (cap:Nat) (ns:List Nd) (t:Tm) (w:World) (hN:SlN w a ns) :
 Calls Tryz.prog 36 #[.agg #[.int .i64 r,.slice a ns.length cap],.agg #[.int .i64 t.op,.int .i64 t.a,.int .i64 t.b]] w fun e w' =>e=.returned (.int .i64 (tchk r ns t))∧Below w.heap.size w w' :=by
 have eg:∀ args w,(callFunc 64 args).run Tryz.prog w=.ok (.enter 64 args) w:=enters_of Tryz.func64 (by kernel_rfl) rfl
 have HF:Hid (tchk r ns t=if chk r ns=0 then (if 3≤t.op∧t.op≤8 then (if (0≤t.a∧t.a<r)∧(0≤t.b∧t.b<r) then 0 else 3) else 4) else chk r ns):=rfl
 generalize tchk r ns t=C at HF ⊢
 have HN:=hide hN
 clear hN
 have hbA:Below w.heap.size w ((w.alloc (.cells #[.int .i64 r,.slice a ns.length cap] 24)).alloc (.cells #[.int .i64 t.op,.int .i64 t.a,.int .i64 t.b] 26)):=((Below.refl _ w).alloc (Nat.le_refl _) _).alloc (by simp) _
 have hp:((w.alloc (.cells #[.int .i64 r,.slice a ns.length cap] 24)).alloc (.cells #[.int .i64 t.op,.int .i64 t.a,.int .i64 t.b] 26)).heap[w.heap.size]?=some (.cells #[.int .i64 r,.slice a ns.length cap] 24 (0,0)):=(Below.heap_alloc _ _ _ (by simp)).trans (World.alloc_heap_new w _)
 have hq:((w.alloc (.cells #[.int .i64 r,.slice a ns.length cap] 24)).alloc (.cells #[.int .i64 t.op,.int .i64 t.a,.int .i64 t.b] 26)).heap[w.heap.size+1]?=some (.cells #[.int .i64 t.op,.int .i64 t.a,.int .i64 t.b] 26 (0,0)):=by
  have:=World.alloc_heap_new (w.alloc (.cells #[.int .i64 r,.slice a ns.length cap] 24)) (.cells #[.int .i64 t.op,.int .i64 t.a,.int .i64 t.b] 26)
  rwa [World.size_alloc] at this
 go_enter Tryz.func36,Tryz.ntmps36
 go_upto_region 1 with fail
 generalize ((w.alloc (.cells #[.int .i64 r,.slice a ns.length cap] 24)).alloc (.cells #[.int .i64 t.op,.int .i64 t.a,.int .i64 t.b] 26))=W at hbA hp hq ⊢
 have p0:=blk_cell hp 0
 have p1:=blk_cell hp 1
 simp at p0 p1
 have pl:=blk_lt hp
 have ql:=blk_lt hq
 have HB:=hide hbA
 have HP:=hide hp
 have HQ:=hide hq
 clear hbA hp hq
 go_upto_region 2 with (go_at_call 61;refine (check_any r a cap ns _ (HN.out.below HB.out)).mono ?_;rintro e w1 ⟨rfl,hb1⟩)
 have hp1:=(hb1.block _ pl).trans HP.out
 have hq1:=(hb1.block _ ql).trans HQ.out
 have hB1:Below w.heap.size w w1:=HB.out.trans (hb1.mono HB.out.size)
 clear p0 p1 pl ql hb1 HP HQ HB
 by_cases hc:chk r ns=0
 ·rw [hc]
  have HC:=hide hc
  have z0:=blk_cell hp1 0
  have y0:=blk_cell hq1 0
  have y1:=blk_cell hq1 1
  have y2:=blk_cell hq1 2
  simp at z0 y0 y1 y2
  have pl:=blk_lt hp1
  have ql:=blk_lt hq1
  clear hp1 hq1 hc
  by_cases h3:t.op<3
  ·go_wp2
   go_ret
   refine ⟨ret_int ?_,hB1⟩
   rw [HF.out,if_pos HC.out,if_neg (by omega)]
  ·by_cases h8:t.op>8
   ·go_wp2
    go_ret
    refine ⟨ret_int ?_,hB1⟩
    rw [HF.out,if_pos HC.out,if_neg (by omega)]
   ·have H38:Hid (3≤t.op∧t.op≤8):=⟨by omega,by omega⟩
    go_wp2_with fail
    have hbE:Below w1.heap.size w1 (w1.alloc (.cells #[.int .i64 t.a,.int .i64 t.b] 3)):=(Below.refl _ w1).alloc (Nat.le_refl _) _
    have hn:=World.alloc_heap_new w1 (.cells #[.int .i64 t.a,.int .i64 t.b] 3)
    generalize (w1.alloc (.cells #[.int .i64 t.a,.int .i64 t.b] 3))=W2 at hbE hn ⊢
    have hz2:=(hbE.cell (p:=⟨w.heap.size,0,none⟩) pl).trans z0
    have hl2:=Nat.lt_of_lt_of_le pl hbE.size
    refine (everyInt_any (fun z=>decide (0≤z∧z<r)) 64 #[.pointer (some ⟨w.heap.size,0,none⟩)] (some ⟨w1.heap.size,0,none⟩) 2 [t.a,t.b] W2 (Or.inr ⟨w1.heap.size,0,rfl,blk_lt hn,fun j z hj=>?_⟩) (by simp) eg (fun z hz U hU=>?_)).mono ?_
    ·rw [Nat.zero_add,blk_cell hn]
     match j,hj with
     | 0,hj | 1,hj=>simp at hj;subst hj;rfl
     | j+2,hj=>simp at hj
    ·refine (check1_any z r w.heap.size U ((hU.cell (p:=⟨w.heap.size,0,none⟩) hl2).trans hz2) (Nat.lt_of_lt_of_le hl2 hU.size)).mono ?_
     rintro e w' ⟨rfl,rfl⟩
     exact ⟨rfl,Below.refl _ _⟩
    rintro e w3 ⟨rfl,hb3⟩
    have hB3:Below w.heap.size w w3:=hB1.trans ((hbE.trans (hb3.mono hbE.size)).mono hB1.size)
    have HA:Hid (([t.a,t.b].all fun z=>decide (0≤z∧z<r))=decide ((0≤t.a∧t.a<r)∧(0≤t.b∧t.b<r))):=by show _=_;simp
    clear hbE hn hz2 hl2 hb3 z0 y0 y1 y2
    generalize ([t.a,t.b].all fun z=>decide (0≤z∧z<r))=A at HA ⊢
    cases A
    ·go_wp2
     go_ret
     refine ⟨ret_int ?_,hB3⟩
     rw [HF.out,if_pos HC.out,if_pos H38.out,if_neg (of_decide_eq_false HA.out.symm)]
    ·go_wp2
     go_ret
     refine ⟨ret_int ?_,hB3⟩
     rw [HF.out,if_pos HC.out,if_pos H38.out,if_pos (of_decide_eq_true HA.out.symm)]
 ·have HC:=hide hc
  have hne:¬ (chk r ns=0):=hc
  clear hp1 hq1
  go_wp2
  go_ret
  refine ⟨ret_int ?_,hB1⟩
  rw [HF.out,if_neg HC.out]
end Go.Proofs.YtnbdnbcnlgnicaaGreat
