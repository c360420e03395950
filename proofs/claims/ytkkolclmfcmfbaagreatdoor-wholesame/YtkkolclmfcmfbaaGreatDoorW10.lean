/-
  Of the proof of WholeSame: FD, PA, PB.
-/
import Derived.Test.YtkkolclmfcmfbaaGreatDoorW4
import Derived.Test.YtkkolclmfcmfbaaGreatDoorW5
import Derived.Test.YtkkolclmfcmfbaaGreatDoorW9
set_option linter.unusedVariables false
set_option linter.unusedSimpArgs false
set_option maxHeartbeats 40000000
namespace Go.Proofs.YtkkolclmfcmfbaaGreatDoor
open Go.RowKit Go.Shelf
theorem part_set (R:Nat→Bool) {k n:Nat} (h:k<n):((List.range k).map R++List.replicate (n-k) false).set k (R k)=(List.range (k+1)).map R++List.replicate (n-(k+1)) false:=by
 obtain ⟨d,hd⟩:∃ d,n-k=d+1:=⟨n-k-1,by omega⟩
 have e:n-(k+1)=d:=by omega
 rw [hd,e,List.replicate_succ,List.set_append_right _ _ (by simp)]
 simp [List.range_succ]
theorem part_get (R:Nat→Bool) {k n:Nat} (h:k<n):(((List.range k).map R++List.replicate (n-k) false).map Value.bool).toArray[k]?=some (.bool false):=by
 obtain ⟨d,hd⟩:∃ d,n-k=d+1:=⟨n-k-1,by omega⟩
 rw [hd,List.getElem?_toArray,List.getElem?_map,List.getElem?_append_right (by simp)]
 simp
set_option maxRecDepth 100000 in
theorem askEach_any (R:Nat→Bool) (g:Nat) (cb:Array Value) (n:Nat) (w:World) (hn:n≤256)
 (eg:∀ args w,(callFunc g args).run Tryz.prog w=.ok (.enter g args) w)
 (hg:∀ i,i<n→∀ W:World,Below w.heap.size w W→Calls Tryz.prog g (#[.int .i64 (i:Int)]++cb) W fun e w' =>e=.returned (.bool (R i))∧Below W.heap.size W w') :
 Calls Tryz.prog 141 #[.int .i64 (n:Int),.func (.func g) #[] cb] w fun e w' =>∃ v,e=.returned v∧w'.ownsRow w.heap.size 4 1 v n (((List.range n).map R).map Value.bool)∧Below w.heap.size w w' :=by
 have hms:∀ W:World,Sem.run Tryz.prog (Instr.makeSlice 116 (.int .i64 (n:Int)) (.int .i64 (n:Int))) W=.ok (.slice (some ⟨W.heap.size,0,none⟩) n n) (W.alloc (.cells (madeCells #[.bool false] n) 4)):=fun W=>run_make_row' 116 4 _ 1 Tryz.underlying116 info_boolF rfl .i64 .i64 n (by omega) (by omega) W
 have HG:=hide hg
 clear hg
 go_enter Tryz.func141,Tryz.ntmps141
 go_wp2
 have hB0:Below w.heap.size w (w.alloc (.cells (madeCells #[.bool false] n) 4)):=(Below.refl _ w).alloc (Nat.le_refl _) _
 have hX0:(w.alloc (.cells (madeCells #[.bool false] n) 4)).heap[w.heap.size]?=some (.cells (((List.range 0).map R++List.replicate (n-0) false).map Value.bool).toArray 4 (0,0)):=by
  rw [World.alloc_heap_new,made_boolsF];simp
 generalize (w.alloc (.cells (madeCells #[.bool false] n) 4))=W0 at hB0 hX0 ⊢
 have HX0:=hide hX0
 clear hX0 hms
 go_loopw [11] (fun i wr=>∃ k:Nat,k≤n∧i=.int .i64 k∧wr.heap[w.heap.size]?=some (.cells (((List.range k).map R++List.replicate (n-k) false).map Value.bool).toArray 4 (0,0))∧Below w.heap.size w wr) (fun i _=>n-(intOf i).toNat)
 case atStart=>exact ⟨0,Nat.zero_le _,rfl,HX0.out,hB0⟩
 case round =>
  obtain ⟨k,hk,rfl,hX,hb⟩:=hrel
  have hXl:=blk_lt hX
  by_cases hlt:k<n
  ·have hki:(k:Int)<(n:Int):=by omega
   have HX:=hide hX
   have HB:=hide hb
   clear hX hb
   go_wp2_with fail
   refine (HG.out k hlt _ HB.out).mono ?_
   rintro e w1 ⟨rfl,hb1⟩
   have hX1:=(hb1.block _ hXl).trans HX.out
   have hxc:=blk_cell hX1 k
   rw [part_get R hlt] at hxc
   have hxf:=blk_frozen hX1 k
   have hXl1:=blk_lt hX1
   have HX1:=hide hX1
   have HB1:=hide (HB.out.trans (hb1.mono HB.out.size))
   clear hX1 hb1
   go_wp2
   go_roundw
   case rel =>
    refine ⟨k+1,by omega,by go_num,?_,HB1.out.setCell (p:=⟨w.heap.size,k,none⟩) (Nat.le_refl _) _⟩
    rw [blk_set _ HX1.out,← part_set R hlt]
    simp only [List.map_set,List.setIfInBounds_toArray]
   case measure=>simp [intOf];omega
  ·have ek:k=n:=by omega
   subst ek
   have HX:=hide hX
   have HB:=hide hb
   clear hX hb
   go_wp2
   go_ret
   refine ⟨_,rfl,⟨by simp,Or.inr ⟨w.heap.size,k,_,rfl,Nat.le_refl _,HX.out,Nat.le_refl _,by unfold maxLen;omega,by simp,?_⟩⟩,HB.out⟩
   rw [Nat.mul_one,List.toList_toArray,List.take_of_length_le (by simp)];simp
set_option maxRecDepth 100000 in
theorem each_any (R:Nat→Bool) (g:Nat) (cb:Array Value) (r:Int) (a:Option Addr) (L cap:Nat) (v2 v3 v4 v5:Value) (w:World) (hn:L≤256)
 (eg:∀ args w,(callFunc g args).run Tryz.prog w=.ok (.enter g args) w)
 (hg:∀ i,i<L→∀ W:World,Below w.heap.size w W→Calls Tryz.prog g (#[.int .i64 (i:Int)]++cb) W fun e w' =>e=.returned (.bool (R i))∧Below W.heap.size W w') :
 Calls Tryz.prog 158 #[.agg #[.int .i64 r,.slice a L cap,v2,v3,v4,v5],.func (.func g) #[] cb] w fun e w' =>∃ v,e=.returned v∧w'.ownsRow w.heap.size 4 1 v L (((List.range L).map R).map Value.bool)∧Below w.heap.size w w' :=by
 have hb0:Below w.heap.size w (w.alloc (.cells #[.int .i64 r,.slice a L cap,v2,v3,v4,v5] 195)):=(Below.refl _ w).alloc (Nat.le_refl _) _
 have hae:=askEach_any R g cb L (w.alloc (.cells #[.int .i64 r,.slice a L cap,v2,v3,v4,v5] 195)) hn eg (fun i hi W hW=>hg i hi W (hb0.trans (hW.mono hb0.size)))
 have HAE:=hide hae
 clear hae hg
 go_enter Tryz.func158,Tryz.ntmps158
 go_wp2_with fail
 refine HAE.out.mono ?_
 rintro e w1 ⟨v,rfl,hv,hb1⟩
 have HV:=hide hv
 clear hv
 go_wp2
 go_ret
 exact ⟨_,rfl,ownsRow_base HV.out hb0.size,hb0.trans (hb1.mono hb0.size)⟩
theorem none1_any (i:Int) (w:World):Calls Tryz.prog 183 #[.int .i64 i] w fun e w' =>e=.returned (.bool false)∧w' =w:=by
 go_enter Tryz.func183,Tryz.ntmps183
 go_wp2
 go_ret
 exact ⟨rfl,rfl⟩
theorem all1_any (i:Int) (w:World):Calls Tryz.prog 184 #[.int .i64 i] w fun e w' =>e=.returned (.bool true)∧w' =w:=by
 go_enter Tryz.func184,Tryz.ntmps184
 go_wp2
 go_ret
 exact ⟨rfl,rfl⟩
theorem map_const (b:Bool) (L:Nat):(List.range L).map (fun _=>b)=List.replicate L b:=by
 induction L with
 | zero=>rfl
 | succ n ih=>rw [List.range_succ,List.map_append,ih,List.replicate_succ'];rfl
set_option maxRecDepth 100000 in
theorem none_any (r:Int) (a:Option Addr) (L cap:Nat) (v2 v3 v4 v5:Value) (w:World) (hn:L≤256) :
 Calls Tryz.prog 163 #[.agg #[.int .i64 r,.slice a L cap,v2,v3,v4,v5]] w fun e w' =>∃ v,e=.returned v∧w'.ownsRow w.heap.size 4 1 v L ((nol L).map Value.bool)∧Below w.heap.size w w' :=by
 have eg:∀ args w,(callFunc 183 args).run Tryz.prog w=.ok (.enter 183 args) w:=enters_of Tryz.func183 (by kernel_rfl) rfl
 have hb0:Below w.heap.size w (w.alloc (.cells #[.int .i64 r,.slice a L cap,v2,v3,v4,v5] 195)):=(Below.refl _ w).alloc (Nat.le_refl _) _
 have hea:=each_any (fun _=>false) 183 #[] r a L cap v2 v3 v4 v5 (w.alloc (.cells #[.int .i64 r,.slice a L cap,v2,v3,v4,v5] 195)) hn eg (fun i hi W hW=>(none1_any i W).mono (by rintro e w' ⟨rfl,rfl⟩;exact ⟨rfl,Below.refl _ _⟩))
 rw [map_const] at hea
 have HEA:=hide hea
 clear hea
 go_enter Tryz.func163,Tryz.ntmps163
 go_wp2_with fail
 refine HEA.out.mono ?_
 rintro e w1 ⟨v,rfl,hv,hb1⟩
 have HV:=hide hv
 clear hv
 go_wp2
 go_ret
 exact ⟨_,rfl,ownsRow_base HV.out hb0.size,hb0.trans (hb1.mono hb0.size)⟩
set_option maxRecDepth 100000 in
theorem all_any (r:Int) (a:Option Addr) (L cap:Nat) (v2 v3 v4 v5:Value) (w:World) (hn:L≤256) :
 Calls Tryz.prog 164 #[.agg #[.int .i64 r,.slice a L cap,v2,v3,v4,v5]] w fun e w' =>∃ v,e=.returned v∧w'.ownsRow w.heap.size 4 1 v L ((yesl L).map Value.bool)∧Below w.heap.size w w' :=by
 have eg:∀ args w,(callFunc 184 args).run Tryz.prog w=.ok (.enter 184 args) w:=enters_of Tryz.func184 (by kernel_rfl) rfl
 have hb0:Below w.heap.size w (w.alloc (.cells #[.int .i64 r,.slice a L cap,v2,v3,v4,v5] 195)):=(Below.refl _ w).alloc (Nat.le_refl _) _
 have hea:=each_any (fun _=>true) 184 #[] r a L cap v2 v3 v4 v5 (w.alloc (.cells #[.int .i64 r,.slice a L cap,v2,v3,v4,v5] 195)) hn eg (fun i hi W hW=>(all1_any i W).mono (by rintro e w' ⟨rfl,rfl⟩;exact ⟨rfl,Below.refl _ _⟩))
 rw [map_const] at hea
 have HEA:=hide hea
 clear hea
 go_enter Tryz.func164,Tryz.ntmps164
 go_wp2_with fail
 refine HEA.out.mono ?_
 rintro e w1 ⟨v,rfl,hv,hb1⟩
 have HV:=hide hv
 clear hv
 go_wp2
 go_ret
 exact ⟨_,rfl,ownsRow_base HV.out hb0.size,hb0.trans (hb1.mono hb0.size)⟩
theorem sets_any (x:Nd) (w:World) :
 Calls Tryz.prog 82 #[.agg #[.int .i64 x.op,.int .i64 x.d,.int .i64 x.a,.int .i64 x.b,.int .i64 x.t,.int .i64 x.e]] w fun e w' =>∃ z,e=.returned (.tuple #[.int .i64 z,.bool (wi x.op 1 9)])∧(wi x.op 1 9=true→z=x.d)∧Below w.heap.size w w' :=by
 have hb0:Below w.heap.size w (w.alloc (.cells #[.int .i64 x.op,.int .i64 x.d,.int .i64 x.a,.int .i64 x.b,.int .i64 x.t,.int .i64 x.e] 48)):=(Below.refl _ w).alloc (Nat.le_refl _) _
 have hn:(w.alloc (.cells #[.int .i64 x.op,.int .i64 x.d,.int .i64 x.a,.int .i64 x.b,.int .i64 x.t,.int .i64 x.e] 48)).heap[w.heap.size]?=some (.cells #[.int .i64 x.op,.int .i64 x.d,.int .i64 x.a,.int .i64 x.b,.int .i64 x.t,.int .i64 x.e] 48 (0,0)):=World.alloc_heap_new w _
 go_enter Tryz.func82,Tryz.ntmps82
 go_wp2_with fail
 generalize (w.alloc (.cells #[.int .i64 x.op,.int .i64 x.d,.int .i64 x.a,.int .i64 x.b,.int .i64 x.t,.int .i64 x.e] 48))=W at hb0 hn ⊢
 refine (of_any _ _).mono ?_
 rintro e w1 ⟨rfl,hb1⟩
 have hn1:=(hb1.block _ (blk_lt hn)).trans hn
 have c1:=blk_cell hn1 1
 simp at c1
 have cl:=blk_lt hn1
 have HB:=hide (hb0.trans (hb1.mono hb0.size))
 clear hn hn1 hb1 hb0
 have HK:Hid (k0 x.op=if wi x.op 1 9 then 1 else 0):=rfl
 generalize k0 x.op=K at HK ⊢
 cases hw:wi x.op 1 9
 ·obtain rfl:K=0:=by rw [HK.out,hw];rfl
  have HQ:=hide hw
  clear hw
  go_wp2
  go_ret2
  exact ⟨0,by rw [HQ.out];rfl,(fun h=>by rw [HQ.out] at h;cases h),HB.out.alloc HB.out.size _⟩
 ·obtain rfl:K=1:=by rw [HK.out,hw];rfl
  have HQ:=hide hw
  clear hw
  go_wp2
  go_ret2
  exact ⟨x.d,by rw [HQ.out];rfl,(fun _=>rfl),HB.out.alloc HB.out.size _⟩
theorem keeps_any (x:Nd) (t:Tm) (w:World) :
 Calls Tryz.prog 161 #[.agg #[.int .i64 x.op,.int .i64 x.d,.int .i64 x.a,.int .i64 x.b,.int .i64 x.t,.int .i64 x.e],.agg #[.int .i64 t.op,.int .i64 t.a,.int .i64 t.b]] w fun e w' =>e=.returned (.bool (kpB t x))∧Below w.heap.size w w' :=by
 have hb0:Below w.heap.size w ((w.alloc (.cells #[.int .i64 x.op,.int .i64 x.d,.int .i64 x.a,.int .i64 x.b,.int .i64 x.t,.int .i64 x.e] 48)).alloc (.cells #[.int .i64 t.op,.int .i64 t.a,.int .i64 t.b] 57)):=((Below.refl _ w).alloc (Nat.le_refl _) _).alloc (by simp) _
 have hn:((w.alloc (.cells #[.int .i64 x.op,.int .i64 x.d,.int .i64 x.a,.int .i64 x.b,.int .i64 x.t,.int .i64 x.e] 48)).alloc (.cells #[.int .i64 t.op,.int .i64 t.a,.int .i64 t.b] 57)).heap[w.heap.size+1]?=some (.cells #[.int .i64 t.op,.int .i64 t.a,.int .i64 t.b] 57 (0,0)):=by
  have:=World.alloc_heap_new (w.alloc (.cells #[.int .i64 x.op,.int .i64 x.d,.int .i64 x.a,.int .i64 x.b,.int .i64 x.t,.int .i64 x.e] 48)) (.cells #[.int .i64 t.op,.int .i64 t.a,.int .i64 t.b] 57)
  rwa [World.size_alloc] at this
 go_enter Tryz.func161,Tryz.ntmps161
 go_wp2_with fail
 generalize ((w.alloc (.cells #[.int .i64 x.op,.int .i64 x.d,.int .i64 x.a,.int .i64 x.b,.int .i64 x.t,.int .i64 x.e] 48)).alloc (.cells #[.int .i64 t.op,.int .i64 t.a,.int .i64 t.b] 57))=W at hb0 hn ⊢
 refine (sets_any x _).mono ?_
 rintro e w1 ⟨z,rfl,hz,hb1⟩
 have hn1:=(hb1.block _ (blk_lt hn)).trans hn
 have c1:=blk_cell hn1 1
 have c2:=blk_cell hn1 2
 simp at c1 c2
 have cl:=blk_lt hn1
 have HB:=hide (hb0.trans (hb1.mono hb0.size))
 clear hn hn1 hb1 hb0
 have HK:Hid (kpB t x=(!wi x.op 1 9||(x.d != t.a&&x.d != t.b))):=rfl
 generalize wi x.op 1 9=Q at HK hz ⊢
 cases Q
 ·go_wp2
  go_ret
  exact ⟨ret_bool (by rw [HK.out];rfl),HB.out⟩
 ·obtain rfl:=hz rfl
  by_cases h1:x.d=t.a
  ·go_wp2
   go_ret
   exact ⟨ret_bool (by rw [HK.out];simp [h1]),HB.out⟩
  ·by_cases h2:x.d=t.b
   ·go_wp2
    go_ret
    exact ⟨ret_bool (by rw [HK.out];simp [h2]),HB.out⟩
   ·go_wp2
    go_ret
    exact ⟨ret_bool (by rw [HK.out];simp [h1,h2]),HB.out⟩
theorem sreckons_any (x:Nd) (t:Tm) (w:World) (ht:3≤t.op∧t.op≤8) :
 Calls Tryz.prog 106 #[.agg #[.int .i64 x.op,.int .i64 x.d,.int .i64 x.a,.int .i64 x.b,.int .i64 x.t,.int .i64 x.e],.agg #[.int .i64 t.op,.int .i64 t.a,.int .i64 t.b]] w fun e w' =>e=.returned (.bool (rcB t x))∧Below w.heap.size w w' :=by
 have hb0:Below w.heap.size w ((w.alloc (.cells #[.int .i64 x.op,.int .i64 x.d,.int .i64 x.a,.int .i64 x.b,.int .i64 x.t,.int .i64 x.e] 48)).alloc (.cells #[.int .i64 t.op,.int .i64 t.a,.int .i64 t.b] 57)):=((Below.refl _ w).alloc (Nat.le_refl _) _).alloc (by simp) _
 have hn:((w.alloc (.cells #[.int .i64 x.op,.int .i64 x.d,.int .i64 x.a,.int .i64 x.b,.int .i64 x.t,.int .i64 x.e] 48)).alloc (.cells #[.int .i64 t.op,.int .i64 t.a,.int .i64 t.b] 57)).heap[w.heap.size+1]?=some (.cells #[.int .i64 t.op,.int .i64 t.a,.int .i64 t.b] 57 (0,0)):=by
  have:=World.alloc_heap_new (w.alloc (.cells #[.int .i64 x.op,.int .i64 x.d,.int .i64 x.a,.int .i64 x.b,.int .i64 x.t,.int .i64 x.e] 48)) (.cells #[.int .i64 t.op,.int .i64 t.a,.int .i64 t.b] 57)
  rwa [World.size_alloc] at this
 have HR:Hid (rcB t x=(x.op==t.op&&x.a==t.a&&x.b==t.b)):=rfl
 have HT:=hide ht
 clear ht
 go_enter Tryz.func106,Tryz.ntmps106
 go_wp2_with fail
 generalize ((w.alloc (.cells #[.int .i64 x.op,.int .i64 x.d,.int .i64 x.a,.int .i64 x.b,.int .i64 x.t,.int .i64 x.e] 48)).alloc (.cells #[.int .i64 t.op,.int .i64 t.a,.int .i64 t.b] 57))=W at hb0 hn ⊢
 by_cases hq:3≤x.op∧x.op≤8
 ·refine (term_yes _ _ _ _ _ _ _ hq.1 hq.2).mono ?_
  rintro e w1 ⟨rfl,hb1⟩
  have hn1:=(hb1.block _ (blk_lt hn)).trans hn
  have c0:=blk_cell hn1 0
  have c1:=blk_cell hn1 1
  have c2:=blk_cell hn1 2
  simp at c0 c1 c2
  have cl:=blk_lt hn1
  have HB:=hide (hb0.trans (hb1.mono hb0.size))
  clear hn hn1 hb1 hb0 hq
  by_cases h1:x.op=t.op
  ·by_cases h2:x.a=t.a
   ·by_cases h3:x.b=t.b
    ·go_wp2
     go_ret
     exact ⟨ret_bool (by rw [HR.out];simp [h1,h2,h3]),HB.out.alloc HB.out.size _⟩
    ·go_wp2
     go_ret
     exact ⟨ret_bool (by rw [HR.out];simp [h3]),HB.out.alloc HB.out.size _⟩
   ·go_wp2
    go_ret
    exact ⟨ret_bool (by rw [HR.out];simp [h2]),HB.out.alloc HB.out.size _⟩
  ·go_wp2
   go_ret
   exact ⟨ret_bool (by rw [HR.out];simp [h1]),HB.out.alloc HB.out.size _⟩
 ·refine (term_no _ _ _ _ _ _ _ (by omega)).mono ?_
  rintro e w1 ⟨rfl,hb1⟩
  have HB:=hide (hb0.trans (hb1.mono hb0.size))
  have hne:(x.op==t.op)=false:=by have:=HT.out;rw [beq_eq_false_iff_ne];omega
  have HN:=hide hne
  clear hn hb1 hb0 hq hne
  go_wp2
  go_ret
  exact ⟨ret_bool (by rw [HR.out,HN.out];rfl),HB.out.alloc HB.out.size _⟩
set_option maxRecDepth 100000 in
theorem ssolve_any (r:Int) (b off cap:Nat) (ns:List Nd) (f:Flw) (a1 a2 a3 a4:Option Addr) (c1 c2 c3 c4:Nat) (v2 v3 v4 v5:Value) (w:World) (hN:NodesAt w b off ns) (hc:fchk r ns f=0) (h1:BoolsAt w a1 f.gen) (h2:BoolsAt w a2 f.pass) (h3:BoolsAt w a3 f.plus) (h4:BoolsAt w a4 f.lets) :
 Calls Tryz.prog 162 #[.agg #[.int .i64 r,.slice (some ⟨b,off,none⟩) ns.length cap,v2,v3,v4,v5],.agg #[.bool f.back,.bool f.empty,.slice a1 f.gen.length c1,.slice a2 f.pass.length c2,.slice a3 f.plus.length c3,.slice a4 f.lets.length c4]] w fun e w' =>∃ v,e=.returned v∧w'.ownsRow w.heap.size 4 1 v ns.length ((solve ns f).map Value.bool)∧Below w.heap.size w w' :=by
 have hb0:Below w.heap.size w ((w.alloc (.cells #[.int .i64 r,.slice (some ⟨b,off,none⟩) ns.length cap,v2,v3,v4,v5] 195)).alloc (.cells #[.bool f.back,.bool f.empty,.slice a1 f.gen.length c1,.slice a2 f.pass.length c2,.slice a3 f.plus.length c3,.slice a4 f.lets.length c4] 222)):=((Below.refl _ w).alloc (Nat.le_refl _) _).alloc (by simp) _
 have hsv:=solve_right r b off cap ns f a1 a2 a3 a4 c1 c2 c3 c4 _ (hN.below hb0 hN.lt) hc (h1.below hb0) (h2.below hb0) (h3.below hb0) (h4.below hb0)
 have HSV:=hide hsv
 clear hsv hN hc h1 h2 h3 h4
 go_enter Tryz.func162,Tryz.ntmps162
 go_wp2_with fail
 refine HSV.out.mono ?_
 rintro e w1 ⟨v,rfl,hv,hb1⟩
 have HV:=hide hv
 clear hv
 go_wp2
 go_ret
 exact ⟨_,rfl,ownsRow_base HV.out hb0.size,hb0.trans (hb1.mono hb0.size)⟩
theorem notR1_any (m B k:Nat) (rk:List Bool) (ka:Option Addr) (kc:Nat) (w:World) (h4:w.cell? ⟨B,4,none⟩=some (.slice ka k kc)) (hB:B<w.heap.size) (hk:BoolsAt w ka rk) (e1:rk.length=k) (hm:m<k) :
 Calls Tryz.prog 185 #[.int .i64 m,.pointer (some ⟨B,0,none⟩)] w fun e w' =>e=.returned (.bool (!bat rk m))∧w' =w:=by
 obtain ⟨b3,o3,rfl,l3,v3⟩:=bools_cell hk (k:=m) (by omega)
 have hmi:(m:Int)<(k:Int):=by omega
 generalize bat rk m=P at v3 ⊢
 clear hk e1
 go_enter Tryz.func185,Tryz.ntmps185
 go_wp2
 go_ret
 exact ⟨rfl,rfl⟩
set_option maxRecDepth 100000 in
theorem notReckoning_any (r:Int) (b off cap:Nat) (ns:List Nd) (rk:List Bool) (ka:Option Addr) (kc:Nat) (v2 v3 v5:Value) (w:World) (hk:BoolsAt w ka rk) (e1:rk.length=ns.length) (hn:ns.length≤256) :
 Calls Tryz.prog 168 #[.agg #[.int .i64 r,.slice (some ⟨b,off,none⟩) ns.length cap,v2,v3,.slice ka ns.length kc,v5]] w fun e w' =>∃ v,e=.returned v∧w'.ownsRow w.heap.size 4 1 v ns.length (((List.range ns.length).map fun n=>!bat rk n).map Value.bool)∧Below w.heap.size w w' :=by
 have eg:∀ args w,(callFunc 185 args).run Tryz.prog w=.ok (.enter 185 args) w:=enters_of Tryz.func185 (by kernel_rfl) rfl
 have hb0:Below w.heap.size w (w.alloc (.cells #[.int .i64 r,.slice (some ⟨b,off,none⟩) ns.length cap,v2,v3,.slice ka ns.length kc,v5] 195)):=(Below.refl _ w).alloc (Nat.le_refl _) _
 have hs:(w.alloc (.cells #[.int .i64 r,.slice (some ⟨b,off,none⟩) ns.length cap,v2,v3,.slice ka ns.length kc,v5] 195)).heap[w.heap.size]?=some (.cells #[.int .i64 r,.slice (some ⟨b,off,none⟩) ns.length cap,v2,v3,.slice ka ns.length kc,v5] 195 (0,0)):=World.alloc_heap_new w _
 have hea:=each_any (fun n=>!bat rk n) 185 #[.pointer (some ⟨w.heap.size,0,none⟩)] r (some ⟨b,off,none⟩) ns.length cap v2 v3 (.slice ka ns.length kc) v5 (w.alloc (.cells #[.int .i64 r,.slice (some ⟨b,off,none⟩) ns.length cap,v2,v3,.slice ka ns.length kc,v5] 195)) hn eg (fun i hi W hW=>by
  have hs1:=(hW.block _ (blk_lt hs)).trans hs
  refine (notR1_any i w.heap.size ns.length rk ka kc W (by rw [blk_cell hs1];rfl) (blk_lt hs1) (hk.below (hb0.trans (hW.mono hb0.size))) e1 hi).mono ?_
  rintro e w' ⟨rfl,rfl⟩
  exact ⟨rfl,Below.refl _ _⟩)
 have HEA:=hide hea
 clear hea hs
 go_enter Tryz.func168,Tryz.ntmps168
 go_wp2_with fail
 refine HEA.out.mono ?_
 rintro e w1 ⟨v,rfl,hv,hb1⟩
 have HV:=hide hv
 clear hv
 go_wp2
 go_ret
 exact ⟨_,rfl,ownsRow_base HV.out hb0.size,hb0.trans (hb1.mono hb0.size)⟩
set_option maxRecDepth 100000 in
theorem look1_any (i P T:Nat) (r:Int) (b off cap:Nat) (ns:List Nd) (t:Tm) (w:World) (hN:NodesAt w b off ns) (hi:i<ns.length) (hP:w.heap[P]?=some (.cells #[.int .i64 r,.slice (some ⟨b,off,none⟩) ns.length cap] 24 (0,0))) (hT:w.heap[T]?=some (.cells #[.int .i64 t.op,.int .i64 t.a,.int .i64 t.b] 57 (0,0))) (ht:3≤t.op∧t.op≤8) :
 Calls Tryz.prog 159 #[.int .i64 i,.pointer (some ⟨P,0,none⟩),.pointer (some ⟨T,0,none⟩)] w fun e w' =>e=.returned (.bool (bat (ns.map (rcB t)) i))∧Below w.heap.size w w' :=by
 obtain ⟨x,hx⟩:=get_lt hi
 have hb:bat (ns.map (rcB t)) i=rcB t x:=bat_mapn hx
 have hii:(i:Int)<(ns.length:Int):=by omega
 have HS:Hid (∀ u:World,Below w.heap.size w u→u.cell? ⟨P,0,none⟩=some (.int .i64 r)∧u.cell? ⟨P,1,none⟩=some (.slice (some ⟨b,off,none⟩) ns.length cap)∧u.cell? ⟨T,0,none⟩=some (.int .i64 t.op)∧u.cell? ⟨T,1,none⟩=some (.int .i64 t.a)∧u.cell? ⟨T,2,none⟩=some (.int .i64 t.b)∧u.cell? ⟨b,off+i*6,none⟩=some (.int .i64 x.op)∧u.cell? ⟨b,off+i*6+1,none⟩=some (.int .i64 x.d)∧u.cell? ⟨b,off+i*6+2,none⟩=some (.int .i64 x.a)∧u.cell? ⟨b,off+i*6+3,none⟩=some (.int .i64 x.b)∧u.cell? ⟨b,off+i*6+4,none⟩=some (.int .i64 x.t)∧u.cell? ⟨b,off+i*6+5,none⟩=some (.int .i64 x.e)):=fun u h=>by
  have k1:=(h.block _ (blk_lt hP)).trans hP
  have k2:=(h.block _ (blk_lt hT)).trans hT
  have k3:=hN.below h hN.lt
  refine ⟨?_,?_,?_,?_,?_,k3.c0 i x hx,k3.c1 i x hx,k3.c2 i x hx,k3.c3 i x hx,k3.c4 i x hx,k3.c5 i x hx⟩
  ·rw [blk_cell k1];rfl
  ·rw [blk_cell k1];rfl
  ·rw [blk_cell k2];rfl
  ·rw [blk_cell k2];rfl
  ·rw [blk_cell k2];rfl
 have pl:=blk_lt hP
 have tl:=blk_lt hT
 have bl:=hN.lt
 have HBI:=hide hb
 have HT:=hide ht
 clear hP hT hN hx hb ht
 go_enter Tryz.func159,Tryz.ntmps159
 go_upto_region 1 with fail
 go_region_held3 (fun u=>u.cell? ⟨P,0,none⟩=some (.int .i64 r)∧u.cell? ⟨P,1,none⟩=some (.slice (some ⟨b,off,none⟩) ns.length cap)∧u.cell? ⟨T,0,none⟩=some (.int .i64 t.op)∧u.cell? ⟨T,1,none⟩=some (.int .i64 t.a)∧u.cell? ⟨T,2,none⟩=some (.int .i64 t.b)∧u.cell? ⟨b,off+i*6,none⟩=some (.int .i64 x.op)∧u.cell? ⟨b,off+i*6+1,none⟩=some (.int .i64 x.d)∧u.cell? ⟨b,off+i*6+2,none⟩=some (.int .i64 x.a)∧u.cell? ⟨b,off+i*6+3,none⟩=some (.int .i64 x.b)∧u.cell? ⟨b,off+i*6+4,none⟩=some (.int .i64 x.t)∧u.cell? ⟨b,off+i*6+5,none⟩=some (.int .i64 x.e)) (first
  | (with_reducible refine HS.out _ ?_;first | with_reducible exact hB2 | with_reducible exact (Below.refl _ w).drew | with_reducible exact (Below.refl _ w))) (first
  | (go_at_call 106;refine (sreckons_any x t _ HT.out).mono ?_;rintro e wa ⟨rfl,hba⟩;have hB2:Below w.heap.size w wa:=(by first | exact (Below.refl _ w).drew.trans hba | exact hba)))
 go_wp2
 go_ret
 exact ⟨ret_bool HBI.out.symm,hB2⟩
set_option maxRecDepth 100000 in
theorem look2_any (i P T:Nat) (r:Int) (b off cap:Nat) (ns:List Nd) (t:Tm) (w:World) (hN:NodesAt w b off ns) (hi:i<ns.length) (hP:w.heap[P]?=some (.cells #[.int .i64 r,.slice (some ⟨b,off,none⟩) ns.length cap] 24 (0,0))) (hT:w.heap[T]?=some (.cells #[.int .i64 t.op,.int .i64 t.a,.int .i64 t.b] 57 (0,0))) (ht:3≤t.op∧t.op≤8) :
 Calls Tryz.prog 160 #[.int .i64 i,.pointer (some ⟨P,0,none⟩),.pointer (some ⟨T,0,none⟩)] w fun e w' =>e=.returned (.bool (bat (ns.map (kpB t)) i))∧Below w.heap.size w w' :=by
 obtain ⟨x,hx⟩:=get_lt hi
 have hb:bat (ns.map (kpB t)) i=kpB t x:=bat_mapn hx
 have hii:(i:Int)<(ns.length:Int):=by omega
 have HS:Hid (∀ u:World,Below w.heap.size w u→u.cell? ⟨P,0,none⟩=some (.int .i64 r)∧u.cell? ⟨P,1,none⟩=some (.slice (some ⟨b,off,none⟩) ns.length cap)∧u.cell? ⟨T,0,none⟩=some (.int .i64 t.op)∧u.cell? ⟨T,1,none⟩=some (.int .i64 t.a)∧u.cell? ⟨T,2,none⟩=some (.int .i64 t.b)∧u.cell? ⟨b,off+i*6,none⟩=some (.int .i64 x.op)∧u.cell? ⟨b,off+i*6+1,none⟩=some (.int .i64 x.d)∧u.cell? ⟨b,off+i*6+2,none⟩=some (.int .i64 x.a)∧u.cell? ⟨b,off+i*6+3,none⟩=some (.int .i64 x.b)∧u.cell? ⟨b,off+i*6+4,none⟩=some (.int .i64 x.t)∧u.cell? ⟨b,off+i*6+5,none⟩=some (.int .i64 x.e)):=fun u h=>by
  have k1:=(h.block _ (blk_lt hP)).trans hP
  have k2:=(h.block _ (blk_lt hT)).trans hT
  have k3:=hN.below h hN.lt
  refine ⟨?_,?_,?_,?_,?_,k3.c0 i x hx,k3.c1 i x hx,k3.c2 i x hx,k3.c3 i x hx,k3.c4 i x hx,k3.c5 i x hx⟩
  ·rw [blk_cell k1];rfl
  ·rw [blk_cell k1];rfl
  ·rw [blk_cell k2];rfl
  ·rw [blk_cell k2];rfl
  ·rw [blk_cell k2];rfl
 have pl:=blk_lt hP
 have tl:=blk_lt hT
 have bl:=hN.lt
 have HBI:=hide hb
 have HT:=hide ht
 clear hP hT hN hx hb ht
 go_enter Tryz.func160,Tryz.ntmps160
 go_upto_region 1 with fail
 go_region_held3 (fun u=>u.cell? ⟨P,0,none⟩=some (.int .i64 r)∧u.cell? ⟨P,1,none⟩=some (.slice (some ⟨b,off,none⟩) ns.length cap)∧u.cell? ⟨T,0,none⟩=some (.int .i64 t.op)∧u.cell? ⟨T,1,none⟩=some (.int .i64 t.a)∧u.cell? ⟨T,2,none⟩=some (.int .i64 t.b)∧u.cell? ⟨b,off+i*6,none⟩=some (.int .i64 x.op)∧u.cell? ⟨b,off+i*6+1,none⟩=some (.int .i64 x.d)∧u.cell? ⟨b,off+i*6+2,none⟩=some (.int .i64 x.a)∧u.cell? ⟨b,off+i*6+3,none⟩=some (.int .i64 x.b)∧u.cell? ⟨b,off+i*6+4,none⟩=some (.int .i64 x.t)∧u.cell? ⟨b,off+i*6+5,none⟩=some (.int .i64 x.e)) (first
  | (with_reducible refine HS.out _ ?_;first | with_reducible exact hB2 | with_reducible exact (Below.refl _ w).drew | with_reducible exact (Below.refl _ w))) (first
  | (go_at_call 161;refine (keeps_any x t _).mono ?_;rintro e wa ⟨rfl,hba⟩;have hB2:Below w.heap.size w wa:=(by first | exact (Below.refl _ w).drew.trans hba | exact hba)))
 go_wp2
 go_ret
 exact ⟨ret_bool HBI.out.symm,hB2⟩
structure SM (w:World) (ns:List Nd) (t:Tm) (rb1 rb2:Nat) (ka pa:Option Addr):Prop where
 nx:RowsR w rb1 ns.length (nxl ns)
 ah:RowsR w rb2 ns.length (ahl ns)
 rk:BoolsAt w ka (rcl ns t)
 kp:BoolsAt w pa (kpl ns t)
theorem SM.below {w w' :World} {ns:List Nd} {t:Tm} {rb1 rb2:Nat} {ka pa:Option Addr} (h:SM w ns t rb1 rb2 ka pa) (hb:Below w.heap.size w w'):SM w' ns t rb1 rb2 ka pa :=
 ⟨h.nx.below hb,h.ah.below hb,h.rk.below hb,h.kp.below hb⟩
theorem fchk_of {r:Int} {ns:List Nd} {f:Flw} (hc:chk r ns=0) (h1:f.gen.length=ns.length) (h2:f.pass.length=ns.length) (h3:f.plus.length=ns.length) (h4:f.lets.length=ns.length):fchk r ns f=0:=by
 simp [fchk,hc,fits,h1,h2,h3,h4]
theorem rcl_len (ns:List Nd) (t:Tm):(rcl ns t).length=ns.length:=by simp [rcl]
theorem kpl_len (ns:List Nd) (t:Tm):(kpl ns t).length=ns.length:=by simp [kpl]
theorem nol_len (k:Nat):(nol k).length=k:=by simp [nol]
theorem yesl_len (k:Nat):(yesl k).length=k:=by simp [yesl]
theorem nrcl_len (ns:List Nd) (t:Tm):(nrcl ns t).length=ns.length:=by simp [nrcl]
theorem bothl_len (ns:List Nd) (t:Tm):(bothl ns t).length=ns.length:=by simp [bothl]
theorem nrcl_eq (ns:List Nd) (t:Tm):((List.range ns.length).map fun n=>!bat (rcl ns t) n)=nrcl ns t:=by
 refine bat_ext (by simp [nrcl]) fun n hn=>?_
 have hn' :n<ns.length:=by simpa using hn
 obtain ⟨x,hx⟩:=get_lt hn'
 rw [bat_map _ hn', rcl,nrcl,bat_mapn hx,bat_mapn hx]
theorem bools_owned {w:World} {base n:Nat} {a:Option Addr} {c:Nat} {zs:List Bool} (h:w.ownsRow base 4 1 (.slice a n c) n (zs.map Value.bool)) (hl:zs.length=n):BoolsAt w a zs:=by
 subst hl
 obtain ⟨_,_,e,hb⟩:=bools_of_owns h
 cases e
 exact hb
theorem ssolveL_any (r:Int) (b off cap:Nat) (ns:List Nd) (f:Flw) (a1 a2 a3 a4:Option Addr) (c1 c2 c3 c4:Nat) (v2 v3 v4 v5:Value) (w:World) (hN:NodesAt w b off ns) (hc:fchk r ns f=0) (h1:BoolsAt w a1 f.gen) (h2:BoolsAt w a2 f.pass) (h3:BoolsAt w a3 f.plus) (h4:BoolsAt w a4 f.lets) :
 Calls Tryz.prog 162 #[.agg #[.int .i64 r,.slice (some ⟨b,off,none⟩) ns.length cap,v2,v3,v4,v5],.agg #[.bool f.back,.bool f.empty,.slice a1 ns.length c1,.slice a2 ns.length c2,.slice a3 ns.length c3,.slice a4 ns.length c4]] w fun e w' =>∃ v,e=.returned v∧w'.ownsRow w.heap.size 4 1 v ns.length ((solve ns f).map Value.bool)∧Below w.heap.size w w' :=by
 have h:=ssolve_any r b off cap ns f a1 a2 a3 a4 c1 c2 c3 c4 v2 v3 v4 v5 w hN hc h1 h2 h3 h4
 obtain ⟨_,e1,e2,e3,e4⟩:=fchk_zero hc
 rw [e1,e2,e3,e4] at h
 exact h
set_option maxRecDepth 100000 in
theorem down_any (r:Int) (b off cap:Nat) (ns:List Nd) (t:Tm) (rb1 rb2:Nat) (ka pa:Option Addr) (kc pc:Nat) (w:World) (hN:NodesAt w b off ns) (hc:chk r ns=0) (hM:SM w ns t rb1 rb2 ka pa) :
 Calls Tryz.prog 135 #[.agg #[.int .i64 r,.slice (some ⟨b,off,none⟩) ns.length cap,.slice (some ⟨rb1,0,none⟩) ns.length ns.length,.slice (some ⟨rb2,0,none⟩) ns.length ns.length,.slice ka ns.length kc,.slice pa ns.length pc]] w fun e w' =>∃ v,e=.returned v∧w'.ownsRow w.heap.size 4 1 v ns.length ((downL ns t).map Value.bool)∧Below w.heap.size w w' :=by
 have hl:=(chk_zero hc).1
 have hfc:fchk r ns (downW ns t)=0:=fchk_of hc (rcl_len ns t) (kpl_len ns t) (nol_len _) (yesl_len _)
 have hbA:Below w.heap.size w (w.alloc (.cells #[.int .i64 r,.slice (some ⟨b,off,none⟩) ns.length cap,.slice (some ⟨rb1,0,none⟩) ns.length ns.length,.slice (some ⟨rb2,0,none⟩) ns.length ns.length,.slice ka ns.length kc,.slice pa ns.length pc] 195)):=(Below.refl _ w).alloc (Nat.le_refl _) _
 have hs:(w.alloc (.cells #[.int .i64 r,.slice (some ⟨b,off,none⟩) ns.length cap,.slice (some ⟨rb1,0,none⟩) ns.length ns.length,.slice (some ⟨rb2,0,none⟩) ns.length ns.length,.slice ka ns.length kc,.slice pa ns.length pc] 195)).heap[w.heap.size]?=some (.cells #[.int .i64 r,.slice (some ⟨b,off,none⟩) ns.length cap,.slice (some ⟨rb1,0,none⟩) ns.length ns.length,.slice (some ⟨rb2,0,none⟩) ns.length ns.length,.slice ka ns.length kc,.slice pa ns.length pc] 195 (0,0)):=World.alloc_heap_new w _
 go_enter Tryz.func135,Tryz.ntmps135
 go_upto_region 1 with fail
 generalize (w.alloc (.cells #[.int .i64 r,.slice (some ⟨b,off,none⟩) ns.length cap,.slice (some ⟨rb1,0,none⟩) ns.length ns.length,.slice (some ⟨rb2,0,none⟩) ns.length ns.length,.slice ka ns.length kc,.slice pa ns.length pc] 195))=W at hbA hs ⊢
 have HS:Hid (∀ u:World,Below W.heap.size W u→u.cell? ⟨w.heap.size,0,none⟩=some (.int .i64 r)∧u.cell? ⟨w.heap.size,1,none⟩=some (.slice (some ⟨b,off,none⟩) ns.length cap)∧u.cell? ⟨w.heap.size,2,none⟩=some (.slice (some ⟨rb1,0,none⟩) ns.length ns.length)∧u.cell? ⟨w.heap.size,3,none⟩=some (.slice (some ⟨rb2,0,none⟩) ns.length ns.length)∧u.cell? ⟨w.heap.size,4,none⟩=some (.slice ka ns.length kc)∧u.cell? ⟨w.heap.size,5,none⟩=some (.slice pa ns.length pc)):=fun u h=>by
  have k1:=(h.block _ (blk_lt hs)).trans hs
  refine ⟨?_,?_,?_,?_,?_,?_⟩
  ·rw [blk_cell k1];rfl
  ·rw [blk_cell k1];rfl
  ·rw [blk_cell k1];rfl
  ·rw [blk_cell k1];rfl
  ·rw [blk_cell k1];rfl
  ·rw [blk_cell k1];rfl
 have HSV:Hid (∀ (u:World),Below W.heap.size W u→∀ (na ya:Option Addr) (nc yc:Nat),BoolsAt u na (nol ns.length)→BoolsAt u ya (yesl ns.length)→Calls Tryz.prog 162 #[.agg #[.int .i64 r,.slice (some ⟨b,off,none⟩) ns.length cap,.slice (some ⟨rb1,0,none⟩) ns.length ns.length,.slice (some ⟨rb2,0,none⟩) ns.length ns.length,.slice ka ns.length kc,.slice pa ns.length pc],.agg #[.bool true,.bool false,.slice ka ns.length kc,.slice pa ns.length pc,.slice na ns.length nc,.slice ya ns.length yc]] u fun e w' =>∃ v,e=.returned v∧w'.ownsRow u.heap.size 4 1 v ns.length ((downL ns t).map Value.bool)∧Below u.heap.size u w'):=fun u h na ya nc yc h3 h4=>by
  have hu:=hbA.trans (h.mono hbA.size)
  have hm:=hM.below hu
  exact ssolveL_any r b off cap ns (downW ns t) ka pa na ya kc pc nc yc _ _ _ _ u (hN.below hu hN.lt) hfc hm.rk hm.kp h3 h4
 have HW:=hide hbA
 have sl:=blk_lt hs
 clear hs hbA hM hN hc hfc
 go_region_held3 (fun u=>u.cell? ⟨w.heap.size,0,none⟩=some (.int .i64 r)∧u.cell? ⟨w.heap.size,1,none⟩=some (.slice (some ⟨b,off,none⟩) ns.length cap)∧u.cell? ⟨w.heap.size,2,none⟩=some (.slice (some ⟨rb1,0,none⟩) ns.length ns.length)∧u.cell? ⟨w.heap.size,3,none⟩=some (.slice (some ⟨rb2,0,none⟩) ns.length ns.length)∧u.cell? ⟨w.heap.size,4,none⟩=some (.slice ka ns.length kc)∧u.cell? ⟨w.heap.size,5,none⟩=some (.slice pa ns.length pc)) (first
  | (with_reducible refine HS.out _ ?_;first | with_reducible exact hB3 | with_reducible exact hB2 | with_reducible exact hB1 | with_reducible exact (Below.refl _ W).drew | with_reducible exact (Below.refl _ W))) (first
  | (go_at_call 163;refine (none_any r _ ns.length cap _ _ _ _ _ hl.2).mono ?_;rintro e wa ⟨va,rfl,hva,hba⟩;obtain ⟨na,nc,rfl⟩:=owns_slice hva;have hB1:Below W.heap.size W wa:=(by first | exact (Below.refl _ W).drew.trans hba | exact hba))
  | (go_at_call 164;refine (all_any r _ ns.length cap _ _ _ _ _ hl.2).mono ?_;rintro e wb ⟨vb,rfl,hvb,hbb⟩;obtain ⟨ya,yc,rfl⟩:=owns_slice hvb;have hB2:Below W.heap.size W wb:=hB1.trans (hbb.mono hB1.size))
  | (go_at_call 162;refine (HSV.out _ hB2 na ya nc yc (bools_owned (ownsRow_below hva hbb (Nat.le_refl _)) (nol_len _)) (bools_owned hvb (yesl_len _))).mono ?_;rintro e wd ⟨vd,rfl,hvd,hbd⟩;have hB3:Below W.heap.size W wd:=hB2.trans (hbd.mono hB2.size)))
 have HVD:=hide hvd
 have HB3:=hide hB3
 have hle:w.heap.size≤wb.heap.size:=Nat.le_trans HW.out.size hB2.size
 clear hvd hva hvb hba hbb hbd hB1 hB2 hB3
 go_wp2
 go_ret
 exact ⟨_,rfl,ownsRow_base HVD.out hle,HW.out.trans (HB3.out.mono HW.out.size)⟩
theorem lazy1_any (m B k:Nat) (ys zs:List Bool) (ya za:Option Addr) (yc zc:Nat) (w:World) (h4:w.cell? ⟨B,4,none⟩=some (.slice ya k yc)) (h5:w.cell? ⟨B,5,none⟩=some (.slice za k zc)) (hB:B<w.heap.size) (hy:BoolsAt w ya ys) (hz:BoolsAt w za zs) (e1:ys.length=k) (e2:zs.length=k) (hm:m<k) :
 Calls Tryz.prog 104 #[.int .i64 m,.pointer (some ⟨B,0,none⟩)] w fun e w' =>e=.returned (.bool (bat ys m&&!bat zs m))∧w' =w:=by
 obtain ⟨b3,o3,rfl,l3,v3⟩:=bools_cell hy (k:=m) (by omega)
 obtain ⟨b4,o4,rfl,l4,v4⟩:=bools_cell hz (k:=m) (by omega)
 have hmi:(m:Int)<(k:Int):=by omega
 generalize bat ys m=P at v3 ⊢
 generalize bat zs m=Q at v4 ⊢
 clear hy hz e1 e2
 cases P
 ·go_enter Tryz.func104,Tryz.ntmps104
  go_wp2
  go_ret
  exact ⟨rfl,rfl⟩
 ·go_enter Tryz.func104,Tryz.ntmps104
  go_wp2
  go_ret
  exact ⟨rfl,rfl⟩
theorem PM1 {α:Type} (l:List α) (i:Nat) (a:α):l.toArray.setIfInBounds i a=(l.set i a).toArray:=List.setIfInBounds_toArray l i a
theorem PM2 {α:Type} {x a:α} {xs:List α}:(x::xs).set 0 a=a::xs:=rfl
theorem PM3 {α:Type} {x a:α} {i:Nat} {xs:List α}:(x::xs).set (i+1) a=x::xs.set i a:=rfl
set_option maxRecDepth 100000 in
theorem lazy2_any (i P T D:Nat) (r:Int) (b off cap:Nat) (ns:List Nd) (t:Tm) (ys zs:List Bool) (da ea:Option Addr) (dc ec:Nat) (w:World) (hN:NodesAt w b off ns) (hi:i<ns.length) (hP:w.heap[P]?=some (.cells #[.int .i64 r,.slice (some ⟨b,off,none⟩) ns.length cap] 24 (0,0))) (hT:w.heap[T]?=some (.cells #[.int .i64 t.op,.int .i64 t.a,.int .i64 t.b] 57 (0,0))) (ht:3≤t.op∧t.op≤8) (hl:D<w.heap.size) (h4:w.cell? ⟨D,4,none⟩=some (.slice da ns.length dc)) (h5:w.cell? ⟨D,5,none⟩=some (.slice ea ns.length ec)) (hy:BoolsAt w da ys) (hz:BoolsAt w ea zs) (e1:ys.length=ns.length) (e2:zs.length=ns.length) :
 Calls Tryz.prog 105 #[.int .i64 i,.pointer (some ⟨P,0,none⟩),.pointer (some ⟨T,0,none⟩),.pointer (some ⟨D,0,none⟩)] w fun e w' =>e=.returned (.bool (bat (rcl ns t) i&&!(bat ys i&&bat zs i)))∧Below w.heap.size w w' :=by
 obtain ⟨x,hx⟩:=get_lt hi
 have hb:bat (rcl ns t) i=rcB t x:=bat_mapn hx
 have hii:(i:Int)<(ns.length:Int):=by omega
 obtain ⟨b3,o3,rfl,l3,v3⟩:=bools_cell hy (k:=i) (by omega)
 obtain ⟨b4,o4,rfl,l4,v4⟩:=bools_cell hz (k:=i) (by omega)
 generalize bat ys i=QY at v3 ⊢
 generalize bat zs i=Q at v4 ⊢
 have HS:Hid (∀ u:World,Below w.heap.size w u→u.cell? ⟨P,0,none⟩=some (.int .i64 r)∧u.cell? ⟨P,1,none⟩=some (.slice (some ⟨b,off,none⟩) ns.length cap)∧u.cell? ⟨T,0,none⟩=some (.int .i64 t.op)∧u.cell? ⟨T,1,none⟩=some (.int .i64 t.a)∧u.cell? ⟨T,2,none⟩=some (.int .i64 t.b)∧u.cell? ⟨b,off+i*6,none⟩=some (.int .i64 x.op)∧u.cell? ⟨b,off+i*6+1,none⟩=some (.int .i64 x.d)∧u.cell? ⟨b,off+i*6+2,none⟩=some (.int .i64 x.a)∧u.cell? ⟨b,off+i*6+3,none⟩=some (.int .i64 x.b)∧u.cell? ⟨b,off+i*6+4,none⟩=some (.int .i64 x.t)∧u.cell? ⟨b,off+i*6+5,none⟩=some (.int .i64 x.e)∧u.cell? ⟨D,4,none⟩=some (.slice (some ⟨b3,o3,none⟩) ns.length dc)∧u.cell? ⟨D,5,none⟩=some (.slice (some ⟨b4,o4,none⟩) ns.length ec)∧u.cell? ⟨b3,o3+i,none⟩=some (.bool QY)∧u.cell? ⟨b4,o4+i,none⟩=some (.bool Q)):=fun u h=>by
  have k1:=(h.block _ (blk_lt hP)).trans hP
  have k2:=(h.block _ (blk_lt hT)).trans hT
  have k3:=hN.below h hN.lt
  refine ⟨?_,?_,?_,?_,?_,k3.c0 i x hx,k3.c1 i x hx,k3.c2 i x hx,k3.c3 i x hx,k3.c4 i x hx,k3.c5 i x hx,?_,?_,?_,?_⟩
  ·rw [blk_cell k1];rfl
  ·rw [blk_cell k1];rfl
  ·rw [blk_cell k2];rfl
  ·rw [blk_cell k2];rfl
  ·rw [blk_cell k2];rfl
  ·rw [World.cell?_of_block (h.block _ hl)];exact h4
  ·rw [World.cell?_of_block (h.block _ hl)];exact h5
  ·rw [World.cell?_of_block (h.block _ l3)];exact v3
  ·rw [World.cell?_of_block (h.block _ l4)];exact v4
 have pl:=blk_lt hP
 have tl:=blk_lt hT
 have bl:=hN.lt
 have HBI:=hide hb
 have HT:=hide ht
 clear hP hT hN hx hb ht hy hz e1 e2 v3 v4 h4 h5
 cases hq:rcB t x
 ·have HRC:=hide hq
  clear hq
  go_enter Tryz.func105,Tryz.ntmps105
  go_upto_region 1 with fail
  refine wp_region_held_drew (S:=(fun u=>u.cell? ⟨P,0,none⟩=some (.int .i64 r)∧u.cell? ⟨P,1,none⟩=some (.slice (some ⟨b,off,none⟩) ns.length cap)∧u.cell? ⟨T,0,none⟩=some (.int .i64 t.op)∧u.cell? ⟨T,1,none⟩=some (.int .i64 t.a)∧u.cell? ⟨T,2,none⟩=some (.int .i64 t.b)∧u.cell? ⟨b,off+i*6,none⟩=some (.int .i64 x.op)∧u.cell? ⟨b,off+i*6+1,none⟩=some (.int .i64 x.d)∧u.cell? ⟨b,off+i*6+2,none⟩=some (.int .i64 x.a)∧u.cell? ⟨b,off+i*6+3,none⟩=some (.int .i64 x.b)∧u.cell? ⟨b,off+i*6+4,none⟩=some (.int .i64 x.t)∧u.cell? ⟨b,off+i*6+5,none⟩=some (.int .i64 x.e)∧u.cell? ⟨D,4,none⟩=some (.slice (some ⟨b3,o3,none⟩) ns.length dc)∧u.cell? ⟨D,5,none⟩=some (.slice (some ⟨b4,o4,none⟩) ns.length ec)∧u.cell? ⟨b3,o3+i,none⟩=some (.bool QY)∧u.cell? ⟨b4,o4+i,none⟩=some (.bool Q))) (by as_aux_lemma=>kernel_rfl) (by (try dsimp only);first | (with_reducible exact HS.out _ hB2) | exact HS.out _ (Below.refl _ w).drew | exact HS.out _ (Below.refl _ w)) (fun hHeld=>?_)
  refine tky 0 ⟨some 6,.fieldAddr 24 (.tmp 1) 1,0, "move.go:23", #[],none⟩ (v:=?_) ?_ ?_
  rotate_left 1
  ·intro w hSw;(try dsimp only at hSw);go_simp;all_goals with_reducible rfl
  (try simp only [Act.put,PM1,PM2,PM3])
  refine tky 1 ⟨some 7,.load 22 (.tmp 6),22, "move.go:23", #[⟨0,.data⟩],none⟩ (v:=?_) ?_ ?_
  rotate_left 1
  ·intro w hSw;(try dsimp only at hSw);go_simp;all_goals with_reducible rfl
  (try simp only [Act.put,PM1,PM2,PM3])
  refine tky 2 ⟨some 8,.move (.tmp 0),3, "move.go:23", #[],none⟩ (v:=?_) ?_ ?_
  rotate_left 1
  ·intro w hSw;(try dsimp only at hSw);go_simp;all_goals with_reducible rfl
  (try simp only [Act.put,PM1,PM2,PM3])
  refine tky 3 ⟨some 9,.indexAddr 22 (.tmp 7) (.tmp 8),0, "move.go:23", #[⟨1,.data⟩,⟨2,.data⟩],none⟩ (v:=?_) ?_ ?_
  rotate_left 1
  ·intro w hSw;(try dsimp only at hSw);go_simp;all_goals with_reducible rfl
  (try simp only [Act.put,PM1,PM2,PM3])
  refine tky 4 ⟨some 10,.load 48 (.tmp 9),48, "move.go:23", #[⟨3,.data⟩],none⟩ (v:=?_) ?_ ?_
  rotate_left 1
  ·intro w hSw;(try dsimp only at hSw);go_simp;all_goals with_reducible rfl
  (try simp only [Act.put,PM1,PM2,PM3])
  refine tky 5 ⟨some 11,.load 57 (.tmp 2),57, "move.go:23", #[],none⟩ (v:=?_) ?_ ?_
  rotate_left 1
  ·intro w hSw;(try dsimp only at hSw);go_simp;all_goals with_reducible rfl
  (try simp only [Act.put,PM1,PM2,PM3])
  refine wpAnyH_ready (rs:=[6]) (by as_aux_lemma=>kernel_rfl) (by simp) (AllReadyH.cons (o:=⟨some 12,.call { callee:=.value (.func 106),args:=#[.tmp 10,.tmp 11],argTypes:=#[48,57] },4, "move.go:23", #[⟨4,.data⟩,⟨5,.data⟩],none⟩) rfl (fun K hK=>?_) AllReadyH.nil)
  go_simp
  go_at_call 106;refine (sreckons_any x t _ HT.out).mono ?_;rintro e wa ⟨rfl,hba⟩;have hB2:Below w.heap.size w wa:=(by first | exact (Below.refl _ w).drew.trans hba | exact hba);rw [HRC.out];(try go_wp2_with fail)
  refine hK.out _ _ (by (try dsimp only);first | (with_reducible exact HS.out _ hB2) | exact HS.out _ (Below.refl _ w).drew | exact HS.out _ (Below.refl _ w)) (fun hHeld=>?_)
  clear hK K
  (try simp only [Act.put,PM1,PM2,PM3])
  refine tky 7 ⟨some 13,.move (.tmp 12),4, "move.go:23", #[⟨6,.data⟩,⟨6,.chain⟩],none⟩ (v:=?_) ?_ ?_
  rotate_left 1
  ·intro w hSw;(try dsimp only at hSw);go_simp;all_goals with_reducible rfl
  (try simp only [Act.put,PM1,PM2,PM3])
  refine tkn 8 ⟨some 14,.fieldAddr 164 (.tmp 3) 4,0, "move.go:23", #[⟨7,.guard⟩],some (7,true)⟩ ?_
  (try simp only [Act.put,PM1,PM2,PM3])
  refine tkn 9 ⟨some 15,.load 116 (.tmp 14),116, "move.go:23", #[⟨8,.data⟩,⟨7,.guard⟩],some (7,true)⟩ ?_
  (try simp only [Act.put,PM1,PM2,PM3])
  refine tkn 10 ⟨some 16,.move (.tmp 0),3, "move.go:23", #[⟨7,.guard⟩],some (7,true)⟩ ?_
  (try simp only [Act.put,PM1,PM2,PM3])
  refine tkn 11 ⟨some 17,.indexAddr 116 (.tmp 15) (.tmp 16),0, "move.go:23", #[⟨9,.data⟩,⟨10,.data⟩,⟨7,.guard⟩],some (7,true)⟩ ?_
  (try simp only [Act.put,PM1,PM2,PM3])
  refine tkn 12 ⟨some 18,.load 4 (.tmp 17),4, "move.go:23", #[⟨11,.data⟩,⟨7,.guard⟩],some (7,true)⟩ ?_
  (try simp only [Act.put,PM1,PM2,PM3])
  refine tkn 13 ⟨some 19,.move (.tmp 18),4, "move.go:23", #[⟨12,.data⟩,⟨7,.chain⟩,⟨7,.guard⟩],some (7,true)⟩ ?_
  (try simp only [Act.put,PM1,PM2,PM3])
  refine tkn 14 ⟨some 20,.fieldAddr 164 (.tmp 3) 5,0, "move.go:23", #[⟨13,.guard⟩],some (13,true)⟩ ?_
  (try simp only [Act.put,PM1,PM2,PM3])
  refine tkn 15 ⟨some 21,.load 116 (.tmp 20),116, "move.go:23", #[⟨14,.data⟩,⟨13,.guard⟩],some (13,true)⟩ ?_
  (try simp only [Act.put,PM1,PM2,PM3])
  refine tkn 16 ⟨some 22,.move (.tmp 0),3, "move.go:23", #[⟨13,.guard⟩],some (13,true)⟩ ?_
  (try simp only [Act.put,PM1,PM2,PM3])
  refine tkn 17 ⟨some 23,.indexAddr 116 (.tmp 21) (.tmp 22),0, "move.go:23", #[⟨15,.data⟩,⟨16,.data⟩,⟨13,.guard⟩],some (13,true)⟩ ?_
  (try simp only [Act.put,PM1,PM2,PM3])
  refine tkn 18 ⟨some 24,.load 4 (.tmp 23),4, "move.go:23", #[⟨17,.data⟩,⟨13,.guard⟩],some (13,true)⟩ ?_
  (try simp only [Act.put,PM1,PM2,PM3])
  refine tkn 19 ⟨some 25,.pick (.tmp 19) (.tmp 24) (.const (Go.Value.bool false)),4, "move.go:23", #[⟨13,.data⟩,⟨18,.data⟩,⟨7,.guard⟩],some (7,true)⟩ ?_
  (try simp only [Act.put,PM1,PM2,PM3])
  refine tkn 20 ⟨some 26,.unOp Go.UnOp.not 4 (.tmp 25),4, "move.go:23", #[⟨19,.data⟩,⟨7,.guard⟩],some (7,true)⟩ ?_
  (try simp only [Act.put,PM1,PM2,PM3])
  refine tky 21 ⟨some 27,.pick (.tmp 13) (.tmp 26) (.const (Go.Value.bool false)),4, "move.go:23", #[⟨7,.data⟩,⟨20,.data⟩],none⟩ (v:=?_) ?_ ?_
  rotate_left 1
  ·intro w hSw;(try dsimp only at hSw);go_simp;all_goals with_reducible rfl
  (try simp only [Act.put,PM1,PM2,PM3])
  refine tky 22 ⟨some 5,.assign (.tmp 27),4, "move.go:23", #[⟨21,.data⟩,⟨13,.chain⟩,⟨0,.phase⟩,⟨1,.phase⟩,⟨2,.phase⟩,⟨3,.phase⟩,⟨4,.phase⟩,⟨5,.phase⟩,⟨6,.phase⟩,⟨7,.phase⟩,⟨8,.phase⟩,⟨9,.phase⟩,⟨10,.phase⟩,⟨11,.phase⟩,⟨12,.phase⟩,⟨13,.phase⟩,⟨14,.phase⟩,⟨15,.phase⟩,⟨16,.phase⟩,⟨17,.phase⟩,⟨18,.phase⟩,⟨19,.phase⟩,⟨20,.phase⟩,⟨21,.phase⟩],none⟩ (v:=?_) ?_ ?_
  rotate_left 1
  ·intro w hSw;(try dsimp only at hSw);go_simp;all_goals with_reducible rfl
  (try simp only [Act.put,PM1,PM2,PM3])
  refine wpAnyH_done (by as_aux_lemma=>kernel_rfl) ?_ _
  go_wp2
  go_ret
  exact ⟨ret_bool (by rw [HBI.out,HRC.out];rfl),hB2⟩
 ·have HRC:=hide hq
  clear hq
  cases QY
  ·go_enter Tryz.func105,Tryz.ntmps105
   go_upto_region 1 with fail
   refine wp_region_held_drew (S:=(fun u=>u.cell? ⟨P,0,none⟩=some (.int .i64 r)∧u.cell? ⟨P,1,none⟩=some (.slice (some ⟨b,off,none⟩) ns.length cap)∧u.cell? ⟨T,0,none⟩=some (.int .i64 t.op)∧u.cell? ⟨T,1,none⟩=some (.int .i64 t.a)∧u.cell? ⟨T,2,none⟩=some (.int .i64 t.b)∧u.cell? ⟨b,off+i*6,none⟩=some (.int .i64 x.op)∧u.cell? ⟨b,off+i*6+1,none⟩=some (.int .i64 x.d)∧u.cell? ⟨b,off+i*6+2,none⟩=some (.int .i64 x.a)∧u.cell? ⟨b,off+i*6+3,none⟩=some (.int .i64 x.b)∧u.cell? ⟨b,off+i*6+4,none⟩=some (.int .i64 x.t)∧u.cell? ⟨b,off+i*6+5,none⟩=some (.int .i64 x.e)∧u.cell? ⟨D,4,none⟩=some (.slice (some ⟨b3,o3,none⟩) ns.length dc)∧u.cell? ⟨D,5,none⟩=some (.slice (some ⟨b4,o4,none⟩) ns.length ec)∧u.cell? ⟨b3,o3+i,none⟩=some (.bool false)∧u.cell? ⟨b4,o4+i,none⟩=some (.bool Q))) (by as_aux_lemma=>kernel_rfl) (by (try dsimp only);first | (with_reducible exact HS.out _ hB2) | exact HS.out _ (Below.refl _ w).drew | exact HS.out _ (Below.refl _ w)) (fun hHeld=>?_)
   refine tky 0 ⟨some 6,.fieldAddr 24 (.tmp 1) 1,0, "move.go:23", #[],none⟩ (v:=?_) ?_ ?_
   rotate_left 1
   ·intro w hSw;(try dsimp only at hSw);go_simp;all_goals with_reducible rfl
   (try simp only [Act.put,PM1,PM2,PM3])
   refine tky 1 ⟨some 7,.load 22 (.tmp 6),22, "move.go:23", #[⟨0,.data⟩],none⟩ (v:=?_) ?_ ?_
   rotate_left 1
   ·intro w hSw;(try dsimp only at hSw);go_simp;all_goals with_reducible rfl
   (try simp only [Act.put,PM1,PM2,PM3])
   refine tky 2 ⟨some 8,.move (.tmp 0),3, "move.go:23", #[],none⟩ (v:=?_) ?_ ?_
   rotate_left 1
   ·intro w hSw;(try dsimp only at hSw);go_simp;all_goals with_reducible rfl
   (try simp only [Act.put,PM1,PM2,PM3])
   refine tky 3 ⟨some 9,.indexAddr 22 (.tmp 7) (.tmp 8),0, "move.go:23", #[⟨1,.data⟩,⟨2,.data⟩],none⟩ (v:=?_) ?_ ?_
   rotate_left 1
   ·intro w hSw;(try dsimp only at hSw);go_simp;all_goals with_reducible rfl
   (try simp only [Act.put,PM1,PM2,PM3])
   refine tky 4 ⟨some 10,.load 48 (.tmp 9),48, "move.go:23", #[⟨3,.data⟩],none⟩ (v:=?_) ?_ ?_
   rotate_left 1
   ·intro w hSw;(try dsimp only at hSw);go_simp;all_goals with_reducible rfl
   (try simp only [Act.put,PM1,PM2,PM3])
   refine tky 5 ⟨some 11,.load 57 (.tmp 2),57, "move.go:23", #[],none⟩ (v:=?_) ?_ ?_
   rotate_left 1
   ·intro w hSw;(try dsimp only at hSw);go_simp;all_goals with_reducible rfl
   (try simp only [Act.put,PM1,PM2,PM3])
   refine wpAnyH_ready (rs:=[6]) (by as_aux_lemma=>kernel_rfl) (by simp) (AllReadyH.cons (o:=⟨some 12,.call { callee:=.value (.func 106),args:=#[.tmp 10,.tmp 11],argTypes:=#[48,57] },4, "move.go:23", #[⟨4,.data⟩,⟨5,.data⟩],none⟩) rfl (fun K hK=>?_) AllReadyH.nil)
   go_simp
   go_at_call 106;refine (sreckons_any x t _ HT.out).mono ?_;rintro e wa ⟨rfl,hba⟩;have hB2:Below w.heap.size w wa:=(by first | exact (Below.refl _ w).drew.trans hba | exact hba);rw [HRC.out];(try go_wp2_with fail)
   refine hK.out _ _ (by (try dsimp only);first | (with_reducible exact HS.out _ hB2) | exact HS.out _ (Below.refl _ w).drew | exact HS.out _ (Below.refl _ w)) (fun hHeld=>?_)
   clear hK K
   (try simp only [Act.put,PM1,PM2,PM3])
   refine tky 7 ⟨some 13,.move (.tmp 12),4, "move.go:23", #[⟨6,.data⟩,⟨6,.chain⟩],none⟩ (v:=?_) ?_ ?_
   rotate_left 1
   ·intro w hSw;(try dsimp only at hSw);go_simp;all_goals with_reducible rfl
   (try simp only [Act.put,PM1,PM2,PM3])
   refine tky 8 ⟨some 14,.fieldAddr 164 (.tmp 3) 4,0, "move.go:23", #[⟨7,.guard⟩],some (7,true)⟩ (v:=?_) ?_ ?_
   rotate_left 1
   ·intro w hSw;(try dsimp only at hSw);go_simp;all_goals with_reducible rfl
   (try simp only [Act.put,PM1,PM2,PM3])
   refine tky 9 ⟨some 15,.load 116 (.tmp 14),116, "move.go:23", #[⟨8,.data⟩,⟨7,.guard⟩],some (7,true)⟩ (v:=?_) ?_ ?_
   rotate_left 1
   ·intro w hSw;(try dsimp only at hSw);go_simp;all_goals with_reducible rfl
   (try simp only [Act.put,PM1,PM2,PM3])
   refine tky 10 ⟨some 16,.move (.tmp 0),3, "move.go:23", #[⟨7,.guard⟩],some (7,true)⟩ (v:=?_) ?_ ?_
   rotate_left 1
   ·intro w hSw;(try dsimp only at hSw);go_simp;all_goals with_reducible rfl
   (try simp only [Act.put,PM1,PM2,PM3])
   refine tky 11 ⟨some 17,.indexAddr 116 (.tmp 15) (.tmp 16),0, "move.go:23", #[⟨9,.data⟩,⟨10,.data⟩,⟨7,.guard⟩],some (7,true)⟩ (v:=?_) ?_ ?_
   rotate_left 1
   ·intro w hSw;(try dsimp only at hSw);go_simp;all_goals with_reducible rfl
   (try simp only [Act.put,PM1,PM2,PM3])
   refine tky 12 ⟨some 18,.load 4 (.tmp 17),4, "move.go:23", #[⟨11,.data⟩,⟨7,.guard⟩],some (7,true)⟩ (v:=?_) ?_ ?_
   rotate_left 1
   ·intro w hSw;(try dsimp only at hSw);go_simp;all_goals with_reducible rfl
   (try simp only [Act.put,PM1,PM2,PM3])
   refine tky 13 ⟨some 19,.move (.tmp 18),4, "move.go:23", #[⟨12,.data⟩,⟨7,.chain⟩,⟨7,.guard⟩],some (7,true)⟩ (v:=?_) ?_ ?_
   rotate_left 1
   ·intro w hSw;(try dsimp only at hSw);go_simp;all_goals with_reducible rfl
   (try simp only [Act.put,PM1,PM2,PM3])
   refine tkn 14 ⟨some 20,.fieldAddr 164 (.tmp 3) 5,0, "move.go:23", #[⟨13,.guard⟩],some (13,true)⟩ ?_
   (try simp only [Act.put,PM1,PM2,PM3])
   refine tkn 15 ⟨some 21,.load 116 (.tmp 20),116, "move.go:23", #[⟨14,.data⟩,⟨13,.guard⟩],some (13,true)⟩ ?_
   (try simp only [Act.put,PM1,PM2,PM3])
   refine tkn 16 ⟨some 22,.move (.tmp 0),3, "move.go:23", #[⟨13,.guard⟩],some (13,true)⟩ ?_
   (try simp only [Act.put,PM1,PM2,PM3])
   refine tkn 17 ⟨some 23,.indexAddr 116 (.tmp 21) (.tmp 22),0, "move.go:23", #[⟨15,.data⟩,⟨16,.data⟩,⟨13,.guard⟩],some (13,true)⟩ ?_
   (try simp only [Act.put,PM1,PM2,PM3])
   refine tkn 18 ⟨some 24,.load 4 (.tmp 23),4, "move.go:23", #[⟨17,.data⟩,⟨13,.guard⟩],some (13,true)⟩ ?_
   (try simp only [Act.put,PM1,PM2,PM3])
   refine tky 19 ⟨some 25,.pick (.tmp 19) (.tmp 24) (.const (Go.Value.bool false)),4, "move.go:23", #[⟨13,.data⟩,⟨18,.data⟩,⟨7,.guard⟩],some (7,true)⟩ (v:=?_) ?_ ?_
   rotate_left 1
   ·intro w hSw;(try dsimp only at hSw);go_simp;all_goals with_reducible rfl
   (try simp only [Act.put,PM1,PM2,PM3])
   refine tky 20 ⟨some 26,.unOp Go.UnOp.not 4 (.tmp 25),4, "move.go:23", #[⟨19,.data⟩,⟨7,.guard⟩],some (7,true)⟩ (v:=?_) ?_ ?_
   rotate_left 1
   ·intro w hSw;(try dsimp only at hSw);go_simp;all_goals with_reducible rfl
   (try simp only [Act.put,PM1,PM2,PM3])
   refine tky 21 ⟨some 27,.pick (.tmp 13) (.tmp 26) (.const (Go.Value.bool false)),4, "move.go:23", #[⟨7,.data⟩,⟨20,.data⟩],none⟩ (v:=?_) ?_ ?_
   rotate_left 1
   ·intro w hSw;(try dsimp only at hSw);go_simp;all_goals with_reducible rfl
   (try simp only [Act.put,PM1,PM2,PM3])
   refine tky 22 ⟨some 5,.assign (.tmp 27),4, "move.go:23", #[⟨21,.data⟩,⟨13,.chain⟩,⟨0,.phase⟩,⟨1,.phase⟩,⟨2,.phase⟩,⟨3,.phase⟩,⟨4,.phase⟩,⟨5,.phase⟩,⟨6,.phase⟩,⟨7,.phase⟩,⟨8,.phase⟩,⟨9,.phase⟩,⟨10,.phase⟩,⟨11,.phase⟩,⟨12,.phase⟩,⟨13,.phase⟩,⟨14,.phase⟩,⟨15,.phase⟩,⟨16,.phase⟩,⟨17,.phase⟩,⟨18,.phase⟩,⟨19,.phase⟩,⟨20,.phase⟩,⟨21,.phase⟩],none⟩ (v:=?_) ?_ ?_
   rotate_left 1
   ·intro w hSw;(try dsimp only at hSw);go_simp;all_goals with_reducible rfl
   (try simp only [Act.put,PM1,PM2,PM3])
   refine wpAnyH_done (by as_aux_lemma=>kernel_rfl) ?_ _
   go_wp2
   go_ret
   exact ⟨ret_bool (by rw [HBI.out,HRC.out];rfl),hB2⟩
  ·go_enter Tryz.func105,Tryz.ntmps105
   go_upto_region 1 with fail
   go_region_held3 (fun u=>u.cell? ⟨P,0,none⟩=some (.int .i64 r)∧u.cell? ⟨P,1,none⟩=some (.slice (some ⟨b,off,none⟩) ns.length cap)∧u.cell? ⟨T,0,none⟩=some (.int .i64 t.op)∧u.cell? ⟨T,1,none⟩=some (.int .i64 t.a)∧u.cell? ⟨T,2,none⟩=some (.int .i64 t.b)∧u.cell? ⟨b,off+i*6,none⟩=some (.int .i64 x.op)∧u.cell? ⟨b,off+i*6+1,none⟩=some (.int .i64 x.d)∧u.cell? ⟨b,off+i*6+2,none⟩=some (.int .i64 x.a)∧u.cell? ⟨b,off+i*6+3,none⟩=some (.int .i64 x.b)∧u.cell? ⟨b,off+i*6+4,none⟩=some (.int .i64 x.t)∧u.cell? ⟨b,off+i*6+5,none⟩=some (.int .i64 x.e)∧u.cell? ⟨D,4,none⟩=some (.slice (some ⟨b3,o3,none⟩) ns.length dc)∧u.cell? ⟨D,5,none⟩=some (.slice (some ⟨b4,o4,none⟩) ns.length ec)∧u.cell? ⟨b3,o3+i,none⟩=some (.bool true)∧u.cell? ⟨b4,o4+i,none⟩=some (.bool Q)) (first
    | (with_reducible refine HS.out _ ?_;first | with_reducible exact hB2 | with_reducible exact (Below.refl _ w).drew | with_reducible exact (Below.refl _ w))) (first
    | (go_at_call 106;refine (sreckons_any x t _ HT.out).mono ?_;rintro e wa ⟨rfl,hba⟩;have hB2:Below w.heap.size w wa:=(by first | exact (Below.refl _ w).drew.trans hba | exact hba);rw [HRC.out]))
   go_wp2
   go_ret
   exact ⟨ret_bool (by rw [HBI.out,HRC.out];rfl),hB2⟩
theorem cells_setP {w:World} {b k:Nat} (h:k≠b) (o:Nat) (v:Value):(w.setCell ⟨b,o,none⟩ v).heap[k]?=w.heap[k]? :=Below.heap_setCell _ _ _ _ h
set_option maxRecDepth 100000 in
theorem places_any (R1 R2:Nat→Bool) (g1 g2:Nat) (cb1 cb2:Array Value) (r:Int) (pa:Option Addr) (n cap:Nat) (w:World) (hn:n≤256)
 (eg1:∀ args w,(callFunc g1 args).run Tryz.prog w=.ok (.enter g1 args) w) (eg2:∀ args w,(callFunc g2 args).run Tryz.prog w=.ok (.enter g2 args) w)
 (hg1:∀ i,i<n→∀ W:World,Below w.heap.size w W→Calls Tryz.prog g1 (#[.int .i64 (i:Int)]++cb1) W fun e w' =>e=.returned (.bool (R1 i))∧Below W.heap.size W w')
 (hg2:∀ i,i<n→∀ W:World,Below w.heap.size w W→Calls Tryz.prog g2 (#[.int .i64 (i:Int)]++cb2) W fun e w' =>e=.returned (.bool (R2 i))∧Below W.heap.size W w') :
 Calls Tryz.prog 107 #[.agg #[.int .i64 r,.slice pa n cap],.func (.func g1) #[] cb1,.func (.func g2) #[] cb2] w fun e w' =>∃ a1 c1 a2 c2,e=.returned (.agg #[.slice a1 n c1,.slice a2 n c2])∧w'.ownsRow w.heap.size 4 1 (.slice a1 n c1) n (((List.range n).map R1).map Value.bool)∧w'.ownsRow w.heap.size 4 1 (.slice a2 n c2) n (((List.range n).map R2).map Value.bool)∧Below w.heap.size w w' :=by
 have HE1:=hide (fun W (h:Below w.heap.size w W)=>askEach_any R1 g1 cb1 n W hn eg1 (fun i hi V hV=>hg1 i hi V (h.trans (hV.mono h.size))))
 have HE2:=hide (fun W (h:Below w.heap.size w W)=>askEach_any R2 g2 cb2 n W hn eg2 (fun i hi V hV=>hg2 i hi V (h.trans (hV.mono h.size))))
 clear hg1 hg2 eg1 eg2
 have hbA:Below w.heap.size w ((w.alloc (.cells #[.int .i64 r,.slice pa n cap] 24)).alloc (.cells #[.slice none 0 0,.slice none 0 0] 138)):=((Below.refl _ w).alloc (Nat.le_refl _) _).alloc (by simp) _
 have hp:((w.alloc (.cells #[.int .i64 r,.slice pa n cap] 24)).alloc (.cells #[.slice none 0 0,.slice none 0 0] 138)).heap[w.heap.size]?=some (.cells #[.int .i64 r,.slice pa n cap] 24 (0,0)):=(Below.heap_alloc _ _ _ (by simp)).trans (World.alloc_heap_new w _)
 have hq:((w.alloc (.cells #[.int .i64 r,.slice pa n cap] 24)).alloc (.cells #[.slice none 0 0,.slice none 0 0] 138)).heap[w.heap.size+1]?=some (.cells #[.slice none 0 0,.slice none 0 0] 138 (0,0)):=by
  have:=World.alloc_heap_new (w.alloc (.cells #[.int .i64 r,.slice pa n cap] 24)) (.cells #[.slice none 0 0,.slice none 0 0] 138)
  rwa [World.size_alloc] at this
 go_enter Tryz.func107,Tryz.ntmps107
 go_upto_region 1 with fail
 generalize ((w.alloc (.cells #[.int .i64 r,.slice pa n cap] 24)).alloc (.cells #[.slice none 0 0,.slice none 0 0] 138))=W at hbA hp hq ⊢
 have HH:Hid (∀ u:World,Below W.heap.size W u→u.heap[w.heap.size]?=some (.cells #[.int .i64 r,.slice pa n cap] 24 (0,0))∧u.heap[w.heap.size+1]?=some (.cells #[.slice none 0 0,.slice none 0 0] 138 (0,0))):=fun u h=>⟨(h.block _ (blk_lt hp)).trans hp,(h.block _ (blk_lt hq)).trans hq⟩
 have HS:Hid (∀ u:World,Below W.heap.size W u→u.cell? ⟨w.heap.size,0,none⟩=some (.int .i64 r)∧u.cell? ⟨w.heap.size,1,none⟩=some (.slice pa n cap)):=fun u h=>by
  obtain ⟨k1,_⟩:=HH.out u h
  refine ⟨?_,?_⟩
  ·rw [blk_cell k1];rfl
  ·rw [blk_cell k1];rfl
 have HW:=hide hbA
 clear hp hq hbA
 have XF:Hid (∀ u:World,Below W.heap.size W u→∀ k,k<2→u.cell? ⟨w.heap.size+1,k,none⟩=#[.slice none 0 0,.slice none 0 0][k]?∧u.frozen? ⟨w.heap.size+1,k,none⟩=false):=fun u h k _=>⟨blk_cell (HH.out u h).2 k,blk_frozen (HH.out u h).2 k⟩
 have HSet:Hid (∀ (u:World) (v0 v1:Value),(u.cell? ⟨w.heap.size,0,none⟩=some (.int .i64 r)∧u.cell? ⟨w.heap.size,1,none⟩=some (.slice pa n cap))→((u.setCell ⟨w.heap.size+1,0,none⟩ v0).setCell ⟨w.heap.size+1,1,none⟩ v1).cell? ⟨w.heap.size,0,none⟩=some (.int .i64 r)∧((u.setCell ⟨w.heap.size+1,0,none⟩ v0).setCell ⟨w.heap.size+1,1,none⟩ v1).cell? ⟨w.heap.size,1,none⟩=some (.slice pa n cap)):=fun u v0 v1 h=>by
  have e:∀ (B k:Nat),B≠w.heap.size+1→((u.setCell ⟨w.heap.size+1,0,none⟩ v0).setCell ⟨w.heap.size+1,1,none⟩ v1).cell? ⟨B,k,none⟩=u.cell? ⟨B,k,none⟩:=fun B k h=>World.cell?_of_block (by
   show ((u.setCell ⟨w.heap.size+1,0,none⟩ v0).setCell ⟨w.heap.size+1,1,none⟩ v1).heap[B]?=u.heap[B]?
   simp only [cells_setP h])
  simp only [e w.heap.size _ (by omega)]
  exact h
 go_region_held3 (fun u=>u.cell? ⟨w.heap.size,0,none⟩=some (.int .i64 r)∧u.cell? ⟨w.heap.size,1,none⟩=some (.slice pa n cap)) (first
  | (with_reducible refine HSet.out _ _ _ ?_;exact HS.out _ hB2)
  | (with_reducible refine HS.out _ ?_;first | with_reducible exact hB2 | with_reducible exact hB1 | with_reducible exact (Below.refl _ W).drew | with_reducible exact (Below.refl _ W))) (first
  | (go_at_call 141;have hB1' :=hB1;refine (HE2.out _ (HW.out.trans (hB1.mono HW.out.size))).mono ?_;rintro e wb ⟨y2,rfl,hV2,hbb⟩;obtain ⟨a2,c2,rfl⟩:=owns_slice hV2;have hB2:Below W.heap.size W wb:=hB1.trans (hbb.mono hB1.size);have x0:=XF.out _ hB2 0 (by decide);have x1:=XF.out _ hB2 1 (by decide);simp at x0 x1;have xl:=blk_lt (HH.out _ hB2).2;obtain ⟨x00,x01⟩:=x0;obtain ⟨x10,x11⟩:=x1)
  | (go_at_call 141;refine (HE1.out _ (by first | exact HW.out.trans ((Below.refl _ W).drew.mono HW.out.size) | exact HW.out)).mono ?_;rintro e wa ⟨y1,rfl,hV1,hba⟩;obtain ⟨a1,c1,rfl⟩:=owns_slice hV1;have hB1:Below W.heap.size W wa:=(by first | exact (Below.refl _ W).drew.trans hba | exact hba)))
 all_goals have hs1:=hB1.size
 all_goals have hsW:=HW.out.size
 all_goals have HV1:=hide (ownsRow_base (ownsRow_below hV1 hbb (Nat.le_refl _)) (base' :=w.heap.size) (by (try simp);omega))
 all_goals have HV2:=hide (ownsRow_base hV2 (base' :=w.heap.size) (by (try simp);omega))
 all_goals have k0:=blk_set (i:=0) (.slice a1 n c1) (HH.out _ hB2).2
 all_goals have k1:=blk_set (i:=1) (.slice a2 n c2) k0
 all_goals have T1:=owns_set (o:=1) (u:=.slice a2 n c2) (owns_set (o:=0) (u:=.slice a1 n c1) HV1.out (HH.out _ hB2).2 (by decide)) k0 (by decide)
 all_goals have T2:=owns_set (o:=1) (u:=.slice a2 n c2) (owns_set (o:=0) (u:=.slice a1 n c1) HV2.out (HH.out _ hB2).2 (by decide)) k0 (by decide)
 all_goals have hBf:=((HW.out.trans (hB2.mono HW.out.size)).setCell (p:=⟨w.heap.size+1,0,none⟩) (by simp) (.slice a1 n c1)).setCell (p:=⟨w.heap.size+1,1,none⟩) (by simp) (.slice a2 n c2)
 all_goals clear hB1' k0 hV1 hV2 x00 x01 x10 x11 hs1 hsW
 all_goals simp only [List.setIfInBounds_toArray,List.set_cons_zero,List.set_cons_succ] at k1
 all_goals go_wp2_with fail
 all_goals generalize ((wb.setCell ⟨w.heap.size+1,0,none⟩ (.slice a1 n c1)).setCell ⟨w.heap.size+1,1,none⟩ (.slice a2 n c2))=Wf at k1 T1 T2 hBf ⊢
 all_goals have y0:=blk_cell k1 0
 all_goals have y1:=blk_cell k1 1
 all_goals simp at y0 y1
 all_goals exact bodyPost_ret (v:=(.agg #[.slice a1 n c1,.slice a2 n c2])) (by simp [results,Tryz.results107,go_sem,y0,y1]) rfl ⟨a1,c1,a2,c2,rfl,T1,T2,hBf⟩
end Go.Proofs.YtkkolclmfcmfbaaGreatDoor
