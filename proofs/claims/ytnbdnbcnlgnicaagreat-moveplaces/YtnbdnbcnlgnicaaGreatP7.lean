/-
  Of the proof of MovePlaces: XG, LO, GV, TZ, LH.
-/
import Derived.Test.YtnbdnbcnlgnicaaGreatP1
import Derived.Test.YtnbdnbcnlgnicaaGreatP3
import Derived.Test.YtnbdnbcnlgnicaaGreatP4
import Derived.Test.YtnbdnbcnlgnicaaGreatP6
import Derived.Stop.RegionWithIn
import Derived.Sort.CutIn
set_option linter.unusedVariables false
set_option linter.unusedSimpArgs false
set_option maxHeartbeats 40000000
namespace Go.Proofs.YtnbdnbcnlgnicaaGreat
open Go.RowKit Go.Shelf
def BoolsT (w:World) (a:Option Addr) (xs:List Bool):Prop:=xs=[]∨∃ b off cs,a=some ⟨b,off,none⟩∧w.heap[b]?=some (.cells cs 4 (0,0))∧∀ (j:Nat) (z:Bool),xs[j]?=some z→w.cell? ⟨b,off+j,none⟩=some (.bool z)
theorem BoolsT.bools {w:World} {a:Option Addr} {xs:List Bool} (h:BoolsT w a xs):BoolsAt w a xs:=by
 rcases h with h | ⟨b,off,cs,e,hb,hc⟩
 ·exact Or.inl h
 ·exact Or.inr ⟨b,off,e,blk_lt hb,hc⟩
theorem BoolsT.below {w w' :World} {a:Option Addr} {xs:List Bool} (h:BoolsT w a xs) (hb:Below w.heap.size w w'):BoolsT w' a xs:=by
 rcases h with h | ⟨b,off,cs,e,hk,hc⟩
 ·exact Or.inl h
 ·exact Or.inr ⟨b,off,cs,e,(hb.block _ (blk_lt hk)).trans hk,fun j z hz=>(hb.cell (p:=⟨b,off+j,none⟩) (blk_lt hk)).trans (hc j z hz)⟩
theorem BoolsT.set {w:World} {a:Option Addr} {xs:List Bool} {A:Nat} {cs:Array Value} {ty:TypeId} (h:BoolsT w a xs) (hA:w.heap[A]?=some (.cells cs ty (0,0))) (hne:ty≠4) (o:Nat) (v:Value):BoolsT (w.setCell ⟨A,o,none⟩ v) a xs:=by
 rcases h with h | ⟨b,off,cs', e,hk,hc⟩
 ·exact Or.inl h
 ·have hb:b≠A:=blk_ne hk hA (Ne.symm hne)
  exact Or.inr ⟨b,off,cs', e,blk_set_ne _ hk hb,fun j z hz=>(cell_set_ne (q:=⟨b,off+j,none⟩) hb).trans (hc j z hz)⟩
theorem boolsT_own {w:World} {base n:Nat} {v:Value} {xs:List Bool} (h:w.ownsRow base 4 1 v n (xs.map Value.bool)) (hl:xs.length=n):∃ a c,v=.slice a xs.length c∧BoolsT w a xs:=by
 subst hl
 obtain ⟨a,c,rfl⟩:=owns_slice h
 refine ⟨a,c,rfl,?_⟩
 have hb:=bools_owned h rfl
 rcases h.2 with ⟨e1,e2⟩ | ⟨g,cap,cur,e,_,hg,_⟩
 ·exact Or.inl (List.length_eq_zero_iff.1 e2)
 ·cases e
  rcases hb with h0 | ⟨b,off,e,_,hc⟩
  ·exact Or.inl h0
  ·cases e;exact Or.inr ⟨g,0,cur,rfl,hg,hc⟩
theorem boolsT_blk {w:World} {b:Nat} {zs:List Bool} (h:w.heap[b]?=some (.cells (zs.map Value.bool).toArray 4 (0,0))):BoolsT w (some ⟨b,0,none⟩) zs :=
 Or.inr ⟨b,0,_,rfl,h,fun j z hz=>by rw [Nat.zero_add,blk_cell h,List.getElem?_toArray,List.getElem?_map,hz];rfl⟩
theorem box1 (w:World) (o:Obj):∃ W,Hid (w.alloc o=W)∧Below w.heap.size w W∧W.heap[w.heap.size]?=some o :=
 ⟨_,rfl,(Below.refl _ w).alloc (Nat.le_refl _) _,World.alloc_heap_new w o⟩
theorem box2 (w:World) (o0 o1:Obj):∃ W,Hid ((w.alloc o0).alloc o1=W)∧Below w.heap.size w W∧W.heap[w.heap.size]?=some o0∧W.heap[w.heap.size+1]?=some o1:=by
 refine ⟨_,rfl,((Below.refl _ w).alloc (Nat.le_refl _) _).alloc (by simp) _,(Below.heap_alloc _ _ _ (by simp)).trans (World.alloc_heap_new w _),?_⟩
 have:=World.alloc_heap_new (w.alloc o0) o1
 rwa [World.size_alloc] at this
def Bx (W:World) (A:Nat) (x y:List Bool):Prop:=∃ a1 c1 a2 c2,W.heap[A]?=some (.cells #[.slice a1 x.length c1,.slice a2 y.length c2] 29 (0,0))∧BoolsT W a1 x∧BoolsT W a2 y
theorem Bx.below {w w' :World} {A:Nat} {x y:List Bool} (h:Bx w A x y) (hb:Below w.heap.size w w'):Bx w' A x y:=by
 obtain ⟨a1,c1,a2,c2,h1,h2,h3⟩:=h
 exact ⟨a1,c1,a2,c2,(hb.block _ (blk_lt h1)).trans h1,h2.below hb,h3.below hb⟩
theorem Bx.put {w:World} {A B:Nat} {x y:List Bool} {u0 u1 v0 v1:Value} (h:Bx w A x y) (hB:w.heap[B]?=some (.cells #[u0,u1] 29 (0,0))) (hne:A≠B):Bx ((w.setCell ⟨B,0,none⟩ v0).setCell ⟨B,1,none⟩ v1) A x y:=by
 obtain ⟨a1,c1,a2,c2,h1,h2,h3⟩:=h
 exact ⟨a1,c1,a2,c2,blk_set_ne _ (blk_set_ne _ h1 hne) hne,(h2.set hB (by decide) 0 v0).set (blk_set _ hB) (by decide) 1 v1,(h3.set hB (by decide) 0 v0).set (blk_set _ hB) (by decide) 1 v1⟩
theorem bx_set {w:World} {B:Nat} {x y:List Bool} {u0 u1:Value} {a1 a2:Option Addr} {c1 c2:Nat} (hB:w.heap[B]?=some (.cells #[u0,u1] 29 (0,0))) (h1:BoolsT w a1 x) (h2:BoolsT w a2 y):Bx ((w.setCell ⟨B,0,none⟩ (.slice a1 x.length c1)).setCell ⟨B,1,none⟩ (.slice a2 y.length c2)) B x y :=
 ⟨a1,c1,a2,c2,blk_set2 hB,(h1.set hB (by decide) 0 _).set (blk_set _ hB) (by decide) 1 _,(h2.set hB (by decide) 0 _).set (blk_set _ hB) (by decide) 1 _⟩
theorem bt_put {w:World} {B:Nat} {x:List Bool} {a:Option Addr} {u0 u1 v0 v1:Value} (h:BoolsT w a x) (hB:w.heap[B]?=some (.cells #[u0,u1] 29 (0,0))):BoolsT ((w.setCell ⟨B,0,none⟩ v0).setCell ⟨B,1,none⟩ v1) a x:=(h.set hB (by decide) 0 v0).set (blk_set _ hB) (by decide) 1 v1
theorem samePlaces_same (a1 a2 b1 b2:Option Addr) (c1 c2 d1 d2:Nat) (x y:List Bool) (w:World) (hx:x.length≤256) (hy:y.length≤256) (h1:BoolsAt w a1 x) (h2:BoolsAt w a2 y) (h3:BoolsAt w b1 x) (h4:BoolsAt w b2 y) :
 Calls Tryz.prog 12 #[.agg #[.slice a1 x.length c1,.slice a2 y.length c2],.agg #[.slice b1 x.length d1,.slice b2 y.length d2]] w fun e w' =>e=.returned (.bool true)∧Below w.heap.size w w' :=by
 obtain ⟨W,HW,hb,p0,p1⟩:=box2 w (.cells #[.slice a1 x.length c1,.slice a2 y.length c2] 29) (.cells #[.slice b1 x.length d1,.slice b2 y.length d2] 29)
 have HS1:=hide (sameBools_same a1 b1 c1 d1 x W (h1.below hb) (h3.below hb) (by omega))
 have HS2:=hide (fun U (hU:Below W.heap.size W U)=>sameBools_same a2 b2 c2 d2 y U ((h2.below hb).below hU) ((h4.below hb).below hU) (by omega))
 clear hx hy h1 h2 h3 h4
 generalize x.length=n at *
 generalize y.length=m at *
 go_enter Tryz.func12,Tryz.ntmps12
 go_upto_region 1 with fail
 rw [HW.out]
 have q0:=blk_cell p0 0
 have q1:=blk_cell p0 1
 have r0:=blk_cell p1 0
 have r1:=blk_cell p1 1
 simp at q0 q1 r0 r1
 have pl:=blk_lt p0
 have rl:=blk_lt p1
 clear HW
 go_wp2_with fail
 refine HS1.out.mono ?_
 rintro e w1 ⟨rfl,hb1⟩
 replace q1:=(hb1.cell (p:=⟨w.heap.size,1,none⟩) pl).trans q1
 replace r1:=(hb1.cell (p:=⟨w.heap.size+1,1,none⟩) rl).trans r1
 have pl1:=Nat.lt_of_lt_of_le pl hb1.size
 have rl1:=Nat.lt_of_lt_of_le rl hb1.size
 clear q0 r0 p0 p1
 go_wp2_with fail
 refine (HS2.out _ hb1).mono ?_
 rintro e w2 ⟨rfl,hb2⟩
 go_wp2
 go_ret
 exact ⟨rfl,hb.trans ((hb1.trans (hb2.mono hb1.size)).mono hb.size)⟩
set_option maxRecDepth 100000 in
theorem clone_in (n:Nat) (b off cap:Nat) (ns:List Nd) (w:World) (hN:NodesAt w b off ns) (hl:1≤ns.length∧ns.length≤512) :
 CallsIn Fence.wide n Tryz.prog 59 #[.slice (some ⟨b,off,none⟩) ns.length cap] w fun e w' =>∃ v,e=.returned v∧w'.ownsRow w.heap.size 47 6 v ns.length (ns.flatMap encNd)∧Below w.heap.size w w' :=by
 obtain ⟨i0,hi0,hz0,hz1,hz2⟩:=info_parts info_node
 have q22:∀ (w:World) (a:Option Addr) (n c n' c' :Nat),(binOp .eql 22 (.slice a n c) (.slice none n' c')).run Tryz.prog w=.ok (.bool a.isNone) w:=fun w a n c n' c' =>Lib.run_eql_slice_nil w _ _ a n c n' c' Tryz.underlying22
 refine callsIn_of_wp Tryz.func59 rfl trivial ?_ rfl
 simp only [Tryz.ntmps59,List.size_toArray,List.length_cons,List.length_nil,Nat.reduceAdd,Nat.reduceSub,Array.replicate_succ,Array.replicate_zero,List.push_toArray,List.append_toArray,List.nil_append,List.cons_append]
 have hbT:Below w.heap.size w (w.alloc (.cells #[] 47)):=(Below.refl _ w).alloc (Nat.le_refl _) _
 gi_wp2_with (gi_at_builtin;refine wpListIn_append_own _ rfl _ _ 22 rfl w.heap.size 47 i0 _ 6 48 Tryz.underlying22 hi0 hz0 hz1 hz2 rfl (by decide) (.slice (some ⟨w.heap.size,0,none⟩) 0 0) 0 [] rfl ⟨rfl,Or.inr ⟨w.heap.size,0,#[],rfl,Nat.le_refl _,World.alloc_heap_new w _,Nat.le_refl _,by decide,rfl,rfl⟩⟩ ⟨b,off,none⟩ ns.length cap (ns.flatMap encNd) rfl (flat_len 6 encNd encNd_len ns) (nodes_flat (hN.below hbT hN.lt)) (encNd_one ns) (by unfold maxLen;omega) (by omega) (by simp) ?_;intro v' w1 hown hgrow _)
 rw [Nat.zero_add,List.nil_append] at hown
 go_ret
 exact ⟨v', rfl,hown,hbT.grown hgrow hbT.size (fun k e=>by simp [Value.ownBlock] at e;omega)⟩
theorem turn_at (x:Nd) (fr tq:Int) (w:World) :
 Calls Tryz.prog 86 #[.agg #[.int .i64 x.op,.int .i64 x.d,.int .i64 x.a,.int .i64 x.b,.int .i64 x.t,.int .i64 x.e],.int .i64 fr,.int .i64 tq] w fun e w' =>e=.returned (.agg #[.int .i64 (trn x fr tq).op,.int .i64 (trn x fr tq).d,.int .i64 (trn x fr tq).a,.int .i64 (trn x fr tq).b,.int .i64 (trn x fr tq).t,.int .i64 (trn x fr tq).e])∧w' =(w.alloc (.cells (encNd (trn x fr tq)).toArray 47)).alloc (.cells (encNd (trn x fr tq)).toArray 47):=by
 obtain ⟨op,d,a,b,t,e⟩:=x
 go_enter Tryz.func86,Tryz.ntmps86
 go_wp2
 all_goals refine bodyPost_ret (v:=.agg #[.int .i64 (trn ⟨op,d,a,b,t,e⟩ fr tq).op,.int .i64 (trn ⟨op,d,a,b,t,e⟩ fr tq).d,.int .i64 (trn ⟨op,d,a,b,t,e⟩ fr tq).a,.int .i64 (trn ⟨op,d,a,b,t,e⟩ fr tq).b,.int .i64 (trn ⟨op,d,a,b,t,e⟩ fr tq).t,.int .i64 (trn ⟨op,d,a,b,t,e⟩ fr tq).e]) ?_ rfl ⟨rfl,?_⟩
 all_goals (rename_i h1 h2;simp only [beq_iff_eq,beq_eq_false_iff_ne,ne_eq] at h1 h2;simp [results,Tryz.results86,go_sem,trn,encNd,h1,h2])
end Go.Proofs.YtnbdnbcnlgnicaaGreat
namespace Go.Proofs.YtnbdnbcnlgnicaaGreat
theorem runN_none {ns:List Nd} {s:St} (h:ns[s.pc]?=none):∀ n,runN ns n s=s
 | 0=>rfl
 | n+1=>by simp [runN,h]
theorem nodup_below:∀ (n:Nat) (l:List Nat),l.Nodup→(∀ x∈l,x<n)→l.length≤n
 | 0,l,_,h=>by
  cases l with
  | nil=>simp
  | cons a l=>exact absurd (h a (by simp)) (by omega)
 | n+1,l,hd,h=>by
  have h1:=nodup_below n (l.erase n) (hd.erase n) (fun x hx=>by
   have h2:=h x (List.mem_of_mem_erase hx)
   have h3:x≠n:=fun e=>by
    subst e
    exact (List.Nodup.not_mem_erase hd) hx
   omega)
  have:=List.length_erase (a:=n) (l:=l)
  split at this <;> omega
structure Full (r:Int) (len:Nat) (x:Nd):Prop where
 op:0≤x.op∧x.op≤12
 d:1≤x.op→x.op≤9→0≤x.d∧x.d<r
 d0:¬ (1≤x.op∧x.op≤9)→x.d=0
 a:x.op≠0→x.op≠1→x.op≠9→0≤x.a∧x.a<r
 a0:x.op=0∨x.op=9→x.a=0
 b:3≤x.op→x.op≤8→0≤x.b∧x.b<r
 b0:¬ (3≤x.op∧x.op≤8)→x.b=0
 t:x.op≠12→1≤x.t∧x.t<len
 t0:x.op=12→x.t=0
 e:x.op=11→1≤x.e∧x.e<len
 e0:x.op≠11→x.e=0
theorem full_of {r:Int} {len:Nat} {x:Nd} (hk:kn x.op=true) (hi:fieldsOk (inB r len) x=true) (hn:fieldsOk noF x=true):Full r len x:=by
 have hop:=wi_iff.1 hk
 simp only [fieldsOk,kvs,List.all_cons,List.all_nil,Bool.and_true,Bool.and_eq_true] at hi hn
 obtain ⟨q0,q1,q2,q3,q4⟩:=hi
 obtain ⟨n0,n1,n2,n3,n4⟩:=hn
 refine ⟨hop,fun a b=>?_,fun h=>?_,fun a b c=>?_,fun h=>?_,fun a b=>?_,fun h=>?_,fun h=>?_,fun h=>?_,fun h=>?_,fun h=>?_⟩
 ·simp only [k0,wi_true a b,if_true,inB] at q0
  have:=wi_iff.1 q0;omega
 ·have e:wi x.op 1 9=false:=wi_false (by omega)
  simpa [k0,e,noF] using n0
 ·have e:(wi x.op 2 8||wi x.op 10 12)=true:=by
   rw [Bool.or_eq_true,wi_iff,wi_iff];omega
  simp only [k1,if_neg b,e,if_true,inB] at q1
  have:=wi_iff.1 q1;omega
 ·have e1:wi x.op 2 8=false:=wi_false (by omega)
  have e2:wi x.op 10 12=false:=wi_false (by omega)
  have e3:x.op≠1:=by omega
  simpa [k1,e1,e2,e3,noF] using n1
 ·simp only [k2,wi_true a b,if_true,inB] at q2
  have:=wi_iff.1 q2;omega
 ·have e:wi x.op 3 8=false:=wi_false (by omega)
  simpa [k2,e,noF] using n2
 ·rw [k3_val hk,if_neg h] at q3
  simp only [inB] at q3
  have:=wi_iff.1 q3;omega
 ·rw [k3_val hk,if_pos h] at n3
  simpa [noF] using n3
 ·simp only [k4,if_pos h,inB] at q4
  have:=wi_iff.1 q4;omega
 ·simpa [k4,h,noF] using n4
theorem Full.ok {r:Int} {len:Nat} {x:Nd} (h:Full r len x):kn x.op=true∧fieldsOk (inB r len) x=true∧fieldsOk noF x=true:=by
 obtain ⟨hop,hd,hd0,ha,ha0,hb,hb0,ht,ht0,he,he0⟩:=h
 have hk:kn x.op=true:=wi_true hop.1 hop.2
 have K3:=k3_val hk
 refine ⟨hk,?_,?_⟩
 ·simp only [fieldsOk,kvs,List.all_cons,List.all_nil,Bool.and_true,Bool.and_eq_true]
  refine ⟨?_,?_,?_,?_,?_⟩
  ·by_cases c:1≤x.op∧x.op≤9
   ·have:=hd c.1 c.2
    simp only [k0,wi_true c.1 c.2,if_true,inB];exact wi_true (by omega) (by omega)
   ·have e:wi x.op 1 9=false:=wi_false (by omega)
    simp [k0,e,inB]
  ·by_cases c1:x.op=1
   ·simp [k1,c1,inB]
   ·cases e:(wi x.op 2 8||wi x.op 10 12)
    ·simp [k1,c1,e,inB]
    ·rw [Bool.or_eq_true,wi_iff,wi_iff] at e
     have:=ha (by omega) c1 (by omega)
     have e' :(wi x.op 2 8||wi x.op 10 12)=true:=by rw [Bool.or_eq_true,wi_iff,wi_iff];exact e
     simp only [k1,if_neg c1,e', if_true,inB];exact wi_true (by omega) (by omega)
  ·by_cases c:3≤x.op∧x.op≤8
   ·have:=hb c.1 c.2
    simp only [k2,wi_true c.1 c.2,if_true,inB];exact wi_true (by omega) (by omega)
   ·have e:wi x.op 3 8=false:=wi_false (by omega)
    simp [k2,e,inB]
  ·rw [K3]
   by_cases c:x.op=12
   ·simp [c,inB]
   ·have:=ht c
    rw [if_neg c]
    simp only [inB]
    exact wi_true (by omega) (by omega)
  ·by_cases c:x.op=11
   ·have:=he c
    simp only [k4,if_pos c,inB];exact wi_true (by omega) (by omega)
   ·simp [k4,c,inB]
 ·simp only [fieldsOk,kvs,List.all_cons,List.all_nil,Bool.and_true,Bool.and_eq_true]
  refine ⟨?_,?_,?_,?_,?_⟩
  ·by_cases c:1≤x.op∧x.op≤9
   ·simp [k0,wi_true c.1 c.2,noF]
   ·simp [noF,hd0 c]
  ·by_cases c:x.op=0∨x.op=9
   ·simp [noF,ha0 c]
   ·by_cases c1:x.op=1
    ·simp [k1,c1,noF]
    ·have e' :(wi x.op 2 8||wi x.op 10 12)=true:=by rw [Bool.or_eq_true,wi_iff,wi_iff];omega
     simp [k1,c1,e', noF]
  ·by_cases c:3≤x.op∧x.op≤8
   ·simp [k2,wi_true c.1 c.2,noF]
   ·simp [noF,hb0 c]
  ·rw [K3]
   by_cases c:x.op=12
   ·simp [noF,ht0 c]
   ·simp [c,noF]
  ·by_cases c:x.op=11
   ·simp [k4,c,noF]
   ·simp [noF,he0 c]
theorem chk_full {r:Int} {ns:List Nd} (h:chk r ns=0):(1≤ns.length∧ns.length≤256)∧(1≤r∧r≤64)∧∀ x∈ns,Full r ns.length x:=by
 obtain ⟨h1,h2,h3,h4,h5⟩:=chk_zero h
 exact ⟨h1,h2,fun x hx=>full_of (h3 x hx) (h4 x hx) (h5 x hx)⟩
theorem chk_mk {r:Int} {ns:List Nd} (h1:1≤ns.length∧ns.length≤256) (h2:1≤r∧r≤64) (h3:∀ x∈ns,Full r ns.length x):chk r ns=0:=by
 unfold chk
 have e1:(wi ns.length 1 256&&wi r 1 64)=true:=by
  rw [Bool.and_eq_true];exact ⟨wi_true (by omega) (by omega),wi_true h2.1 h2.2⟩
 have e2:ns.all (fun x=>kn x.op)=true:=List.all_eq_true.2 fun x hx=>(h3 x hx).ok.1
 have e3:ns.all (fieldsOk (inB r ns.length))=true:=List.all_eq_true.2 fun x hx=>(h3 x hx).ok.2.1
 have e4:ns.all (fieldsOk noF)=true:=List.all_eq_true.2 fun x hx=>(h3 x hx).ok.2.2
 rw [if_pos e1,if_pos e2,if_pos e3,if_pos e4]
theorem chk_at {r:Int} {ns:List Nd} (h:chk r ns=0) {n:Nat} (hn:n<ns.length):Full r ns.length (nd ns n) :=
 (chk_full h).2.2 _ (List.mem_of_getElem? (get_nd hn))
theorem keptI_get {x:List Bool} {j:Nat} (hj:bat x j=true):∀ {k:Nat},j<k→(keptI x k)[(keptI x j).length]?=some j
 | 0,h=>by omega
 | k+1,h=>by
  by_cases e:j=k
  ·subst e;rw [keptI_yes hj];simp
  ·have ih:=keptI_get hj (k:=k) (by omega)
   cases hb:bat x k
   ·rw [keptI_no hb];exact ih
   ·rw [keptI_yes hb,List.getElem?_append_left (List.getElem?_eq_some_iff.1 ih).1];exact ih
theorem keptI_mem {x:List Bool} {k j:Nat}:j∈keptI x k↔j<k∧bat x j=true:=by simp [keptI]
theorem keptI_lt {x:List Bool} {j k:Nat} (hj:bat x j=true) (h:j<k):(keptI x j).length<(keptI x k).length:=(List.getElem?_eq_some_iff.1 (keptI_get hj h)).1
theorem rch_bat {ns:List Nd} {n:Nat} (hn:n<ns.length):bat (rchL ns) n=true↔Rch ns n:=(rchL_isR ns).iff n hn
theorem rch_zero {ns:List Nd} (h:0<ns.length):bat (rchL ns) 0=true:=(rch_bat h).2 Rch.zero
theorem anew_zero (x:List Bool):anewAt x 0=0:=by unfold anewAt;split <;> simp [keptI]
theorem ahB_then {ns:List Nd} {n:Nat} (hn:n<ns.length) (h:(nd ns n).op≠12) {m:Nat} (hm:(nd ns n).t=m):ahB ns m n=true:=by
 rw [ahB_at (get_nd hn)];simp [ldB,h,hm]
theorem ahB_else {ns:List Nd} {n:Nat} (hn:n<ns.length) (h:(nd ns n).op=11) {m:Nat} (hm:(nd ns n).e=m):ahB ns m n=true:=by
 rw [ahB_at (get_nd hn)];simp [ldB,h,hm]
theorem rch_then {r:Int} {ns:List Nd} (hc:chk r ns=0) {n:Nat} (hn:n<ns.length) (hr:bat (rchL ns) n=true) (h:(nd ns n).op≠12):(nd ns n).t.toNat<ns.length∧bat (rchL ns) (nd ns n).t.toNat=true:=by
 have ht:=(chk_at hc hn).t h
 have hlt:(nd ns n).t.toNat<ns.length:=by omega
 exact ⟨hlt,(rch_bat hlt).2 (Rch.step ((rch_bat hn).1 hr) (ahB_then hn h (by omega)))⟩
theorem rch_else {r:Int} {ns:List Nd} (hc:chk r ns=0) {n:Nat} (hn:n<ns.length) (hr:bat (rchL ns) n=true) (h:(nd ns n).op=11):(nd ns n).e.toNat<ns.length∧bat (rchL ns) (nd ns n).e.toNat=true:=by
 have ht:=(chk_at hc hn).e h
 have hlt:(nd ns n).e.toNat<ns.length:=by omega
 exact ⟨hlt,(rch_bat hlt).2 (Rch.step ((rch_bat hn).1 hr) (ahB_else hn h (by omega)))⟩
theorem trimN_get {ns:List Nd} {j:Nat} (hj:j<ns.length) (hr:bat (rchL ns) j=true):(trimN ns)[anewAt (rchL ns) j]?=some (ren (rchL ns) (nd ns j)):=by
 simp only [trimN,anewAt,hr,if_true,List.getElem?_map,keptI_get hr hj,Option.map_some]
theorem trimN_len (ns:List Nd):(trimN ns).length=(keptI (rchL ns) ns.length).length:=by simp [trimN]
theorem anew_lt {ns:List Nd} {j:Nat} (hj:j<ns.length) (hr:bat (rchL ns) j=true):anewAt (rchL ns) j<(trimN ns).length:=(List.getElem?_eq_some_iff.1 (trimN_get hj hr)).1
theorem trimN_pos {ns:List Nd} (h:0<ns.length):0<(trimN ns).length:=by
 have:=anew_lt h (rch_zero h);rw [anew_zero] at this;exact this
theorem anew_pos {ns:List Nd} {j:Nat} (hj:j<ns.length) (h0:0<j) (hr:bat (rchL ns) j=true):0<anewAt (rchL ns) j:=by
 simp only [anewAt,hr,if_true]
 exact Nat.lt_of_le_of_lt (Nat.zero_le _) (keptI_lt (rch_zero (by omega)) h0)
theorem ren_full {r:Int} {ns:List Nd} (hc:chk r ns=0) {n:Nat} (hn:n<ns.length) (hr:bat (rchL ns) n=true):Full r (trimN ns).length (ren (rchL ns) (nd ns n)):=by
 have h:=chk_at hc hn
 refine ⟨h.op,h.d,h.d0,h.a,h.a0,h.b,h.b0,fun h12=>?_,fun h12=>?_,fun h11=>?_,fun h11=>?_⟩
 ·obtain ⟨a1,a2⟩:=rch_then hc hn hr h12
  have ht:=h.t h12
  have p:=anew_pos a1 (by omega) a2
  have q:=anew_lt a1 a2
  simp only [ren];omega
 ·have:=h.t0 h12
  simp [ren,this,anew_zero]
 ·obtain ⟨a1,a2⟩:=rch_else hc hn hr h11
  have ht:=h.e h11
  have p:=anew_pos a1 (by omega) a2
  have q:=anew_lt a1 a2
  simp only [ren];omega
 ·have:=h.e0 h11
  simp [ren,this,anew_zero]
theorem trimN_mem {ns:List Nd} {y:Nd} (h:y∈trimN ns):∃ n,n<ns.length∧bat (rchL ns) n=true∧y=ren (rchL ns) (nd ns n):=by
 simp only [trimN,List.mem_map] at h
 obtain ⟨n,hn,rfl⟩:=h
 rw [keptI_mem] at hn
 exact ⟨n,hn.1,hn.2,rfl⟩
theorem trim_chk {r:Int} {ns:List Nd} (hc:chk r ns=0):chk r (trimN ns)=0:=by
 have h:=chk_full hc
 have h0:0<(trimN ns).length:=trimN_pos (by omega)
 have h1:(trimN ns).length≤ns.length:=by rw [trimN_len];exact keptI_len _ _
 refine chk_mk ⟨by omega,by omega⟩ h.2.1 fun y hy=>?_
 obtain ⟨n,hn,hr,rfl⟩:=trimN_mem hy
 exact ren_full hc hn hr
theorem mem_exo {x:Nd} (hk:kn x.op=true) (m:Nat):(m:Int)∈exo x↔ldB x m=true:=by
 have hop:=wi_iff.1 hk
 unfold exo ldB
 by_cases h11:x.op=11
 ·rw [if_pos h11]
  by_cases he:x.e=x.t
  ·rw [if_pos he];simp [h11,he];omega
  ·rw [if_neg he];simp [h11];omega
 ·rw [if_neg h11]
  by_cases h12:x.op=12
  ·have e:wi x.op 0 11=false:=wi_false (by omega)
   rw [e];simp [h12]
  ·rw [wi_true (by omega) (by omega),if_pos rfl];simp [h11,h12];omega
theorem exo_ahB {r:Int} {ns:List Nd} (hc:chk r ns=0) {n:Nat} (hn:n<ns.length) (m:Nat):(m:Int)∈exo (nd ns n)↔ahB ns m n=true:=by
 rw [mem_exo ((chk_at hc hn).ok.1),ahB_at (get_nd hn)]
structure Bfs (ns:List Nd) (x:List Bool) (cs:List Int) (i:Nat) (pre:List Int):Prop where
 len:x.length=ns.length
 mem:∀ m:Nat,m<ns.length→(bat x m=true↔(m:Int)∈cs)
 rng:∀ c∈cs,0≤c∧c<ns.length
 nodup:cs.Nodup
 rch:∀ m:Nat,(m:Int)∈cs→Rch ns m
 done:∀ (j:Nat) (c:Int),j<i→cs[j]?=some c→∀ e∈exo (nd ns c.toNat),e∈cs
 part:∀ e∈pre,e∈cs
 zero:0∈cs
theorem Bfs.start {ns:List Nd} (h:0<ns.length):Bfs ns ((List.replicate ns.length false).set 0 true) [0] 0 []:=by
 refine ⟨by simp,fun m hm=>?_,by simp;omega,by simp,fun m hm=>?_,fun j c hj=>by omega,by simp,by simp⟩
 ·rw [bat_set (by simpa using h)]
  by_cases e:m=0
  ·subst e;simp
  ·simp only [e,if_false]
   simp [bat,hm]
   omega
 ·simp at hm;subst hm;exact Rch.zero
theorem Bfs.len_le {ns:List Nd} {x:List Bool} {cs:List Int} {i:Nat} {pre:List Int} (h:Bfs ns x cs i pre):cs.length≤ns.length:=by
 have:=nodup_below ns.length (cs.map Int.toNat) (by
  refine List.Pairwise.map _ (S:=fun a b=>a≠b) ?_ (List.Pairwise.and_mem.1 h.nodup)
  rintro a b ⟨ha,hb,hab⟩ e
  have h1:=h.rng a ha
  have h2:=h.rng b hb
  exact hab (by omega)) (fun y hy=>by
  obtain ⟨c,hc,rfl⟩:=List.mem_map.1 hy
  have:=h.rng c hc;omega)
 simpa using this
theorem Bfs.hit {ns:List Nd} {x:List Bool} {cs:List Int} {i:Nat} {pre:List Int} (h:Bfs ns x cs i pre) {m:Nat} (hm:m<ns.length) (hx:bat x m=true):Bfs ns x cs i (pre++[(m:Int)]) :=
 ⟨h.len,h.mem,h.rng,h.nodup,h.rch,h.done,fun e he=>(by
  rcases List.mem_append.1 he with he | he
  ·exact h.part e he
  ·simp at he;subst he;exact (h.mem m hm).1 hx),h.zero⟩
theorem Bfs.new {r:Int} {ns:List Nd} (hc:chk r ns=0) {x:List Bool} {cs:List Int} {i:Nat} {pre:List Int} (h:Bfs ns x cs i pre) {m:Nat} (hm:m<ns.length) (hx:bat x m=false) {c:Int} (hci:cs[i]?=some c) (he:(m:Int)∈exo (nd ns c.toNat)):Bfs ns (x.set m true) (cs++[(m:Int)]) i (pre++[(m:Int)]):=by
 have hnm:(m:Int)∉cs:=fun q=>by
  have:=(h.mem m hm).2 q;rw [hx] at this;cases this
 have hcm:=List.mem_of_getElem? hci
 have hcr:=h.rng c hcm
 refine ⟨by simp [h.len],fun j hj=>?_,fun c' hc' =>?_,?_,fun j hj=>?_,fun j c' hj hjc e hee=>?_,fun e hee=>?_,by simp [h.zero]⟩
 ·rw [bat_set (by rw [h.len];exact hm)]
  by_cases q:j=m
  ·subst q;simp
  ·simp only [q,if_false,List.mem_append,List.mem_singleton]
   rw [h.mem j hj]
   constructor
   ·exact Or.inl
   ·rintro (h1 | h1)
    ·exact h1
    ·omega
 ·rcases List.mem_append.1 hc' with hc' | hc'
  ·exact h.rng c' hc'
  ·simp at hc'; omega
 ·rw [List.nodup_append]
  refine ⟨h.nodup,by simp,fun a ha b hb=>?_⟩
  simp at hb;subst hb;exact fun q=>hnm (q ▸ ha)
 ·rcases List.mem_append.1 hj with hj | hj
  ·exact h.rch j hj
  ·simp at hj
   have e1:j=m:=by omega
   subst e1
   have hlt:c.toNat<ns.length:=by omega
   exact Rch.step (h.rch c.toNat (by rw [Int.toNat_of_nonneg hcr.1];exact hcm)) ((exo_ahB hc hlt j).1 he)
 ·have hi:i<cs.length:=(List.getElem?_eq_some_iff.1 hci).1
  rw [List.getElem?_append_left (by omega)] at hjc
  exact List.mem_append_left _ (h.done j c' hj hjc e hee)
 ·rcases List.mem_append.1 hee with hee | hee
  ·exact List.mem_append_left _ (h.part e hee)
  ·exact List.mem_append_right _ hee
theorem Bfs.next {ns:List Nd} {x:List Bool} {cs:List Int} {i:Nat} {c:Int} (h:Bfs ns x cs i (exo (nd ns c.toNat))) (hci:cs[i]?=some c):Bfs ns x cs (i+1) [] :=
 ⟨h.len,h.mem,h.rng,h.nodup,h.rch,fun j c' hj hjc e hee=>(by
  by_cases q:j=i
  ·subst q
   rw [hci] at hjc;cases hjc
   exact h.part e hee
  ·exact h.done j c' (by omega) hjc e hee),by simp,h.zero⟩
theorem Bfs.fin {r:Int} {ns:List Nd} (hc:chk r ns=0) {x:List Bool} {cs:List Int} (h:Bfs ns x cs cs.length []):x=rchL ns:=by
 refine IsR.uniq ⟨h.len,fun n hn=>?_⟩ (rchL_isR ns)
 rw [h.mem n hn]
 refine ⟨h.rch n,fun hr=>?_⟩
 have key:∀ m,Rch ns m→(m:Int)∈cs:=by
  intro m hm
  induction hm with
  | zero=>exact h.zero
  | step hr ha ih =>
   rename_i a b
   obtain ⟨j,hj⟩:=List.getElem?_of_mem ih
   have hlt:=(List.getElem?_eq_some_iff.1 hj).1
   refine h.done j a hlt hj b ?_
   have hal:a<ns.length:=ahB_lt ha
   rw [Int.toNat_natCast,exo_ahB hc hal]
   exact ha
 exact key n hr
def mark1 (ns:List Nd) (x:List Bool) (n:Nat):List Bool:=if bat x n&&(nd ns n).op != 12 then x.set (nd ns n).t.toNat true else x
def mark2 (ns:List Nd) (x:List Bool) (n:Nat):List Bool:=if bat x n&&(nd ns n).op==11 then x.set (nd ns n).e.toNat true else x
def mark (ns:List Nd) (x:List Bool) (n:Nat):List Bool:=mark2 ns (mark1 ns x n) n
def markTo (ns:List Nd) (x:List Bool):Nat→List Bool
 | 0=>x
 | n+1=>mark ns (markTo ns x n) n
theorem mark_len (ns:List Nd) (x:List Bool) (n:Nat):(mark ns x n).length=x.length:=by
 unfold mark mark2 mark1;repeat' split
 all_goals simp
theorem markTo_len (ns:List Nd) (x:List Bool):∀ n,(markTo ns x n).length=x.length
 | 0=>rfl
 | n+1=>by simp only [markTo];rw [mark_len,markTo_len ns x n]
theorem yeses_more {x:List Bool} {i:Nat} (h:i<x.length):x.set i true=x∨yeses x<yeses (x.set i true):=by
 cases e:bat x i
 ·right
  have h1:=yeses_set (x:=x.set i true) (n:=i) (by simpa using h) (by rw [bat_set h];simp)
  rw [List.set_set,set_same h e] at h1
  omega
 ·exact Or.inl (set_same h e)
theorem mark1_or {r:Int} {ns:List Nd} (hc:chk r ns=0) {x:List Bool} (hl:x.length=ns.length) {n:Nat} (hn:n<ns.length):mark1 ns x n=x∨yeses x<yeses (mark1 ns x n):=by
 unfold mark1
 split
 ·rename_i h
  rw [Bool.and_eq_true,bne_iff_ne] at h
  have:=(chk_at hc hn).t h.2
  exact yeses_more (by omega)
 ·exact Or.inl rfl
theorem mark2_or {r:Int} {ns:List Nd} (hc:chk r ns=0) {x:List Bool} (hl:x.length=ns.length) {n:Nat} (hn:n<ns.length):mark2 ns x n=x∨yeses x<yeses (mark2 ns x n):=by
 unfold mark2
 split
 ·rename_i h
  rw [Bool.and_eq_true,beq_iff_eq] at h
  have:=(chk_at hc hn).e h.2
  exact yeses_more (by omega)
 ·exact Or.inl rfl
theorem mark1_len (ns:List Nd) (x:List Bool) (n:Nat):(mark1 ns x n).length=x.length:=by
 unfold mark1;split <;> simp
theorem mark_or {r:Int} {ns:List Nd} (hc:chk r ns=0) {x:List Bool} (hl:x.length=ns.length) {n:Nat} (hn:n<ns.length):(mark ns x n=x∧mark1 ns x n=x∧mark2 ns x n=x)∨yeses x<yeses (mark ns x n):=by
 unfold mark
 rcases mark1_or hc hl hn with h1 | h1
 ·rw [h1]
  rcases mark2_or hc hl hn with h2 | h2
  ·exact Or.inl ⟨h2,rfl,h2⟩
  ·exact Or.inr h2
 ·right
  rcases mark2_or hc (x:=mark1 ns x n) (by rw [mark1_len];exact hl) hn with h2 | h2
  ·rw [h2];exact h1
  ·omega
theorem markTo_or {r:Int} {ns:List Nd} (hc:chk r ns=0) {x:List Bool} (hl:x.length=ns.length):∀ n,n≤ns.length→(markTo ns x n=x∧∀ m,m<n→mark1 ns x m=x∧mark2 ns x m=x)∨yeses x<yeses (markTo ns x n)
 | 0,_=>Or.inl ⟨rfl,fun m hm=>by omega⟩
 | n+1,hn=>by
  simp only [markTo]
  rcases markTo_or hc hl n (by omega) with ⟨h1,h2⟩ | h1
  ·rw [h1]
   rcases mark_or hc hl (n:=n) (by omega) with ⟨h3,h4⟩ | h3
   ·left
    refine ⟨h3,fun m hm=>?_⟩
    by_cases e:m=n
    ·subst e;exact h4
    ·exact h2 m (by omega)
   ·exact Or.inr h3
  ·right
   rcases mark_or hc (x:=markTo ns x n) (by rw [markTo_len];exact hl) (n:=n) (by omega) with ⟨h3,_⟩ | h3
   ·rw [h3];exact h1
   ·omega
def skp (m:Int):Nd:=⟨0,0,0,0,m,0⟩
def many (ns:List Nd) (m:Int):Prop:=1<(ahl ns m.toNat).length
theorem nd_set {l:List Nd} {n:Nat} (x:Nd) (h:n<l.length) (j:Nat):nd (l.set n x) j=if j=n then x else nd l j:=by
 simp only [nd,List.getD_eq_getElem?_getD,List.getElem?_set]
 by_cases e:n=j
 ·subst e;simp [h]
 ·simp [e,Ne.symm e]
theorem nd_app_left {l m:List Nd} {j:Nat} (h:j<l.length):nd (l++m) j=nd l j:=by
 simp only [nd,List.getD_eq_getElem?_getD];rw [List.getElem?_append_left h]
theorem nd_app_last (l:List Nd) (x:Nd):nd (l++[x]) l.length=x:=by simp [nd]
structure SI (ns out:List Nd) (P:Nat→Int→Prop):Prop where
 len:ns.length≤out.length
 same:∀ n,n<ns.length→(nd out n).op=(nd ns n).op∧(nd out n).d=(nd ns n).d∧(nd out n).a=(nd ns n).a∧(nd out n).b=(nd ns n).b
 t0:∀ n,n<ns.length→(¬ P n (nd ns n).t∨¬ many ns (nd ns n).t)→(nd out n).t=(nd ns n).t
 t1:∀ n,n<ns.length→P n (nd ns n).t→many ns (nd ns n).t→∃ i:Nat,ns.length≤i∧i<out.length∧(nd out n).t=i∧nd out i=skp (nd ns n).t
 e0:∀ n,n<ns.length→(¬ P n (nd ns n).e∨¬ many ns (nd ns n).e)→(nd out n).e=(nd ns n).e
 e1:∀ n,n<ns.length→P n (nd ns n).e→many ns (nd ns n).e→∃ i:Nat,ns.length≤i∧i<out.length∧(nd out n).e=i∧nd out i=skp (nd ns n).e
 new:∀ i,ns.length≤i→i<out.length→∃ n m,n<ns.length∧P n m∧many ns m∧nd out i=skp m
 uniq:∀ i n1 n2:Nat,ns.length≤i→n1<ns.length→n2<ns.length→((nd out n1).t=i∨(nd out n1).e=i)→((nd out n2).t=i∨(nd out n2).e=i)→n1=n2
theorem full_bounds {r:Int} {len:Nat} {x:Nd} (h:Full r len x) (hl:1≤len):0≤x.t∧x.t<len∧0≤x.e∧x.e<len:=by
 have:=h.t;have:=h.t0;have:=h.e;have:=h.e0
 by_cases h12:x.op=12 <;> by_cases h11:x.op=11 <;> simp_all <;> omega
theorem SI.start {r:Int} {ns:List Nd} (hc:chk r ns=0):SI ns ns (fun _ _=>False):=by
 refine ⟨Nat.le_refl _,fun n _=>⟨rfl,rfl,rfl,rfl⟩,fun n _ _=>rfl,fun n _ h=>h.elim,fun n _ _=>rfl,fun n _ h=>h.elim,fun i h1 h2=>by omega,fun i n1 n2 hi h1 h2 q1 _=>?_⟩
 have:=full_bounds (chk_at hc h1) (chk_full hc).1.1
 omega
theorem SI.weak {ns out:List Nd} {P:Nat→Int→Prop} (h:SI ns out P) {n:Nat} {m:Int} (hm:¬ many ns m):SI ns out (fun i j=>P i j∨(i=n∧j=m)):=by
 refine ⟨h.len,h.same,fun j hj hp=>h.t0 j hj ?_,fun j hj hp hmn=>h.t1 j hj ?_ hmn,fun j hj hp=>h.e0 j hj ?_,fun j hj hp hmn=>h.e1 j hj ?_ hmn,fun i h1 h2=>?_,h.uniq⟩
 ·rcases hp with hp | hp
  ·exact Or.inl fun q=>hp (Or.inl q)
  ·exact Or.inr hp
 ·rcases hp with hp | ⟨_,e⟩
  ·exact hp
  ·rw [e] at hmn;exact absurd hmn hm
 ·rcases hp with hp | hp
  ·exact Or.inl fun q=>hp (Or.inl q)
  ·exact Or.inr hp
 ·rcases hp with hp | ⟨_,e⟩
  ·exact hp
  ·rw [e] at hmn;exact absurd hmn hm
 ·obtain ⟨a,b,c,d,e⟩:=h.new i h1 h2;exact ⟨a,b,c,Or.inl d,e⟩
theorem SI.grow {r:Int} {ns out:List Nd} {P:Nat→Int→Prop} (hc:chk r ns=0) (h:SI ns out P) {n:Nat} {m:Int} (hn:n<ns.length) (hm:many ns m) (hp:¬ P n m) (hb:1≤m∧m<ns.length) :
 SI ns (out.set n (trn (nd out n) m out.length)++[skp m]) (fun i j=>P i j∨(i=n∧j=m)):=by
 have hlen:=h.len
 have hno:n<out.length:=by omega
 have at0:∀ j,j<out.length→nd (out.set n (trn (nd out n) m out.length)++[skp m]) j=if j=n then trn (nd out n) m out.length else nd out j:=fun j hj=>by
  rw [nd_app_left (by simpa using hj),nd_set _ hno]
 have atn:∀ j,j<ns.length→j≠n→nd (out.set n (trn (nd out n) m out.length)++[skp m]) j=nd out j:=fun j hj e=>by rw [at0 j (by omega),if_neg e]
 have ato:∀ j,ns.length≤j→j<out.length→nd (out.set n (trn (nd out n) m out.length)++[skp m]) j=nd out j:=fun j h1 h2=>by rw [at0 j h2,if_neg (by omega)]
 have atl:nd (out.set n (trn (nd out n) m out.length)++[skp m]) out.length=skp m:=by
  have:=nd_app_last (out.set n (trn (nd out n) m out.length)) (skp m)
  rwa [List.length_set] at this
 have atN:nd (out.set n (trn (nd out n) m out.length)++[skp m]) n=trn (nd out n) m out.length:=by rw [at0 n hno,if_pos rfl]
 have hfb:=full_bounds (chk_at hc hn) (chk_full hc).1.1
 have hlen' :(out.set n (trn (nd out n) m out.length)++[skp m]).length=out.length+1:=by simp
 have atT:(trn (nd out n) m out.length).t=if (nd out n).t=m then (out.length:Int) else (nd out n).t:=rfl
 have atE:(trn (nd out n) m out.length).e=if (nd out n).e=m then (out.length:Int) else (nd out n).e:=rfl
 have atR:(trn (nd out n) m out.length).op=(nd out n).op∧(trn (nd out n) m out.length).d=(nd out n).d∧(trn (nd out n) m out.length).a=(nd out n).a∧(trn (nd out n) m out.length).b=(nd out n).b:=⟨rfl,rfl,rfl,rfl⟩
 clear at0
 generalize trn (nd out n) m out.length=X at *
 generalize out.set n X++[skp m]=new at *
 have ht:(nd ns n).t=m∧(nd out n).t=m∨(nd ns n).t≠m∧(nd out n).t≠m:=by
  by_cases e:(nd ns n).t=m
  ·left;exact ⟨e,by rw [h.t0 n hn (Or.inl (by rw [e];exact hp)),e]⟩
  ·right
   refine ⟨e,fun q=>?_⟩
   by_cases hP:P n (nd ns n).t∧many ns (nd ns n).t
   ·obtain ⟨i,i1,i2,i3,_⟩:=h.t1 n hn hP.1 hP.2;omega
   ·have:=h.t0 n hn (by by_cases a:P n (nd ns n).t
                        ·right;exact fun b=>hP ⟨a,b⟩
                        ·left;exact a)
    rw [this] at q;exact e q
 have hee:(nd ns n).e=m∧(nd out n).e=m∨(nd ns n).e≠m∧(nd out n).e≠m:=by
  by_cases e:(nd ns n).e=m
  ·left;exact ⟨e,by rw [h.e0 n hn (Or.inl (by rw [e];exact hp)),e]⟩
  ·right
   refine ⟨e,fun q=>?_⟩
   by_cases hP:P n (nd ns n).e∧many ns (nd ns n).e
   ·obtain ⟨i,i1,i2,i3,_⟩:=h.e1 n hn hP.1 hP.2;omega
   ·have:=h.e0 n hn (by by_cases a:P n (nd ns n).e
                        ·right;exact fun b=>hP ⟨a,b⟩
                        ·left;exact a)
    rw [this] at q;exact e q
 have hlt:∀ j,j<ns.length→(nd out j).t<out.length∧(nd out j).e<out.length:=by
  intro j hj
  have hfj:=full_bounds (chk_at hc hj) (chk_full hc).1.1
  constructor
  ·by_cases hP:P j (nd ns j).t∧many ns (nd ns j).t
   ·obtain ⟨i,i1,i2,i3,_⟩:=h.t1 j hj hP.1 hP.2;omega
   ·have:=h.t0 j hj (by by_cases a:P j (nd ns j).t
                        ·right;exact fun b=>hP ⟨a,b⟩
                        ·left;exact a)
    omega
  ·by_cases hP:P j (nd ns j).e∧many ns (nd ns j).e
   ·obtain ⟨i,i1,i2,i3,_⟩:=h.e1 j hj hP.1 hP.2;omega
   ·have:=h.e0 j hj (by by_cases a:P j (nd ns j).e
                        ·right;exact fun b=>hP ⟨a,b⟩
                        ·left;exact a)
    omega
 refine ⟨by omega,fun j hj=>?_,fun j hj hq=>?_,fun j hj hq hmn=>?_,fun j hj hq=>?_,fun j hj hq hmn=>?_,fun i h1 h2=>?_,fun i n1 n2 hi h1 h2 q1 q2=>?_⟩
 ·by_cases e:j=n
  ·subst e;rw [atN,atR.1,atR.2.1,atR.2.2.1,atR.2.2.2];exact h.same j hj
  ·rw [atn j hj e];exact h.same j hj
 ·by_cases e:j=n
  ·subst e
   rw [atN]
   rw [atT]
   rcases ht with ⟨a,b⟩ | ⟨a,b⟩
   ·exfalso
    rcases hq with hq | hq
    ·exact hq (Or.inr ⟨rfl,a⟩)
    ·rw [a] at hq;exact hq hm
   ·rw [if_neg b]
    refine h.t0 j hj ?_
    rcases hq with hq | hq
    ·exact Or.inl fun z=>hq (Or.inl z)
    ·exact Or.inr hq
  ·rw [atn j hj e]
   refine h.t0 j hj ?_
   rcases hq with hq | hq
   ·exact Or.inl fun z=>hq (Or.inl z)
   ·exact Or.inr hq
 ·by_cases e:j=n
  ·subst e
   rw [atN]
   rw [atT]
   rcases ht with ⟨a,b⟩ | ⟨a,b⟩
   ·refine ⟨out.length,by omega,by omega,by rw [if_pos b],by rw [atl,a]⟩
   ·rcases hq with hq | ⟨_,hq⟩
    ·obtain ⟨i,i1,i2,i3,i4⟩:=h.t1 j hj hq hmn
     exact ⟨i,i1,by omega,by rw [if_neg b];exact i3,by rw [ato i i1 i2];exact i4⟩
    ·exact absurd hq a
  ·rw [atn j hj e]
   rcases hq with hq | ⟨hq,_⟩
   ·obtain ⟨i,i1,i2,i3,i4⟩:=h.t1 j hj hq hmn
    exact ⟨i,i1,by omega,i3,by rw [ato i i1 i2];exact i4⟩
   ·exact absurd hq e
 ·by_cases e:j=n
  ·subst e
   rw [atN]
   rw [atE]
   rcases hee with ⟨a,b⟩ | ⟨a,b⟩
   ·exfalso
    rcases hq with hq | hq
    ·exact hq (Or.inr ⟨rfl,a⟩)
    ·rw [a] at hq;exact hq hm
   ·rw [if_neg b]
    refine h.e0 j hj ?_
    rcases hq with hq | hq
    ·exact Or.inl fun z=>hq (Or.inl z)
    ·exact Or.inr hq
  ·rw [atn j hj e]
   refine h.e0 j hj ?_
   rcases hq with hq | hq
   ·exact Or.inl fun z=>hq (Or.inl z)
   ·exact Or.inr hq
 ·by_cases e:j=n
  ·subst e
   rw [atN]
   rw [atE]
   rcases hee with ⟨a,b⟩ | ⟨a,b⟩
   ·refine ⟨out.length,by omega,by omega,by rw [if_pos b],by rw [atl,a]⟩
   ·rcases hq with hq | ⟨_,hq⟩
    ·obtain ⟨i,i1,i2,i3,i4⟩:=h.e1 j hj hq hmn
     exact ⟨i,i1,by omega,by rw [if_neg b];exact i3,by rw [ato i i1 i2];exact i4⟩
    ·exact absurd hq a
  ·rw [atn j hj e]
   rcases hq with hq | ⟨hq,_⟩
   ·obtain ⟨i,i1,i2,i3,i4⟩:=h.e1 j hj hq hmn
    exact ⟨i,i1,by omega,i3,by rw [ato i i1 i2];exact i4⟩
   ·exact absurd hq e
 ·by_cases e:i=out.length
  ·subst e;exact ⟨n,m,hn,Or.inr ⟨rfl,rfl⟩,hm,atl⟩
  ·have h2' :i<out.length:=by omega
   obtain ⟨a,b,c,d,f,g⟩:=h.new i h1 h2'
   exact ⟨a,b,c,Or.inl d,f,by rw [ato i h1 h2'];exact g⟩
 ·
  have key:∀ j,j<ns.length→((nd new j).t=i∨(nd new j).e=i)→(i=out.length∧j=n)∨(i<out.length∧((nd out j).t=i∨(nd out j).e=i)):=by
   intro j hj hq
   have hb' :=hlt j hj
   by_cases e:j=n
   ·subst e
    rw [atN,atT,atE] at hq
    rcases hq with hq | hq
    ·split at hq
     ·left;exact ⟨by omega,rfl⟩
     ·right;exact ⟨by omega,Or.inl hq⟩
    ·split at hq
     ·left;exact ⟨by omega,rfl⟩
     ·right;exact ⟨by omega,Or.inr hq⟩
   ·rw [atn j hj e] at hq
    right
    rcases hq with hq | hq
    ·exact ⟨by omega,Or.inl hq⟩
    ·exact ⟨by omega,Or.inr hq⟩
  rcases key n1 h1 q1 with ⟨a,b⟩ | ⟨a,b⟩ <;> rcases key n2 h2 q2 with ⟨c,d⟩ | ⟨c,d⟩
  ·rw [b,d]
  ·omega
  ·omega
  ·exact h.uniq i n1 n2 hi h1 h2 b d
theorem SI.one {r:Int} {ns out:List Nd} {P:Nat→Int→Prop} (hc:chk r ns=0) (h:SI ns out P) {n:Nat} {m:Int} (hn:n<ns.length) (hp:¬ P n m) (hb:1≤m∧m<ns.length):SI ns (spl1 ns n out m) (fun i j=>P i j∨(i=n∧j=m)):=by
 unfold spl1
 split
 ·rename_i hm;exact h.grow hc hn hm hp hb
 ·rename_i hm;exact h.weak hm
def PTo (ns:List Nd) (k:Nat) (i:Nat) (m:Int):Prop:=i<k∧(nd ns i).op≠0∧m∈exo (nd ns i)
theorem SI.congr {ns out:List Nd} {P Q:Nat→Int→Prop} (h:SI ns out P) (e:∀ i m,P i m↔Q i m):SI ns out Q:=by
 have:P=Q:=by funext i m;exact propext (e i m)
 rw [← this];exact h
theorem exo_bounds {r:Int} {len:Nat} {x:Nd} (h:Full r len x) {m:Int} (hm:m∈exo x):1≤m∧m<len:=by
 unfold exo at hm
 split at hm
 ·rename_i h11
  have a:=h.t (by omega)
  have b:=h.e h11
  split at hm
  ·simp at hm;omega
  ·simp at hm;omega
 ·split at hm
  ·rename_i h11 hw
   have:=wi_iff.1 hw
   have a:=h.t (by omega)
   simp at hm;omega
  ·simp at hm
theorem split_SI {r:Int} {ns:List Nd} (hc:chk r ns=0):∀ k,k≤ns.length→SI ns (splTo ns k) (PTo ns k)
 | 0,_=>(SI.start hc).congr fun i m=>by simp [PTo]
 | k+1,hk=>by
  have ih:=split_SI hc k (by omega)
  have hF:=chk_at hc (show k<ns.length by omega)
  rw [splTo_succ]
  unfold spl2
  have hpk:∀ m,¬ PTo ns k k m:=fun m h=>by have:=h.1;omega
  split
  ·rename_i h0
   refine ih.congr fun i m=>⟨fun h=>⟨by have:=h.1;omega,h.2⟩,fun h=>⟨?_,h.2⟩⟩
   have h1:=h.1
   have h2:i≠k:=fun e=>by subst e;exact h.2.1 h0
   omega
  ·rename_i h0
   have hx:∀ m,m∈exo (nd ns k)→1≤m∧m<ns.length:=fun m hm=>exo_bounds hF hm
   have hin:∀ i m,PTo ns (k+1) i m↔PTo ns k i m∨(i=k∧m∈exo (nd ns k)):=by
    intro i m
    constructor
    ·intro h
     by_cases e:i=k
     ·subst e;exact Or.inr ⟨rfl,h.2.2⟩
     ·exact Or.inl ⟨by have:=h.1;omega,h.2⟩
    ·rintro (h | ⟨rfl,h⟩)
     ·exact ⟨by have:=h.1;omega,h.2⟩
     ·exact ⟨by omega,h0,h⟩
   generalize hex:exo (nd ns k)=ex at hx hin ⊢
   have hcase:ex=[]∨(∃ a,ex=[a])∨∃ a b,ex=[a,b]∧a≠b:=by
    rw [← hex];unfold exo
    split
    ·split
     ·exact Or.inr (Or.inl ⟨_,rfl⟩)
     ·rename_i q;exact Or.inr (Or.inr ⟨_,_,rfl,fun e=>q e.symm⟩)
    ·split
     ·exact Or.inr (Or.inl ⟨_,rfl⟩)
     ·exact Or.inl rfl
   rcases hcase with rfl | ⟨a,rfl⟩ | ⟨a,b,rfl,hab⟩
   ·exact ih.congr fun i m=>by rw [hin];simp
   ·have h1:=ih.one hc (n:=k) (m:=a) (by omega) (hpk a) (hx a (by simp))
    exact h1.congr fun i m=>by rw [hin];simp
   ·have h1:=ih.one hc (n:=k) (m:=a) (by omega) (hpk a) (hx a (by simp))
    have h2:=h1.one hc (n:=k) (m:=b) (by omega) (by rintro (h | ⟨_,h⟩)
                                                    ·exact hpk b h
                                                    ·exact hab h.symm) (hx b (by simp))
    refine h2.congr fun i m=>?_
    rw [hin]
    simp only [List.mem_cons,List.not_mem_nil,or_false]
    constructor
    ·rintro ((h | ⟨a1,a2⟩) | ⟨a1,a2⟩)
     ·exact Or.inl h
     ·exact Or.inr ⟨a1,Or.inl a2⟩
     ·exact Or.inr ⟨a1,Or.inr a2⟩
    ·rintro (h | ⟨a1,a2 | a2⟩)
     ·exact Or.inl (Or.inl h)
     ·exact Or.inl (Or.inr ⟨a1,a2⟩)
     ·exact Or.inr ⟨a1,a2⟩
theorem split_new {r:Int} {ns:List Nd} (hc:chk r ns=0) {i:Nat} (h1:ns.length≤i) (h2:i<(splitN ns).length) :
 ∃ m:Int,nd (splitN ns) i=skp m∧1≤m∧m<ns.length∧many ns m:=by
 obtain ⟨n,m,hn,hp,hm,e⟩:=(split_SI hc ns.length (Nat.le_refl _)).new i h1 h2
 have:=exo_bounds (chk_at hc hn) hp.2.2
 exact ⟨m,e,this.1,this.2,hm⟩
theorem split_chk {r:Int} {ns:List Nd} (hc:chk r ns=0) (hl:(splitN ns).length≤256):chk r (splitN ns)=0:=by
 have H:=split_SI hc ns.length (Nat.le_refl _)
 change SI ns (splitN ns) _ at H
 have h:=chk_full hc
 have hlen:=H.len
 refine chk_mk ⟨by omega,hl⟩ h.2.1 fun y hy=>?_
 obtain ⟨n,hn⟩:=List.getElem?_of_mem hy
 have hlt:=(List.getElem?_eq_some_iff.1 hn).1
 have hy:y=nd (splitN ns) n:=(nd_get hn).symm
 subst hy
 by_cases h1:n<ns.length
 ·have hF:=chk_at hc h1
  obtain ⟨o1,o2,o3,o4⟩:=H.same n h1
  have ht:(nd (splitN ns) n).t=(nd ns n).t∨(nd ns n).op≠12∧ns.length≤(nd (splitN ns) n).t∧(nd (splitN ns) n).t<(splitN ns).length:=by
   by_cases hP:PTo ns ns.length n (nd ns n).t∧many ns (nd ns n).t
   ·right
    obtain ⟨i,i1,i2,i3,_⟩:=H.t1 n h1 hP.1 hP.2
    refine ⟨fun e=>?_,by omega,by omega⟩
    have:=hP.1.2.2
    simp [exo,e,wi] at this
   ·left
    exact H.t0 n h1 (by by_cases a:PTo ns ns.length n (nd ns n).t
                        ·right;exact fun b=>hP ⟨a,b⟩
                        ·left;exact a)
  have hee:(nd (splitN ns) n).e=(nd ns n).e∨(nd ns n).op=11∧ns.length≤(nd (splitN ns) n).e∧(nd (splitN ns) n).e<(splitN ns).length:=by
   by_cases hP:PTo ns ns.length n (nd ns n).e∧many ns (nd ns n).e
   ·obtain ⟨i,i1,i2,i3,_⟩:=H.e1 n h1 hP.1 hP.2
    right
    refine ⟨?_,by omega,by omega⟩
    by_cases e11:(nd ns n).op=11
    ·exact e11
    ·exfalso
     have hx:=hP.1.2.2
     have e0:=hF.e0 e11
     have:=exo_bounds hF hx
     omega
   ·left
    exact H.e0 n h1 (by by_cases a:PTo ns ns.length n (nd ns n).e
                        ·right;exact fun b=>hP ⟨a,b⟩
                        ·left;exact a)
  refine ⟨by rw [o1];exact hF.op,by rw [o1,o2];exact hF.d,by rw [o1,o2];exact hF.d0,by rw [o1,o3];exact hF.a,by rw [o1,o3];exact hF.a0,by rw [o1,o4];exact hF.b,by rw [o1,o4];exact hF.b0,?_,?_,?_,?_⟩
  ·rw [o1];intro q
   have:=hF.t q
   rcases ht with ht | ht
   ·rw [ht];omega
   ·omega
  ·rw [o1];intro q
   have:=hF.t0 q
   rcases ht with ht | ht
   ·rw [ht];exact this
   ·exact absurd q ht.1
  ·rw [o1];intro q
   have:=hF.e q
   rcases hee with ht | ht
   ·rw [ht];omega
   ·omega
  ·rw [o1];intro q
   have:=hF.e0 q
   rcases hee with ht | ht
   ·rw [ht];exact this
   ·exact absurd ht.1 q
 ·obtain ⟨m,e,m1,m2,_⟩:=split_new hc (by omega) hlt
  rw [e]
  refine ⟨by simp [skp],by simp [skp],by simp [skp],by simp [skp],by simp [skp],by simp [skp],by simp [skp],?_,by simp [skp],by simp [skp],by simp [skp]⟩
  intro _
  show 1≤m∧m<_
  omega
end Go.Proofs.YtnbdnbcnlgnicaaGreat
namespace Go.Proofs.YtnbdnbcnlgnicaaGreat
open Go
def calmQ (Q:Exit→Act→World→Prop) (e:Exit) (a:Act) (w:World):Prop:=(∀ c,e≠ .panic c)∧Q e a w
theorem wp_region_calm {P:Program} {ops:Array Oper} {Q:Exit→Act→World→Prop} {S:World→Prop} {id:Nat} {a:Act} {w:World} (hm:P.follows .mixedOrders=true) (hS:S w.drew)
 (h:(∀ (d:Option Nat) (v:Value) c a w,calmQ Q (.panic c) (a.put d v) w→calmQ Q (.panic c) a w)→S w.drew→wpAnyH P .any ops (calmQ Q) S ops.size (Array.replicate ops.size false) a w.drew):(Code.region id ops true).wp P Q a w :=
 Code.wp_mono (fun _ _ _ h=>h.2) (wp_region_held_drew hm hS (h fun _ _ c _ _ q=>absurd rfl (q.1 c)))
end Go.Proofs.YtnbdnbcnlgnicaaGreat
namespace Go.Proofs.YtnbdnbcnlgnicaaGreat
open Go.RowKit Go.Shelf
attribute [local go_sem] Oper.semAt_some
theorem info_bool:(Tryz.prog.info? 4).map (fun i=>(i.zero,i.size,i.bytes))=some (some (.bool false),1,1):=by kernel_rfl
theorem made_bools (n:Nat):madeCells #[Value.bool false] n=((List.replicate n false).map Value.bool).toArray:=by
 apply Array.ext'
 rw [toList_madeCells_one]
 simp
structure RM (w:World) (base q cb L:Nat) (x:List Bool) (cs:List Int) (vc:Value):Prop where
 row:w.heap[q]?=some (.cells (x.map Value.bool).toArray 4 (0,0))
 rbx:Boxed w (q+1) 27 (.slice (some ⟨q,0,none⟩) L L)
 cbx:Boxed w cb 54 vc
 come:w.ownsRow base 3 1 vc cs.length (cs.map (Value.int .i64))
theorem RM.kept {w w' :World} {base q cb L:Nat} {x:List Bool} {cs:List Int} {vc:Value} (h:RM w base q cb L x cs vc) {row:Option Nat} (hg:w.grownBy w' row) (hr:∀ r,row=some r→∃ o:Obj,w.heap[r]?=some o∧o.isCells=false):RM w' base q cb L x cs vc:=by
 have hcl:∀ (b:Nat) (o:Obj),w.heap[b]?=some o→o.isCells=true→some b≠row:=fun b o h1 h2 e=>by
  obtain ⟨o', h3,h4⟩:=hr b e.symm
  rw [h1] at h3;cases h3;rw [h2] at h4;cases h4
 refine ⟨(hg.block q (blk_lt h.row) (hcl _ _ h.row rfl)).trans h.row,h.rbx.kept hg (hcl _ _ h.rbx rfl),h.cbx.kept hg (hcl _ _ h.cbx rfl),h.come.kept hg ?_⟩
 rcases h.come.2 with ⟨rfl,_⟩ | ⟨g,cap,cur,rfl,_,hgb,_⟩
 ·exact .inl rfl
 ·exact .inr (by
   have:=hcl g _ hgb rfl
   simpa [Value.ownBlock] using this)
theorem RM.below {w w' :World} {base q cb L:Nat} {x:List Bool} {cs:List Int} {vc:Value} (h:RM w base q cb L x cs vc) (hb:Below w.heap.size w w'):RM w' base q cb L x cs vc:=h.kept (grown_of_below hb none) (fun r e=>by cases e)
theorem RM.set {w:World} {base q cb L:Nat} {x:List Bool} {cs:List Int} {vc:Value} (h:RM w base q cb L x cs vc) (m:Nat):RM (w.setCell ⟨q,m,none⟩ (.bool true)) base q cb L (x.set m true) cs vc:=by
 refine ⟨?_,?_,?_,owns_set h.come h.row (by decide)⟩
 ·rw [blk_set _ h.row];simp [List.map_set]
 ·exact (Below.heap_setCell _ _ _ _ (boxed_ne h.rbx h.row (by decide))).trans h.rbx
 ·exact (Below.heap_setCell _ _ _ _ (boxed_ne h.cbx h.row (by decide))).trans h.cbx
set_option maxRecDepth 100000 in
theorem reach_ok (r:Int) (b off cap:Nat) (ns:List Nd) (w:World) (hN:NodesAt w b off ns) (hc:chk r ns=0) :
 CallsIn Fence.wide 5 Tryz.prog 84 #[.agg #[.int .i64 r,.slice (some ⟨b,off,none⟩) ns.length cap]] w fun e w' =>∃ v,e=.returned (.tuple #[v,.int .i64 0])∧w'.ownsRow w.heap.size 4 1 v ns.length ((rchL ns).map Value.bool)∧Below w.heap.size w w' :=by
 have hl:=(chk_zero hc).1
 obtain ⟨i0,hi0,hz0,hz1,hz2⟩:=info_parts info_int
 refine callsIn_of_wp_marks Tryz.func84 rfl trivial ?_ rfl
 simp only [Tryz.ntmps84,List.size_toArray,List.length_cons,List.length_nil,Nat.reduceAdd,Nat.reduceSub,Array.replicate_succ,Array.replicate_zero,List.push_toArray,List.append_toArray,List.nil_append,List.cons_append]
 have hb0:Below w.heap.size w (w.alloc (.cells #[.int .i64 r,.slice (some ⟨b,off,none⟩) ns.length cap] 24)):=(Below.refl _ w).alloc (Nat.le_refl _) _
 have hck:=check_any r (some ⟨b,off,none⟩) cap ns _ (Or.inr ⟨b,off,rfl,hN.below hb0 hN.lt⟩:SlN (w.alloc (.cells #[.int .i64 r,.slice (some ⟨b,off,none⟩) ns.length cap] 24)) _ ns)
 rw [hc] at hck
 have HCK:=hide' hck
 clear hck
 have h15:1≤5:=by decide
 gi_wp2_with (refine ⟨trivial,?_⟩;gi_at_call 61;refine (callsIn_wide.2 HCK.out).mono ?_)
 rintro e w1 ⟨rfl,hb1⟩
 have hs1:=hb1.size
 simp only [World.size_alloc] at hs1 hb1
 have hB1:Below w.heap.size w w1:=hb0.trans (hb1.mono (by omega))
 have p1:w1.cell? ⟨w.heap.size,1,none⟩=some (.slice (some ⟨b,off,none⟩) ns.length cap):=by rw [hb1.cell (p:=⟨w.heap.size,1,none⟩) (by simp)];simp
 have hlt1:w.heap.size<w1.heap.size:=by omega
 have hms:∀ W:World,Sem.run Tryz.prog (Instr.makeSlice 27 (.int .i64 (ns.length:Int)) (.int .i64 (ns.length:Int))) W=.ok (.slice (some ⟨W.heap.size,0,none⟩) ns.length ns.length) (W.alloc (.cells (madeCells #[.bool false] ns.length) 4)):=fun W=>run_make_row' 27 4 _ 1 Tryz.underlying27 info_bool rfl .i64 .i64 ns.length (by omega) (by omega) W
 have hpos:(0:Int)<(ns.length:Int):=by omega
 have hposn:0<ns.length:=by omega
 clear hb1 hb0
 gi_upto_region 5 with fail
 have hr0:((w1.alloc (.cells (madeCells #[.bool false] ns.length) 4)).alloc (.cells #[.slice (some ⟨w1.heap.size,0,none⟩) ns.length ns.length] 27)).heap[w1.heap.size]?=some (.cells ((List.replicate ns.length false).map Value.bool).toArray 4 (0,0)):=by
  rw [Below.heap_alloc _ _ _ (by simp),World.alloc_heap_new,made_bools]
 have hx0:Boxed ((w1.alloc (.cells (madeCells #[.bool false] ns.length) 4)).alloc (.cells #[.slice (some ⟨w1.heap.size,0,none⟩) ns.length ns.length] 27)) (w1.heap.size+1) 27 (.slice (some ⟨w1.heap.size,0,none⟩) ns.length ns.length):=by
  have:=Boxed.new (w1.alloc (.cells (madeCells #[.bool false] ns.length) 4)) 27 (.slice (some ⟨w1.heap.size,0,none⟩) ns.length ns.length)
  simpa only [World.size_alloc] using this
 have hbA:Below w1.heap.size w1 ((w1.alloc (.cells (madeCells #[.bool false] ns.length) 4)).alloc (.cells #[.slice (some ⟨w1.heap.size,0,none⟩) ns.length ns.length] 27)):=((Below.refl _ w1).alloc (Nat.le_refl _) _).alloc (by simp) _
 have hsA:Hid (((w1.alloc (.cells (madeCells #[.bool false] ns.length) 4)).alloc (.cells #[.slice (some ⟨w1.heap.size,0,none⟩) ns.length ns.length] 27)).heap.size=w1.heap.size+2):=by show _=_;simp
 generalize ((w1.alloc (.cells (madeCells #[.bool false] ns.length) 4)).alloc (.cells #[.slice (some ⟨w1.heap.size,0,none⟩) ns.length ns.length] 27))=WA at hr0 hx0 hbA hsA ⊢
 have xc:=hx0.cell
 have rc0:=blk_cell hr0 0
 have rf0:=blk_frozen hr0 0
 have rc1:((List.replicate ns.length false).map Value.bool).toArray[0]?=some (.bool false):=by
  rw [List.getElem?_toArray,List.getElem?_map,List.getElem?_replicate,if_pos hposn];rfl
 rw [rc1] at rc0
 gi_upto_region 6 with fail
 have hM0:RM (((WA.setCell ⟨w1.heap.size,0,none⟩ (.bool true)).alloc (.cells #[.int .i64 0] 3)).alloc (.cells #[.slice (some ⟨WA.heap.size,0,none⟩) 1 1] 54)) w1.heap.size w1.heap.size (WA.heap.size+1) ns.length ((List.replicate ns.length false).set 0 true) [0] (.slice (some ⟨WA.heap.size,0,none⟩) 1 1):=by
  have e1:(WA.setCell ⟨w1.heap.size,0,none⟩ (.bool true)).heap.size=WA.heap.size:=by simp
  have h1:(WA.setCell ⟨w1.heap.size,0,none⟩ (.bool true)).heap[w1.heap.size]?=some (.cells (((List.replicate ns.length false).set 0 true).map Value.bool).toArray 4 (0,0)):=by
   rw [blk_set _ hr0];simp only [List.map_set,List.setIfInBounds_toArray]
  have h2:Boxed (WA.setCell ⟨w1.heap.size,0,none⟩ (.bool true)) (w1.heap.size+1) 27 (.slice (some ⟨w1.heap.size,0,none⟩) ns.length ns.length):=(Below.heap_setCell _ _ _ _ (boxed_ne hx0 hr0 (by decide))).trans hx0
  have h3:=Boxed.new ((WA.setCell ⟨w1.heap.size,0,none⟩ (.bool true)).alloc (.cells #[.int .i64 0] 3)) 54 (.slice (some ⟨WA.heap.size,0,none⟩) 1 1)
  rw [World.size_alloc,e1] at h3
  have h4:=World.alloc_heap_new (WA.setCell ⟨w1.heap.size,0,none⟩ (.bool true)) (.cells #[.int .i64 0] 3)
  rw [e1] at h4
  refine ⟨(Below.heap_alloc _ _ _ (by have:=blk_lt h1;simp at this ⊢;omega)).trans ((Below.heap_alloc _ _ _ (blk_lt h1)).trans h1),(h2.alloc _).alloc _,h3,⟨rfl,Or.inr ⟨WA.heap.size,1,#[.int .i64 0],rfl,by have:=hbA.size;omega,?_,Nat.le_refl _,by decide,rfl,rfl⟩⟩⟩
  exact (Below.heap_alloc _ _ _ (by simp)).trans h4
 have hB0:Below w1.heap.size w1 (((WA.setCell ⟨w1.heap.size,0,none⟩ (.bool true)).alloc (.cells #[.int .i64 0] 3)).alloc (.cells #[.slice (some ⟨WA.heap.size,0,none⟩) 1 1] 54)) :=
  ((hbA.setCell (p:=⟨w1.heap.size,0,none⟩) (Nat.le_refl _) _).alloc (by have:=hbA.size;simp;omega) _).alloc (by have:=hbA.size;simp;omega) _
 have hsWA:=hbA.size
 clear hr0 hx0 hbA xc rc0 rf0 rc1
 gi_upto_region 7 with fail
 generalize (((WA.setCell ⟨w1.heap.size,0,none⟩ (.bool true)).alloc (.cells #[.int .i64 0] 3)).alloc (.cells #[.slice (some ⟨WA.heap.size,0,none⟩) 1 1] 54))=W0 at hM0 hB0 ⊢
 gi_wp2
 have hbf0:=Bfs.start (ns:=ns) hposn
 refine wpIn_loop (fun a W=>∃ (i:Nat) (x:List Bool) (cs:List Int) (vc u21 u22 u23 u24 u25 u26 u27 u28 u29 u30 u31 u32 u33 u34 u35:Value) (ds:List Nat),Bfs ns x cs i []∧i≤cs.length∧RM W w1.heap.size w1.heap.size (WA.heap.size+1) ns.length x cs vc∧Below w1.heap.size w1 W∧Marks ds W∧(∀ D∈ds,w1.heap.size≤D) ∧
  a={ tmps:=#[.agg #[.int .i64 r,.slice (some ⟨b,off,none⟩) ns.length cap],.pointer (some ⟨w.heap.size,0,none⟩),.slice none 0 0,.int .i64 0,.int .i64 0,.pointer (some ⟨w1.heap.size+1,0,none⟩),.pointer (some ⟨WA.heap.size+1,0,none⟩),.int .i64 i,undef,.agg #[.int .i64 r,.slice (some ⟨b,off,none⟩) ns.length cap],.int .i64 0,.int .i64 0,.bool false,undef,.pointer (some ⟨w.heap.size,1,none⟩),.slice (some ⟨b,off,none⟩) ns.length cap,.int .i64 ns.length,.slice (some ⟨w1.heap.size,0,none⟩) ns.length ns.length,.slice (some ⟨w1.heap.size,0,none⟩) ns.length ns.length,.pointer (some ⟨w1.heap.size,0,none⟩),.slice (some ⟨WA.heap.size,0,none⟩) 1 1,u21,u22,u23,u24,u25,u26,u27,u28,u29,u30,u31,u32,u33,u34,u35,undef,undef,undef,undef,undef,undef,undef,undef,undef,undef,undef,undef,undef,undef],defers:=ds.map markD })
  (fun a _=>ns.length-(intOf (a.tmps.getD 7 undef)).toNat) ?atStart ?round
 case atStart=>exact ⟨0,_,[0],_,_,_,_,_,_,_,_,_,_,_,_,_,_,_,_,[],hbf0,by simp,hM0,hB0,Marks.nil _,by simp,rfl⟩
 case round =>
  rintro _ wr ⟨i,x,cs,vc,u21,u22,u23,u24,u25,u26,u27,u28,u29,u30,u31,u32,u33,u34,u35,ds,hbf,hi,hM,hB,hMk,hD', rfl⟩
  have hcl:=hbf.len_le
  have xc:=hM.cbx.cell
  have xr:=hM.rbx.cell
  have p2:wr.cell? ⟨w.heap.size,1,none⟩=some (.slice (some ⟨b,off,none⟩) ns.length cap):=(hB.cell (p:=⟨w.heap.size,1,none⟩) hlt1).trans p1
  have hszr:=hB.size
  have hltr:w.heap.size<wr.heap.size:=by omega
  have hxl:=hM.rbx.lt
  have hcl2:=hM.cbx.lt
  by_cases hlt:i<cs.length
  ·obtain ⟨c,hci⟩:=get_lt hlt
   have hcr:=hbf.rng c (List.mem_of_getElem? hci)
   obtain ⟨cn,rfl⟩:=Int.eq_ofNat_of_zero_le hcr.1
   obtain ⟨g,gcap,rfl,hbase,hglt⟩:=hM.come.form (by omega)
   have hgc:wr.cell? ⟨g,i,none⟩=some (.int .i64 cn):=by
    have:=hM.come.cells (g:=g) rfl i (.int .i64 cn) (by simp [hci])
    have e:(⟨g,0,none⟩:Addr).add i=⟨g,i,none⟩:=by cases i <;> simp [Addr.add]
    rw [e] at this;exact this
   have hcn:cn<ns.length:=by omega
   obtain ⟨y,hy⟩:=get_lt hcn
   have hN1:=hN.below (hB1.trans (hB.mono (by omega))) hN.lt
   have c0:=hN1.c0 cn y hy
   have c1:=hN1.c1 cn y hy
   have c2:=hN1.c2 cn y hy
   have c3:=hN1.c3 cn y hy
   have c4:=hN1.c4 cn y hy
   have c5:=hN1.c5 cn y hy
   have hblt:=hN1.lt
   have HY:=hide' hy
   have HN:=hide' hN1
   have HM:=hide' hM
   have HBF:=hide' hbf
   have HCI:=hide' hci
   clear hy hN1 hM hbf hci
   gi_wp2
   refine wpIn_wide.2 ?_
   refine wp_region_calm (S:=fun u=>∀ p:Addr,p.block<wr.heap.size→u.cell? p=wr.cell? p) (by kernel_rfl) (fun p hp=>rfl) (fun hQp hHeld=>?_)
   refine tkw 0 ?_
   iterate 7 (refine tkv ?_)
   refine tkr 8 (fun K hK=>?_)
   go_simp
   refine (callsIn_wide.1 (exits_in 0 _ _ _ _ _ _ _)).mono ?_
   rintro e w' ⟨rfl,rfl⟩
   refine hK.out _ _ (fun p hp=>((Below.refl wr.heap.size wr.drew).alloc (Nat.le_refl _) _).cell hp) (fun hHeld=>?_)
   clear hK K hHeld
   refine wpAnyH_done (by kernel_rfl) ⟨fun _=>Exit.noConfusion,?_⟩ _
   clear hQp
   rw [show ∀ o,wr.drew.alloc o=(wr.alloc o).drew from fun _=>rfl]
   gi_wp2
   have hBL:Below wr.heap.size wr ((wr.alloc (.cells #[.int .i64 y.op,.int .i64 y.d,.int .i64 y.a,.int .i64 y.b,.int .i64 y.t,.int .i64 y.e] 47)).drew):=((Below.refl _ wr).alloc (Nat.le_refl _) _).drew
   have hnb:NodeBox ((wr.alloc (.cells #[.int .i64 y.op,.int .i64 y.d,.int .i64 y.a,.int .i64 y.b,.int .i64 y.t,.int .i64 y.e] 47)).drew) wr.heap.size y:=nodeBox_new wr y
   generalize (wr.alloc (.cells #[.int .i64 y.op,.int .i64 y.d,.int .i64 y.a,.int .i64 y.b,.int .i64 y.t,.int .i64 y.e] 47)).drew=WL at hBL hnb ⊢
   have hsL:=hBL.size
   have hltB:=hnb.lt
   have hMkL:=hMk.below hBL
   have hMl:∀ E∈ds,E<wr.heap.size:=fun E hE=>hMk.lt hE
   have hyn:nd ns cn=y:=nd_get HY.out
   have hmx:∀ z:Ex y,0≤z.1∧z.1<ns.length:=fun z=>by
    have:=exo_bounds (chk_at hc hcn) (m:=z.1) (by rw [hyn];exact z.2)
    omega
   have HYN:=hide' hyn
   clear hyn c0 c1 c2 c3 c4 c5 xc xr p2 hgc hMk
   refine wpIn_rangeFunc_ownG rfl (by decide) (gf:=110) (lb:=#[.pointer (some ⟨wr.heap.size,0,none⟩)]) rfl trivial (enters_of Tryz.func110 (by kernel_rfl) rfl)
    (exits_stops 4 (by omega) wr.heap.size y _ hnb) KT.trans (KT.putObj hltB) (Below.refl _ _) (fun _=>rfl)
    (fun pre W=>((∃ x cs vc,Bfs ns x cs i (pre.map (·.1))∧cs[i]?=some (cn:Int)∧RM W w1.heap.size w1.heap.size (WA.heap.size+1) ns.length x cs vc)∧NodeBox W wr.heap.size y∧Marks ds W)∧Below w1.heap.size w1 W)
    (fun _ _ _=>False)
    (OwnFrom.and ?own (ownFrom_below (by omega) (by omega)))
    (fun _ _ _ _ _ hs _ _=>hs)
    ⟨⟨⟨x,cs,_,HBF.out,HCI.out,HM.out.below hBL⟩,hnb,hMkL⟩,hB.trans (hBL.mono hszr)⟩
    (fun z=>{ tmps:=#[.agg #[.int .i64 r,.slice (some ⟨b,off,none⟩) ns.length cap],.pointer (some ⟨w.heap.size,0,none⟩),.slice none 0 0,.int .i64 0,.int .i64 0,.pointer (some ⟨w1.heap.size+1,0,none⟩),.pointer (some ⟨WA.heap.size+1,0,none⟩),.int .i64 i,.int .i64 z.1,.agg #[.int .i64 r,.slice (some ⟨b,off,none⟩) ns.length cap],.int .i64 0,.int .i64 0,.bool false,undef,.pointer (some ⟨w.heap.size,1,none⟩),.slice (some ⟨b,off,none⟩) ns.length cap,.int .i64 ns.length,.slice (some ⟨w1.heap.size,0,none⟩) ns.length ns.length,.slice (some ⟨w1.heap.size,0,none⟩) ns.length ns.length,.pointer (some ⟨w1.heap.size,0,none⟩),.slice (some ⟨WA.heap.size,0,none⟩) 1 1,.int .i64 i,.slice (some ⟨g,0,none⟩) cs.length gcap,.int .i64 cs.length,.bool true,u25,u26,.pointer (some ⟨w.heap.size,1,none⟩),.slice (some ⟨b,off,none⟩) ns.length cap,.slice (some ⟨g,0,none⟩) cs.length gcap,.int .i64 (i:Int),.pointer (some ⟨g,i,none⟩),.int .i64 (cn:Int),.pointer (some ⟨b,off+cn*6,none⟩),.agg #[.int .i64 y.op,.int .i64 y.d,.int .i64 y.a,.int .i64 y.b,.int .i64 y.t,.int .i64 y.e],.func (.func 110) #[] #[.pointer (some ⟨wr.heap.size,0,none⟩)],.int .i64 z.1,undef,undef,undef,undef,undef,undef,undef,undef,undef,undef,undef,undef,undef],defers:=[] }) ?assign ?body ?done ?stop
   case own =>
    rintro pre A C row ⟨⟨x,cs,vc,h1,h2,h3⟩,hb3,hm1⟩ hg hr
    have hcl:∀ (b:Nat) (o:Obj),A.heap[b]?=some o→o.isCells=true→some b≠row:=fun b o h1 h2 e=>by
     obtain ⟨_,o', h3,h4⟩:=hr b e.symm
     rw [h1] at h3;cases h3;rw [h2] at h4;cases h4
    exact ⟨⟨x,cs,vc,h1,h2,h3.kept hg (fun r e=>(hr r e).2)⟩,(hg.block _ hb3.lt (hcl _ _ hb3 rfl)).trans hb3,hm1.grown hg fun q e hq=>by
     have h1:=(hr q e).1
     have h2:=hMl q hq
     omega⟩
   case assign =>
    intro l z W K hK
    gi_wp2
    exact hK
   case body =>
    rintro l pre z W ⟨⟨⟨x,cs,vc,hbf,hci,hRM⟩,hb3,hm1⟩,hB2⟩ hpl
    obtain ⟨hm0,hm2⟩:=hmx z
    obtain ⟨m,hmz⟩:=Int.eq_ofNat_of_zero_le hm0
    have hml:m<ns.length:=by omega
    have hmx' :m<x.length:=by rw [hbf.len];exact hml
    have hbox:=hRM.rbx.cell
    have hrc:W.cell? ⟨w1.heap.size,m,none⟩=some (.bool (bat x m)):=by
     rw [blk_cell hRM.row]
     rw [List.getElem?_toArray,List.getElem?_map,get_bat hmx'];rfl
    have hlt2:(m:Int)<(ns.length:Int):=by omega
    rw [hmz]
    cases hxm:bat x m
    ·rw [hxm] at hrc
     have hrf:=blk_frozen hRM.row m
     have hS:=hRM.set m
     have hbfN:=hbf.new hc hml hxm hci (by rw [Int.toNat_natCast,HYN.out,← hmz];exact z.2)
     have hbS:Below w1.heap.size W (W.setCell ⟨w1.heap.size,m,none⟩ (.bool true)):=(Below.refl _ W).setCell (p:=⟨w1.heap.size,m,none⟩) (Nat.le_refl _) _
     have hKS:KT wr.heap.size W (W.setCell ⟨w1.heap.size,m,none⟩ (.bool true)):=KT.setCell hRM.row (by decide) (boxed_ne hRM.row hb3 (by decide)) _
     have hOS:KeepsOthers W (W.setCell ⟨w1.heap.size,m,none⟩ (.bool true)):=KeepsOthers.setCell _ _ _
     have hpl2:=hbfN.len_le
     have hcl3:cs.length+1≤256:=by simp at hpl2;omega
     have HBN:=hide' hbfN
     have HCI2:=hide' hci
     gi_upto_region 14 with fail
     clear hRM hbox hrc hrf
     generalize W.setCell ⟨w1.heap.size,m,none⟩ (.bool true)=WS at hS hbS hKS hOS ⊢
     have hcb:=hS.cbx.cell
     have hsS:=hbS.size
     have hb3S:=hKS.node hb3
     gi_wp2_with (gi_at_builtin;refine wpListIn_append_own _ rfl _ _ 54 rfl w1.heap.size 3 i0 (.int .i64 0) 1 8 Tryz.underlying54 hi0 hz0 hz1 hz2 rfl (by decide) _ _ _ rfl (hS.come.alloc _) ⟨WS.heap.size,0,none⟩ 1 1 [.int .i64 (m:Int)] rfl rfl (cell_one_new _ _ _) (by simp [Value.oneCell']) (by unfold maxLen;omega) (by omega) (by have:=hB2.size;simp;omega) ?_;intro v' w5 hown' hgrow _;obtain ⟨g', cap', rfl⟩:=ownsRow_succ hown'; obtain ⟨hv1,hv2,hr2,hk2,hb2⟩:=hS.cbx.appended (by decide) hS.come (by have:=hB2.size;omega) (by have:=hsWA;omega) hown' hgrow;have hc1:=hv1.cell;have hf1:=hv1.frozen)
     have hgrow' :(WS.alloc (.cells #[.int .i64 (m:Int)] 3)).grownBy w5 vc.ownBlock:=hgrow
     have hv1' :w5.heap[WA.heap.size+1]?=some (.cells #[vc] 54 (0,0)):=hv1
     have hrow5:w5.heap[w1.heap.size]?=some (.cells ((x.set m true).map Value.bool).toArray 4 (0,0)):=(hgrow'.block _ (by have:=blk_lt hS.row;simp;omega) (owns_ne_ty hS.come hS.row (by decide))).trans ((Below.heap_alloc _ _ _ (blk_lt hS.row)).trans hS.row)
     have hrbx5:Boxed w5 (w1.heap.size+1) 27 (.slice (some ⟨w1.heap.size,0,none⟩) ns.length ns.length):=(hS.rbx.alloc _).kept hgrow' (hS.rbx.not_row (by decide) hS.come)
     have hKA:KT wr.heap.size WS (w5.setCell ⟨WA.heap.size+1,0,none⟩ (.slice (some ⟨g', 0,none⟩) (cs.length+1) cap')):=by
      refine ((KT.of_below ((Below.refl _ WS).alloc (Nat.le_refl _) _) hb3S.lt).trans (KT.grown hgrow' (by have:=hb3S.lt;simp;omega) fun j ej=>?_)).trans (KT.setCell (o:=0) hv1 (by decide) (boxed_ne hS.cbx hb3S (by decide)) _)
      rcases (hS.come.alloc (.cells #[.int .i64 (m:Int)] 3)).2 with ⟨e,_⟩ | ⟨g9,cap9,cur9,e,hb9,hgb9,_⟩
      ·rw [e] at ej;cases ej
      ·rw [e] at ej
       obtain rfl:g9=j:=by simpa [Value.ownBlock] using ej
       refine ⟨?_,_,_,_,hgb9,by decide⟩
       exact boxed_ne hgb9 ((Below.heap_alloc _ _ _ hb3S.lt).trans hb3S) (by decide)
     have hrm2:RM (w5.setCell ⟨WA.heap.size+1,0,none⟩ (.slice (some ⟨g', 0,none⟩) (cs.length+1) cap')) w1.heap.size w1.heap.size (WA.heap.size+1) ns.length (x.set m true) (cs++[(m:Int)]) (.slice (some ⟨g', 0,none⟩) (cs.length+1) cap'):=by
      refine ⟨(Below.heap_setCell _ _ _ _ (boxed_ne hrow5 hv1' (by decide))).trans hrow5,(Below.heap_setCell _ _ _ _ (boxed_ne hrbx5 hv1' (by decide))).trans hrbx5,hv2,?_⟩
      simpa using hr2
     refine ⟨(hOS.trans hk2).from _,hKS.trans hKA,⟨⟨_,_,_,?_,?_,hrm2⟩,(hKS.trans hKA).node hb3,hm1.others (hOS.trans hk2)⟩,hB2.trans (hbS.trans hb2)⟩
     ·rw [List.map_append];simpa [hmz] using HBN.out
     ·rw [List.getElem?_append_left (List.getElem?_eq_some_iff.1 HCI2.out).1];exact HCI2.out
    ·rw [hxm] at hrc
     have HBF2:=hide' hbf
     have HRM2:=hide' hRM
     clear hbf hRM
     gi_wp2
     refine ⟨KeepsFrom.refl _ _,KT.refl _ _,⟨⟨x,cs,vc,?_,hci,HRM2.out⟩,hb3,hm1⟩,hB2⟩
     rw [List.map_append]
     simpa [hmz] using HBF2.out.hit hml hxm
   case done =>
    rintro D ys W hD rfl ⟨⟨⟨x,cs,vc,hbf,hci,hRM⟩,hb3,hm1⟩,hB2⟩ hK
    rw [exoA_map] at hbf
    have hbf2:=Bfs.next (c:=(cn:Int)) (by rw [Int.toNat_natCast,HYN.out];exact hbf) hci
    have hil:=(List.getElem?_eq_some_iff.1 hci).1
    have HBF3:=hide' hbf2
    have HRM3:=hide' hRM
    have HM1:=hide' (hm1.cons hK fun E hE=>by have:=hMl E hE;omega)
    clear hbf hbf2 hRM hm1 hci
    gi_wp2
    refine ⟨⟨i+1,x,cs,vc,_,_,_,_,_,_,_,_,_,_,_,_,_,_,_,D::ds,HBF3.out,hil,HRM3.out,hB2,HM1.out,fun E hE=>?_,rfl⟩,?_⟩
    ·rcases List.mem_cons.1 hE with rfl | hE
     ·omega
     ·exact hD' E hE
    ·simp [intOf];omega
   case stop =>
    rintro D c pre W _ _ h _
    exact h.elim
  ·have ei:i=cs.length:=by omega
   obtain ⟨g,gcap,rfl,hbase,hglt⟩:=hM.come.form (List.length_pos_of_mem hbf.zero)
   have HEI:=hide' ei
   have HM2:=hide' hM
   have HBF4:=hide' hbf
   clear ei hM hbf
   gi_wp2
   refine leaves_marks ds _ hMk (fun D hD=>Nat.le_trans (Nat.le_of_lt hlt1) (hD' D hD)) fun W' hS=>?_
   refine ⟨.tuple #[.slice (some ⟨w1.heap.size,0,none⟩) ns.length ns.length,.int .i64 0],by simp [results,Tryz.results84,go_sem],_,rfl,?_,hB1.trans ((hB.mono (by omega)).trans hS.below)⟩
   have hf:=HBF4.out
   rw [HEI.out] at hf
   have hx:=hf.fin hc
   refine hS.owns ⟨by simp [rchL_len],Or.inr ⟨w1.heap.size,ns.length,_,rfl,by omega,HM2.out.row,Nat.le_refl _,by unfold maxLen;omega,by simp [hf.len],?_⟩⟩
   rw [hx,Nat.mul_one]
   exact List.take_of_length_le (by simp [rchL_len])
end Go.Proofs.YtnbdnbcnlgnicaaGreat
