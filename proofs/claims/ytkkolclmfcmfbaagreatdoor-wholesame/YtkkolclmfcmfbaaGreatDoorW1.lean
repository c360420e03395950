/-
  Of the proof of WholeSame: M, A, P, Q, MP, B, S, MR, GA, R, GB, GD, GV, TA.
-/
import Derived.Test.YtkkolclmfcmfbaaGreatDoorRows
import Derived.WalkKit
import Derived.WalkSpells
import Derived.WalkLawsBesides
import Derived.Lib.SplitLaws
import Derived.Lib.Split
import Derived.Lib.Join
import Derived.Lib.AtoiAll
import Derived.Lib.ItoaNum
set_option linter.unusedVariables false
set_option linter.unusedSimpArgs false
set_option maxHeartbeats 40000000
namespace Go.Proofs.YtkkolclmfcmfbaaGreatDoor
structure Nd where
 op:Int
 d:Int
 a:Int
 b:Int
 t:Int
 e:Int
 deriving DecidableEq,Inhabited
def wi (v l h:Int):Bool:=decide (l≤v)&&decide (v≤h)
theorem wi_true {v l h:Int} (h1:l≤v) (h2:v≤h):wi v l h=true:=by simp [wi,h1,h2]
theorem wi_false {v l h:Int} (h1:v<l∨h<v):wi v l h=false:=by
 simp only [wi,Bool.and_eq_false_iff,decide_eq_false_iff_not];omega
theorem wi_iff {v l h:Int}:wi v l h=true↔l≤v∧v≤h:=by simp [wi]
def kn (op:Int):Bool:=wi op 0 12
def k0 (op:Int):Int:=if wi op 1 9 then 1 else 0
def k1 (op:Int):Int:=if op=1 then 2 else if wi op 2 8||wi op 10 12 then 1 else 0
def k2 (op:Int):Int:=if wi op 3 8 then 1 else 0
def k3 (op:Int):Int:=if wi op 0 11 then 3 else 0
def k4 (op:Int):Int:=if op=11 then 3 else 0
theorem kinds_unknown {op:Int} (h:op<0∨12<op):kn op=false∧k0 op=0∧k1 op=0∧k2 op=0∧k3 op=0∧k4 op=0:=by
 have e1:wi op 1 9=false:=wi_false (by omega)
 have e2:wi op 2 8=false:=wi_false (by omega)
 have e3:wi op 10 12=false:=wi_false (by omega)
 have e4:wi op 3 8=false:=wi_false (by omega)
 have e5:wi op 0 11=false:=wi_false (by omega)
 have e6:wi op 0 12=false:=wi_false (by omega)
 have n1:op≠1:=by omega
 have n2:op≠11:=by omega
 simp [kn,k0,k1,k2,k3,k4,e1,e2,e3,e4,e5,e6,n1,n2]
theorem op_cases (op:Int):(op=0∨op=1∨op=2∨op=3∨op=4∨op=5∨op=6∨op=7∨op=8∨op=9∨op=10∨op=11∨op=12)∨(op<0∨12<op):=by omega
theorem take_succ_get {α:Type} {l:List α} {k:Nat} {x:α} (h:l[k]?=some x):l.take (k+1)=l.take k++[x]:=by
 obtain ⟨hk,rfl⟩:=List.getElem?_eq_some_iff.1 h
 exact List.take_succ_eq_append_getElem hk
theorem all_take_succ {α:Type} {l:List α} {k:Nat} {x:α} (p:α→Bool) (h:l[k]?=some x):(l.take (k+1)).all p=((l.take k).all p&&p x):=by
 rw [take_succ_get h,List.all_append];simp
theorem all_false_at {α:Type} {l:List α} {k:Nat} {x:α} (p:α→Bool) (h:l[k]?=some x) (hp:p x=false):l.all p=false:=by
 rw [List.all_eq_false];exact ⟨x,List.mem_of_getElem? h,by simp [hp]⟩
theorem take_all_len {α:Type} {l:List α} {k:Nat} (h:l.length≤k):l.take k=l:=List.take_of_length_le h
theorem get_lt {α:Type} {l:List α} {k:Nat} (h:k<l.length):∃ x,l[k]?=some x:=⟨l[k],List.getElem?_eq_getElem h⟩
end Go.Proofs.YtkkolclmfcmfbaaGreatDoor
namespace Go.Proofs.YtkkolclmfcmfbaaGreatDoor
open Go.RowKit
theorem ret_bool {a b:Bool} (h:a=b):Ending.returned (.bool a)=.returned (.bool b):=by rw [h]
theorem ret_int {k:IntKind} {a b:Int} (h:a=b):Ending.returned (.int k a)=.returned (.int k b):=by rw [h]
theorem pwithin_any (n l h:Int) (w:World) :
 Calls Tryz.prog 26 #[.int .i64 n,.int .i64 l,.int .i64 h] w fun e w' =>e=.returned (.bool (wi n l h))∧w' =w:=by
 go_enter Tryz.func26,Tryz.ntmps26
 go_wp2
 all_goals go_ret
 ·rename_i hx;exact ⟨ret_bool (by simp [wi,hx]),rfl⟩
 ·rename_i hx;exact ⟨ret_bool (by simp [wi];intro h;omega),rfl⟩
theorem of_any (op:Int) (w:World) :
 Calls Tryz.prog 47 #[.int .i64 op] w fun e w' =>e=.returned (.tuple #[.agg #[.int .i64 (k0 op),.int .i64 (k1 op),.int .i64 (k2 op),.int .i64 (k3 op),.int .i64 (k4 op)],.bool (kn op)])∧Below w.heap.size w w' :=by
 rcases op_cases op with (rfl | rfl | rfl | rfl | rfl | rfl | rfl | rfl | rfl | rfl | rfl | rfl | rfl) | hx
 case inr =>
  obtain ⟨e0,e1,e2,e3,e4,e5⟩:=kinds_unknown hx
  rw [e0,e1,e2,e3,e4,e5]
  clear e0 e1 e2 e3 e4 e5
  go_enter Tryz.func47,Tryz.ntmps47
  go_wp2
  exact bodyPost_ret (v:=.tuple #[.agg #[.int .i64 0,.int .i64 0,.int .i64 0,.int .i64 0,.int .i64 0],.bool false]) (by simp [results,Tryz.results47,go_sem]) rfl ⟨rfl,(Below.refl _ _).alloc (Nat.le_refl _) _⟩
 all_goals
  go_enter Tryz.func47,Tryz.ntmps47
  go_wp2
  refine bodyPost_ret (v:=.tuple #[.agg #[.int .i64 (k0 _),.int .i64 (k1 _),.int .i64 (k2 _),.int .i64 (k3 _),.int .i64 (k4 _)],.bool (kn _)]) ?_ rfl ⟨rfl,(Below.refl _ _).alloc (Nat.le_refl _) _⟩
  simp [results,Tryz.results47,go_sem,k0,k1,k2,k3,k4,kn,wi]
end Go.Proofs.YtkkolclmfcmfbaaGreatDoor
namespace Go.Proofs.YtkkolclmfcmfbaaGreatDoor
def pick (p:Nat→Bool) (k:Nat):List Int:=((List.range k).filter p).map (fun m:Nat=>(m:Int))
theorem pick_yes {p:Nat→Bool} {k:Nat} (h:p k=true):pick p (k+1)=pick p k++[(k:Int)]:=by
 simp [pick,List.range_succ,List.filter_append,h]
theorem pick_no {p:Nat→Bool} {k:Nat} (h:p k=false):pick p (k+1)=pick p k:=by
 simp [pick,List.range_succ,List.filter_append,h]
theorem pick_len (p:Nat→Bool) (k:Nat):(pick p k).length≤k:=by
 simp only [pick,List.length_map]
 exact Nat.le_trans (List.length_filter_le _ _) (by simp)
def ldB (x:Nd) (m:Nat):Bool:=(x.op != 12&&x.t==(m:Int))||(x.op==11&&x.e==(m:Int))
def ahB (ns:List Nd) (n:Nat) (m:Nat):Bool:=match ns[m]? with | some y=>ldB y n | none=>false
theorem ahB_at {ns:List Nd} {n m:Nat} {y:Nd} (h:ns[m]?=some y):ahB ns n m=ldB y n:=by simp [ahB,h]
theorem pick_none {p:Nat→Bool}:∀ {k:Nat},(∀ m,m<k→p m=false)→pick p k=[]
 | 0,_=>rfl
 | k+1,h=>by rw [pick_no (h k (by omega))];exact pick_none fun m hm=>h m (by omega)
theorem pick_one {p:Nat→Bool} {a:Nat} (ha:p a=true):∀ {k:Nat},a<k→(∀ m,m<k→m≠a→p m=false)→pick p k=[(a:Int)]
 | 0,h,_=>by omega
 | k+1,h,ho=>by
  by_cases e:a=k
  ·subst e
   rw [pick_yes ha,pick_none fun m hm=>ho m (by omega) (by omega)];rfl
  ·rw [pick_no (ho k (by omega) (by omega))]
   exact pick_one ha (by omega) fun m hm hn=>ho m (by omega) hn
theorem pick_two {p:Nat→Bool} {a b:Nat} (ha:p a=true) (hb:p b=true) (hab:a<b):∀ {k:Nat},b<k→(∀ m,m<k→m≠a→m≠b→p m=false)→pick p k=[(a:Int),(b:Int)]
 | 0,h,_=>by omega
 | k+1,h,ho=>by
  by_cases e:b=k
  ·subst e
   rw [pick_yes hb,pick_one ha hab fun m hm hn=>ho m (by omega) hn (by omega)];rfl
  ·rw [pick_no (ho k (by omega) (by omega) (by omega))]
   exact pick_two ha hb hab (by omega) fun m hm hn hn' =>ho m (by omega) hn hn'
def exl (x:Nd):List Int :=
 if x.op=11 then if x.t=x.e then [x.t] else if x.t<x.e then [x.t,x.e] else [x.e,x.t]
 else if wi x.op 0 11 then [x.t] else []
theorem exl_pick (x:Nd) (len:Nat) (hk:kn x.op=true) (ht:x.op≠12→1≤x.t∧x.t≤(len:Int)-1) (he:x.op=11→1≤x.e∧x.e≤(len:Int)-1):exl x=pick (ldB x) len:=by
 obtain ⟨op,d,a,b,t,e⟩:=x
 simp only at *
 have hk' :=wi_iff.1 hk
 by_cases h11:op=11
 ·subst h11
  obtain ⟨t1,t2⟩:=ht (by omega)
  obtain ⟨e1,e2⟩:=he rfl
  obtain ⟨T,rfl⟩:=Int.eq_ofNat_of_zero_le (show 0≤t by omega)
  obtain ⟨E,rfl⟩:=Int.eq_ofNat_of_zero_le (show 0≤e by omega)
  have hld:∀ m,ldB ⟨11,d,a,b,T,E⟩ m=(decide (T=m)||decide (E=m)):=by
   intro m;rw [Bool.eq_iff_iff];simp [ldB];omega
  by_cases hte:T=E
  ·subst hte
   rw [pick_one (a:=T) (by rw [hld];simp) (by omega) (fun m _ hn=>by rw [hld];simp;omega)]
   simp [exl]
  ·by_cases hlt:T<E
   ·rw [pick_two (a:=T) (b:=E) (by rw [hld];simp) (by rw [hld];simp) hlt (by omega) (fun m _ hn hn' =>by rw [hld];simp;omega)]
    simp only [exl,if_true];rw [if_neg (by omega),if_pos (by omega)]
   ·rw [pick_two (a:=E) (b:=T) (by rw [hld];simp) (by rw [hld];simp) (by omega) (by omega) (fun m _ hn hn' =>by rw [hld];simp;omega)]
    simp only [exl,if_true];rw [if_neg (by omega),if_neg (by omega)]
 ·by_cases h12:op=12
  ·subst h12
   rw [pick_none (fun m _=>by simp [ldB])]
   simp [exl,wi]
  ·obtain ⟨t1,t2⟩:=ht h12
   obtain ⟨T,rfl⟩:=Int.eq_ofNat_of_zero_le (show 0≤t by omega)
   have hld:∀ m,ldB ⟨op,d,a,b,T,e⟩ m=decide (T=m):=by
    intro m;rw [Bool.eq_iff_iff];simp [ldB];omega
   rw [pick_one (a:=T) (by rw [hld];simp) (by omega) (fun m _ hn=>by rw [hld];simp;omega)]
   simp only [exl];rw [if_neg h11,if_pos (wi_true (by omega) (by omega))]
def inB (r:Int) (len:Nat) (k v:Int):Bool:=if k=1 then wi v 0 (r-1) else if k=3 then wi v 1 ((len:Int)-1) else true
def noF (k v:Int):Bool:=k != 0||v==0
def kvs (x:Nd):List (Int × Int):=[(k0 x.op,x.d),(k1 x.op,x.a),(k2 x.op,x.b),(k3 x.op,x.t),(k4 x.op,x.e)]
def fieldsOk (R:Int→Int→Bool) (x:Nd):Bool:=(kvs x).all fun p=>R p.1 p.2
def chk (r:Int) (ns:List Nd):Int :=
 if wi ns.length 1 256&&wi r 1 64 then
  if ns.all (fun x=>kn x.op) then
   if ns.all (fieldsOk (inB r ns.length)) then
    if ns.all (fieldsOk noF) then 0 else 1
   else 3
  else 4
 else 2
theorem chk_zero {r:Int} {ns:List Nd} (h:chk r ns=0):(1≤ns.length∧ns.length≤256)∧(1≤r∧r≤64)∧(∀ x∈ns,kn x.op=true)∧(∀ x∈ns,fieldsOk (inB r ns.length) x=true)∧(∀ x∈ns,fieldsOk noF x=true):=by
 unfold chk at h
 split at h
 ·rename_i h1
  rw [Bool.and_eq_true,wi_iff,wi_iff] at h1
  split at h
  ·rename_i h2
   split at h
   ·rename_i h3
    split at h
    ·rename_i h4
     rw [List.all_eq_true] at h2 h3 h4
     exact ⟨by omega,h1.2,h2,h3,h4⟩
    ·omega
   ·omega
  ·omega
 ·omega
theorem k3_val {op:Int} (h:kn op=true):k3 op=if op=12 then 0 else 3:=by
 have:=wi_iff.1 h
 unfold k3
 by_cases h12:op=12
 ·subst h12;rfl
 ·rw [if_neg h12,if_pos (wi_true (by omega) (by omega))]
theorem then_ok {r:Int} {ns:List Nd} (h:chk r ns=0) {x:Nd} (hx:x∈ns) (h12:x.op≠12):1≤x.t∧x.t≤(ns.length:Int)-1:=by
 obtain ⟨_,_,hk,hi,_⟩:=chk_zero h
 have h1:=hi x hx
 simp only [fieldsOk,kvs,List.all_cons,List.all_nil,Bool.and_true,Bool.and_eq_true] at h1
 have h3:=h1.2.2.2.1
 rw [k3_val (hk x hx),if_neg h12] at h3
 simpa [inB,wi] using h3
theorem else_ok {r:Int} {ns:List Nd} (h:chk r ns=0) {x:Nd} (hx:x∈ns) (h11:x.op=11):1≤x.e∧x.e≤(ns.length:Int)-1:=by
 obtain ⟨_,_,hk,hi,_⟩:=chk_zero h
 have h1:=hi x hx
 simp only [fieldsOk,kvs,List.all_cons,List.all_nil,Bool.and_true,Bool.and_eq_true] at h1
 have h4:=h1.2.2.2.2
 simp only [k4,if_pos h11] at h4
 simpa [inB,wi] using h4
theorem exl_ok {r:Int} {ns:List Nd} (h:chk r ns=0) {x:Nd} (hx:x∈ns):exl x=pick (ldB x) ns.length :=
 exl_pick x ns.length ((chk_zero h).2.2.1 x hx) (then_ok h hx) (else_ok h hx)
structure NodeOk (r:Int) (len:Nat) (x:Nd):Prop where
 op:0≤x.op∧x.op≤12
 d:1≤x.op→x.op≤9→0≤x.d∧x.d<r
 a:x.op≠0→x.op≠1→x.op≠9→0≤x.a∧x.a<r
 b:3≤x.op→x.op≤8→0≤x.b∧x.b<r
 t:0≤x.t∧x.t<len
 e:x.op=11→0≤x.e∧x.e<len
theorem node_ok {r:Int} {ns:List Nd} (h:chk r ns=0) {x:Nd} (hx:x∈ns):NodeOk r ns.length x:=by
 obtain ⟨hl,hr,hk,hi,hn⟩:=chk_zero h
 have hop:=wi_iff.1 (hk x hx)
 have h1:=hi x hx
 have h2:=hn x hx
 simp only [fieldsOk,kvs,List.all_cons,List.all_nil,Bool.and_true,Bool.and_eq_true] at h1 h2
 obtain ⟨q0,q1,q2,q3,q4⟩:=h1
 obtain ⟨n0,n1,n2,n3,n4⟩:=h2
 refine ⟨hop,fun a b=>?_,fun a b c=>?_,fun a b=>?_,?_,fun a=>?_⟩
 ·simp only [k0,wi_true a b,if_true,inB] at q0
  have:=wi_iff.1 q0;omega
 ·have e:(wi x.op 2 8||wi x.op 10 12)=true:=by
   rw [Bool.or_eq_true,wi_iff,wi_iff];omega
  simp only [k1,if_neg b,e,if_true,inB] at q1
  have:=wi_iff.1 q1;omega
 ·simp only [k2,wi_true a b,if_true,inB] at q2
  have:=wi_iff.1 q2;omega
 ·by_cases e:x.op=12
  ·rw [k3_val (hk x hx),if_pos e] at n3
   simp [noF] at n3
   omega
  ·have:=then_ok h hx e;omega
 ·have:=else_ok h hx a;omega
end Go.Proofs.YtkkolclmfcmfbaaGreatDoor
namespace Go.Proofs.YtkkolclmfcmfbaaGreatDoor
open Go.RowKit
theorem hide {p:Prop} (h:p):Hid p:=h
theorem values_any (op d a b t e:Int) (w:World) :
 Calls Tryz.prog 48 #[.agg #[.int .i64 op,.int .i64 d,.int .i64 a,.int .i64 b,.int .i64 t,.int .i64 e]] w fun r w' =>r=.returned (.agg #[.int .i64 d,.int .i64 a,.int .i64 b,.int .i64 t,.int .i64 e])∧Below w.heap.size w w' :=by
 go_enter Tryz.func48,Tryz.ntmps48
 go_wp2
 exact bodyPost_ret (v:=.agg #[.int .i64 d,.int .i64 a,.int .i64 b,.int .i64 t,.int .i64 e]) (by simp [results,Tryz.results48,go_sem]) rfl ⟨rfl,((Below.refl _ _).alloc (Nat.le_refl _) _).alloc (by simp) _⟩
theorem term_yes (op d a b t e:Int) (w:World) (h:3≤op) (h' :op≤8) :
 Calls Tryz.prog 70 #[.agg #[.int .i64 op,.int .i64 d,.int .i64 a,.int .i64 b,.int .i64 t,.int .i64 e]] w fun r w' =>r=.returned (.tuple #[.agg #[.int .i64 op,.int .i64 a,.int .i64 b],.bool true])∧Below w.heap.size w w' :=by
 go_enter Tryz.func70,Tryz.ntmps70
 go_wp2
 exact bodyPost_ret (v:=.tuple #[.agg #[.int .i64 op,.int .i64 a,.int .i64 b],.bool true]) (by simp [results,Tryz.results70,go_sem]) rfl ⟨rfl,((Below.refl _ _).alloc (Nat.le_refl _) _).alloc (by simp) _⟩
theorem term_no (op d a b t e:Int) (w:World) (h:op<3∨8<op) :
 Calls Tryz.prog 70 #[.agg #[.int .i64 op,.int .i64 d,.int .i64 a,.int .i64 b,.int .i64 t,.int .i64 e]] w fun r w' =>r=.returned (.tuple #[.agg #[.int .i64 0,.int .i64 0,.int .i64 0],.bool false])∧Below w.heap.size w w' :=by
 by_cases h3:op<3
 all_goals
  go_enter Tryz.func70,Tryz.ntmps70
  go_wp2
  exact bodyPost_ret (v:=.tuple #[.agg #[.int .i64 0,.int .i64 0,.int .i64 0],.bool false]) (by simp [results,Tryz.results70,go_sem]) rfl ⟨rfl,((Below.refl _ _).alloc (Nat.le_refl _) _).alloc (by simp) _⟩
theorem sum_any (w:World) :
 Calls Tryz.prog 22 #[] w fun r w' =>r=.returned (.agg #[.int .i64 3,.int .i64 0,.int .i64 1])∧Below w.heap.size w w' :=by
 go_enter Tryz.func22,Tryz.ntmps22
 go_wp2
 exact bodyPost_ret (v:=.agg #[.int .i64 3,.int .i64 0,.int .i64 1]) (by simp [results,Tryz.results22,go_sem]) rfl ⟨rfl,((Below.refl _ _).alloc (Nat.le_refl _) _)⟩
structure NodesAt (w:World) (b off:Nat) (ns:List Nd):Prop where
 lt:b<w.heap.size
 c0:∀ (i:Nat) (x:Nd),ns[i]?=some x→w.cell? ⟨b,off+i*6,none⟩=some (.int .i64 x.op)
 c1:∀ (i:Nat) (x:Nd),ns[i]?=some x→w.cell? ⟨b,off+i*6+1,none⟩=some (.int .i64 x.d)
 c2:∀ (i:Nat) (x:Nd),ns[i]?=some x→w.cell? ⟨b,off+i*6+2,none⟩=some (.int .i64 x.a)
 c3:∀ (i:Nat) (x:Nd),ns[i]?=some x→w.cell? ⟨b,off+i*6+3,none⟩=some (.int .i64 x.b)
 c4:∀ (i:Nat) (x:Nd),ns[i]?=some x→w.cell? ⟨b,off+i*6+4,none⟩=some (.int .i64 x.t)
 c5:∀ (i:Nat) (x:Nd),ns[i]?=some x→w.cell? ⟨b,off+i*6+5,none⟩=some (.int .i64 x.e)
theorem NodesAt.below {w w' :World} {b off B:Nat} {ns:List Nd} (h:NodesAt w b off ns) (hb:Below B w w') (hB:b<B):NodesAt w' b off ns:=by
 refine ⟨Nat.lt_of_lt_of_le h.lt hb.size,?_,?_,?_,?_,?_,?_⟩
 ·intro i x hx;rw [hb.cell (p:=⟨b,_,none⟩) hB];exact h.c0 i x hx
 ·intro i x hx;rw [hb.cell (p:=⟨b,_,none⟩) hB];exact h.c1 i x hx
 ·intro i x hx;rw [hb.cell (p:=⟨b,_,none⟩) hB];exact h.c2 i x hx
 ·intro i x hx;rw [hb.cell (p:=⟨b,_,none⟩) hB];exact h.c3 i x hx
 ·intro i x hx;rw [hb.cell (p:=⟨b,_,none⟩) hB];exact h.c4 i x hx
 ·intro i x hx;rw [hb.cell (p:=⟨b,_,none⟩) hB];exact h.c5 i x hx
def smallN:List Nd:=[⟨9,0,0,0,1,0⟩,⟨9,1,0,0,2,0⟩,⟨11,0,0,0,3,5⟩,⟨3,2,0,1,4,0⟩,⟨10,0,2,0,5,0⟩,⟨3,2,0,1,6,0⟩,⟨12,0,2,0,0,0⟩]
theorem small_cases {i:Nat} {x:Nd} (h:smallN[i]?=some x):i=0∧x=⟨9,0,0,0,1,0⟩∨i=1∧x=⟨9,1,0,0,2,0⟩∨i=2∧x=⟨11,0,0,0,3,5⟩∨i=3∧x=⟨3,2,0,1,4,0⟩∨i=4∧x=⟨10,0,2,0,5,0⟩∨i=5∧x=⟨3,2,0,1,6,0⟩∨i=6∧x=⟨12,0,2,0,0,0⟩:=by
 match i,h with
 | 0,h=>simp [smallN] at h;simp [h]
 | 1,h=>simp [smallN] at h;simp [h]
 | 2,h=>simp [smallN] at h;simp [h]
 | 3,h=>simp [smallN] at h;simp [h]
 | 4,h=>simp [smallN] at h;simp [h]
 | 5,h=>simp [smallN] at h;simp [h]
 | 6,h=>simp [smallN] at h;simp [h]
 | n+7,h=>simp [smallN] at h
theorem small_any (w:World) :
 Calls Tryz.prog 17 #[] w fun r w' =>r=.returned (.agg #[.int .i64 3,.slice (some ⟨w.heap.size+1,0,none⟩) 7 7])∧NodesAt w' (w.heap.size+1) 0 smallN∧Below w.heap.size w w' :=by
 go_enter Tryz.func17,Tryz.ntmps17
 go_wp2
 refine bodyPost_ret (v:=.agg #[.int .i64 3,.slice (some ⟨w.heap.size+1,0,none⟩) 7 7]) (by simp [results,Tryz.results17,go_sem]) rfl ⟨rfl,⟨by simp,?_,?_,?_,?_,?_,?_⟩,((Below.refl _ _).alloc (Nat.le_refl _) _).alloc (by simp) _⟩
 all_goals
  intro i x hx
  rcases small_cases hx with ⟨rfl,rfl⟩ | ⟨rfl,rfl⟩ | ⟨rfl,rfl⟩ | ⟨rfl,rfl⟩ | ⟨rfl,rfl⟩ | ⟨rfl,rfl⟩ | ⟨rfl,rfl⟩
  all_goals (rw [World.cell?_alloc_at _ _ _ _ (by simp)];simp)
theorem inb_any (k v r:Int) (pb:Nat) (a:Option Addr) (len cap:Nat) (w:World) (hr:1≤r∧r≤64) (hl:len≤256)
 (hp0:w.cell? ⟨pb,0,none⟩=some (.int .i64 r)) (hp1:w.cell? ⟨pb,1,none⟩=some (.slice a len cap)) :
 Calls Tryz.prog 28 #[.int .i64 k,.int .i64 v,.pointer (some ⟨pb,0,none⟩)] w fun e w' =>e=.returned (.bool (inB r len k v))∧w' =w:=by
 by_cases h1:k=1
 ·subst h1
  go_enter Tryz.func28,Tryz.ntmps28
  go_wp2_with (go_at_call 26;refine (pwithin_any _ _ _ _).mono ?_;rintro e w' ⟨rfl,rfl⟩)
  go_ret
  exact ⟨ret_bool (by simp [inB]),rfl⟩
 by_cases h3:k=3
 ·subst h3
  go_enter Tryz.func28,Tryz.ntmps28
  go_wp2_with (go_at_call 26;refine (pwithin_any _ _ _ _).mono ?_;rintro e w' ⟨rfl,rfl⟩)
  go_ret
  exact ⟨ret_bool (by simp [inB]),rfl⟩
 ·go_enter Tryz.func28,Tryz.ntmps28
  go_wp2
  go_ret
  exact ⟨ret_bool (by simp [inB,h1,h3]),rfl⟩
theorem nof_any (k v:Int) (w:World) :
 Calls Tryz.prog 30 #[.int .i64 k,.int .i64 v] w fun e w' =>e=.returned (.bool (noF k v))∧w' =w:=by
 by_cases h0:k=0
 ·subst h0
  go_enter Tryz.func30,Tryz.ntmps30
  go_wp2
  go_ret
  exact ⟨ret_bool (by simp [noF]),rfl⟩
 ·have hb:(k != 0)=true:=by simp [h0]
  go_enter Tryz.func30,Tryz.ntmps30
  go_wp2
  go_ret
  exact ⟨ret_bool (by simp [noF,h0]),rfl⟩
end Go.Proofs.YtkkolclmfcmfbaaGreatDoor
namespace Go.Proofs.YtkkolclmfcmfbaaGreatDoor
structure Tm where
 op:Int
 a:Int
 b:Int
 deriving DecidableEq,Inhabited
def tmOf (x:Nd):Tm:=⟨x.op,x.a,x.b⟩
def tstep (acc:List Tm) (x:Nd):List Tm:=if wi x.op 3 8&&!(acc.any fun y=>decide (tmOf x=y)) then acc++[tmOf x] else acc
def tms (ns:List Nd) (k:Nat):List Tm:=(ns.take k).foldl tstep []
theorem tms_succ {ns:List Nd} {k:Nat} {x:Nd} (h:ns[k]?=some x):tms ns (k+1)=tstep (tms ns k) x:=by
 simp only [tms,take_succ_get h,List.foldl_append,List.foldl_cons,List.foldl_nil]
theorem tstep_yes (acc:List Tm) {x:Nd} (h:wi x.op 3 8=true):tstep acc x=if !(acc.any fun y=>decide (tmOf x=y)) then acc++[tmOf x] else acc:=by
 simp only [tstep,h,Bool.true_and]
theorem tstep_no (acc:List Tm) {x:Nd} (h:wi x.op 3 8=false):tstep acc x=acc:=by
 simp [tstep,h]
theorem tstep_len (acc:List Tm) (x:Nd):(tstep acc x).length≤acc.length+1:=by
 unfold tstep;split <;> simp
theorem tms_len (ns:List Nd):∀ k,(tms ns k).length≤k
 | 0=>by simp [tms]
 | k+1=>by
  by_cases h:k<ns.length
  ·obtain ⟨x,hx⟩:=get_lt h
   rw [tms_succ hx]
   have:=tstep_len (tms ns k) x
   have:=tms_len ns k
   omega
  ·have e:ns.take (k+1)=ns.take k:=by rw [List.take_of_length_le (by omega),List.take_of_length_le (by omega)]
   have:=tms_len ns k
   simp only [tms,e] at this ⊢
   omega
theorem flat3 {β:Type} (f:Tm→List β) (hf:∀ t,(f t).length=3):∀ (ts:List Tm) (j i:Nat) (t:Tm),ts[j]?=some t→i<3→(ts.flatMap f)[j*3+i]?=(f t)[i]?
 | [],j,i,t,h,_=>by simp at h
 | u::ts,0,i,t,h,hi=>by
  simp at h;subst h
  rw [List.flatMap_cons,List.getElem?_append_left (by rw [hf];omega)];simp
 | u::ts,j+1,i,t,h,hi=>by
  simp at h
  rw [List.flatMap_cons,List.getElem?_append_right (by rw [hf];omega),hf,show (j+1)*3+i-3=j*3+i by omega]
  exact flat3 f hf ts j i t h hi
end Go.Proofs.YtkkolclmfcmfbaaGreatDoor
namespace Go.Proofs.YtkkolclmfcmfbaaGreatDoor
open Go.RowKit
def rk (op a b:Int):Int :=
 if op=3 then wrap64 (a+b) else if op=4 then wrap64 (a-b) else if op=5 then wrap64 (a*b)
 else if op=6 then bits BinOp.and IntKind.i64 a b else if op=7 then bits BinOp.xor IntKind.i64 a b else if a<b then 1 else 0
structure Ct where
 t:Tm
 n:Int
 deriving DecidableEq,Inhabited
def abv (a b:Tm):Bool:=if a.op=b.op then if a.a=b.a then decide (b.b<a.b) else decide (b.a<a.a) else decide (b.op<a.op)
def omore:List Ct→Tm→List Ct
 | [],t=>[⟨t,1⟩]
 | c::l,t=>if abv t c.t then c::omore l t else if c.t=t then ⟨t,c.n+1⟩::l else ⟨t,1⟩::c::l
structure St where
 regs:List Int
 pc:Nat
 inp:List Int
 out:List Int
 ret:Int
 ended:Bool
 steps:Nat
 cts:List Ct
 deriving Inhabited
def getR (l:List Int) (a:Int):Int:=l.getD a.toNat 0
def setR (l:List Int) (d v:Int):List Int:=l.set d.toNat v
def stp (x:Nd) (s:St):St :=
 if x.op=0 then { s with pc:=x.t.toNat,steps:=s.steps+1 }
 else if x.op=1 then { s with pc:=x.t.toNat,steps:=s.steps+1,regs:=setR s.regs x.d x.a }
 else if x.op=2 then { s with pc:=x.t.toNat,steps:=s.steps+1,regs:=setR s.regs x.d (getR s.regs x.a) }
 else if x.op=9 then { s with pc:=x.t.toNat,steps:=s.steps+1,regs:=setR s.regs x.d (s.inp.headD 0),inp:=s.inp.tail }
 else if x.op=10 then { s with pc:=x.t.toNat,steps:=s.steps+1,out:=s.out++[getR s.regs x.a] }
 else if x.op=11 then { s with pc:=(if getR s.regs x.a=0 then x.e else x.t).toNat,steps:=s.steps+1 }
 else if x.op=12 then { s with pc:=x.t.toNat,steps:=s.steps+1,ret:=getR s.regs x.a,ended:=true }
 else { s with pc:=x.t.toNat,steps:=s.steps+1,regs:=setR s.regs x.d (rk x.op (getR s.regs x.a) (getR s.regs x.b)),cts:=omore s.cts (tmOf x) }
def runN (ns:List Nd):Nat→St→St
 | 0,s=>s
 | n+1,s=>if s.ended then s else match ns[s.pc]? with | some x=>runN ns n (stp x s) | none=>s
def st0 (r:Nat) (inp:List Int):St:=⟨List.replicate r 0,0,inp,[],0,false,0,[]⟩
theorem stp_steps (x:Nd) (s:St):(stp x s).steps=s.steps+1:=by
 unfold stp;repeat' split
 all_goals rfl
theorem runN_ended {ns:List Nd} {s:St} (h:s.ended=true):∀ n,runN ns n s=s
 | 0=>rfl
 | n+1=>by simp [runN,h]
theorem runN_add {ns:List Nd}:∀ (n m:Nat) (s:St),(∀ k,k<n→(runN ns k s).pc<ns.length)→runN ns (n+m) s=runN ns m (runN ns n s)
 | 0,m,s,_=>by simp [runN]
 | n+1,m,s,h=>by
  rw [show n+1+m=(n+m)+1 by omega]
  simp only [runN]
  cases he:s.ended
  ·have h0:=h 0 (by omega)
   simp only [runN] at h0
   obtain ⟨x,hx⟩:=get_lt h0
   simp only [hx,Bool.false_eq_true,if_false]
   exact runN_add n m (stp x s) fun k hk=>by
    have:=h (k+1) (by omega)
    simpa [runN,he,hx] using this
  ·simp [runN_ended he]
end Go.Proofs.YtkkolclmfcmfbaaGreatDoor
namespace Go.Proofs.YtkkolclmfcmfbaaGreatDoor
def bat (x:List Bool) (n:Nat):Bool:=x.getD n false
theorem get_bat {x:List Bool} {n:Nat} (h:n<x.length):x[n]?=some (bat x n):=by simp [bat,h]
theorem bat_set {x:List Bool} {n m:Nat} {b:Bool} (h:n<x.length):bat (x.set n b) m=if m=n then b else bat x m:=by
 simp only [bat,List.getD_eq_getElem?_getD,List.getElem?_set]
 by_cases e:n=m
 ·subst e;simp [h]
 ·simp [e,Ne.symm e]
theorem bat_yes {k n:Nat} (h:n<k):bat (List.replicate k true) n=true:=by simp [bat,h]
theorem bat_beyond {x:List Bool} {n:Nat} (h:x.length≤n):bat x n=false:=by simp [bat,h]
theorem bat_ext {x y:List Bool} (hl:x.length=y.length) (h:∀ n,n<x.length→bat x n=bat y n):x=y:=by
 apply List.ext_getElem?
 intro n
 by_cases hn:n<x.length
 ·rw [get_bat hn,get_bat (by omega),h n hn]
 ·rw [List.getElem?_eq_none (by omega),List.getElem?_eq_none (by omega)]
theorem bat_map {k n:Nat} (f:Nat→Bool) (h:n<k):bat ((List.range k).map f) n=f n:=by simp [bat,h]
def Mono (F:(Nat→Bool)→Nat→Bool):Prop:=∀ x y:Nat→Bool,(∀ m,x m=true→y m=true)→∀ n,F x n=true→F y n=true
structure IsG (F:(Nat→Bool)→Nat→Bool) (k:Nat) (x:List Bool):Prop where
 len:x.length=k
 fix:∀ n,n<k→bat x n=F (bat x) n
 top:∀ y:Nat→Bool,(∀ n,k≤n→y n=false)→(∀ n,n<k→y n=true→F y n=true)→∀ n,y n=true→bat x n=true
theorem IsG.uniq {F:(Nat→Bool)→Nat→Bool} {k:Nat} {x y:List Bool} (hx:IsG F k x) (hy:IsG F k y):x=y:=by
 refine bat_ext (by rw [hx.len,hy.len]) fun n hn=>?_
 have h1:=hx.top (bat y) (fun n h=>bat_beyond (by rw [hy.len];exact h)) (fun n hn h=>by rw [← hy.fix n hn];exact h) n
 have h2:=hy.top (bat x) (fun n h=>bat_beyond (by rw [hx.len];exact h)) (fun n hn h=>by rw [← hx.fix n hn];exact h) n
 cases h:bat x n <;> cases h' :bat y n <;> simp_all
structure Onway (F:(Nat→Bool)→Nat→Bool) (k:Nat) (x:List Bool):Prop where
 len:x.length=k
 no:∀ n,n<k→bat x n=false→F (bat x) n=false
 top:∀ y:Nat→Bool,(∀ n,k≤n→y n=false)→(∀ n,n<k→y n=true→F y n=true)→∀ n,y n=true→bat x n=true
theorem Onway.start (F:(Nat→Bool)→Nat→Bool) (k:Nat):Onway F k (List.replicate k true):=by
 refine ⟨by simp,fun n hn h=>(by rw [bat_yes hn] at h;cases h),fun y hb _ n hy=>?_⟩
 by_cases hn:n<k
 ·exact bat_yes hn
 ·rw [hb n (by omega)] at hy;cases hy
theorem Onway.set {F:(Nat→Bool)→Nat→Bool} {k:Nat} {x:List Bool} (hF:Mono F) (h:Onway F k x) {n:Nat} (hn:n<k) (hs:F (bat x) n=false):Onway F k (x.set n false):=by
 have hle:∀ m,bat (x.set n false) m=true→bat x m=true:=by
  intro m hm;rw [bat_set (by rw [h.len];exact hn)] at hm;split at hm
  ·cases hm
  ·exact hm
 have hno:∀ m,F (bat x) m=false→F (bat (x.set n false)) m=false:=by
  intro m hm
  cases e:F (bat (x.set n false)) m
  ·rfl
  ·rw [hF _ _ hle m e] at hm;cases hm
 refine ⟨by simp [h.len],fun m hm hb=>?_,fun y hb hy m hm=>?_⟩
 ·rw [bat_set (by rw [h.len];exact hn)] at hb
  split at hb
  ·rename_i e;subst e;exact hno _ hs
  ·exact hno m (h.no m hm hb)
 ·rw [bat_set (by rw [h.len];exact hn)]
  split
  ·rename_i e
   subst e
   have h1:=hy m hn hm
   have h2:=hF y (bat x) (fun j hj=>h.top y hb hy j hj) m h1
   rw [hs] at h2;cases h2
  ·exact h.top y hb hy m hm
theorem Onway.put {F:(Nat→Bool)→Nat→Bool} {k:Nat} {x:List Bool} (hF:Mono F) (h:Onway F k x) {n:Nat} (hn:n<k):Onway F k (x.set n (F (bat x) n)):=by
 cases e:F (bat x) n
 ·exact h.set hF hn e
 ·cases e2:bat x n
  ·rw [h.no n hn e2] at e;cases e
  ·have:x.set n true=x:=by
    refine bat_ext (by simp) fun m hm=>?_
    rw [bat_set (by rw [h.len];exact hn)]
    split
    ·rename_i q;subst q;exact e2.symm
    ·rfl
   rw [this];exact h
theorem Onway.done {F:(Nat→Bool)→Nat→Bool} {k:Nat} {x:List Bool} (h:Onway F k x) (hy:∀ n,n<k→bat x n=true→F (bat x) n=true):IsG F k x:=by
 refine ⟨h.len,fun n hn=>?_,h.top⟩
 cases e:bat x n
 ·exact (h.no n hn e).symm
 ·exact (hy n hn e).symm
def yeses (x:List Bool):Nat:=x.count true
theorem yeses_set {x:List Bool} {n:Nat} (h:n<x.length) (hb:bat x n=true):yeses (x.set n false)+1=yeses x:=by
 induction x generalizing n with
 | nil=>simp at h
 | cons a l ih =>
  cases n with
  | zero=>simp [bat] at hb;subst hb;simp [yeses]
  | succ n =>
   have:=ih (n:=n) (by simpa using h) (by simpa [bat] using hb)
   simp only [yeses,List.set_cons_succ,List.count_cons] at this ⊢
   omega
theorem yeses_le (x:List Bool):yeses x≤x.length:=List.count_le_length
def turnTo (F:(Nat→Bool)→Nat→Bool) (x:List Bool):Nat→List Bool
 | 0=>x
 | n+1=>(turnTo F x n).set n (F (bat (turnTo F x n)) n)
theorem turnTo_onway {F:(Nat→Bool)→Nat→Bool} {k:Nat} {x:List Bool} (hF:Mono F) (h:Onway F k x):∀ n,n≤k→Onway F k (turnTo F x n)
 | 0,_=>h
 | n+1,hn=>(turnTo_onway hF h n (by omega)).put hF (by omega)
theorem set_same {x:List Bool} {n:Nat} {b:Bool} (h:n<x.length) (hb:bat x n=b):x.set n b=x:=by
 refine bat_ext (by simp) fun m hm=>?_
 rw [bat_set h]
 split
 ·rename_i q;subst q;exact hb.symm
 ·rfl
theorem put_yeses {F:(Nat→Bool)→Nat→Bool} {k:Nat} {x:List Bool} (h:Onway F k x) {n:Nat} (hn:n<k):x.set n (F (bat x) n)=x∨yeses (x.set n (F (bat x) n))<yeses x:=by
 cases e:bat x n
 ·rw [h.no n hn e,set_same (by rw [h.len];exact hn) e];exact Or.inl rfl
 ·cases e2:F (bat x) n
  ·right;have:=yeses_set (by rw [h.len];exact hn) e;omega
  ·left;exact set_same (by rw [h.len];exact hn) e
theorem turnTo_yeses {F:(Nat→Bool)→Nat→Bool} {k:Nat} {x:List Bool} (hF:Mono F) (h:Onway F k x):∀ n,n≤k→(turnTo F x n=x∧∀ m,m<n→bat x m=F (bat x) m)∨yeses (turnTo F x n)<yeses x
 | 0,_=>Or.inl ⟨rfl,fun m hm=>by omega⟩
 | n+1,hn=>by
  have ho:=turnTo_onway hF h n (by omega)
  have hp:=put_yeses ho (n:=n) (by omega)
  simp only [turnTo]
  rcases turnTo_yeses hF h n (by omega) with ⟨h1,h2⟩ | h1
  ·rw [h1] at hp ⊢
   rcases hp with h3 | h3
   ·left
    refine ⟨h3,fun m hm=>?_⟩
    by_cases e:m=n
    ·subst e
     have:=congrArg (fun l=>bat l m) h3
     rw [bat_set (by rw [h.len];omega)] at this
     simpa using this.symm
    ·exact h2 m (by omega)
   ·exact Or.inr h3
  ·right
   rcases hp with h3 | h3
   ·rw [h3];exact h1
   ·omega
def turns (F:(Nat→Bool)→Nat→Bool) (k:Nat):Nat→List Bool
 | 0=>List.replicate k true
 | n+1=>turnTo F (turns F k n) k
theorem turns_onway {F:(Nat→Bool)→Nat→Bool} (hF:Mono F) (k:Nat):∀ n,Onway F k (turns F k n)
 | 0=>Onway.start F k
 | n+1=>turnTo_onway hF (turns_onway hF k n) k (Nat.le_refl _)
theorem turns_yeses {F:(Nat→Bool)→Nat→Bool} (hF:Mono F) (k:Nat):∀ n,(∀ m,m<k→bat (turns F k n) m=F (bat (turns F k n)) m)∨yeses (turns F k n)+n≤k
 | 0=>Or.inr (by have:=yeses_le (List.replicate k true);simpa [turns] using this)
 | n+1=>by
  simp only [turns]
  rcases turnTo_yeses hF (turns_onway hF k n) k (Nat.le_refl _) with ⟨h1,h2⟩ | h1
  ·left;rw [h1];exact h2
  ·rcases turns_yeses hF k n with h2 | h2
   ·left
    have hs:∀ j,j≤k→turnTo F (turns F k n) j=turns F k n:=by
     intro j
     induction j with
     | zero=>intro _;rfl
     | succ j ih =>
      intro hj
      simp only [turnTo]
      rw [ih (by omega)]
      exact set_same (by rw [(turns_onway hF k n).len];omega) (h2 j (by omega))
    rw [hs k (Nat.le_refl _)];exact h2
   ·right;omega
theorem turns_isG {F:(Nat→Bool)→Nat→Bool} (hF:Mono F) (k:Nat):IsG F k (turns F k (k+1)):=by
 refine (turns_onway hF k (k+1)).done fun n hn h=>?_
 rcases turns_yeses hF k (k+1) with h1 | h1
 ·rw [← h1 n hn];exact h
 ·omega
def gr (F:(Nat→Bool)→Nat→Bool) (k:Nat):List Bool:=turns F k (k+1)
theorem gr_isG {F:(Nat→Bool)→Nat→Bool} (hF:Mono F) (k:Nat):IsG F k (gr F k):=turns_isG hF k
theorem IsG.eq_gr {F:(Nat→Bool)→Nat→Bool} {k:Nat} {x:List Bool} (hF:Mono F) (h:IsG F k x):x=gr F k:=h.uniq (gr_isG hF k)
theorem sort1 (a:Int):([a].mergeSort fun x y=>decide (x≤y))=[a]:=by simp
theorem sort2 (a b:Int):([a,b].mergeSort fun x y=>decide (x≤y))=if a≤b then [a,b] else [b,a]:=by
 simp [List.mergeSort,List.MergeSort.Internal.splitInTwo,List.merge]
def nxl (ns:List Nd) (n:Nat):List Nat:=(List.range ns.length).filter fun m=>ahB ns m n
def ahl (ns:List Nd) (n:Nat):List Nat:=(List.range ns.length).filter fun m=>ahB ns n m
theorem mem_nxl {ns:List Nd} {n m:Nat}:m∈nxl ns n↔m<ns.length∧ahB ns m n=true:=by simp [nxl]
theorem mem_ahl {ns:List Nd} {n m:Nat}:m∈ahl ns n↔m<ns.length∧ahB ns n m=true:=by simp [ahl]
theorem ahB_lt {ns:List Nd} {n m:Nat} (h:ahB ns n m=true):m<ns.length:=by
 unfold ahB at h
 cases e:ns[m]? with
 | none=>rw [e] at h;cases h
 | some x=>exact (List.getElem?_eq_some_iff.1 e).1
structure Flw where
 back:Bool
 empty:Bool
 gen:List Bool
 pass:List Bool
 plus:List Bool
 lets:List Bool
def nbs (ns:List Nd) (f:Flw) (n:Nat):List Nat:=if f.back then nxl ns n else ahl ns n
def allOr (e:Bool) (l:List Nat) (p:Nat→Bool):Bool:=if l.isEmpty then e else l.all p
def sayF (ns:List Nd) (f:Flw) (x:Nat→Bool) (n:Nat):Bool :=
 bat f.gen n||(bat f.pass n&&allOr f.empty (nbs ns f n) fun m=>bat f.plus m||(bat f.lets m&&x m))
theorem all_mono {l:List Nat} {p q:Nat→Bool} (h:∀ m,p m=true→q m=true) (ha:l.all p=true):l.all q=true:=by
 rw [List.all_eq_true] at ha ⊢
 exact fun m hm=>h m (ha m hm)
theorem allOr_mono {e:Bool} {l:List Nat} {p q:Nat→Bool} (h:∀ m,p m=true→q m=true) (ha:allOr e l p=true):allOr e l q=true:=by
 unfold allOr at ha ⊢
 split at ha
 ·rename_i hl;rw [if_pos hl];exact ha
 ·rename_i hl;rw [if_neg hl];exact all_mono h ha
theorem sayF_mono (ns:List Nd) (f:Flw):Mono (sayF ns f):=by
 intro x y hxy n h
 simp only [sayF,Bool.or_eq_true,Bool.and_eq_true] at h ⊢
 rcases h with h | ⟨h1,h2⟩
 ·exact Or.inl h
 ·refine Or.inr ⟨h1,allOr_mono (fun m hm=>?_) h2⟩
  simp only [Bool.or_eq_true,Bool.and_eq_true] at hm ⊢
  rcases hm with hm | ⟨h3,h4⟩
  ·exact Or.inl hm
  ·exact Or.inr ⟨h3,hxy m h4⟩
def solve (ns:List Nd) (f:Flw):List Bool:=gr (sayF ns f) ns.length
inductive Rch (ns:List Nd):Nat→Prop
 | zero:Rch ns 0
 | step {n m:Nat}:Rch ns n→ahB ns m n=true→Rch ns m
structure IsR (ns:List Nd) (x:List Bool):Prop where
 len:x.length=ns.length
 iff:∀ n,n<ns.length→(bat x n=true↔Rch ns n)
theorem IsR.uniq {ns:List Nd} {x y:List Bool} (hx:IsR ns x) (hy:IsR ns y):x=y:=by
 refine bat_ext (by rw [hx.len,hy.len]) fun n hn=>?_
 rw [hx.len] at hn
 rw [Bool.eq_iff_iff,hx.iff n hn,hy.iff n hn]
def nrF (ns:List Nd) (x:Nat→Bool) (n:Nat):Bool:=n != 0&&(ahl ns n).all x
theorem nrF_mono (ns:List Nd):Mono (nrF ns):=by
 intro x y hxy n h
 simp only [nrF,Bool.and_eq_true] at h ⊢
 exact ⟨h.1,all_mono hxy h.2⟩
def rchL (ns:List Nd):List Bool:=(gr (nrF ns) ns.length).map not
theorem rchL_len (ns:List Nd):(rchL ns).length=ns.length:=by simp [rchL,(gr_isG (nrF_mono ns) ns.length).len]
theorem bat_not {x:List Bool} {n:Nat} (h:n<x.length):bat (x.map not) n=!bat x n:=by
 simp [bat,h]
theorem rchL_isR (ns:List Nd):IsR ns (rchL ns):=by
 have hG:=gr_isG (nrF_mono ns) ns.length
 refine ⟨rchL_len ns,fun n hn=>?_⟩
 rw [rchL,bat_not (by rw [hG.len];exact hn)]
 constructor
 ·intro h
  apply Classical.byContradiction
  intro hc
  have:=hG.top (fun m=>@decide (m<ns.length∧¬ Rch ns m) (Classical.propDecidable _)) (fun m hm=>by simp;omega) (fun m hm hy=>by
   simp only [decide_eq_true_eq] at hy
   simp only [nrF,Bool.and_eq_true,bne_iff_ne,ne_eq,List.all_eq_true,decide_eq_true_eq]
   refine ⟨fun e=>hy.2 (e ▸ Rch.zero),fun j hj=>?_⟩
   rw [mem_ahl] at hj
   exact ⟨hj.1,fun hr=>hy.2 (Rch.step hr hj.2)⟩) n (by simp;exact ⟨hn,hc⟩)
  rw [this] at h;cases h
 ·intro h
  have:∀ m,Rch ns m→m<ns.length→bat (gr (nrF ns) ns.length) m=false:=by
   intro m hm
   induction hm with
   | zero=>intro h0;rw [hG.fix 0 h0];simp [nrF]
   | step hr ha ih =>
    rename_i a b
    intro hb
    rw [hG.fix _ hb]
    have hlt:=ahB_lt ha
    simp only [nrF,Bool.and_eq_false_iff]
    right
    rw [List.all_eq_false]
    exact ⟨_,mem_ahl.2 ⟨hlt,ha⟩,by rw [ih hlt];simp⟩
  rw [this n h hn];rfl
def nd (ns:List Nd) (n:Nat):Nd:=ns.getD n ⟨0,0,0,0,0,0⟩
theorem nd_get {ns:List Nd} {n:Nat} {x:Nd} (h:ns[n]?=some x):nd ns n=x:=by simp [nd,h]
theorem get_nd {ns:List Nd} {n:Nat} (h:n<ns.length):ns[n]?=some (nd ns n):=by simp [nd,h]
def keptI (x:List Bool) (k:Nat):List Nat:=(List.range k).filter (bat x)
theorem keptI_yes {x:List Bool} {k:Nat} (h:bat x k=true):keptI x (k+1)=keptI x k++[k]:=by
 simp [keptI,List.range_succ,List.filter_append,h]
theorem keptI_no {x:List Bool} {k:Nat} (h:bat x k=false):keptI x (k+1)=keptI x k:=by
 simp [keptI,List.range_succ,List.filter_append,h]
theorem keptI_len (x:List Bool) (k:Nat):(keptI x k).length≤k :=
 Nat.le_trans (List.length_filter_le _ _) (by simp)
def anewAt (x:List Bool) (j:Nat):Nat:=if bat x j then (keptI x j).length else 0
def anewTo (x:List Bool) (k j:Nat):Nat:=if j<k then anewAt x j else 0
def ren (x:List Bool) (m:Nd):Nd:={ m with t:=(anewAt x m.t.toNat:Nat),e:=(anewAt x m.e.toNat:Nat) }
def trimN (ns:List Nd):List Nd:=(keptI (rchL ns) ns.length).map fun n=>ren (rchL ns) (nd ns n)
def exo (x:Nd):List Int :=
 if x.op=11 then if x.e=x.t then [x.t] else [x.t,x.e]
 else if wi x.op 0 11 then [x.t] else []
def trn (x:Nd) (fr to:Int):Nd:={ x with t:=if x.t=fr then to else x.t,e:=if x.e=fr then to else x.e }
def spl1 (ns:List Nd) (n:Nat) (out:List Nd) (m:Int):List Nd :=
 if 1<(ahl ns m.toNat).length then out.set n (trn (nd out n) m out.length)++[⟨0,0,0,0,m,0⟩] else out
def spl2 (ns:List Nd) (out:List Nd) (n:Nat):List Nd :=
 if (nd ns n).op=0 then out else (exo (nd ns n)).foldl (spl1 ns n) out
def splTo (ns:List Nd) (k:Nat):List Nd:=(List.range k).foldl (spl2 ns) ns
theorem splTo_succ (ns:List Nd) (k:Nat):splTo ns (k+1)=spl2 ns (splTo ns k) k:=by
 simp [splTo,List.range_succ,List.foldl_append]
def splitN (ns:List Nd):List Nd:=splTo ns ns.length
def run1 (ns:List Nd) (s:St):St:=if s.ended then s else match ns[s.pc]? with | some x=>stp x s | none=>s
theorem runN_none {ns:List Nd} {s:St} (h:ns[s.pc]?=none):∀ n,runN ns n s=s
 | 0=>rfl
 | n+1=>by simp [runN,h]
theorem runS_succ (ns:List Nd) (n:Nat) (s:St):runN ns (n+1) s=runN ns n (run1 ns s):=by
 cases he:s.ended
 ·cases hx:ns[s.pc]? with
  | none=>simp [run1,he,hx,runN_none hx]
  | some x=>simp [run1,he,hx,runN]
 ·simp [run1,he,runN_ended he]
theorem runN_plus (ns:List Nd):∀ (n m:Nat) (s:St),runN ns (n+m) s=runN ns m (runN ns n s)
 | 0,m,s=>by simp [runN]
 | n+1,m,s=>by rw [show n+1+m=(n+m)+1 by omega,runS_succ,runS_succ,runN_plus ns n m]
theorem runN_last (ns:List Nd) (n:Nat) (s:St):runN ns (n+1) s=run1 ns (runN ns n s):=by
 rw [runN_plus ns n 1,runS_succ];rfl
theorem run1_ended {ns:List Nd} {s:St} (h:s.ended=true):run1 ns s=s:=by simp [run1,h]
theorem run1_at {ns:List Nd} {s:St} {x:Nd} (h:s.ended=false) (hx:ns[s.pc]?=some x):run1 ns s=stp x s:=by simp [run1,h,hx]
theorem run1_out (ns:List Nd) (s:St):s.out <+: (run1 ns s).out:=by
 unfold run1
 split
 ·exact List.prefix_refl _
 ·split
  ·unfold stp;repeat' split
   all_goals simp
  ·exact List.prefix_refl _
theorem runN_out' (ns:List Nd):∀ (n:Nat) (s:St),s.out <+: (runN ns n s).out
 | 0,s=>List.prefix_refl _
 | n+1,s=>by rw [runS_succ];exact (run1_out ns s).trans (runN_out' ns n _)
theorem runN_out_mono (ns:List Nd) {n m:Nat} (h:n≤m) (s:St):(runN ns n s).out <+: (runN ns m s).out:=by
 rw [show m=n+(m-n) by omega,runN_plus];exact runN_out' ns _ _
theorem runN_stays {ns:List Nd} {n m:Nat} (h:n≤m) {s:St} (he:(runN ns n s).ended=true):runN ns m s=runN ns n s:=by
 rw [show m=n+(m-n) by omega,runN_plus,runN_ended he]
theorem nodup_below:∀ (n:Nat) (l:List Nat),l.Nodup→(∀ x∈l,x<n)→l.length≤n
 | 0,l,_,h=>by
  cases l with
  | nil=>simp
  | cons a l=>exact absurd (h a (by simp)) (by omega)
 | n+1,l,hd,h=>by
  have h1:=nodup_below n (l.erase n) (hd.erase n) (fun x hx=>by
   have h2:=h x (List.mem_of_mem_erase hx)
   have h3:x≠n:=fun e=>by
    subst e
    exact (List.Nodup.not_mem_erase hd) hx
   omega)
  have:=List.length_erase (a:=n) (l:=l)
  split at this <;> omega
structure Sim (ns ms:List Nd) (f:Nat→Nat) (sil:Nat→Bool) (rk:Nat→Nat) (M:Nat) (R:St→St→Prop):Prop where
 pc:∀ s u,R s u→s.pc=f u.pc∧s.pc<ns.length∧u.pc<ms.length
 obs:∀ s u,R s u→u.out=s.out∧u.ended=s.ended∧u.ret=s.ret
 silent:∀ s u,R s u→s.ended=false→sil u.pc=true→R s (run1 ms u)∧rk (run1 ms u).pc<rk u.pc
 step:∀ s u,R s u→s.ended=false→sil u.pc=false→R (run1 ns s) (run1 ms u)
 bound:∀ n,rk n≤M
theorem Sim.lead {ns ms:List Nd} {f:Nat→Nat} {sil:Nat→Bool} {rk:Nat→Nat} {M:Nat} {R:St→St→Prop} (S:Sim ns ms f sil rk M R):∀ (r:Nat) (s u:St),R s u→s.ended=false→rk u.pc≤r →
 ∃ l:List Nat,l.Nodup∧(∀ x∈l,x<ms.length∧sil x=true∧rk x≤rk u.pc)∧R s (runN ms l.length u)∧sil (runN ms l.length u).pc=false
 | r,s,u,h,he,hr=>by
  cases hs:sil u.pc
  ·exact ⟨[],by simp,by simp,h,hs⟩
  ·obtain ⟨h1,h2⟩:=S.silent s u h he hs
   cases r with
   | zero=>omega
   | succ r =>
    obtain ⟨l,l1,l2,l3,l4⟩:=S.lead r s (run1 ms u) h1 he (by omega)
    refine ⟨u.pc::l,?_,?_,?_,?_⟩
    ·refine List.nodup_cons.2 ⟨fun hm=>?_,l1⟩
     have:=(l2 _ hm).2.2;omega
    ·intro x hx
     rcases List.mem_cons.1 hx with rfl | hx
     ·exact ⟨(S.pc s u h).2.2,hs,Nat.le_refl _⟩
     ·have:=l2 x hx;exact ⟨this.1,this.2.1,by omega⟩
    ·simp only [List.length_cons];rw [runS_succ];exact l3
    ·simp only [List.length_cons];rw [runS_succ];exact l4
theorem Sim.one {ns ms:List Nd} {f:Nat→Nat} {sil:Nat→Bool} {rk:Nat→Nat} {M:Nat} {R:St→St→Prop} (S:Sim ns ms f sil rk M R) {s u:St} (h:R s u):∃ j,j≤ms.length∧R (run1 ns s) (runN ms j u):=by
 cases he:s.ended
 ·obtain ⟨l,l1,l2,l3,l4⟩:=S.lead _ s u h he (Nat.le_refl _)
  have h1:=S.step _ _ l3 he l4
  rw [← runN_last] at h1
  refine ⟨l.length+1,?_,h1⟩
  have hp:=(S.pc _ _ l3).2.2
  have:=nodup_below ms.length ((runN ms l.length u).pc::l) (List.nodup_cons.2 ⟨fun hm=>(by
   have:=(l2 _ hm).2.1;rw [l4] at this;cases this),l1⟩) (fun x hx=>by
   rcases List.mem_cons.1 hx with rfl | hx
   ·exact hp
   ·exact (l2 x hx).1)
  simpa using this
 ·exact ⟨0,by omega,by rw [run1_ended he];exact h⟩
theorem Sim.fwd {ns ms:List Nd} {f:Nat→Nat} {sil:Nat→Bool} {rk:Nat→Nat} {M:Nat} {R:St→St→Prop} (S:Sim ns ms f sil rk M R) {s u:St} (h:R s u):∀ n,∃ m,m≤n*ms.length∧R (runN ns n s) (runN ms m u)
 | 0=>⟨0,by omega,h⟩
 | n+1=>by
  obtain ⟨m,h1,h2⟩:=S.fwd h n
  obtain ⟨j,h3,h4⟩:=S.one h2
  refine ⟨m+j,?_,?_⟩
  ·rw [Nat.succ_mul];omega
  ·rw [runN_last,runN_plus];exact h4
theorem Sim.bwd {ns ms:List Nd} {f:Nat→Nat} {sil:Nat→Bool} {rk:Nat→Nat} {M:Nat} {R:St→St→Prop} (S:Sim ns ms f sil rk M R) {s u:St} (h:R s u):∀ n,∃ i,i≤n∧R (runN ns i s) (runN ms n u)
 | 0=>⟨0,by omega,h⟩
 | n+1=>by
  obtain ⟨i,h1,h2⟩:=S.bwd h n
  cases he:(runN ns i s).ended
  ·cases hs:sil (runN ms n u).pc
   ·exact ⟨i+1,by omega,by rw [runN_last,runN_last];exact S.step _ _ h2 he hs⟩
   ·exact ⟨i,by omega,by rw [runN_last];exact (S.silent _ _ h2 he hs).1⟩
  ·have he2:(runN ms n u).ended=true:=by rw [(S.obs _ _ h2).2.1];exact he
   exact ⟨i,by omega,by rw [runN_last,run1_ended he2];exact h2⟩
structure Does (ns ms:List Nd) (s u:St) (n:Nat):Prop where
 b1:(runN ms n u).ended=true→(runN ns n s).ended=true∧(runN ns n s).ret=(runN ms n u).ret∧(runN ns n s).out=(runN ms n u).out
 b2:(runN ms n u).out <+: (runN ns n s).out
 c1:(runN ns n s).ended=true→(runN ms (n*(ms.length+1)+ms.length) u).ended=true∧(runN ns n s).ret=(runN ms (n*(ms.length+1)+ms.length) u).ret∧(runN ns n s).out=(runN ms (n*(ms.length+1)+ms.length) u).out
 c2:(runN ns n s).out <+: (runN ms (n*(ms.length+1)+ms.length) u).out
theorem Sim.does {ns ms:List Nd} {f:Nat→Nat} {sil:Nat→Bool} {rk:Nat→Nat} {M:Nat} {R:St→St→Prop} (S:Sim ns ms f sil rk M R) {s u:St} (h:R s u) (n:Nat):Does ns ms s u n:=by
 obtain ⟨i,hi,hR⟩:=S.bwd h n
 obtain ⟨m,hm,hF⟩:=S.fwd h n
 obtain ⟨o1,o2,o3⟩:=S.obs _ _ hR
 obtain ⟨p1,p2,p3⟩:=S.obs _ _ hF
 have hmle:m≤n*(ms.length+1)+ms.length:=by rw [Nat.mul_succ];omega
 refine ⟨fun hb=>?_,?_,fun ha=>?_,?_⟩
 ·rw [o2] at hb
  rw [runN_stays hi hb]
  exact ⟨hb,o3.symm,o1.symm⟩
 ·rw [o1];exact runN_out_mono ns hi s
 ·have hb:(runN ms m u).ended=true:=by rw [p2];exact ha
  rw [runN_stays hmle hb]
  exact ⟨hb,p3.symm,p1.symm⟩
 ·rw [← p1];exact runN_out_mono ms hmle u
theorem Sim.comp {ns ms ls:List Nd} {f g:Nat→Nat} {sil til:Nat→Bool} {rk qk:Nat→Nat} {M L:Nat} {R Q:St→St→Prop} (S:Sim ns ms f sil rk M R) (T:Sim ms ls g til qk L Q) :
 Sim ns ls (fun n=>f (g n)) (fun n=>til n||sil (g n)) (fun n=>rk (g n)*(L+1)+qk n) (M*(L+1)+L) (fun s v=>∃ u,R s u∧Q u v):=by
 refine ⟨?_,?_,?_,?_,?_⟩
 ·rintro s v ⟨u,h1,h2⟩
  obtain ⟨a1,a2,a3⟩:=S.pc s u h1
  obtain ⟨b1,b2,b3⟩:=T.pc u v h2
  exact ⟨by rw [a1,b1],a2,b3⟩
 ·rintro s v ⟨u,h1,h2⟩
  obtain ⟨a1,a2,a3⟩:=S.obs s u h1
  obtain ⟨b1,b2,b3⟩:=T.obs u v h2
  exact ⟨by rw [b1,a1],by rw [b2,a2],by rw [b3,a3]⟩
 ·rintro s v ⟨u,h1,h2⟩ he hs
  have heu:u.ended=false:=by rw [(S.obs s u h1).2.1];exact he
  have hg:=(T.pc u v h2).1
  cases ht:til v.pc
  ·rw [ht,Bool.false_or] at hs
   rw [← hg] at hs
   obtain ⟨c1,c2⟩:=S.silent s u h1 he hs
   have d1:=T.step u v h2 heu ht
   refine ⟨⟨_,c1,d1⟩,?_⟩
   have hg1:=(T.pc _ _ d1).1
   have hb:=T.bound (run1 ls v).pc
   show rk (g (run1 ls v).pc)*(L+1)+qk (run1 ls v).pc<rk (g v.pc)*(L+1)+qk v.pc
   rw [← hg1,← hg]
   have:(rk (run1 ms u).pc+1)*(L+1)≤rk u.pc*(L+1):=Nat.mul_le_mul_right _ c2
   rw [Nat.succ_mul] at this
   omega
  ·obtain ⟨d1,d2⟩:=T.silent u v h2 heu ht
   refine ⟨⟨_,h1,d1⟩,?_⟩
   have hg1:=(T.pc _ _ d1).1
   show rk (g (run1 ls v).pc)*(L+1)+qk (run1 ls v).pc<rk (g v.pc)*(L+1)+qk v.pc
   rw [← hg1,← hg]
   omega
 ·rintro s v ⟨u,h1,h2⟩ he hs
  have heu:u.ended=false:=by rw [(S.obs s u h1).2.1];exact he
  have hg:=(T.pc u v h2).1
  rw [Bool.or_eq_false_iff] at hs
  exact ⟨_,S.step s u h1 he (by rw [hg];exact hs.2),T.step u v h2 heu hs.1⟩
 ·intro n
  have h1:=S.bound (g n)
  have h2:=T.bound n
  have:rk (g n)*(L+1)≤M*(L+1):=Nat.mul_le_mul_right _ h1
  omega
structure Full (r:Int) (len:Nat) (x:Nd):Prop where
 op:0≤x.op∧x.op≤12
 d:1≤x.op→x.op≤9→0≤x.d∧x.d<r
 d0:¬ (1≤x.op∧x.op≤9)→x.d=0
 a:x.op≠0→x.op≠1→x.op≠9→0≤x.a∧x.a<r
 a0:x.op=0∨x.op=9→x.a=0
 b:3≤x.op→x.op≤8→0≤x.b∧x.b<r
 b0:¬ (3≤x.op∧x.op≤8)→x.b=0
 t:x.op≠12→1≤x.t∧x.t<len
 t0:x.op=12→x.t=0
 e:x.op=11→1≤x.e∧x.e<len
 e0:x.op≠11→x.e=0
theorem full_of {r:Int} {len:Nat} {x:Nd} (hk:kn x.op=true) (hi:fieldsOk (inB r len) x=true) (hn:fieldsOk noF x=true):Full r len x:=by
 have hop:=wi_iff.1 hk
 simp only [fieldsOk,kvs,List.all_cons,List.all_nil,Bool.and_true,Bool.and_eq_true] at hi hn
 obtain ⟨q0,q1,q2,q3,q4⟩:=hi
 obtain ⟨n0,n1,n2,n3,n4⟩:=hn
 refine ⟨hop,fun a b=>?_,fun h=>?_,fun a b c=>?_,fun h=>?_,fun a b=>?_,fun h=>?_,fun h=>?_,fun h=>?_,fun h=>?_,fun h=>?_⟩
 ·simp only [k0,wi_true a b,if_true,inB] at q0
  have:=wi_iff.1 q0;omega
 ·have e:wi x.op 1 9=false:=wi_false (by omega)
  simpa [k0,e,noF] using n0
 ·have e:(wi x.op 2 8||wi x.op 10 12)=true:=by
   rw [Bool.or_eq_true,wi_iff,wi_iff];omega
  simp only [k1,if_neg b,e,if_true,inB] at q1
  have:=wi_iff.1 q1;omega
 ·have e1:wi x.op 2 8=false:=wi_false (by omega)
  have e2:wi x.op 10 12=false:=wi_false (by omega)
  have e3:x.op≠1:=by omega
  simpa [k1,e1,e2,e3,noF] using n1
 ·simp only [k2,wi_true a b,if_true,inB] at q2
  have:=wi_iff.1 q2;omega
 ·have e:wi x.op 3 8=false:=wi_false (by omega)
  simpa [k2,e,noF] using n2
 ·rw [k3_val hk,if_neg h] at q3
  simp only [inB] at q3
  have:=wi_iff.1 q3;omega
 ·rw [k3_val hk,if_pos h] at n3
  simpa [noF] using n3
 ·simp only [k4,if_pos h,inB] at q4
  have:=wi_iff.1 q4;omega
 ·simpa [k4,h,noF] using n4
theorem Full.ok {r:Int} {len:Nat} {x:Nd} (h:Full r len x):kn x.op=true∧fieldsOk (inB r len) x=true∧fieldsOk noF x=true:=by
 obtain ⟨hop,hd,hd0,ha,ha0,hb,hb0,ht,ht0,he,he0⟩:=h
 have hk:kn x.op=true:=wi_true hop.1 hop.2
 have K3:=k3_val hk
 refine ⟨hk,?_,?_⟩
 ·simp only [fieldsOk,kvs,List.all_cons,List.all_nil,Bool.and_true,Bool.and_eq_true]
  refine ⟨?_,?_,?_,?_,?_⟩
  ·by_cases c:1≤x.op∧x.op≤9
   ·have:=hd c.1 c.2
    simp only [k0,wi_true c.1 c.2,if_true,inB];exact wi_true (by omega) (by omega)
   ·have e:wi x.op 1 9=false:=wi_false (by omega)
    simp [k0,e,inB]
  ·by_cases c1:x.op=1
   ·simp [k1,c1,inB]
   ·cases e:(wi x.op 2 8||wi x.op 10 12)
    ·simp [k1,c1,e,inB]
    ·rw [Bool.or_eq_true,wi_iff,wi_iff] at e
     have:=ha (by omega) c1 (by omega)
     have e' :(wi x.op 2 8||wi x.op 10 12)=true:=by rw [Bool.or_eq_true,wi_iff,wi_iff];exact e
     simp only [k1,if_neg c1,e', if_true,inB];exact wi_true (by omega) (by omega)
  ·by_cases c:3≤x.op∧x.op≤8
   ·have:=hb c.1 c.2
    simp only [k2,wi_true c.1 c.2,if_true,inB];exact wi_true (by omega) (by omega)
   ·have e:wi x.op 3 8=false:=wi_false (by omega)
    simp [k2,e,inB]
  ·rw [K3]
   by_cases c:x.op=12
   ·simp [c,inB]
   ·have:=ht c
    rw [if_neg c]
    simp only [inB]
    exact wi_true (by omega) (by omega)
  ·by_cases c:x.op=11
   ·have:=he c
    simp only [k4,if_pos c,inB];exact wi_true (by omega) (by omega)
   ·simp [k4,c,inB]
 ·simp only [fieldsOk,kvs,List.all_cons,List.all_nil,Bool.and_true,Bool.and_eq_true]
  refine ⟨?_,?_,?_,?_,?_⟩
  ·by_cases c:1≤x.op∧x.op≤9
   ·simp [k0,wi_true c.1 c.2,noF]
   ·simp [noF,hd0 c]
  ·by_cases c:x.op=0∨x.op=9
   ·simp [noF,ha0 c]
   ·by_cases c1:x.op=1
    ·simp [k1,c1,noF]
    ·have e' :(wi x.op 2 8||wi x.op 10 12)=true:=by rw [Bool.or_eq_true,wi_iff,wi_iff];omega
     simp [k1,c1,e', noF]
  ·by_cases c:3≤x.op∧x.op≤8
   ·simp [k2,wi_true c.1 c.2,noF]
   ·simp [noF,hb0 c]
  ·rw [K3]
   by_cases c:x.op=12
   ·simp [noF,ht0 c]
   ·simp [c,noF]
  ·by_cases c:x.op=11
   ·simp [k4,c,noF]
   ·simp [noF,he0 c]
theorem chk_full {r:Int} {ns:List Nd} (h:chk r ns=0):(1≤ns.length∧ns.length≤256)∧(1≤r∧r≤64)∧∀ x∈ns,Full r ns.length x:=by
 obtain ⟨h1,h2,h3,h4,h5⟩:=chk_zero h
 exact ⟨h1,h2,fun x hx=>full_of (h3 x hx) (h4 x hx) (h5 x hx)⟩
theorem chk_mk {r:Int} {ns:List Nd} (h1:1≤ns.length∧ns.length≤256) (h2:1≤r∧r≤64) (h3:∀ x∈ns,Full r ns.length x):chk r ns=0:=by
 unfold chk
 have e1:(wi ns.length 1 256&&wi r 1 64)=true:=by
  rw [Bool.and_eq_true];exact ⟨wi_true (by omega) (by omega),wi_true h2.1 h2.2⟩
 have e2:ns.all (fun x=>kn x.op)=true:=List.all_eq_true.2 fun x hx=>(h3 x hx).ok.1
 have e3:ns.all (fieldsOk (inB r ns.length))=true:=List.all_eq_true.2 fun x hx=>(h3 x hx).ok.2.1
 have e4:ns.all (fieldsOk noF)=true:=List.all_eq_true.2 fun x hx=>(h3 x hx).ok.2.2
 rw [if_pos e1,if_pos e2,if_pos e3,if_pos e4]
theorem chk_at {r:Int} {ns:List Nd} (h:chk r ns=0) {n:Nat} (hn:n<ns.length):Full r ns.length (nd ns n) :=
 (chk_full h).2.2 _ (List.mem_of_getElem? (get_nd hn))
theorem keptI_get {x:List Bool} {j:Nat} (hj:bat x j=true):∀ {k:Nat},j<k→(keptI x k)[(keptI x j).length]?=some j
 | 0,h=>by omega
 | k+1,h=>by
  by_cases e:j=k
  ·subst e;rw [keptI_yes hj];simp
  ·have ih:=keptI_get hj (k:=k) (by omega)
   cases hb:bat x k
   ·rw [keptI_no hb];exact ih
   ·rw [keptI_yes hb,List.getElem?_append_left (List.getElem?_eq_some_iff.1 ih).1];exact ih
theorem keptI_mem {x:List Bool} {k j:Nat}:j∈keptI x k↔j<k∧bat x j=true:=by simp [keptI]
theorem keptI_lt {x:List Bool} {j k:Nat} (hj:bat x j=true) (h:j<k):(keptI x j).length<(keptI x k).length:=(List.getElem?_eq_some_iff.1 (keptI_get hj h)).1
theorem rch_bat {ns:List Nd} {n:Nat} (hn:n<ns.length):bat (rchL ns) n=true↔Rch ns n:=(rchL_isR ns).iff n hn
theorem rch_zero {ns:List Nd} (h:0<ns.length):bat (rchL ns) 0=true:=(rch_bat h).2 Rch.zero
theorem anew_zero (x:List Bool):anewAt x 0=0:=by unfold anewAt;split <;> simp [keptI]
theorem ahB_then {ns:List Nd} {n:Nat} (hn:n<ns.length) (h:(nd ns n).op≠12) {m:Nat} (hm:(nd ns n).t=m):ahB ns m n=true:=by
 rw [ahB_at (get_nd hn)];simp [ldB,h,hm]
theorem ahB_else {ns:List Nd} {n:Nat} (hn:n<ns.length) (h:(nd ns n).op=11) {m:Nat} (hm:(nd ns n).e=m):ahB ns m n=true:=by
 rw [ahB_at (get_nd hn)];simp [ldB,h,hm]
theorem rch_then {r:Int} {ns:List Nd} (hc:chk r ns=0) {n:Nat} (hn:n<ns.length) (hr:bat (rchL ns) n=true) (h:(nd ns n).op≠12):(nd ns n).t.toNat<ns.length∧bat (rchL ns) (nd ns n).t.toNat=true:=by
 have ht:=(chk_at hc hn).t h
 have hlt:(nd ns n).t.toNat<ns.length:=by omega
 exact ⟨hlt,(rch_bat hlt).2 (Rch.step ((rch_bat hn).1 hr) (ahB_then hn h (by omega)))⟩
theorem rch_else {r:Int} {ns:List Nd} (hc:chk r ns=0) {n:Nat} (hn:n<ns.length) (hr:bat (rchL ns) n=true) (h:(nd ns n).op=11):(nd ns n).e.toNat<ns.length∧bat (rchL ns) (nd ns n).e.toNat=true:=by
 have ht:=(chk_at hc hn).e h
 have hlt:(nd ns n).e.toNat<ns.length:=by omega
 exact ⟨hlt,(rch_bat hlt).2 (Rch.step ((rch_bat hn).1 hr) (ahB_else hn h (by omega)))⟩
theorem trimN_get {ns:List Nd} {j:Nat} (hj:j<ns.length) (hr:bat (rchL ns) j=true):(trimN ns)[anewAt (rchL ns) j]?=some (ren (rchL ns) (nd ns j)):=by
 simp only [trimN,anewAt,hr,if_true,List.getElem?_map,keptI_get hr hj,Option.map_some]
theorem trimN_len (ns:List Nd):(trimN ns).length=(keptI (rchL ns) ns.length).length:=by simp [trimN]
theorem anew_lt {ns:List Nd} {j:Nat} (hj:j<ns.length) (hr:bat (rchL ns) j=true):anewAt (rchL ns) j<(trimN ns).length:=(List.getElem?_eq_some_iff.1 (trimN_get hj hr)).1
theorem trimN_pos {ns:List Nd} (h:0<ns.length):0<(trimN ns).length:=by
 have:=anew_lt h (rch_zero h);rw [anew_zero] at this;exact this
theorem anew_pos {ns:List Nd} {j:Nat} (hj:j<ns.length) (h0:0<j) (hr:bat (rchL ns) j=true):0<anewAt (rchL ns) j:=by
 simp only [anewAt,hr,if_true]
 exact Nat.lt_of_le_of_lt (Nat.zero_le _) (keptI_lt (rch_zero (by omega)) h0)
theorem ren_full {r:Int} {ns:List Nd} (hc:chk r ns=0) {n:Nat} (hn:n<ns.length) (hr:bat (rchL ns) n=true):Full r (trimN ns).length (ren (rchL ns) (nd ns n)):=by
 have h:=chk_at hc hn
 refine ⟨h.op,h.d,h.d0,h.a,h.a0,h.b,h.b0,fun h12=>?_,fun h12=>?_,fun h11=>?_,fun h11=>?_⟩
 ·obtain ⟨a1,a2⟩:=rch_then hc hn hr h12
  have ht:=h.t h12
  have p:=anew_pos a1 (by omega) a2
  have q:=anew_lt a1 a2
  simp only [ren];omega
 ·have:=h.t0 h12
  simp [ren,this,anew_zero]
 ·obtain ⟨a1,a2⟩:=rch_else hc hn hr h11
  have ht:=h.e h11
  have p:=anew_pos a1 (by omega) a2
  have q:=anew_lt a1 a2
  simp only [ren];omega
 ·have:=h.e0 h11
  simp [ren,this,anew_zero]
theorem trimN_mem {ns:List Nd} {y:Nd} (h:y∈trimN ns):∃ n,n<ns.length∧bat (rchL ns) n=true∧y=ren (rchL ns) (nd ns n):=by
 simp only [trimN,List.mem_map] at h
 obtain ⟨n,hn,rfl⟩:=h
 rw [keptI_mem] at hn
 exact ⟨n,hn.1,hn.2,rfl⟩
theorem trim_chk {r:Int} {ns:List Nd} (hc:chk r ns=0):chk r (trimN ns)=0:=by
 have h:=chk_full hc
 have h0:0<(trimN ns).length:=trimN_pos (by omega)
 have h1:(trimN ns).length≤ns.length:=by rw [trimN_len];exact keptI_len _ _
 refine chk_mk ⟨by omega,by omega⟩ h.2.1 fun y hy=>?_
 obtain ⟨n,hn,hr,rfl⟩:=trimN_mem hy
 exact ren_full hc hn hr
def renS (x:List Bool) (s:St):St:={ s with pc:=anewAt x s.pc }
theorem stp_ren (x:List Bool) (m:Nd) (s:St):stp (ren x m) (renS x s)=renS x (stp m s):=by
 unfold stp ren renS
 simp only
 repeat' split
 all_goals first | rfl | simp_all [tmOf]
theorem trim_run1 {r:Int} {ns:List Nd} (hc:chk r ns=0) {s:St} (h:s.ended=true∨s.pc<ns.length∧bat (rchL ns) s.pc=true) :
 run1 (trimN ns) (renS (rchL ns) s)=renS (rchL ns) (run1 ns s)∧((run1 ns s).ended=true∨(run1 ns s).pc<ns.length∧bat (rchL ns) (run1 ns s).pc=true):=by
 cases he:s.ended
 ·rcases h with h | ⟨hn,hr⟩
  ·rw [he] at h;cases h
  ·rw [run1_at he (get_nd hn),run1_at (s:=renS (rchL ns) s) he (trimN_get hn hr)]
   refine ⟨stp_ren _ _ _,?_⟩
   by_cases h12:(nd ns s.pc).op=12
   ·left;simp [stp,h12]
   ·right
    have a:=rch_then hc hn hr h12
    by_cases h11:(nd ns s.pc).op=11
    ·have b:=rch_else hc hn hr h11
     simp only [stp,h11]
     simp only [show ¬ ((11:Int)=0) by omega,show ¬ ((11:Int)=1) by omega,show ¬ ((11:Int)=2) by omega,show ¬ ((11:Int)=9) by omega,show ¬ ((11:Int)=10) by omega,if_false,if_true]
     split
     ·exact b
     ·exact a
    ·have e:(stp (nd ns s.pc) s).pc=(nd ns s.pc).t.toNat:=by
      unfold stp;repeat' split
      all_goals first | rfl | contradiction
     rw [e];exact a
 ·rw [run1_ended he,run1_ended (s:=renS (rchL ns) s) he];exact ⟨rfl,Or.inl he⟩
theorem trim_run {r:Int} {ns:List Nd} (hc:chk r ns=0):∀ (n:Nat) {s:St},(s.ended=true∨s.pc<ns.length∧bat (rchL ns) s.pc=true)→runN (trimN ns) n (renS (rchL ns) s)=renS (rchL ns) (runN ns n s)
 | 0,s,_=>rfl
 | n+1,s,h=>by
  obtain ⟨h1,h2⟩:=trim_run1 hc h
  rw [runS_succ,runS_succ,h1,trim_run hc n h2]
theorem trim_same {r:Int} {ns:List Nd} (hc:chk r ns=0) (n k:Nat) (inp:List Int):runN (trimN ns) n (st0 k inp)=renS (rchL ns) (runN ns n (st0 k inp)):=by
 have h:=trim_run hc n (s:=st0 k inp) (Or.inr ⟨(chk_full hc).1.1,rch_zero (chk_full hc).1.1⟩)
 have e:renS (rchL ns) (st0 k inp)=st0 k inp:=by simp [renS,st0,anew_zero]
 rw [e] at h;exact h
theorem mem_exo {x:Nd} (hk:kn x.op=true) (m:Nat):(m:Int)∈exo x↔ldB x m=true:=by
 have hop:=wi_iff.1 hk
 unfold exo ldB
 by_cases h11:x.op=11
 ·rw [if_pos h11]
  by_cases he:x.e=x.t
  ·rw [if_pos he];simp [h11,he];omega
  ·rw [if_neg he];simp [h11];omega
 ·rw [if_neg h11]
  by_cases h12:x.op=12
  ·have e:wi x.op 0 11=false:=wi_false (by omega)
   rw [e];simp [h12]
  ·rw [wi_true (by omega) (by omega),if_pos rfl];simp [h11,h12];omega
theorem exo_ahB {r:Int} {ns:List Nd} (hc:chk r ns=0) {n:Nat} (hn:n<ns.length) (m:Nat):(m:Int)∈exo (nd ns n)↔ahB ns m n=true:=by
 rw [mem_exo ((chk_at hc hn).ok.1),ahB_at (get_nd hn)]
structure Bfs (ns:List Nd) (x:List Bool) (cs:List Int) (i:Nat) (pre:List Int):Prop where
 len:x.length=ns.length
 mem:∀ m:Nat,m<ns.length→(bat x m=true↔(m:Int)∈cs)
 rng:∀ c∈cs,0≤c∧c<ns.length
 nodup:cs.Nodup
 rch:∀ m:Nat,(m:Int)∈cs→Rch ns m
 done:∀ (j:Nat) (c:Int),j<i→cs[j]?=some c→∀ e∈exo (nd ns c.toNat),e∈cs
 part:∀ e∈pre,e∈cs
 zero:0∈cs
theorem Bfs.start {ns:List Nd} (h:0<ns.length):Bfs ns ((List.replicate ns.length false).set 0 true) [0] 0 []:=by
 refine ⟨by simp,fun m hm=>?_,by simp;omega,by simp,fun m hm=>?_,fun j c hj=>by omega,by simp,by simp⟩
 ·rw [bat_set (by simpa using h)]
  by_cases e:m=0
  ·subst e;simp
  ·simp only [e,if_false]
   simp [bat,hm]
   omega
 ·simp at hm;subst hm;exact Rch.zero
theorem Bfs.len_le {ns:List Nd} {x:List Bool} {cs:List Int} {i:Nat} {pre:List Int} (h:Bfs ns x cs i pre):cs.length≤ns.length:=by
 have:=nodup_below ns.length (cs.map Int.toNat) (by
  refine List.Pairwise.map _ (S:=fun a b=>a≠b) ?_ (List.Pairwise.and_mem.1 h.nodup)
  rintro a b ⟨ha,hb,hab⟩ e
  have h1:=h.rng a ha
  have h2:=h.rng b hb
  exact hab (by omega)) (fun y hy=>by
  obtain ⟨c,hc,rfl⟩:=List.mem_map.1 hy
  have:=h.rng c hc;omega)
 simpa using this
theorem Bfs.hit {ns:List Nd} {x:List Bool} {cs:List Int} {i:Nat} {pre:List Int} (h:Bfs ns x cs i pre) {m:Nat} (hm:m<ns.length) (hx:bat x m=true):Bfs ns x cs i (pre++[(m:Int)]) :=
 ⟨h.len,h.mem,h.rng,h.nodup,h.rch,h.done,fun e he=>(by
  rcases List.mem_append.1 he with he | he
  ·exact h.part e he
  ·simp at he;subst he;exact (h.mem m hm).1 hx),h.zero⟩
theorem Bfs.new {r:Int} {ns:List Nd} (hc:chk r ns=0) {x:List Bool} {cs:List Int} {i:Nat} {pre:List Int} (h:Bfs ns x cs i pre) {m:Nat} (hm:m<ns.length) (hx:bat x m=false) {c:Int} (hci:cs[i]?=some c) (he:(m:Int)∈exo (nd ns c.toNat)):Bfs ns (x.set m true) (cs++[(m:Int)]) i (pre++[(m:Int)]):=by
 have hnm:(m:Int)∉cs:=fun q=>by
  have:=(h.mem m hm).2 q;rw [hx] at this;cases this
 have hcm:=List.mem_of_getElem? hci
 have hcr:=h.rng c hcm
 refine ⟨by simp [h.len],fun j hj=>?_,fun c' hc' =>?_,?_,fun j hj=>?_,fun j c' hj hjc e hee=>?_,fun e hee=>?_,by simp [h.zero]⟩
 ·rw [bat_set (by rw [h.len];exact hm)]
  by_cases q:j=m
  ·subst q;simp
  ·simp only [q,if_false,List.mem_append,List.mem_singleton]
   rw [h.mem j hj]
   constructor
   ·exact Or.inl
   ·rintro (h1 | h1)
    ·exact h1
    ·omega
 ·rcases List.mem_append.1 hc' with hc' | hc'
  ·exact h.rng c' hc'
  ·simp at hc'; omega
 ·rw [List.nodup_append]
  refine ⟨h.nodup,by simp,fun a ha b hb=>?_⟩
  simp at hb;subst hb;exact fun q=>hnm (q ▸ ha)
 ·rcases List.mem_append.1 hj with hj | hj
  ·exact h.rch j hj
  ·simp at hj
   have e1:j=m:=by omega
   subst e1
   have hlt:c.toNat<ns.length:=by omega
   exact Rch.step (h.rch c.toNat (by rw [Int.toNat_of_nonneg hcr.1];exact hcm)) ((exo_ahB hc hlt j).1 he)
 ·have hi:i<cs.length:=(List.getElem?_eq_some_iff.1 hci).1
  rw [List.getElem?_append_left (by omega)] at hjc
  exact List.mem_append_left _ (h.done j c' hj hjc e hee)
 ·rcases List.mem_append.1 hee with hee | hee
  ·exact List.mem_append_left _ (h.part e hee)
  ·exact List.mem_append_right _ hee
theorem Bfs.next {ns:List Nd} {x:List Bool} {cs:List Int} {i:Nat} {c:Int} (h:Bfs ns x cs i (exo (nd ns c.toNat))) (hci:cs[i]?=some c):Bfs ns x cs (i+1) [] :=
 ⟨h.len,h.mem,h.rng,h.nodup,h.rch,fun j c' hj hjc e hee=>(by
  by_cases q:j=i
  ·subst q
   rw [hci] at hjc;cases hjc
   exact h.part e hee
  ·exact h.done j c' (by omega) hjc e hee),by simp,h.zero⟩
theorem Bfs.fin {r:Int} {ns:List Nd} (hc:chk r ns=0) {x:List Bool} {cs:List Int} (h:Bfs ns x cs cs.length []):x=rchL ns:=by
 refine IsR.uniq ⟨h.len,fun n hn=>?_⟩ (rchL_isR ns)
 rw [h.mem n hn]
 refine ⟨h.rch n,fun hr=>?_⟩
 have key:∀ m,Rch ns m→(m:Int)∈cs:=by
  intro m hm
  induction hm with
  | zero=>exact h.zero
  | step hr ha ih =>
   rename_i a b
   obtain ⟨j,hj⟩:=List.getElem?_of_mem ih
   have hlt:=(List.getElem?_eq_some_iff.1 hj).1
   refine h.done j a hlt hj b ?_
   have hal:a<ns.length:=ahB_lt ha
   rw [Int.toNat_natCast,exo_ahB hc hal]
   exact ha
 exact key n hr
def mark1 (ns:List Nd) (x:List Bool) (n:Nat):List Bool:=if bat x n&&(nd ns n).op != 12 then x.set (nd ns n).t.toNat true else x
def mark2 (ns:List Nd) (x:List Bool) (n:Nat):List Bool:=if bat x n&&(nd ns n).op==11 then x.set (nd ns n).e.toNat true else x
def mark (ns:List Nd) (x:List Bool) (n:Nat):List Bool:=mark2 ns (mark1 ns x n) n
def markTo (ns:List Nd) (x:List Bool):Nat→List Bool
 | 0=>x
 | n+1=>mark ns (markTo ns x n) n
theorem mark_len (ns:List Nd) (x:List Bool) (n:Nat):(mark ns x n).length=x.length:=by
 unfold mark mark2 mark1;repeat' split
 all_goals simp
theorem markTo_len (ns:List Nd) (x:List Bool):∀ n,(markTo ns x n).length=x.length
 | 0=>rfl
 | n+1=>by simp only [markTo];rw [mark_len,markTo_len ns x n]
theorem yeses_more {x:List Bool} {i:Nat} (h:i<x.length):x.set i true=x∨yeses x<yeses (x.set i true):=by
 cases e:bat x i
 ·right
  have h1:=yeses_set (x:=x.set i true) (n:=i) (by simpa using h) (by rw [bat_set h];simp)
  rw [List.set_set,set_same h e] at h1
  omega
 ·exact Or.inl (set_same h e)
theorem mark1_or {r:Int} {ns:List Nd} (hc:chk r ns=0) {x:List Bool} (hl:x.length=ns.length) {n:Nat} (hn:n<ns.length):mark1 ns x n=x∨yeses x<yeses (mark1 ns x n):=by
 unfold mark1
 split
 ·rename_i h
  rw [Bool.and_eq_true,bne_iff_ne] at h
  have:=(chk_at hc hn).t h.2
  exact yeses_more (by omega)
 ·exact Or.inl rfl
theorem mark2_or {r:Int} {ns:List Nd} (hc:chk r ns=0) {x:List Bool} (hl:x.length=ns.length) {n:Nat} (hn:n<ns.length):mark2 ns x n=x∨yeses x<yeses (mark2 ns x n):=by
 unfold mark2
 split
 ·rename_i h
  rw [Bool.and_eq_true,beq_iff_eq] at h
  have:=(chk_at hc hn).e h.2
  exact yeses_more (by omega)
 ·exact Or.inl rfl
theorem mark1_len (ns:List Nd) (x:List Bool) (n:Nat):(mark1 ns x n).length=x.length:=by
 unfold mark1;split <;> simp
theorem mark_or {r:Int} {ns:List Nd} (hc:chk r ns=0) {x:List Bool} (hl:x.length=ns.length) {n:Nat} (hn:n<ns.length):(mark ns x n=x∧mark1 ns x n=x∧mark2 ns x n=x)∨yeses x<yeses (mark ns x n):=by
 unfold mark
 rcases mark1_or hc hl hn with h1 | h1
 ·rw [h1]
  rcases mark2_or hc hl hn with h2 | h2
  ·exact Or.inl ⟨h2,rfl,h2⟩
  ·exact Or.inr h2
 ·right
  rcases mark2_or hc (x:=mark1 ns x n) (by rw [mark1_len];exact hl) hn with h2 | h2
  ·rw [h2];exact h1
  ·omega
theorem markTo_or {r:Int} {ns:List Nd} (hc:chk r ns=0) {x:List Bool} (hl:x.length=ns.length):∀ n,n≤ns.length→(markTo ns x n=x∧∀ m,m<n→mark1 ns x m=x∧mark2 ns x m=x)∨yeses x<yeses (markTo ns x n)
 | 0,_=>Or.inl ⟨rfl,fun m hm=>by omega⟩
 | n+1,hn=>by
  simp only [markTo]
  rcases markTo_or hc hl n (by omega) with ⟨h1,h2⟩ | h1
  ·rw [h1]
   rcases mark_or hc hl (n:=n) (by omega) with ⟨h3,h4⟩ | h3
   ·left
    refine ⟨h3,fun m hm=>?_⟩
    by_cases e:m=n
    ·subst e;exact h4
    ·exact h2 m (by omega)
   ·exact Or.inr h3
  ·right
   rcases mark_or hc (x:=markTo ns x n) (by rw [markTo_len];exact hl) (n:=n) (by omega) with ⟨h3,_⟩ | h3
   ·rw [h3];exact h1
   ·omega
def skp (m:Int):Nd:=⟨0,0,0,0,m,0⟩
def many (ns:List Nd) (m:Int):Prop:=1<(ahl ns m.toNat).length
theorem nd_set {l:List Nd} {n:Nat} (x:Nd) (h:n<l.length) (j:Nat):nd (l.set n x) j=if j=n then x else nd l j:=by
 simp only [nd,List.getD_eq_getElem?_getD,List.getElem?_set]
 by_cases e:n=j
 ·subst e;simp [h]
 ·simp [e,Ne.symm e]
theorem nd_app_left {l m:List Nd} {j:Nat} (h:j<l.length):nd (l++m) j=nd l j:=by
 simp only [nd,List.getD_eq_getElem?_getD];rw [List.getElem?_append_left h]
theorem nd_app_last (l:List Nd) (x:Nd):nd (l++[x]) l.length=x:=by simp [nd]
structure SI (ns out:List Nd) (P:Nat→Int→Prop):Prop where
 len:ns.length≤out.length
 same:∀ n,n<ns.length→(nd out n).op=(nd ns n).op∧(nd out n).d=(nd ns n).d∧(nd out n).a=(nd ns n).a∧(nd out n).b=(nd ns n).b
 t0:∀ n,n<ns.length→(¬ P n (nd ns n).t∨¬ many ns (nd ns n).t)→(nd out n).t=(nd ns n).t
 t1:∀ n,n<ns.length→P n (nd ns n).t→many ns (nd ns n).t→∃ i:Nat,ns.length≤i∧i<out.length∧(nd out n).t=i∧nd out i=skp (nd ns n).t
 e0:∀ n,n<ns.length→(¬ P n (nd ns n).e∨¬ many ns (nd ns n).e)→(nd out n).e=(nd ns n).e
 e1:∀ n,n<ns.length→P n (nd ns n).e→many ns (nd ns n).e→∃ i:Nat,ns.length≤i∧i<out.length∧(nd out n).e=i∧nd out i=skp (nd ns n).e
 new:∀ i,ns.length≤i→i<out.length→∃ n m,n<ns.length∧P n m∧many ns m∧nd out i=skp m
 uniq:∀ i n1 n2:Nat,ns.length≤i→n1<ns.length→n2<ns.length→((nd out n1).t=i∨(nd out n1).e=i)→((nd out n2).t=i∨(nd out n2).e=i)→n1=n2
theorem full_bounds {r:Int} {len:Nat} {x:Nd} (h:Full r len x) (hl:1≤len):0≤x.t∧x.t<len∧0≤x.e∧x.e<len:=by
 have:=h.t;have:=h.t0;have:=h.e;have:=h.e0
 by_cases h12:x.op=12 <;> by_cases h11:x.op=11 <;> simp_all <;> omega
theorem SI.start {r:Int} {ns:List Nd} (hc:chk r ns=0):SI ns ns (fun _ _=>False):=by
 refine ⟨Nat.le_refl _,fun n _=>⟨rfl,rfl,rfl,rfl⟩,fun n _ _=>rfl,fun n _ h=>h.elim,fun n _ _=>rfl,fun n _ h=>h.elim,fun i h1 h2=>by omega,fun i n1 n2 hi h1 h2 q1 _=>?_⟩
 have:=full_bounds (chk_at hc h1) (chk_full hc).1.1
 omega
theorem SI.weak {ns out:List Nd} {P:Nat→Int→Prop} (h:SI ns out P) {n:Nat} {m:Int} (hm:¬ many ns m):SI ns out (fun i j=>P i j∨(i=n∧j=m)):=by
 refine ⟨h.len,h.same,fun j hj hp=>h.t0 j hj ?_,fun j hj hp hmn=>h.t1 j hj ?_ hmn,fun j hj hp=>h.e0 j hj ?_,fun j hj hp hmn=>h.e1 j hj ?_ hmn,fun i h1 h2=>?_,h.uniq⟩
 ·rcases hp with hp | hp
  ·exact Or.inl fun q=>hp (Or.inl q)
  ·exact Or.inr hp
 ·rcases hp with hp | ⟨_,e⟩
  ·exact hp
  ·rw [e] at hmn;exact absurd hmn hm
 ·rcases hp with hp | hp
  ·exact Or.inl fun q=>hp (Or.inl q)
  ·exact Or.inr hp
 ·rcases hp with hp | ⟨_,e⟩
  ·exact hp
  ·rw [e] at hmn;exact absurd hmn hm
 ·obtain ⟨a,b,c,d,e⟩:=h.new i h1 h2;exact ⟨a,b,c,Or.inl d,e⟩
theorem SI.grow {r:Int} {ns out:List Nd} {P:Nat→Int→Prop} (hc:chk r ns=0) (h:SI ns out P) {n:Nat} {m:Int} (hn:n<ns.length) (hm:many ns m) (hp:¬ P n m) (hb:1≤m∧m<ns.length) :
 SI ns (out.set n (trn (nd out n) m out.length)++[skp m]) (fun i j=>P i j∨(i=n∧j=m)):=by
 have hlen:=h.len
 have hno:n<out.length:=by omega
 have at0:∀ j,j<out.length→nd (out.set n (trn (nd out n) m out.length)++[skp m]) j=if j=n then trn (nd out n) m out.length else nd out j:=fun j hj=>by
  rw [nd_app_left (by simpa using hj),nd_set _ hno]
 have atn:∀ j,j<ns.length→j≠n→nd (out.set n (trn (nd out n) m out.length)++[skp m]) j=nd out j:=fun j hj e=>by rw [at0 j (by omega),if_neg e]
 have ato:∀ j,ns.length≤j→j<out.length→nd (out.set n (trn (nd out n) m out.length)++[skp m]) j=nd out j:=fun j h1 h2=>by rw [at0 j h2,if_neg (by omega)]
 have atl:nd (out.set n (trn (nd out n) m out.length)++[skp m]) out.length=skp m:=by
  have:=nd_app_last (out.set n (trn (nd out n) m out.length)) (skp m)
  rwa [List.length_set] at this
 have atN:nd (out.set n (trn (nd out n) m out.length)++[skp m]) n=trn (nd out n) m out.length:=by rw [at0 n hno,if_pos rfl]
 have hfb:=full_bounds (chk_at hc hn) (chk_full hc).1.1
 have hlen' :(out.set n (trn (nd out n) m out.length)++[skp m]).length=out.length+1:=by simp
 have atT:(trn (nd out n) m out.length).t=if (nd out n).t=m then (out.length:Int) else (nd out n).t:=rfl
 have atE:(trn (nd out n) m out.length).e=if (nd out n).e=m then (out.length:Int) else (nd out n).e:=rfl
 have atR:(trn (nd out n) m out.length).op=(nd out n).op∧(trn (nd out n) m out.length).d=(nd out n).d∧(trn (nd out n) m out.length).a=(nd out n).a∧(trn (nd out n) m out.length).b=(nd out n).b:=⟨rfl,rfl,rfl,rfl⟩
 clear at0
 generalize trn (nd out n) m out.length=X at *
 generalize out.set n X++[skp m]=new at *
 have ht:(nd ns n).t=m∧(nd out n).t=m∨(nd ns n).t≠m∧(nd out n).t≠m:=by
  by_cases e:(nd ns n).t=m
  ·left;exact ⟨e,by rw [h.t0 n hn (Or.inl (by rw [e];exact hp)),e]⟩
  ·right
   refine ⟨e,fun q=>?_⟩
   by_cases hP:P n (nd ns n).t∧many ns (nd ns n).t
   ·obtain ⟨i,i1,i2,i3,_⟩:=h.t1 n hn hP.1 hP.2;omega
   ·have:=h.t0 n hn (by by_cases a:P n (nd ns n).t
                        ·right;exact fun b=>hP ⟨a,b⟩
                        ·left;exact a)
    rw [this] at q;exact e q
 have hee:(nd ns n).e=m∧(nd out n).e=m∨(nd ns n).e≠m∧(nd out n).e≠m:=by
  by_cases e:(nd ns n).e=m
  ·left;exact ⟨e,by rw [h.e0 n hn (Or.inl (by rw [e];exact hp)),e]⟩
  ·right
   refine ⟨e,fun q=>?_⟩
   by_cases hP:P n (nd ns n).e∧many ns (nd ns n).e
   ·obtain ⟨i,i1,i2,i3,_⟩:=h.e1 n hn hP.1 hP.2;omega
   ·have:=h.e0 n hn (by by_cases a:P n (nd ns n).e
                        ·right;exact fun b=>hP ⟨a,b⟩
                        ·left;exact a)
    rw [this] at q;exact e q
 have hlt:∀ j,j<ns.length→(nd out j).t<out.length∧(nd out j).e<out.length:=by
  intro j hj
  have hfj:=full_bounds (chk_at hc hj) (chk_full hc).1.1
  constructor
  ·by_cases hP:P j (nd ns j).t∧many ns (nd ns j).t
   ·obtain ⟨i,i1,i2,i3,_⟩:=h.t1 j hj hP.1 hP.2;omega
   ·have:=h.t0 j hj (by by_cases a:P j (nd ns j).t
                        ·right;exact fun b=>hP ⟨a,b⟩
                        ·left;exact a)
    omega
  ·by_cases hP:P j (nd ns j).e∧many ns (nd ns j).e
   ·obtain ⟨i,i1,i2,i3,_⟩:=h.e1 j hj hP.1 hP.2;omega
   ·have:=h.e0 j hj (by by_cases a:P j (nd ns j).e
                        ·right;exact fun b=>hP ⟨a,b⟩
                        ·left;exact a)
    omega
 refine ⟨by omega,fun j hj=>?_,fun j hj hq=>?_,fun j hj hq hmn=>?_,fun j hj hq=>?_,fun j hj hq hmn=>?_,fun i h1 h2=>?_,fun i n1 n2 hi h1 h2 q1 q2=>?_⟩
 ·by_cases e:j=n
  ·subst e;rw [atN,atR.1,atR.2.1,atR.2.2.1,atR.2.2.2];exact h.same j hj
  ·rw [atn j hj e];exact h.same j hj
 ·by_cases e:j=n
  ·subst e
   rw [atN]
   rw [atT]
   rcases ht with ⟨a,b⟩ | ⟨a,b⟩
   ·exfalso
    rcases hq with hq | hq
    ·exact hq (Or.inr ⟨rfl,a⟩)
    ·rw [a] at hq;exact hq hm
   ·rw [if_neg b]
    refine h.t0 j hj ?_
    rcases hq with hq | hq
    ·exact Or.inl fun z=>hq (Or.inl z)
    ·exact Or.inr hq
  ·rw [atn j hj e]
   refine h.t0 j hj ?_
   rcases hq with hq | hq
   ·exact Or.inl fun z=>hq (Or.inl z)
   ·exact Or.inr hq
 ·by_cases e:j=n
  ·subst e
   rw [atN]
   rw [atT]
   rcases ht with ⟨a,b⟩ | ⟨a,b⟩
   ·refine ⟨out.length,by omega,by omega,by rw [if_pos b],by rw [atl,a]⟩
   ·rcases hq with hq | ⟨_,hq⟩
    ·obtain ⟨i,i1,i2,i3,i4⟩:=h.t1 j hj hq hmn
     exact ⟨i,i1,by omega,by rw [if_neg b];exact i3,by rw [ato i i1 i2];exact i4⟩
    ·exact absurd hq a
  ·rw [atn j hj e]
   rcases hq with hq | ⟨hq,_⟩
   ·obtain ⟨i,i1,i2,i3,i4⟩:=h.t1 j hj hq hmn
    exact ⟨i,i1,by omega,i3,by rw [ato i i1 i2];exact i4⟩
   ·exact absurd hq e
 ·by_cases e:j=n
  ·subst e
   rw [atN]
   rw [atE]
   rcases hee with ⟨a,b⟩ | ⟨a,b⟩
   ·exfalso
    rcases hq with hq | hq
    ·exact hq (Or.inr ⟨rfl,a⟩)
    ·rw [a] at hq;exact hq hm
   ·rw [if_neg b]
    refine h.e0 j hj ?_
    rcases hq with hq | hq
    ·exact Or.inl fun z=>hq (Or.inl z)
    ·exact Or.inr hq
  ·rw [atn j hj e]
   refine h.e0 j hj ?_
   rcases hq with hq | hq
   ·exact Or.inl fun z=>hq (Or.inl z)
   ·exact Or.inr hq
 ·by_cases e:j=n
  ·subst e
   rw [atN]
   rw [atE]
   rcases hee with ⟨a,b⟩ | ⟨a,b⟩
   ·refine ⟨out.length,by omega,by omega,by rw [if_pos b],by rw [atl,a]⟩
   ·rcases hq with hq | ⟨_,hq⟩
    ·obtain ⟨i,i1,i2,i3,i4⟩:=h.e1 j hj hq hmn
     exact ⟨i,i1,by omega,by rw [if_neg b];exact i3,by rw [ato i i1 i2];exact i4⟩
    ·exact absurd hq a
  ·rw [atn j hj e]
   rcases hq with hq | ⟨hq,_⟩
   ·obtain ⟨i,i1,i2,i3,i4⟩:=h.e1 j hj hq hmn
    exact ⟨i,i1,by omega,i3,by rw [ato i i1 i2];exact i4⟩
   ·exact absurd hq e
 ·by_cases e:i=out.length
  ·subst e;exact ⟨n,m,hn,Or.inr ⟨rfl,rfl⟩,hm,atl⟩
  ·have h2' :i<out.length:=by omega
   obtain ⟨a,b,c,d,f,g⟩:=h.new i h1 h2'
   exact ⟨a,b,c,Or.inl d,f,by rw [ato i h1 h2'];exact g⟩
 ·
  have key:∀ j,j<ns.length→((nd new j).t=i∨(nd new j).e=i)→(i=out.length∧j=n)∨(i<out.length∧((nd out j).t=i∨(nd out j).e=i)):=by
   intro j hj hq
   have hb' :=hlt j hj
   by_cases e:j=n
   ·subst e
    rw [atN,atT,atE] at hq
    rcases hq with hq | hq
    ·split at hq
     ·left;exact ⟨by omega,rfl⟩
     ·right;exact ⟨by omega,Or.inl hq⟩
    ·split at hq
     ·left;exact ⟨by omega,rfl⟩
     ·right;exact ⟨by omega,Or.inr hq⟩
   ·rw [atn j hj e] at hq
    right
    rcases hq with hq | hq
    ·exact ⟨by omega,Or.inl hq⟩
    ·exact ⟨by omega,Or.inr hq⟩
  rcases key n1 h1 q1 with ⟨a,b⟩ | ⟨a,b⟩ <;> rcases key n2 h2 q2 with ⟨c,d⟩ | ⟨c,d⟩
  ·rw [b,d]
  ·omega
  ·omega
  ·exact h.uniq i n1 n2 hi h1 h2 b d
theorem SI.one {r:Int} {ns out:List Nd} {P:Nat→Int→Prop} (hc:chk r ns=0) (h:SI ns out P) {n:Nat} {m:Int} (hn:n<ns.length) (hp:¬ P n m) (hb:1≤m∧m<ns.length):SI ns (spl1 ns n out m) (fun i j=>P i j∨(i=n∧j=m)):=by
 unfold spl1
 split
 ·rename_i hm;exact h.grow hc hn hm hp hb
 ·rename_i hm;exact h.weak hm
def PTo (ns:List Nd) (k:Nat) (i:Nat) (m:Int):Prop:=i<k∧(nd ns i).op≠0∧m∈exo (nd ns i)
theorem SI.congr {ns out:List Nd} {P Q:Nat→Int→Prop} (h:SI ns out P) (e:∀ i m,P i m↔Q i m):SI ns out Q:=by
 have:P=Q:=by funext i m;exact propext (e i m)
 rw [← this];exact h
theorem exo_bounds {r:Int} {len:Nat} {x:Nd} (h:Full r len x) {m:Int} (hm:m∈exo x):1≤m∧m<len:=by
 unfold exo at hm
 split at hm
 ·rename_i h11
  have a:=h.t (by omega)
  have b:=h.e h11
  split at hm
  ·simp at hm;omega
  ·simp at hm;omega
 ·split at hm
  ·rename_i h11 hw
   have:=wi_iff.1 hw
   have a:=h.t (by omega)
   simp at hm;omega
  ·simp at hm
theorem split_SI {r:Int} {ns:List Nd} (hc:chk r ns=0):∀ k,k≤ns.length→SI ns (splTo ns k) (PTo ns k)
 | 0,_=>(SI.start hc).congr fun i m=>by simp [PTo]
 | k+1,hk=>by
  have ih:=split_SI hc k (by omega)
  have hF:=chk_at hc (show k<ns.length by omega)
  rw [splTo_succ]
  unfold spl2
  have hpk:∀ m,¬ PTo ns k k m:=fun m h=>by have:=h.1;omega
  split
  ·rename_i h0
   refine ih.congr fun i m=>⟨fun h=>⟨by have:=h.1;omega,h.2⟩,fun h=>⟨?_,h.2⟩⟩
   have h1:=h.1
   have h2:i≠k:=fun e=>by subst e;exact h.2.1 h0
   omega
  ·rename_i h0
   have hx:∀ m,m∈exo (nd ns k)→1≤m∧m<ns.length:=fun m hm=>exo_bounds hF hm
   have hin:∀ i m,PTo ns (k+1) i m↔PTo ns k i m∨(i=k∧m∈exo (nd ns k)):=by
    intro i m
    constructor
    ·intro h
     by_cases e:i=k
     ·subst e;exact Or.inr ⟨rfl,h.2.2⟩
     ·exact Or.inl ⟨by have:=h.1;omega,h.2⟩
    ·rintro (h | ⟨rfl,h⟩)
     ·exact ⟨by have:=h.1;omega,h.2⟩
     ·exact ⟨by omega,h0,h⟩
   generalize hex:exo (nd ns k)=ex at hx hin ⊢
   have hcase:ex=[]∨(∃ a,ex=[a])∨∃ a b,ex=[a,b]∧a≠b:=by
    rw [← hex];unfold exo
    split
    ·split
     ·exact Or.inr (Or.inl ⟨_,rfl⟩)
     ·rename_i q;exact Or.inr (Or.inr ⟨_,_,rfl,fun e=>q e.symm⟩)
    ·split
     ·exact Or.inr (Or.inl ⟨_,rfl⟩)
     ·exact Or.inl rfl
   rcases hcase with rfl | ⟨a,rfl⟩ | ⟨a,b,rfl,hab⟩
   ·exact ih.congr fun i m=>by rw [hin];simp
   ·have h1:=ih.one hc (n:=k) (m:=a) (by omega) (hpk a) (hx a (by simp))
    exact h1.congr fun i m=>by rw [hin];simp
   ·have h1:=ih.one hc (n:=k) (m:=a) (by omega) (hpk a) (hx a (by simp))
    have h2:=h1.one hc (n:=k) (m:=b) (by omega) (by rintro (h | ⟨_,h⟩)
                                                    ·exact hpk b h
                                                    ·exact hab h.symm) (hx b (by simp))
    refine h2.congr fun i m=>?_
    rw [hin]
    simp only [List.mem_cons,List.not_mem_nil,or_false]
    constructor
    ·rintro ((h | ⟨a1,a2⟩) | ⟨a1,a2⟩)
     ·exact Or.inl h
     ·exact Or.inr ⟨a1,Or.inl a2⟩
     ·exact Or.inr ⟨a1,Or.inr a2⟩
    ·rintro (h | ⟨a1,a2 | a2⟩)
     ·exact Or.inl (Or.inl h)
     ·exact Or.inl (Or.inr ⟨a1,a2⟩)
     ·exact Or.inr ⟨a1,a2⟩
structure Like (s u:St):Prop where
 regs:u.regs=s.regs
 inp:u.inp=s.inp
 out:u.out=s.out
 ret:u.ret=s.ret
 ended:u.ended=s.ended
 cts:u.cts=s.cts
theorem Like.refl (s:St):Like s s:=⟨rfl,rfl,rfl,rfl,rfl,rfl⟩
theorem stp_two {x y:Nd} {s u:St} (ho:y.op=x.op) (hd:y.d=x.d) (ha:y.a=x.a) (hb:y.b=x.b) (h:Like s u) :
 Like (stp x s) (stp y u)∧((stp x s).pc=x.t.toNat∧(stp y u).pc=y.t.toNat∨x.op=11∧(stp x s).pc=x.e.toNat∧(stp y u).pc=y.e.toNat):=by
 obtain ⟨h1,h2,h3,h4,h5,h6⟩:=h
 have htm:tmOf y=tmOf x:=by simp [tmOf,ho,ha,hb]
 unfold stp
 rw [ho,hd,ha,hb,htm,h1,h2,h3,h4,h5,h6]
 split
 ·exact ⟨⟨rfl,rfl,rfl,rfl,rfl,rfl⟩,Or.inl ⟨rfl,rfl⟩⟩
 split
 ·exact ⟨⟨rfl,rfl,rfl,rfl,rfl,rfl⟩,Or.inl ⟨rfl,rfl⟩⟩
 split
 ·exact ⟨⟨rfl,rfl,rfl,rfl,rfl,rfl⟩,Or.inl ⟨rfl,rfl⟩⟩
 split
 ·exact ⟨⟨rfl,rfl,rfl,rfl,rfl,rfl⟩,Or.inl ⟨rfl,rfl⟩⟩
 split
 ·exact ⟨⟨rfl,rfl,rfl,rfl,rfl,rfl⟩,Or.inl ⟨rfl,rfl⟩⟩
 split
 ·rename_i h11
  refine ⟨⟨rfl,rfl,rfl,rfl,rfl,rfl⟩,?_⟩
  by_cases hg:getR s.regs x.a=0
  ·right;simp only [hg,if_true];exact ⟨h11,trivial,trivial⟩
  ·left;simp only [hg,if_false];exact ⟨trivial,trivial⟩
 split
 ·exact ⟨⟨rfl,rfl,rfl,rfl,rfl,rfl⟩,Or.inl ⟨rfl,rfl⟩⟩
 ·exact ⟨⟨rfl,rfl,rfl,rfl,rfl,rfl⟩,Or.inl ⟨rfl,rfl⟩⟩
def spF (ns ms:List Nd) (n:Nat):Nat:=if n<ns.length then n else (nd ms n).t.toNat
structure SpR (ns ms:List Nd) (s u:St):Prop where
 like:Like s u
 pc:s.pc=spF ns ms u.pc
 lt:s.pc<ns.length
 mlt:u.pc<ms.length
theorem SI.then {r:Int} {ns:List Nd} (hc:chk r ns=0) {ms:List Nd} {P:Nat→Int→Prop} (h:SI ns ms P) {n:Nat} (hn:n<ns.length) :
 (nd ms n).t.toNat<ms.length∧spF ns ms (nd ms n).t.toNat=(nd ns n).t.toNat∧(nd ns n).t.toNat<ns.length:=by
 have hb:=full_bounds (chk_at hc hn) (chk_full hc).1.1
 have hl:=h.len
 by_cases hP:P n (nd ns n).t∧many ns (nd ns n).t
 ·obtain ⟨i,i1,i2,i3,i4⟩:=h.t1 n hn hP.1 hP.2
  rw [i3]
  refine ⟨by omega,?_,by omega⟩
  simp only [spF,Int.toNat_natCast]
  rw [if_neg (by omega),i4];rfl
 ·have e:=h.t0 n hn (by by_cases a:P n (nd ns n).t
                        ·right;exact fun b=>hP ⟨a,b⟩
                        ·left;exact a)
  rw [e]
  refine ⟨by omega,?_,by omega⟩
  simp only [spF]
  rw [if_pos (by omega)]
theorem SI.else {r:Int} {ns:List Nd} (hc:chk r ns=0) {ms:List Nd} {P:Nat→Int→Prop} (h:SI ns ms P) {n:Nat} (hn:n<ns.length) :
 (nd ms n).e.toNat<ms.length∧spF ns ms (nd ms n).e.toNat=(nd ns n).e.toNat∧(nd ns n).e.toNat<ns.length:=by
 have hb:=full_bounds (chk_at hc hn) (chk_full hc).1.1
 have hl:=h.len
 by_cases hP:P n (nd ns n).e∧many ns (nd ns n).e
 ·obtain ⟨i,i1,i2,i3,i4⟩:=h.e1 n hn hP.1 hP.2
  rw [i3]
  refine ⟨by omega,?_,by omega⟩
  simp only [spF,Int.toNat_natCast]
  rw [if_neg (by omega),i4];rfl
 ·have e:=h.e0 n hn (by by_cases a:P n (nd ns n).e
                        ·right;exact fun b=>hP ⟨a,b⟩
                        ·left;exact a)
  rw [e]
  refine ⟨by omega,?_,by omega⟩
  simp only [spF]
  rw [if_pos (by omega)]
theorem split_new {r:Int} {ns:List Nd} (hc:chk r ns=0) {i:Nat} (h1:ns.length≤i) (h2:i<(splitN ns).length) :
 ∃ m:Int,nd (splitN ns) i=skp m∧1≤m∧m<ns.length∧many ns m:=by
 obtain ⟨n,m,hn,hp,hm,e⟩:=(split_SI hc ns.length (Nat.le_refl _)).new i h1 h2
 have:=exo_bounds (chk_at hc hn) hp.2.2
 exact ⟨m,e,this.1,this.2,hm⟩
theorem split_sim {r:Int} {ns:List Nd} (hc:chk r ns=0) :
 Sim ns (splitN ns) (spF ns (splitN ns)) (fun n=>decide (ns.length≤n)) (fun n=>if ns.length≤n then 1 else 0) 1 (SpR ns (splitN ns)):=by
 have H:=split_SI hc ns.length (Nat.le_refl _)
 change SI ns (splitN ns) _ at H
 refine ⟨fun s u h=>⟨h.pc,h.lt,h.mlt⟩,fun s u h=>⟨h.like.out,h.like.ended,h.like.ret⟩,?_,?_,fun n=>by split <;> omega⟩
 ·intro s u h he hs
  have h1:ns.length≤u.pc:=by simpa using hs
  obtain ⟨m,e,m1,m2,_⟩:=split_new hc h1 h.mlt
  have heu:u.ended=false:=by rw [h.like.ended];exact he
  have hr:run1 (splitN ns) u={ u with pc:=m.toNat,steps:=u.steps+1 }:=by
   rw [run1_at heu (get_nd h.mlt),e];rfl
  have hpc:=h.pc
  rw [spF,if_neg (by omega),e] at hpc
  have hpc' :s.pc=m.toNat:=hpc
  rw [hr]
  refine ⟨⟨⟨h.like.regs,h.like.inp,h.like.out,h.like.ret,h.like.ended,h.like.cts⟩,?_,h.lt,?_⟩,?_⟩
  ·show s.pc=spF ns (splitN ns) m.toNat
   rw [spF,if_pos (by omega)];exact hpc'
  ·show m.toNat<_
   have:=H.len;omega
  ·show (if ns.length≤m.toNat then 1 else 0)<(if ns.length≤u.pc then 1 else 0)
   rw [if_neg (by omega),if_pos h1];omega
 ·intro s u h he hs
  have h1:u.pc<ns.length:=by simpa using hs
  have heu:u.ended=false:=by rw [h.like.ended];exact he
  have hpc:s.pc=u.pc:=by rw [h.pc,spF,if_pos h1]
  rw [run1_at heu (get_nd h.mlt),run1_at he (get_nd h.lt),hpc]
  obtain ⟨o1,o2,o3,o4⟩:=H.same u.pc h1
  obtain ⟨a,b⟩:=stp_two o1 o2 o3 o4 h.like
  rcases b with ⟨b1,b2⟩ | ⟨_,b1,b2⟩
  ·obtain ⟨c1,c2,c3⟩:=H.then hc h1
   exact ⟨a,by rw [b1,b2,c2],by rw [b1];exact c3,by rw [b2];exact c1⟩
  ·obtain ⟨c1,c2,c3⟩:=H.else hc h1
   exact ⟨a,by rw [b1,b2,c2],by rw [b1];exact c3,by rw [b2];exact c1⟩
theorem split_begin {r:Int} {ns:List Nd} (hc:chk r ns=0) (k:Nat) (inp:List Int):SpR ns (splitN ns) (st0 k inp) (st0 k inp):=by
 have h:=(chk_full hc).1
 have H:=(split_SI hc ns.length (Nat.le_refl _)).len
 refine ⟨Like.refl _,?_,?_,?_⟩
 ·show 0=spF ns (splitN ns) 0
  rw [spF,if_pos (by omega)]
 ·show 0<_;omega
 ·show 0<(splTo ns ns.length).length;omega
theorem split_chk {r:Int} {ns:List Nd} (hc:chk r ns=0) (hl:(splitN ns).length≤256):chk r (splitN ns)=0:=by
 have H:=split_SI hc ns.length (Nat.le_refl _)
 change SI ns (splitN ns) _ at H
 have h:=chk_full hc
 have hlen:=H.len
 refine chk_mk ⟨by omega,hl⟩ h.2.1 fun y hy=>?_
 obtain ⟨n,hn⟩:=List.getElem?_of_mem hy
 have hlt:=(List.getElem?_eq_some_iff.1 hn).1
 have hy:y=nd (splitN ns) n:=(nd_get hn).symm
 subst hy
 by_cases h1:n<ns.length
 ·have hF:=chk_at hc h1
  obtain ⟨o1,o2,o3,o4⟩:=H.same n h1
  have ht:(nd (splitN ns) n).t=(nd ns n).t∨(nd ns n).op≠12∧ns.length≤(nd (splitN ns) n).t∧(nd (splitN ns) n).t<(splitN ns).length:=by
   by_cases hP:PTo ns ns.length n (nd ns n).t∧many ns (nd ns n).t
   ·right
    obtain ⟨i,i1,i2,i3,_⟩:=H.t1 n h1 hP.1 hP.2
    refine ⟨fun e=>?_,by omega,by omega⟩
    have:=hP.1.2.2
    simp [exo,e,wi] at this
   ·left
    exact H.t0 n h1 (by by_cases a:PTo ns ns.length n (nd ns n).t
                        ·right;exact fun b=>hP ⟨a,b⟩
                        ·left;exact a)
  have hee:(nd (splitN ns) n).e=(nd ns n).e∨(nd ns n).op=11∧ns.length≤(nd (splitN ns) n).e∧(nd (splitN ns) n).e<(splitN ns).length:=by
   by_cases hP:PTo ns ns.length n (nd ns n).e∧many ns (nd ns n).e
   ·obtain ⟨i,i1,i2,i3,_⟩:=H.e1 n h1 hP.1 hP.2
    right
    refine ⟨?_,by omega,by omega⟩
    by_cases e11:(nd ns n).op=11
    ·exact e11
    ·exfalso
     have hx:=hP.1.2.2
     have e0:=hF.e0 e11
     have:=exo_bounds hF hx
     omega
   ·left
    exact H.e0 n h1 (by by_cases a:PTo ns ns.length n (nd ns n).e
                        ·right;exact fun b=>hP ⟨a,b⟩
                        ·left;exact a)
  refine ⟨by rw [o1];exact hF.op,by rw [o1,o2];exact hF.d,by rw [o1,o2];exact hF.d0,by rw [o1,o3];exact hF.a,by rw [o1,o3];exact hF.a0,by rw [o1,o4];exact hF.b,by rw [o1,o4];exact hF.b0,?_,?_,?_,?_⟩
  ·rw [o1];intro q
   have:=hF.t q
   rcases ht with ht | ht
   ·rw [ht];omega
   ·omega
  ·rw [o1];intro q
   have:=hF.t0 q
   rcases ht with ht | ht
   ·rw [ht];exact this
   ·exact absurd q ht.1
  ·rw [o1];intro q
   have:=hF.e q
   rcases hee with ht | ht
   ·rw [ht];omega
   ·omega
  ·rw [o1];intro q
   have:=hF.e0 q
   rcases hee with ht | ht
   ·rw [ht];exact this
   ·exact absurd ht.1 q
 ·obtain ⟨m,e,m1,m2,_⟩:=split_new hc (by omega) hlt
  rw [e]
  refine ⟨by simp [skp],by simp [skp],by simp [skp],by simp [skp],by simp [skp],by simp [skp],by simp [skp],?_,by simp [skp],by simp [skp],by simp [skp]⟩
  intro _
  show 1≤m∧m<_
  omega
theorem exo_mem {x:Nd} {m:Int} (h:m∈exo x):x.op≠12∧m=x.t∨x.op=11∧m=x.e:=by
 unfold exo at h
 split at h
 ·rename_i h11
  split at h
  ·simp at h;left;exact ⟨by omega,h⟩
  ·simp at h
   rcases h with h | h
   ·left;exact ⟨by omega,h⟩
   ·right;exact ⟨h11,h⟩
 ·split at h
  ·rename_i h11 hw
   have:=wi_iff.1 hw
   simp at h;left;exact ⟨by omega,h⟩
  ·simp at h
theorem in_exo {x:Nd} {m:Int} (hop:0≤x.op∧x.op≤12) (h:x.op≠12∧m=x.t∨x.op=11∧m=x.e):m∈exo x:=by
 unfold exo
 split
 ·split
  ·rename_i e
   rcases h with ⟨_,h⟩ | ⟨_,h⟩
   ·simp [h]
   ·simp [h,e]
  ·rcases h with ⟨_,h⟩ | ⟨_,h⟩ <;> simp [h]
 ·rename_i h11
  rcases h with ⟨h12,h⟩ | ⟨h', _⟩
  ·rw [if_pos (wi_iff.2 (by omega))];simp [h]
  ·exact absurd h' h11
theorem ahB_iff {ns:List Nd} {m n:Nat}:ahB ns m n=true↔n<ns.length∧((nd ns n).op≠12∧(nd ns n).t=m∨(nd ns n).op=11∧(nd ns n).e=m):=by
 constructor
 ·intro h
  have hn:=ahB_lt h
  refine ⟨hn,?_⟩
  rw [ahB_at (get_nd hn)] at h
  simpa [ldB] using h
 ·rintro ⟨hn,h⟩
  rw [ahB_at (get_nd hn)]
  simpa [ldB] using h
theorem split_none {r:Int} {ns:List Nd} (hc:chk r ns=0) (hl:(splitN ns).length≤256) {n:Nat} (hn:n<(splitN ns).length) (h0:(nd (splitN ns) n).op≠0) {m:Int} (hm:m∈exo (nd (splitN ns) n)):¬ 1<(ahl (splitN ns) m.toNat).length:=by
 have H:=split_SI hc ns.length (Nat.le_refl _)
 change SI ns (splitN ns) _ at H
 have hcs:=split_chk hc hl
 have hlen:=H.len
 have hmb:=exo_bounds (chk_at hcs hn) hm
 have hn1:n<ns.length:=by
  by_cases h1:n<ns.length
  ·exact h1
  ·obtain ⟨m', e,_⟩:=split_new hc (by omega) hn
   exact absurd (by rw [e];rfl) h0
 have oF:=chk_at hc hn1
 obtain ⟨o1,o2,o3,o4⟩:=H.same n hn1
 have two:∀ a b,ahB (splitN ns) m.toNat a=true→ahB (splitN ns) m.toNat b=true→a=b:=by
  by_cases hnew:(ns.length:Int)≤m
  ·have old:∀ a,ahB (splitN ns) m.toNat a=true→a<ns.length∧((nd (splitN ns) a).t=m.toNat∨(nd (splitN ns) a).e=m.toNat):=by
    intro a ha
    obtain ⟨a1,a2⟩:=ahB_iff.1 ha
    have:a<ns.length:=by
     by_cases h1:a<ns.length
     ·exact h1
     ·obtain ⟨m', e,m1,m2,_⟩:=split_new hc (by omega) a1
      rw [e] at a2
      simp only [skp] at a2
      omega
    refine ⟨this,?_⟩
    rcases a2 with a2 | a2
    ·exact Or.inl a2.2
    ·exact Or.inr a2.2
   intro a b ha hb
   obtain ⟨a1,a2⟩:=old a ha
   obtain ⟨b1,b2⟩:=old b hb
   exact H.uniq m.toNat a b (by omega) a1 b1 a2 b2
  ·
   have hmo:m∈exo (nd ns n)∧¬ many ns m:=by
    rcases exo_mem hm with ⟨q,e⟩ | ⟨q,e⟩
    ·rw [o1] at q
     by_cases hP:PTo ns ns.length n (nd ns n).t∧many ns (nd ns n).t
     ·obtain ⟨i,i1,i2,i3,_⟩:=H.t1 n hn1 hP.1 hP.2;omega
     ·have e0:=H.t0 n hn1 (by by_cases a:PTo ns ns.length n (nd ns n).t
                              ·right;exact fun b=>hP ⟨a,b⟩
                              ·left;exact a)
      have hx:m∈exo (nd ns n):=in_exo oF.op (Or.inl ⟨q,by rw [e,e0]⟩)
      have e2:m=(nd ns n).t:=by rw [e,e0]
      refine ⟨hx,fun hmany=>hP ⟨⟨hn1,by rw [← o1];exact h0,by rw [← e2];exact hx⟩,by rw [← e2];exact hmany⟩⟩
    ·rw [o1] at q
     by_cases hP:PTo ns ns.length n (nd ns n).e∧many ns (nd ns n).e
     ·obtain ⟨i,i1,i2,i3,_⟩:=H.e1 n hn1 hP.1 hP.2;omega
     ·have e0:=H.e0 n hn1 (by by_cases a:PTo ns ns.length n (nd ns n).e
                              ·right;exact fun b=>hP ⟨a,b⟩
                              ·left;exact a)
      have hx:m∈exo (nd ns n):=in_exo oF.op (Or.inr ⟨q,by rw [e,e0]⟩)
      have e2:m=(nd ns n).e:=by rw [e,e0]
      refine ⟨hx,fun hmany=>hP ⟨⟨hn1,by rw [← o1];exact h0,by rw [← e2];exact hx⟩,by rw [← e2];exact hmany⟩⟩
   have old:∀ a,ahB (splitN ns) m.toNat a=true→a∈ahl ns m.toNat:=by
    intro a ha
    obtain ⟨a1,a2⟩:=ahB_iff.1 ha
    by_cases h1:a<ns.length
    ·obtain ⟨p1,p2,p3,p4⟩:=H.same a h1
     refine List.mem_filter.2 ⟨List.mem_range.2 h1,?_⟩
     rw [p1] at a2
     refine ahB_iff.2 ⟨h1,?_⟩
     rcases a2 with ⟨q,e⟩ | ⟨q,e⟩
     ·left;refine ⟨q,?_⟩
      by_cases hP:PTo ns ns.length a (nd ns a).t∧many ns (nd ns a).t
      ·obtain ⟨i,i1,i2,i3,_⟩:=H.t1 a h1 hP.1 hP.2;omega
      ·rw [← H.t0 a h1 (by by_cases a' :PTo ns ns.length a (nd ns a).t
                           ·right;exact fun b=>hP ⟨a', b⟩
                           ·left;exact a')];exact e
     ·right;refine ⟨q,?_⟩
      by_cases hP:PTo ns ns.length a (nd ns a).e∧many ns (nd ns a).e
      ·obtain ⟨i,i1,i2,i3,_⟩:=H.e1 a h1 hP.1 hP.2;omega
      ·rw [← H.e0 a h1 (by by_cases a' :PTo ns ns.length a (nd ns a).e
                           ·right;exact fun b=>hP ⟨a', b⟩
                           ·left;exact a')];exact e
    ·exfalso
     obtain ⟨m', e,m1,m2,m3⟩:=split_new hc (by omega) a1
     rw [e] at a2
     simp only [skp] at a2
     have:m' =m:=by omega
     rw [this] at m3
     exact hmo.2 m3
   intro a b ha hb
   have ha:=old a ha
   have hb:=old b hb
   have hle:(ahl ns m.toNat).length≤1:=by have:=hmo.2;unfold many at this;omega
   match h:ahl ns m.toNat,hle with
   | [],_=>rw [h] at ha;cases ha
   | [c],_=>rw [h] at ha hb;simp at ha hb;rw [ha,hb]
   | c::d::l,hle=>simp at hle
 intro hlt
 have hnd:(ahl (splitN ns) m.toNat).Nodup:=List.Nodup.sublist List.filter_sublist List.nodup_range
 have hmem:∀ a∈ahl (splitN ns) m.toNat,ahB (splitN ns) m.toNat a=true:=fun a ha=>(List.mem_filter.1 ha).2
 match h:ahl (splitN ns) m.toNat,hlt with
 | [],hlt=>simp at hlt
 | [c],hlt=>simp at hlt
 | c::d::l,_ =>
  rw [h] at hnd hmem
  have:=two c d (hmem c (by simp)) (hmem d (by simp))
  rw [List.nodup_cons] at hnd
  exact hnd.1 (by rw [this];simp)
def cutC (c:UInt8):List UInt8→List (List UInt8)
 | []=>[[]]
 | b::l=>if b=c then []::cutC c l else match cutC c l with
  | []=>[[b]]
  | x::r=>(b::x)::r
theorem cutC_ne (c:UInt8):∀ l,cutC c l≠[]
 | []=>by simp [cutC]
 | b::l=>by
  unfold cutC
  split
  ·simp
  ·cases cutC c l <;> simp
theorem index_one (c:UInt8):∀ l:List UInt8,Lib.index l [c]=Lib.indexByte l c
 | []=>rfl
 | b::l=>by
  unfold Lib.index Lib.indexByte
  rw [index_one c l]
  by_cases h:b=c
  ·subst h;simp [List.isPrefixOf]
  ·have h' :¬ c=b:=fun e=>h e.symm
   simp [List.isPrefixOf,h,h']
theorem splitK_cut (c:UInt8):∀ l:List UInt8,Lib.splitK [c] 0 (Lib.count l [c]) l=cutC c l
 | []=>by
  rw [Lib.count_one]
  rfl
 | b::l=>by
  have ih:=splitK_cut c l
  unfold cutC
  by_cases h:b=c
  ·subst h
   rw [Lib.count_cons_eq,if_pos rfl,← ih,Nat.add_comm]
   have e:Lib.index (b::l) [b]=0:=by rw [index_one];simp [Lib.indexByte]
   generalize Lib.count l [b]=k
   show (if Lib.index (b::l) [b]== -1 then _ else _)=_
   rw [e]
   rfl
  ·rw [Lib.count_cons_ne b c l h,if_neg h,← ih]
   have hi:Lib.index (b::l) [c]=if Lib.index l [c]== -1 then -1 else Lib.index l [c]+1:=by
    rw [index_one,index_one]
    conv=>lhs;unfold Lib.indexByte
    rw [if_neg (by simpa using h)]
   have hge:=Lib.index_ge l [c]
   cases hk:Lib.count l [c] with
   | zero =>
    simp only [Lib.splitK]
   | succ k =>
    by_cases hm:Lib.index l [c]= -1
    ·rw [Lib.count_miss hm] at hk;cases hk
    ·unfold Lib.splitK
     rw [hi]
     have hf:(Lib.index l [c]== -1)=false:=by simpa using hm
     have hf2:(Lib.index l [c]+1== -1)=false:=by
      simp only [beq_eq_false_iff_ne];omega
     simp only [hf,hf2,Bool.false_eq_true,if_false]
     have e1:(Lib.index l [c]+1).toNat=(Lib.index l [c]).toNat+1:=by omega
     rw [e1]
     simp
theorem cut_word (c:UInt8):∀ (x rest:List UInt8),c∉x→cutC c (x++c::rest)=x::cutC c rest
 | [],rest,_=>by simp [cutC]
 | b::x,rest,h=>by
  have h1:b≠c:=fun e=>h (by simp [e])
  have h2:c∉x:=fun e=>h (by simp [e])
  rw [List.cons_append,cutC,if_neg h1,cut_word c x rest h2]
theorem cut_last (c:UInt8):∀ (x:List UInt8),c∉x→cutC c x=[x]
 | [],_=>rfl
 | b::x,h=>by
  have h1:b≠c:=fun e=>h (by simp [e])
  have h2:c∉x:=fun e=>h (by simp [e])
  rw [cutC,if_neg h1,cut_last c x h2]
theorem join_cons (c:UInt8) (x y:List UInt8) (r:List (List UInt8)):Lib.join (x::y::r) [c]=x++c::Lib.join (y::r) [c]:=by
 simp [Lib.join,List.intercalate]
theorem cut_join (c:UInt8):∀ (ws:List (List UInt8)),ws≠[]→(∀ x∈ws,c∉x)→cutC c (Lib.join ws [c])=ws
 | [],h,_=>absurd rfl h
 | [x],_,h=>by rw [Lib.join_one];exact cut_last c x (h x (by simp))
 | x::y::r,_,h=>by
  rw [join_cons,cut_word c x _ (h x (by simp)),cut_join c (y::r) (by simp) fun z hz=>h z (by simp [hz])]
theorem dec_mem:∀ (u:Nat) {b:UInt8},b∈Lib.decDigits u→48≤b.toNat∧b.toNat≤57:=by
 intro u
 induction u using Nat.strongRecOn with
 | _ u ih =>
  intro b hb
  rw [Lib.decDigits] at hb
  split at hb
  ·rename_i h
   simp at hb
   subst hb
   simp [UInt8.toNat_ofNat']
   omega
  ·rename_i h
   rcases List.mem_append.1 hb with q | q
   ·exact ih (u / 10) (by omega) q
   ·simp at q
    subst q
    simp [UInt8.toNat_ofNat']
    omega
theorem dec_ne (u:Nat):Lib.decDigits u≠[]:=by
 rw [Lib.decDigits]
 split <;> simp
theorem parse_app:∀ (l r:List UInt8) (acc u:Nat),Lib.parseUint10 acc l=.ok u→Lib.parseUint10 acc (l++r)=Lib.parseUint10 u r
 | [],r,acc,u,h=>by
  simp only [Lib.parseUint10] at h
  injection h with h
  rw [h];rfl
 | c::l,r,acc,u,h=>by
  simp only [Lib.parseUint10,List.cons_append] at h ⊢
  split at h
  ·rename_i h1
   rw [if_pos h1]
   split at h
   ·cases h
   ·rename_i h2
    rw [if_neg h2]
    split at h
    ·cases h
    ·rename_i h3
     rw [if_neg h3]
     exact parse_app l r _ u h
  ·cases h
theorem parse_dec:∀ (u:Nat),u<18446744073709551616→Lib.parseUint10 0 (Lib.decDigits u)=.ok u:=by
 intro u
 induction u using Nat.strongRecOn with
 | _ u ih =>
  intro hu
  rw [Lib.decDigits]
  split
  ·rename_i h
   simp [Lib.parseUint10,UInt8.toNat_ofNat']
   have e:(48+u) % 256=48+u:=by omega
   rw [e]
   rw [if_pos (by omega)]
   simp
   omega
  ·rename_i h
   rw [parse_app _ _ _ _ (ih (u / 10) (by omega) (by omega))]
   simp only [Lib.parseUint10,UInt8.toNat_ofNat']
   have e:(48+u % 10) % 256=48+u % 10:=by omega
   simp only [show (2:Nat) ^ 8=256 from rfl,e]
   rw [if_pos (by omega),if_neg (by omega),if_neg (by omega)]
   congr 1
   omega
theorem atoi_itoa (n:Int) (h0: -9223372036854775808≤n) (h1:n≤9223372036854775807):Lib.atoiAll (Lib.itoa n)=.ok n:=by
 unfold Lib.itoa
 by_cases hn:n<0
 ·rw [if_pos hn]
  unfold Lib.atoiAll Lib.parseMag
  simp only [UInt8.reduceToNat,or_true,if_true,if_neg (dec_ne _),parse_dec _ (show n.natAbs<18446744073709551616 by omega)]
  simp
  rw [if_neg (by omega)]
  congr 1
  omega
 ·rw [if_neg hn]
  cases hd:Lib.decDigits n.toNat with
  | nil=>exact absurd hd (dec_ne _)
  | cons c r =>
   have hc:=dec_mem n.toNat (b:=c) (by rw [hd];simp)
   unfold Lib.atoiAll Lib.parseMag
   simp only
   rw [if_neg (show ¬ (c.toNat=43∨c.toNat=45) by omega),if_neg (by simp),← hd,parse_dec _ (by omega)]
   simp only
   have h45:¬ c.toNat=45:=by omega
   rw [if_neg (by omega),if_neg (by omega),if_neg h45]
   congr 1
   omega
theorem itoa_no {c:UInt8} (hc:c.toNat<45) (n:Int):c∉Lib.itoa n:=by
 unfold Lib.itoa
 split
 ·intro h
  rcases List.mem_cons.1 h with q | q
  ·rw [q] at hc;simp at hc
  ·have:=dec_mem _ q;omega
 ·intro h
  have:=dec_mem _ h
  omega
end Go.Proofs.YtkkolclmfcmfbaaGreatDoor
