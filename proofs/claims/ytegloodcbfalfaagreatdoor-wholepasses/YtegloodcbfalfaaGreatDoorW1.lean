/-
  Of the proof of WholePasses: M, A, P, Q, MP, B, S, MR, GA, R, GB, GD, GV, TA, TB, TC.
-/
import Derived.Below
import Derived.KernelRfl
import Derived.Test.YtegloodcbfalfaaGreatDoorRows
import Derived.WalkKit
import Derived.WalkSpells
import Derived.WalkLawsBesides
import Derived.Lib.SplitLaws
import Derived.Lib.Split
import Derived.Lib.Join
import Derived.Lib.AtoiAll
import Derived.Lib.ItoaNum
import Derived.Lib.Strings
set_option linter.unusedVariables false
set_option linter.unusedSimpArgs false
set_option maxHeartbeats 40000000
set_option maxRecDepth 100000
namespace Go.Proofs.YtegloodcbfalfaaGreatDoor
theorem dD {n:Nat}:n≤n:=Nat.le_refl n
theorem dY {w:World} {o:Obj}:RowKit.Below w.heap.size w (w.alloc o):=(RowKit.Below.refl _ w).alloc dD o
theorem bG {u v x:World} (h:RowKit.Below u.heap.size u v) (k:RowKit.Below v.heap.size v x):RowKit.Below u.heap.size u x:=h.trans (k.mono h.size)
theorem bP {u v:World} {b:Nat} {o:Obj} (h:RowKit.Below u.heap.size u v) (k:u.heap[b]?=some o):v.heap[b]?=some o:=(h.block _ (Array.getElem?_eq_some_iff.1 k).1).trans k
theorem aF {p:Prop} (h:p:=by omega):p:=h
theorem aL {p:Prop} (h:p:=by decide):p:=h
theorem aQ {p:Prop} (h:p:=by simp):p:=h
theorem bF {p:Prop} (h:p:=by simp;omega):p:=h
theorem kD {p:Prop} (h:p:=by as_aux_lemma=>kernel_rfl):p:=h
theorem fJ {p:Prop} (h:p:=by kernel_rfl):p:=h
structure Nd where
 op:Int
 d:Int
 a:Int
 b:Int
 t:Int
 e:Int
 deriving DecidableEq,Inhabited
def wi (v l h:Int):Bool:=decide (l≤v)&&decide (v≤h)
theorem dP {v l h:Int} (h1:l≤v) (h2:v≤h):wi v l h=true:=by simp [wi,h1,h2]
theorem eT {v l h:Int} (h1:v<l∨h<v):wi v l h=false:=by
 simp only [wi,Bool.and_eq_false_iff,decide_eq_false_iff_not];omega
theorem aY {v l h:Int}:wi v l h=true↔l≤v∧v≤h:=by simp [wi]
def kn (op:Int):Bool:=wi op 0 12
def k0 (op:Int):Int:=if wi op 1 9 then 1 else 0
def k1 (op:Int):Int:=if op=1 then 2 else if wi op 2 8||wi op 10 12 then 1 else 0
def k2 (op:Int):Int:=if wi op 3 8 then 1 else 0
def k3 (op:Int):Int:=if wi op 0 11 then 3 else 0
def k4 (op:Int):Int:=if op=11 then 3 else 0
theorem uY {op:Int} (h:op<0∨12<op):kn op=false∧k0 op=0∧k1 op=0∧k2 op=0∧k3 op=0∧k4 op=0:=by
 have e1:wi op 1 9=false:=eT aF
 have e2:wi op 2 8=false:=eT aF
 have e3:wi op 10 12=false:=eT aF
 have e4:wi op 3 8=false:=eT aF
 have e5:wi op 0 11=false:=eT aF
 have e6:wi op 0 12=false:=eT aF
 have n1:op≠1:=by omega
 have n2:op≠11:=by omega
 simp [kn,k0,k1,k2,k3,k4,e1,e2,e3,e4,e5,e6,n1,n2]
theorem SK (op:Int):(op=0∨op=1∨op=2∨op=3∨op=4∨op=5∨op=6∨op=7∨op=8∨op=9∨op=10∨op=11∨op=12)∨(op<0∨12<op):=by omega
theorem iH {α:Type} {l:List α} {k:Nat} {x:α} (h:l[k]?=some x):l.take (k+1)=l.take k++[x]:=by
 obtain ⟨hk,rfl⟩:=List.getElem?_eq_some_iff.1 h
 exact List.take_succ_eq_append_getElem hk
theorem fE {α:Type} {l:List α} {k:Nat} {x:α} (p:α→Bool) (h:l[k]?=some x):(l.take (k+1)).all p=((l.take k).all p&&p x):=by
 rw [iH h,List.all_append];simp
theorem dQ {α:Type} {l:List α} {k:Nat} {x:α} (p:α→Bool) (h:l[k]?=some x) (hp:p x=false):l.all p=false:=by
 rw [List.all_eq_false];exact ⟨x,List.mem_of_getElem? h,by simp [hp]⟩
theorem fV {α:Type} {l:List α} {k:Nat} (h:l.length≤k):l.take k=l:=List.take_of_length_le h
theorem bD {α:Type} {l:List α} {k:Nat} (h:k<l.length):∃ x,l[k]?=some x:=⟨l[k],List.getElem?_eq_getElem h⟩
end Go.Proofs.YtegloodcbfalfaaGreatDoor
namespace Go.Proofs.YtegloodcbfalfaaGreatDoor
open Go.RowKit
theorem aO {a b:Bool} (h:a=b):Ending.returned (.bool a)=.returned (.bool b):=by rw [h]
theorem bU {k:IntKind} {a b:Int} (h:a=b):Ending.returned (.int k a)=.returned (.int k b):=by rw [h]
theorem dZ (n l h:Int) (w:World) :
 Calls Tryz.prog 16 #[.int .i64 n,.int .i64 l,.int .i64 h] w fun e w' =>e=.returned (.bool (wi n l h))∧w' =w:=by
 go_enter Tryz.func16,Tryz.ntmps16
 go_wp2
 all_goals go_ret
 ·rename_i hx;exact ⟨aO (by simp [wi,hx]),rfl⟩
 ·rename_i hx;exact ⟨aO (by simp [wi];intro h;omega),rfl⟩
theorem lN (n l h:Int) (w:World) :
 Calls Tryz.prog 31 #[.int .i64 n,.int .i64 l,.int .i64 h] w fun e w' =>e=.returned (.bool (wi n l h))∧w' =w:=by
 go_enter Tryz.func31,Tryz.ntmps31
 go_wp2
 all_goals go_ret
 ·rename_i hx;exact ⟨aO (by simp [wi,hx]),rfl⟩
 ·rename_i hx;exact ⟨aO (by simp [wi];intro h;omega),rfl⟩
theorem nE (op:Int) (w:World) :
 Calls Tryz.prog 59 #[.int .i64 op] w fun e w' =>e=.returned (.tuple #[.agg #[.int .i64 (k0 op),.int .i64 (k1 op),.int .i64 (k2 op),.int .i64 (k3 op),.int .i64 (k4 op)],.bool (kn op)])∧Below w.heap.size w w' :=by
 rcases SK op with (rfl | rfl | rfl | rfl | rfl | rfl | rfl | rfl | rfl | rfl | rfl | rfl | rfl) | hx
 case inr =>
  obtain ⟨e0,e1,e2,e3,e4,e5⟩:=uY hx
  rw [e0,e1,e2,e3,e4,e5]
  clear e0 e1 e2 e3 e4 e5
  go_enter Tryz.func59,Tryz.ntmps59
  go_wp2
  exact bodyPost_ret (v:=.tuple #[.agg #[.int .i64 0,.int .i64 0,.int .i64 0,.int .i64 0,.int .i64 0],.bool false]) (by simp [results,Tryz.results59,go_sem]) rfl ⟨rfl,dY⟩
 all_goals
  go_enter Tryz.func59,Tryz.ntmps59
  go_wp2
  refine bodyPost_ret (v:=.tuple #[.agg #[.int .i64 (k0 _),.int .i64 (k1 _),.int .i64 (k2 _),.int .i64 (k3 _),.int .i64 (k4 _)],.bool (kn _)]) ?_ rfl ⟨rfl,dY⟩
  simp [results,Tryz.results59,go_sem,k0,k1,k2,k3,k4,kn,wi]
end Go.Proofs.YtegloodcbfalfaaGreatDoor
namespace Go.Proofs.YtegloodcbfalfaaGreatDoor
def pick (p:Nat→Bool) (k:Nat):List Int:=((List.range k).filter p).map (fun m:Nat=>(m:Int))
theorem sD {p:Nat→Bool} {k:Nat} (h:p k=true):pick p (k+1)=pick p k++[(k:Int)]:=by
 simp [pick,List.range_succ,List.filter_append,h]
theorem tX {p:Nat→Bool} {k:Nat} (h:p k=false):pick p (k+1)=pick p k:=by
 simp [pick,List.range_succ,List.filter_append,h]
theorem BZ (p:Nat→Bool) (k:Nat):(pick p k).length≤k:=by
 simp only [pick,List.length_map]
 exact Nat.le_trans (List.length_filter_le _ _) aQ
def tY (x:Nd) (m:Nat):Bool:=(x.op != 12&&x.t==(m:Int))||(x.op==11&&x.e==(m:Int))
def mF (ns:List Nd) (n:Nat) (m:Nat):Bool:=match ns[m]? with | some y=>tY y n | none=>false
theorem nG {ns:List Nd} {n m:Nat} {y:Nd} (h:ns[m]?=some y):mF ns n m=tY y n:=by simp [mF,h]
theorem yB {p:Nat→Bool}:∀ {k:Nat},(∀ m,m<k→p m=false)→pick p k=[]
 | 0,_=>rfl
 | k+1,h=>by rw [tX (h k aF)];exact yB fun m hm=>h m aF
theorem wD {p:Nat→Bool} {a:Nat} (ha:p a=true):∀ {k:Nat},a<k→(∀ m,m<k→m≠a→p m=false)→pick p k=[(a:Int)]
 | 0,h,_=>by omega
 | k+1,h,ho=>by
  by_cases e:a=k
  ·subst e
   rw [sD ha,yB fun m hm=>ho m aF aF];rfl
  ·rw [tX (ho k aF aF)]
   exact wD ha aF fun m hm hn=>ho m aF hn
theorem CB {p:Nat→Bool} {a b:Nat} (ha:p a=true) (hb:p b=true) (hab:a<b):∀ {k:Nat},b<k→(∀ m,m<k→m≠a→m≠b→p m=false)→pick p k=[(a:Int),(b:Int)]
 | 0,h,_=>by omega
 | k+1,h,ho=>by
  by_cases e:b=k
  ·subst e
   rw [sD hb,wD ha hab fun m hm hn=>ho m aF hn aF];rfl
  ·rw [tX (ho k aF aF aF)]
   exact CB ha hb hab aF fun m hm hn hn' =>ho m aF hn hn'
def ZV (x:Nd):List Int :=
 if x.op=11 then if x.t=x.e then [x.t] else if x.t<x.e then [x.t,x.e] else [x.e,x.t]
 else if wi x.op 0 11 then [x.t] else []
theorem aKA (x:Nd) (len:Nat) (hk:kn x.op=true) (ht:x.op≠12→1≤x.t∧x.t≤(len:Int)-1) (he:x.op=11→1≤x.e∧x.e≤(len:Int)-1):ZV x=pick (tY x) len:=by
 obtain ⟨op,d,a,b,t,e⟩:=x
 simp only at *
 have hk' :=aY.1 hk
 by_cases h11:op=11
 ·subst h11
  obtain ⟨t1,t2⟩:=ht aF
  obtain ⟨e1,e2⟩:=he rfl
  obtain ⟨T,rfl⟩:=Int.eq_ofNat_of_zero_le (show 0≤t by omega)
  obtain ⟨E,rfl⟩:=Int.eq_ofNat_of_zero_le (show 0≤e by omega)
  have hld:∀ m,tY ⟨11,d,a,b,T,E⟩ m=(decide (T=m)||decide (E=m)):=by
   intro m;rw [Bool.eq_iff_iff];simp [tY];omega
  by_cases hte:T=E
  ·subst hte
   rw [wD (a:=T) (by rw [hld];simp) aF (fun m _ hn=>by rw [hld];simp;omega)]
   simp [ZV]
  ·by_cases hlt:T<E
   ·rw [CB (a:=T) (b:=E) (by rw [hld];simp) (by rw [hld];simp) hlt aF (fun m _ hn hn' =>by rw [hld];simp;omega)]
    simp only [ZV,if_true];rw [if_neg aF,if_pos aF]
   ·rw [CB (a:=E) (b:=T) (by rw [hld];simp) (by rw [hld];simp) aF aF (fun m _ hn hn' =>by rw [hld];simp;omega)]
    simp only [ZV,if_true];rw [if_neg aF,if_neg aF]
 ·by_cases h12:op=12
  ·subst h12
   rw [yB (fun m _=>by simp [tY])]
   simp [ZV,wi]
  ·obtain ⟨t1,t2⟩:=ht h12
   obtain ⟨T,rfl⟩:=Int.eq_ofNat_of_zero_le (show 0≤t by omega)
   have hld:∀ m,tY ⟨op,d,a,b,T,e⟩ m=decide (T=m):=by
    intro m;rw [Bool.eq_iff_iff];simp [tY];omega
   rw [wD (a:=T) (by rw [hld];simp) aF (fun m _ hn=>by rw [hld];simp;omega)]
   simp only [ZV];rw [if_neg h11,if_pos (dP aF aF)]
def mG (r:Int) (len:Nat) (k v:Int):Bool:=if k=1 then wi v 0 (r-1) else if k=3 then wi v 1 ((len:Int)-1) else true
def nH (k v:Int):Bool:=k != 0||v==0
def IX (x:Nd):List (Int × Int):=[(k0 x.op,x.d),(k1 x.op,x.a),(k2 x.op,x.b),(k3 x.op,x.t),(k4 x.op,x.e)]
def aX (R:Int→Int→Bool) (x:Nd):Bool:=(IX x).all fun p=>R p.1 p.2
def bM (r:Int) (ns:List Nd):Int :=
 if wi ns.length 1 256&&wi r 1 64 then
  if ns.all (fun x=>kn x.op) then
   if ns.all (aX (mG r ns.length)) then
    if ns.all (aX nH) then 0 else 1
   else 3
  else 4
 else 2
theorem bB {r:Int} {ns:List Nd} (h:bM r ns=0):(1≤ns.length∧ns.length≤256)∧(1≤r∧r≤64)∧(∀ x∈ns,kn x.op=true)∧(∀ x∈ns,aX (mG r ns.length) x=true)∧(∀ x∈ns,aX nH x=true):=by
 unfold bM at h
 split at h
 ·rename_i h1
  rw [Bool.and_eq_true,aY,aY] at h1
  split at h
  ·rename_i h2
   split at h
   ·rename_i h3
    split at h
    ·rename_i h4
     rw [List.all_eq_true] at h2 h3 h4
     exact ⟨aF,h1.2,h2,h3,h4⟩
    ·omega
   ·omega
  ·omega
 ·omega
theorem CE {op:Int} (h:kn op=true):k3 op=if op=12 then 0 else 3:=by
 have:=aY.1 h
 unfold k3
 by_cases h12:op=12
 ·subst h12;rfl
 ·rw [if_neg h12,if_pos (dP aF aF)]
theorem then_ok {r:Int} {ns:List Nd} (h:bM r ns=0) {x:Nd} (hx:x∈ns) (h12:x.op≠12):1≤x.t∧x.t≤(ns.length:Int)-1:=by
 obtain ⟨_,_,hk,hi,_⟩:=bB h
 have h1:=hi x hx
 simp only [aX,IX,List.all_cons,List.all_nil,Bool.and_true,Bool.and_eq_true] at h1
 have h3:=h1.2.2.2.1
 rw [CE (hk x hx),if_neg h12] at h3
 simpa [mG,wi] using h3
theorem OE {r:Int} {ns:List Nd} (h:bM r ns=0) {x:Nd} (hx:x∈ns) (h11:x.op=11):1≤x.e∧x.e≤(ns.length:Int)-1:=by
 obtain ⟨_,_,hk,hi,_⟩:=bB h
 have h1:=hi x hx
 simp only [aX,IX,List.all_cons,List.all_nil,Bool.and_true,Bool.and_eq_true] at h1
 have h4:=h1.2.2.2.2
 simp only [k4,if_pos h11] at h4
 simpa [mG,wi] using h4
theorem aVS {r:Int} {ns:List Nd} (h:bM r ns=0) {x:Nd} (hx:x∈ns):ZV x=pick (tY x) ns.length :=
 aKA x ns.length ((bB h).2.2.1 x hx) (then_ok h hx) (OE h hx)
structure sF (r:Int) (len:Nat) (x:Nd):Prop where
 op:0≤x.op∧x.op≤12
 d:1≤x.op→x.op≤9→0≤x.d∧x.d<r
 a:x.op≠0→x.op≠1→x.op≠9→0≤x.a∧x.a<r
 b:3≤x.op→x.op≤8→0≤x.b∧x.b<r
 t:0≤x.t∧x.t<len
 e:x.op=11→0≤x.e∧x.e<len
theorem aRB {r:Int} {ns:List Nd} (h:bM r ns=0) {x:Nd} (hx:x∈ns):sF r ns.length x:=by
 obtain ⟨hl,hr,hk,hi,hn⟩:=bB h
 have hop:=aY.1 (hk x hx)
 have h1:=hi x hx
 have h2:=hn x hx
 simp only [aX,IX,List.all_cons,List.all_nil,Bool.and_true,Bool.and_eq_true] at h1 h2
 obtain ⟨q0,q1,q2,q3,q4⟩:=h1
 obtain ⟨n0,n1,n2,n3,n4⟩:=h2
 refine ⟨hop,fun a b=>?_,fun a b c=>?_,fun a b=>?_,?_,fun a=>?_⟩
 ·simp only [k0,dP a b,if_true,mG] at q0
  have:=aY.1 q0;omega
 ·have e:(wi x.op 2 8||wi x.op 10 12)=true:=by
   rw [Bool.or_eq_true,aY,aY];omega
  simp only [k1,if_neg b,e,if_true,mG] at q1
  have:=aY.1 q1;omega
 ·simp only [k2,dP a b,if_true,mG] at q2
  have:=aY.1 q2;omega
 ·by_cases e:x.op=12
  ·rw [CE (hk x hx),if_pos e] at n3
   simp [nH] at n3
   omega
  ·have:=then_ok h hx e;omega
 ·have:=OE h hx a;omega
end Go.Proofs.YtegloodcbfalfaaGreatDoor
namespace Go.Proofs.YtegloodcbfalfaaGreatDoor
open Go.RowKit
theorem aB {p:Prop} (h:p):Hid p:=h
theorem qW (op:Int) (w:World) :
 Calls Tryz.prog 40 #[.int .i64 op] w fun e w' =>e=.returned (.tuple #[.bool (wi op 1 9),.bool (wi op 2 8||wi op 10 12),.bool (wi op 3 8),.bool (op != 12),.bool (op==11)])∧w' =w:=by
 go_enter Tryz.func40,Tryz.ntmps40
 go_wp2_with (go_at_call 16;refine (dZ _ _ _ _).mono ?_;rintro e w' ⟨rfl,rfl⟩)
 all_goals exact bodyPost_ret (v:=.tuple #[.bool (wi op 1 9),.bool (wi op 2 8||wi op 10 12),.bool (wi op 3 8),.bool (op != 12),.bool (op==11)]) (by simp [results,Tryz.results40,go_sem, *]) rfl ⟨rfl,rfl⟩
theorem zF (op:Int) (w:World) :
 Calls Tryz.prog 73 #[.int .i64 op] w fun e w' =>e=.returned (.bool (wi op 3 8))∧w' =w:=by
 go_enter Tryz.func73,Tryz.ntmps73
 go_wp2_with (go_at_call 16;refine (dZ _ _ _ _).mono ?_;rintro e w' ⟨rfl,rfl⟩)
 go_ret
 exact ⟨rfl,rfl⟩
theorem CF (op d a b t e:Int) (w:World) :
 Calls Tryz.prog 60 #[.agg #[.int .i64 op,.int .i64 d,.int .i64 a,.int .i64 b,.int .i64 t,.int .i64 e]] w fun r w' =>r=.returned (.agg #[.int .i64 d,.int .i64 a,.int .i64 b,.int .i64 t,.int .i64 e])∧Below w.heap.size w w' :=by
 go_enter Tryz.func60,Tryz.ntmps60
 go_wp2
 exact bodyPost_ret (v:=.agg #[.int .i64 d,.int .i64 a,.int .i64 b,.int .i64 t,.int .i64 e]) (by simp [results,Tryz.results60,go_sem]) rfl ⟨rfl,(dY).alloc aQ _⟩
theorem CG (op d a b t e:Int) (w:World) (h:3≤op) (h' :op≤8) :
 Calls Tryz.prog 99 #[.agg #[.int .i64 op,.int .i64 d,.int .i64 a,.int .i64 b,.int .i64 t,.int .i64 e]] w fun r w' =>r=.returned (.tuple #[.agg #[.int .i64 op,.int .i64 a,.int .i64 b],.bool true])∧Below w.heap.size w w' :=by
 go_enter Tryz.func99,Tryz.ntmps99
 go_wp2
 exact bodyPost_ret (v:=.tuple #[.agg #[.int .i64 op,.int .i64 a,.int .i64 b],.bool true]) (by simp [results,Tryz.results99,go_sem]) rfl ⟨rfl,(dY).alloc aQ _⟩
theorem aCW (op d a b t e:Int) (w:World) (h:op<3∨8<op) :
 Calls Tryz.prog 99 #[.agg #[.int .i64 op,.int .i64 d,.int .i64 a,.int .i64 b,.int .i64 t,.int .i64 e]] w fun r w' =>r=.returned (.tuple #[.agg #[.int .i64 0,.int .i64 0,.int .i64 0],.bool false])∧Below w.heap.size w w' :=by
 by_cases h3:op<3
 all_goals
  go_enter Tryz.func99,Tryz.ntmps99
  go_wp2
  exact bodyPost_ret (v:=.tuple #[.agg #[.int .i64 0,.int .i64 0,.int .i64 0],.bool false]) (by simp [results,Tryz.results99,go_sem]) rfl ⟨rfl,(dY).alloc aQ _⟩
theorem aRC (w:World) :
 Calls Tryz.prog 30 #[] w fun r w' =>r=.returned (.agg #[.int .i64 3,.int .i64 0,.int .i64 1])∧Below w.heap.size w w' :=by
 go_enter Tryz.func30,Tryz.ntmps30
 go_wp2
 exact bodyPost_ret (v:=.agg #[.int .i64 3,.int .i64 0,.int .i64 1]) (by simp [results,Tryz.results30,go_sem]) rfl ⟨rfl,(dY)⟩
structure aH (w:World) (b off:Nat) (ns:List Nd):Prop where
 lt:b<w.heap.size
 c0:∀ (i:Nat) (x:Nd),ns[i]?=some x→w.cell? ⟨b,off+i*6,none⟩=some (.int .i64 x.op)
 c1:∀ (i:Nat) (x:Nd),ns[i]?=some x→w.cell? ⟨b,off+i*6+1,none⟩=some (.int .i64 x.d)
 c2:∀ (i:Nat) (x:Nd),ns[i]?=some x→w.cell? ⟨b,off+i*6+2,none⟩=some (.int .i64 x.a)
 c3:∀ (i:Nat) (x:Nd),ns[i]?=some x→w.cell? ⟨b,off+i*6+3,none⟩=some (.int .i64 x.b)
 c4:∀ (i:Nat) (x:Nd),ns[i]?=some x→w.cell? ⟨b,off+i*6+4,none⟩=some (.int .i64 x.t)
 c5:∀ (i:Nat) (x:Nd),ns[i]?=some x→w.cell? ⟨b,off+i*6+5,none⟩=some (.int .i64 x.e)
theorem aH.below {w w' :World} {b off B:Nat} {ns:List Nd} (h:aH w b off ns) (hb:Below B w w') (hB:b<B):aH w' b off ns:=by
 refine ⟨Nat.lt_of_lt_of_le h.lt hb.size,?_,?_,?_,?_,?_,?_⟩
 ·intro i x hx;rw [hb.cell (p:=⟨b,_,none⟩) hB];exact h.c0 i x hx
 ·intro i x hx;rw [hb.cell (p:=⟨b,_,none⟩) hB];exact h.c1 i x hx
 ·intro i x hx;rw [hb.cell (p:=⟨b,_,none⟩) hB];exact h.c2 i x hx
 ·intro i x hx;rw [hb.cell (p:=⟨b,_,none⟩) hB];exact h.c3 i x hx
 ·intro i x hx;rw [hb.cell (p:=⟨b,_,none⟩) hB];exact h.c4 i x hx
 ·intro i x hx;rw [hb.cell (p:=⟨b,_,none⟩) hB];exact h.c5 i x hx
def cO:List Nd:=[⟨9,0,0,0,1,0⟩,⟨9,1,0,0,2,0⟩,⟨11,0,0,0,3,5⟩,⟨3,2,0,1,4,0⟩,⟨10,0,2,0,5,0⟩,⟨3,2,0,1,6,0⟩,⟨12,0,2,0,0,0⟩]
theorem SL {i:Nat} {x:Nd} (h:cO[i]?=some x):i=0∧x=⟨9,0,0,0,1,0⟩∨i=1∧x=⟨9,1,0,0,2,0⟩∨i=2∧x=⟨11,0,0,0,3,5⟩∨i=3∧x=⟨3,2,0,1,4,0⟩∨i=4∧x=⟨10,0,2,0,5,0⟩∨i=5∧x=⟨3,2,0,1,6,0⟩∨i=6∧x=⟨12,0,2,0,0,0⟩:=by
 match i,h with
 | 0,h=>simp [cO] at h;simp [h]
 | 1,h=>simp [cO] at h;simp [h]
 | 2,h=>simp [cO] at h;simp [h]
 | 3,h=>simp [cO] at h;simp [h]
 | 4,h=>simp [cO] at h;simp [h]
 | 5,h=>simp [cO] at h;simp [h]
 | 6,h=>simp [cO] at h;simp [h]
 | n+7,h=>simp [cO] at h
theorem aFG (w:World) :
 Calls Tryz.prog 26 #[] w fun r w' =>r=.returned (.agg #[.int .i64 3,.slice (some ⟨w.heap.size+1,0,none⟩) 7 7])∧aH w' (w.heap.size+1) 0 cO∧Below w.heap.size w w' :=by
 go_enter Tryz.func26,Tryz.ntmps26
 go_wp2
 refine bodyPost_ret (v:=.agg #[.int .i64 3,.slice (some ⟨w.heap.size+1,0,none⟩) 7 7]) (by simp [results,Tryz.results26,go_sem]) rfl ⟨rfl,⟨aQ,?_,?_,?_,?_,?_,?_⟩,(dY).alloc aQ _⟩
 all_goals
  intro i x hx
  rcases SL hx with ⟨rfl,rfl⟩ | ⟨rfl,rfl⟩ | ⟨rfl,rfl⟩ | ⟨rfl,rfl⟩ | ⟨rfl,rfl⟩ | ⟨rfl,rfl⟩ | ⟨rfl,rfl⟩
  all_goals (rw [World.cell?_alloc_at _ _ _ _ aQ];simp)
theorem aRD (k v r:Int) (pb:Nat) (a:Option Addr) (len cap:Nat) (w:World) (hr:1≤r∧r≤64) (hl:len≤256)
 (hp0:w.cell? ⟨pb,0,none⟩=some (.int .i64 r)) (hp1:w.cell? ⟨pb,1,none⟩=some (.slice a len cap)) :
 Calls Tryz.prog 33 #[.int .i64 k,.int .i64 v,.pointer (some ⟨pb,0,none⟩)] w fun e w' =>e=.returned (.bool (mG r len k v))∧w' =w:=by
 by_cases h1:k=1
 ·subst h1
  go_enter Tryz.func33,Tryz.ntmps33
  go_wp2_with (go_at_call 31;refine (lN _ _ _ _).mono ?_;rintro e w' ⟨rfl,rfl⟩)
  go_ret
  exact ⟨aO (by simp [mG]),rfl⟩
 by_cases h3:k=3
 ·subst h3
  go_enter Tryz.func33,Tryz.ntmps33
  go_wp2_with (go_at_call 31;refine (lN _ _ _ _).mono ?_;rintro e w' ⟨rfl,rfl⟩)
  go_ret
  exact ⟨aO (by simp [mG]),rfl⟩
 ·go_enter Tryz.func33,Tryz.ntmps33
  go_wp2
  go_ret
  exact ⟨aO (by simp [mG,h1,h3]),rfl⟩
theorem aRE (k v:Int) (w:World) :
 Calls Tryz.prog 35 #[.int .i64 k,.int .i64 v] w fun e w' =>e=.returned (.bool (nH k v))∧w' =w:=by
 by_cases h0:k=0
 ·subst h0
  go_enter Tryz.func35,Tryz.ntmps35
  go_wp2
  go_ret
  exact ⟨aO (by simp [nH]),rfl⟩
 ·have hb:(k != 0)=true:=by simp [h0]
  go_enter Tryz.func35,Tryz.ntmps35
  go_wp2
  go_ret
  exact ⟨aO (by simp [nH,h0]),rfl⟩
end Go.Proofs.YtegloodcbfalfaaGreatDoor
namespace Go.Proofs.YtegloodcbfalfaaGreatDoor
structure Tm where
 op:Int
 a:Int
 b:Int
 deriving DecidableEq,Inhabited
def gG (x:Nd):Tm:=⟨x.op,x.a,x.b⟩
def rQ (acc:List Tm) (x:Nd):List Tm:=if wi x.op 3 8&&!(acc.any fun y=>decide (gG x=y)) then acc++[gG x] else acc
def mW (ns:List Nd) (k:Nat):List Tm:=(ns.take k).foldl rQ []
theorem CJ {ns:List Nd} {k:Nat} {x:Nd} (h:ns[k]?=some x):mW ns (k+1)=rQ (mW ns k) x:=by
 simp only [mW,iH h,List.foldl_append,List.foldl_cons,List.foldl_nil]
theorem aFH (acc:List Tm) {x:Nd} (h:wi x.op 3 8=true):rQ acc x=if !(acc.any fun y=>decide (gG x=y)) then acc++[gG x] else acc:=by
 simp only [rQ,h,Bool.true_and]
theorem aKB (acc:List Tm) {x:Nd} (h:wi x.op 3 8=false):rQ acc x=acc:=by
 simp [rQ,h]
theorem aFI (acc:List Tm) (x:Nd):(rQ acc x).length≤acc.length+1:=by
 unfold rQ;split <;> simp
theorem tZ (ns:List Nd):∀ k,(mW ns k).length≤k
 | 0=>by simp [mW]
 | k+1=>by
  by_cases h:k<ns.length
  ·obtain ⟨x,hx⟩:=bD h
   rw [CJ hx]
   have:=aFI (mW ns k) x
   have:=tZ ns k
   omega
  ·have e:ns.take (k+1)=ns.take k:=by rw [List.take_of_length_le aF,List.take_of_length_le aF]
   have:=tZ ns k
   simp only [mW,e] at this ⊢
   omega
theorem flat3 {β:Type} (f:Tm→List β) (hf:∀ t,(f t).length=3):∀ (ts:List Tm) (j i:Nat) (t:Tm),ts[j]?=some t→i<3→(ts.flatMap f)[j*3+i]?=(f t)[i]?
 | [],j,i,t,h,_=>by simp at h
 | u::ts,0,i,t,h,hi=>by
  simp at h;subst h
  rw [List.flatMap_cons,List.getElem?_append_left (by rw [hf];omega)];simp
 | u::ts,j+1,i,t,h,hi=>by
  simp at h
  rw [List.flatMap_cons,List.getElem?_append_right (by rw [hf];omega),hf,show (j+1)*3+i-3=j*3+i by omega]
  exact flat3 f hf ts j i t h hi
end Go.Proofs.YtegloodcbfalfaaGreatDoor
namespace Go.Proofs.YtegloodcbfalfaaGreatDoor
open Go.RowKit
def rk (op a b:Int):Int :=
 if op=3 then wrap64 (a+b) else if op=4 then wrap64 (a-b) else if op=5 then wrap64 (a*b)
 else if op=6 then bits BinOp.and IntKind.i64 a b else if op=7 then bits BinOp.xor IntKind.i64 a b else if a<b then 1 else 0
structure Ct where
 t:Tm
 n:Int
 deriving DecidableEq,Inhabited
def OG (a b:Tm):Bool:=if a.op=b.op then if a.a=b.a then decide (b.b<a.b) else decide (b.a<a.a) else decide (b.op<a.op)
def nI:List Ct→Tm→List Ct
 | [],t=>[⟨t,1⟩]
 | c::l,t=>if OG t c.t then c::nI l t else if c.t=t then ⟨t,c.n+1⟩::l else ⟨t,1⟩::c::l
structure St where
 regs:List Int
 pc:Nat
 inp:List Int
 out:List Int
 ret:Int
 ended:Bool
 steps:Nat
 cts:List Ct
 deriving Inhabited
def dN (l:List Int) (a:Int):Int:=l.getD a.toNat 0
def mJ (l:List Int) (d v:Int):List Int:=l.set d.toNat v
def vM (x:Nd) (s:St):St :=
 if x.op=0 then { s with pc:=x.t.toNat,steps:=s.steps+1 }
 else if x.op=1 then { s with pc:=x.t.toNat,steps:=s.steps+1,regs:=mJ s.regs x.d x.a }
 else if x.op=2 then { s with pc:=x.t.toNat,steps:=s.steps+1,regs:=mJ s.regs x.d (dN s.regs x.a) }
 else if x.op=9 then { s with pc:=x.t.toNat,steps:=s.steps+1,regs:=mJ s.regs x.d (s.inp.headD 0),inp:=s.inp.tail }
 else if x.op=10 then { s with pc:=x.t.toNat,steps:=s.steps+1,out:=s.out++[dN s.regs x.a] }
 else if x.op=11 then { s with pc:=(if dN s.regs x.a=0 then x.e else x.t).toNat,steps:=s.steps+1 }
 else if x.op=12 then { s with pc:=x.t.toNat,steps:=s.steps+1,ret:=dN s.regs x.a,ended:=true }
 else { s with pc:=x.t.toNat,steps:=s.steps+1,regs:=mJ s.regs x.d (rk x.op (dN s.regs x.a) (dN s.regs x.b)),cts:=nI s.cts (gG x) }
def runN (ns:List Nd):Nat→St→St
 | 0,s=>s
 | n+1,s=>if s.ended then s else match ns[s.pc]? with | some x=>runN ns n (vM x s) | none=>s
def st0 (r:Nat) (inp:List Int):St:=⟨List.replicate r 0,0,inp,[],0,false,0,[]⟩
theorem JQ (x:Nd) (s:St):(vM x s).steps=s.steps+1:=by
 unfold vM;repeat' split
 all_goals rfl
theorem runN_ended {ns:List Nd} {s:St} (h:s.ended=true):∀ n,runN ns n s=s
 | 0=>rfl
 | n+1=>by simp [runN,h]
theorem runN_add {ns:List Nd}:∀ (n m:Nat) (s:St),(∀ k,k<n→(runN ns k s).pc<ns.length)→runN ns (n+m) s=runN ns m (runN ns n s)
 | 0,m,s,_=>by simp [runN]
 | n+1,m,s,h=>by
  rw [show n+1+m=(n+m)+1 by omega]
  simp only [runN]
  cases he:s.ended
  ·have h0:=h 0 aF
   simp only [runN] at h0
   obtain ⟨x,hx⟩:=bD h0
   simp only [hx,Bool.false_eq_true,if_false]
   exact runN_add n m (vM x s) fun k hk=>by
    have:=h (k+1) aF
    simpa [runN,he,hx] using this
  ·simp [runN_ended he]
end Go.Proofs.YtegloodcbfalfaaGreatDoor
namespace Go.Proofs.YtegloodcbfalfaaGreatDoor
def aM (x:List Bool) (n:Nat):Bool:=x.getD n false
theorem kE {x:List Bool} {n:Nat} (h:n<x.length):x[n]?=some (aM x n):=by simp [aM,h]
theorem dR {x:List Bool} {n m:Nat} {b:Bool} (h:n<x.length):aM (x.set n b) m=if m=n then b else aM x m:=by
 simp only [aM,List.getD_eq_getElem?_getD,List.getElem?_set]
 by_cases e:n=m
 ·subst e;simp [h]
 ·simp [e,Ne.symm e]
theorem OH {k n:Nat} (h:n<k):aM (List.replicate k true) n=true:=by simp [aM,h]
theorem CK {x:List Bool} {n:Nat} (h:x.length≤n):aM x n=false:=by simp [aM,h]
theorem mK {x y:List Bool} (hl:x.length=y.length) (h:∀ n,n<x.length→aM x n=aM y n):x=y:=by
 apply List.ext_getElem?
 intro n
 by_cases hn:n<x.length
 ·rw [kE hn,kE aF,h n hn]
 ·rw [List.getElem?_eq_none aF,List.getElem?_eq_none aF]
theorem mM {k n:Nat} (f:Nat→Bool) (h:n<k):aM ((List.range k).map f) n=f n:=by simp [aM,h]
def oD (F:(Nat→Bool)→Nat→Bool):Prop:=∀ x y:Nat→Bool,(∀ m,x m=true→y m=true)→∀ n,F x n=true→F y n=true
structure IsG (F:(Nat→Bool)→Nat→Bool) (k:Nat) (x:List Bool):Prop where
 len:x.length=k
 fix:∀ n,n<k→aM x n=F (aM x) n
 top:∀ y:Nat→Bool,(∀ n,k≤n→y n=false)→(∀ n,n<k→y n=true→F y n=true)→∀ n,y n=true→aM x n=true
theorem IsG.uniq {F:(Nat→Bool)→Nat→Bool} {k:Nat} {x y:List Bool} (hx:IsG F k x) (hy:IsG F k y):x=y:=by
 refine mK (by rw [hx.len,hy.len]) fun n hn=>?_
 have h1:=hx.top (aM y) (fun n h=>CK (by rw [hy.len];exact h)) (fun n hn h=>by rw [← hy.fix n hn];exact h) n
 have h2:=hy.top (aM x) (fun n h=>CK (by rw [hx.len];exact h)) (fun n hn h=>by rw [← hx.fix n hn];exact h) n
 cases h:aM x n <;> cases h' :aM y n <;> simp_all
structure iD (F:(Nat→Bool)→Nat→Bool) (k:Nat) (x:List Bool):Prop where
 len:x.length=k
 no:∀ n,n<k→aM x n=false→F (aM x) n=false
 top:∀ y:Nat→Bool,(∀ n,k≤n→y n=false)→(∀ n,n<k→y n=true→F y n=true)→∀ n,y n=true→aM x n=true
theorem iD.start (F:(Nat→Bool)→Nat→Bool) (k:Nat):iD F k (List.replicate k true):=by
 refine ⟨aQ,fun n hn h=>(by rw [OH hn] at h;cases h),fun y hb _ n hy=>?_⟩
 by_cases hn:n<k
 ·exact OH hn
 ·rw [hb n aF] at hy;cases hy
theorem iD.set {F:(Nat→Bool)→Nat→Bool} {k:Nat} {x:List Bool} (hF:oD F) (h:iD F k x) {n:Nat} (hn:n<k) (hs:F (aM x) n=false):iD F k (x.set n false):=by
 have hle:∀ m,aM (x.set n false) m=true→aM x m=true:=by
  intro m hm;rw [dR (by rw [h.len];exact hn)] at hm;split at hm
  ·cases hm
  ·exact hm
 have hno:∀ m,F (aM x) m=false→F (aM (x.set n false)) m=false:=by
  intro m hm
  cases e:F (aM (x.set n false)) m
  ·rfl
  ·rw [hF _ _ hle m e] at hm;cases hm
 refine ⟨by simp [h.len],fun m hm hb=>?_,fun y hb hy m hm=>?_⟩
 ·rw [dR (by rw [h.len];exact hn)] at hb
  split at hb
  ·rename_i e;subst e;exact hno _ hs
  ·exact hno m (h.no m hm hb)
 ·rw [dR (by rw [h.len];exact hn)]
  split
  ·rename_i e
   subst e
   have h1:=hy m hn hm
   have h2:=hF y (aM x) (fun j hj=>h.top y hb hy j hj) m h1
   rw [hs] at h2;cases h2
  ·exact h.top y hb hy m hm
theorem iD.put {F:(Nat→Bool)→Nat→Bool} {k:Nat} {x:List Bool} (hF:oD F) (h:iD F k x) {n:Nat} (hn:n<k):iD F k (x.set n (F (aM x) n)):=by
 cases e:F (aM x) n
 ·exact h.set hF hn e
 ·cases e2:aM x n
  ·rw [h.no n hn e2] at e;cases e
  ·have:x.set n true=x:=by
    refine mK aQ fun m hm=>?_
    rw [dR (by rw [h.len];exact hn)]
    split
    ·rename_i q;subst q;exact e2.symm
    ·rfl
   rw [this];exact h
theorem iD.done {F:(Nat→Bool)→Nat→Bool} {k:Nat} {x:List Bool} (h:iD F k x) (hy:∀ n,n<k→aM x n=true→F (aM x) n=true):IsG F k x:=by
 refine ⟨h.len,fun n hn=>?_,h.top⟩
 cases e:aM x n
 ·exact (h.no n hn e).symm
 ·exact (hy n hn e).symm
def dU (x:List Bool):Nat:=x.count true
theorem pK {x:List Bool} {n:Nat} (h:n<x.length) (hb:aM x n=true):dU (x.set n false)+1=dU x:=by
 induction x generalizing n with
 | nil=>simp at h
 | cons a l ih =>
  cases n with
  | zero=>simp [aM] at hb;subst hb;simp [dU]
  | succ n =>
   have:=ih (n:=n) (by simpa using h) (by simpa [aM] using hb)
   simp only [dU,List.set_cons_succ,List.count_cons] at this ⊢
   omega
theorem wE (x:List Bool):dU x≤x.length:=List.count_le_length
def dO (F:(Nat→Bool)→Nat→Bool) (x:List Bool):Nat→List Bool
 | 0=>x
 | n+1=>(dO F x n).set n (F (aM (dO F x n)) n)
theorem qX {F:(Nat→Bool)→Nat→Bool} {k:Nat} {x:List Bool} (hF:oD F) (h:iD F k x):∀ n,n≤k→iD F k (dO F x n)
 | 0,_=>h
 | n+1,hn=>(qX hF h n aF).put hF aF
theorem pM {x:List Bool} {n:Nat} {b:Bool} (h:n<x.length) (hb:aM x n=b):x.set n b=x:=by
 refine mK aQ fun m hm=>?_
 rw [dR h]
 split
 ·rename_i q;subst q;exact hb.symm
 ·rfl
theorem uA {F:(Nat→Bool)→Nat→Bool} {k:Nat} {x:List Bool} (h:iD F k x) {n:Nat} (hn:n<k):x.set n (F (aM x) n)=x∨dU (x.set n (F (aM x) n))<dU x:=by
 cases e:aM x n
 ·rw [h.no n hn e,pM (by rw [h.len];exact hn) e];exact Or.inl rfl
 ·cases e2:F (aM x) n
  ·right;have:=pK (by rw [h.len];exact hn) e;omega
  ·left;exact pM (by rw [h.len];exact hn) e
theorem wF {F:(Nat→Bool)→Nat→Bool} {k:Nat} {x:List Bool} (hF:oD F) (h:iD F k x):∀ n,n≤k→(dO F x n=x∧∀ m,m<n→aM x m=F (aM x) m)∨dU (dO F x n)<dU x
 | 0,_=>Or.inl ⟨rfl,fun m hm=>by omega⟩
 | n+1,hn=>by
  have ho:=qX hF h n aF
  have hp:=uA ho (n:=n) aF
  simp only [dO]
  rcases wF hF h n aF with ⟨h1,h2⟩ | h1
  ·rw [h1] at hp ⊢
   rcases hp with h3 | h3
   ·left
    refine ⟨h3,fun m hm=>?_⟩
    by_cases e:m=n
    ·subst e
     have:=congrArg (fun l=>aM l m) h3
     rw [dR (by rw [h.len];omega)] at this
     simpa using this.symm
    ·exact h2 m aF
   ·exact Or.inr h3
  ·right
   rcases hp with h3 | h3
   ·rw [h3];exact h1
   ·omega
def turns (F:(Nat→Bool)→Nat→Bool) (k:Nat):Nat→List Bool
 | 0=>List.replicate k true
 | n+1=>dO F (turns F k n) k
theorem oH {F:(Nat→Bool)→Nat→Bool} (hF:oD F) (k:Nat):∀ n,iD F k (turns F k n)
 | 0=>iD.start F k
 | n+1=>qX hF (oH hF k n) k dD
theorem zG {F:(Nat→Bool)→Nat→Bool} (hF:oD F) (k:Nat):∀ n,(∀ m,m<k→aM (turns F k n) m=F (aM (turns F k n)) m)∨dU (turns F k n)+n≤k
 | 0=>Or.inr (by have:=wE (List.replicate k true);simpa [turns] using this)
 | n+1=>by
  simp only [turns]
  rcases wF hF (oH hF k n) k dD with ⟨h1,h2⟩ | h1
  ·left;rw [h1];exact h2
  ·rcases zG hF k n with h2 | h2
   ·left
    have hs:∀ j,j≤k→dO F (turns F k n) j=turns F k n:=by
     intro j
     induction j with
     | zero=>intro _;rfl
     | succ j ih =>
      intro hj
      simp only [dO]
      rw [ih aF]
      exact pM (by rw [(oH hF k n).len];omega) (h2 j aF)
    rw [hs k dD];exact h2
   ·right;omega
theorem aFK {F:(Nat→Bool)→Nat→Bool} (hF:oD F) (k:Nat):IsG F k (turns F k (k+1)):=by
 refine (oH hF k (k+1)).done fun n hn h=>?_
 rcases zG hF k (k+1) with h1 | h1
 ·rw [← h1 n hn];exact h
 ·omega
def gr (F:(Nat→Bool)→Nat→Bool) (k:Nat):List Bool:=turns F k (k+1)
theorem CL {F:(Nat→Bool)→Nat→Bool} (hF:oD F) (k:Nat):IsG F k (gr F k):=aFK hF k
theorem IsG.aCX {F:(Nat→Bool)→Nat→Bool} {k:Nat} {x:List Bool} (hF:oD F) (h:IsG F k x):x=gr F k:=h.uniq (CL hF k)
theorem a0W (a:Int):([a].mergeSort fun x y=>decide (x≤y))=[a]:=by simp
theorem a0X (a b:Int):([a,b].mergeSort fun x y=>decide (x≤y))=if a≤b then [a,b] else [b,a]:=by
 simp [List.mergeSort,List.MergeSort.Internal.splitInTwo,List.merge]
def iQ (ns:List Nd) (n:Nat):List Nat:=(List.range ns.length).filter fun m=>mF ns m n
def gJ (ns:List Nd) (n:Nat):List Nat:=(List.range ns.length).filter fun m=>mF ns n m
theorem iY {ns:List Nd} {n m:Nat}:m∈iQ ns n↔m<ns.length∧mF ns m n=true:=by simp [iQ]
theorem lH {ns:List Nd} {n m:Nat}:m∈gJ ns n↔m<ns.length∧mF ns n m=true:=by simp [gJ]
theorem OI {ns:List Nd} {n m:Nat} (h:mF ns n m=true):m<ns.length:=by
 unfold mF at h
 cases e:ns[m]? with
 | none=>rw [e] at h;cases h
 | some x=>exact (List.getElem?_eq_some_iff.1 e).1
structure BA where
 back:Bool
 empty:Bool
 gen:List Bool
 pass:List Bool
 plus:List Bool
 lets:List Bool
def zH (ns:List Nd) (f:BA) (n:Nat):List Nat:=if f.back then iQ ns n else gJ ns n
def lQ (e:Bool) (l:List Nat) (p:Nat→Bool):Bool:=if l.isEmpty then e else l.all p
def bZ (ns:List Nd) (f:BA) (x:Nat→Bool) (n:Nat):Bool :=
 aM f.gen n||(aM f.pass n&&lQ f.empty (zH ns f n) fun m=>aM f.plus m||(aM f.lets m&&x m))
theorem CO {l:List Nat} {p q:Nat→Bool} (h:∀ m,p m=true→q m=true) (ha:l.all p=true):l.all q=true:=by
 rw [List.all_eq_true] at ha ⊢
 exact fun m hm=>h m (ha m hm)
theorem ZW {e:Bool} {l:List Nat} {p q:Nat→Bool} (h:∀ m,p m=true→q m=true) (ha:lQ e l p=true):lQ e l q=true:=by
 unfold lQ at ha ⊢
 split at ha
 ·rename_i hl;rw [if_pos hl];exact ha
 ·rename_i hl;rw [if_neg hl];exact CO h ha
theorem pO (ns:List Nd) (f:BA):oD (bZ ns f):=by
 intro x y hxy n h
 simp only [bZ,Bool.or_eq_true,Bool.and_eq_true] at h ⊢
 rcases h with h | ⟨h1,h2⟩
 ·exact Or.inl h
 ·refine Or.inr ⟨h1,ZW (fun m hm=>?_) h2⟩
  simp only [Bool.or_eq_true,Bool.and_eq_true] at hm ⊢
  rcases hm with hm | ⟨h3,h4⟩
  ·exact Or.inl hm
  ·exact Or.inr ⟨h3,hxy m h4⟩
def wG (ns:List Nd) (f:BA):List Bool:=gr (bZ ns f) ns.length
inductive uS (ns:List Nd):Nat→Prop
 | zero:uS ns 0
 | step {n m:Nat}:uS ns n→mF ns m n=true→uS ns m
structure IsR (ns:List Nd) (x:List Bool):Prop where
 len:x.length=ns.length
 iff:∀ n,n<ns.length→(aM x n=true↔uS ns n)
theorem IsR.uniq {ns:List Nd} {x y:List Bool} (hx:IsR ns x) (hy:IsR ns y):x=y:=by
 refine mK (by rw [hx.len,hy.len]) fun n hn=>?_
 rw [hx.len] at hn
 rw [Bool.eq_iff_iff,hx.iff n hn,hy.iff n hn]
def nrF (ns:List Nd) (x:Nat→Bool) (n:Nat):Bool:=n != 0&&(gJ ns n).all x
theorem SN (ns:List Nd):oD (nrF ns):=by
 intro x y hxy n h
 simp only [nrF,Bool.and_eq_true] at h ⊢
 exact ⟨h.1,CO hxy h.2⟩
def bA (ns:List Nd):List Bool:=(gr (nrF ns) ns.length).map not
theorem nJ (ns:List Nd):(bA ns).length=ns.length:=by simp [bA,(CL (SN ns) ns.length).len]
theorem wH {x:List Bool} {n:Nat} (h:n<x.length):aM (x.map not) n=!aM x n:=by
 simp [aM,h]
theorem CP (ns:List Nd):IsR ns (bA ns):=by
 have hG:=CL (SN ns) ns.length
 refine ⟨nJ ns,fun n hn=>?_⟩
 rw [bA,wH (by rw [hG.len];exact hn)]
 constructor
 ·intro h
  apply Classical.byContradiction
  intro hc
  have:=hG.top (fun m=>@decide (m<ns.length∧¬ uS ns m) (Classical.propDecidable _)) (fun m hm=>by simp;omega) (fun m hm hy=>by
   simp only [decide_eq_true_eq] at hy
   simp only [nrF,Bool.and_eq_true,bne_iff_ne,ne_eq,List.all_eq_true,decide_eq_true_eq]
   refine ⟨fun e=>hy.2 (e ▸ uS.zero),fun j hj=>?_⟩
   rw [lH] at hj
   exact ⟨hj.1,fun hr=>hy.2 (uS.step hr hj.2)⟩) n (by simp;exact ⟨hn,hc⟩)
  rw [this] at h;cases h
 ·intro h
  have:∀ m,uS ns m→m<ns.length→aM (gr (nrF ns) ns.length) m=false:=by
   intro m hm
   induction hm with
   | zero=>intro h0;rw [hG.fix 0 h0];simp [nrF]
   | step hr ha ih =>
    rename_i a b
    intro hb
    rw [hG.fix _ hb]
    have hlt:=OI ha
    simp only [nrF,Bool.and_eq_false_iff]
    right
    rw [List.all_eq_false]
    exact ⟨_,lH.2 ⟨hlt,ha⟩,by rw [ih hlt];simp⟩
  rw [this n h hn];rfl
def nd (ns:List Nd) (n:Nat):Nd:=ns.getD n ⟨0,0,0,0,0,0⟩
theorem jF {ns:List Nd} {n:Nat} {x:Nd} (h:ns[n]?=some x):nd ns n=x:=by simp [nd,h]
theorem eU {ns:List Nd} {n:Nat} (h:n<ns.length):ns[n]?=some (nd ns n):=by simp [nd,h]
def bI (x:List Bool) (k:Nat):List Nat:=(List.range k).filter (aM x)
theorem gM {x:List Bool} {k:Nat} (h:aM x k=true):bI x (k+1)=bI x k++[k]:=by
 simp [bI,List.range_succ,List.filter_append,h]
theorem nK {x:List Bool} {k:Nat} (h:aM x k=false):bI x (k+1)=bI x k:=by
 simp [bI,List.range_succ,List.filter_append,h]
theorem mX (x:List Bool) (k:Nat):(bI x k).length≤k :=
 Nat.le_trans (List.length_filter_le _ _) aQ
def bL (x:List Bool) (j:Nat):Nat:=if aM x j then (bI x j).length else 0
def sG (x:List Bool) (k j:Nat):Nat:=if j<k then bL x j else 0
def ren (x:List Bool) (m:Nd):Nd:={ m with t:=(bL x m.t.toNat:Nat),e:=(bL x m.e.toNat:Nat) }
def cB (ns:List Nd):List Nd:=(bI (bA ns) ns.length).map fun n=>ren (bA ns) (nd ns n)
def jI (x:Nd):List Int :=
 if x.op=11 then if x.e=x.t then [x.t] else [x.t,x.e]
 else if wi x.op 0 11 then [x.t] else []
def oV (x:Nd) (fr to:Int):Nd:={ x with t:=if x.t=fr then to else x.t,e:=if x.e=fr then to else x.e }
def eB (ns:List Nd) (n:Nat) (out:List Nd) (m:Int):List Nd :=
 if 1<(gJ ns m.toNat).length then out.set n (oV (nd out n) m out.length)++[⟨0,0,0,0,m,0⟩] else out
def IY (ns:List Nd) (out:List Nd) (n:Nat):List Nd :=
 if (nd ns n).op=0 then out else (jI (nd ns n)).foldl (eB ns n) out
def dE (ns:List Nd) (k:Nat):List Nd:=(List.range k).foldl (IY ns) ns
theorem jS (ns:List Nd) (k:Nat):dE ns (k+1)=IY ns (dE ns k) k:=by
 simp [dE,List.range_succ,List.foldl_append]
def splitN (ns:List Nd):List Nd:=dE ns ns.length
theorem aZO {ns:List Nd} {s:St} (h:ns[s.pc]?=none):∀ n,runN ns n s=s
 | 0=>rfl
 | n+1=>by simp [runN,h]
theorem zI:∀ (n:Nat) (l:List Nat),l.Nodup→(∀ x∈l,x<n)→l.length≤n
 | 0,l,_,h=>by
  cases l with
  | nil=>simp
  | cons a l=>exact absurd (h a aQ) aF
 | n+1,l,hd,h=>by
  have h1:=zI n (l.erase n) (hd.erase n) (fun x hx=>by
   have h2:=h x (List.mem_of_mem_erase hx)
   have h3:x≠n:=fun e=>by
    subst e
    exact (List.Nodup.not_mem_erase hd) hx
   omega)
  have:=List.length_erase (a:=n) (l:=l)
  split at this <;> omega
structure Full (r:Int) (len:Nat) (x:Nd):Prop where
 op:0≤x.op∧x.op≤12
 d:1≤x.op→x.op≤9→0≤x.d∧x.d<r
 d0:¬ (1≤x.op∧x.op≤9)→x.d=0
 a:x.op≠0→x.op≠1→x.op≠9→0≤x.a∧x.a<r
 a0:x.op=0∨x.op=9→x.a=0
 b:3≤x.op→x.op≤8→0≤x.b∧x.b<r
 b0:¬ (3≤x.op∧x.op≤8)→x.b=0
 t:x.op≠12→1≤x.t∧x.t<len
 t0:x.op=12→x.t=0
 e:x.op=11→1≤x.e∧x.e<len
 e0:x.op≠11→x.e=0
theorem full_of {r:Int} {len:Nat} {x:Nd} (hk:kn x.op=true) (hi:aX (mG r len) x=true) (hn:aX nH x=true):Full r len x:=by
 have hop:=aY.1 hk
 simp only [aX,IX,List.all_cons,List.all_nil,Bool.and_true,Bool.and_eq_true] at hi hn
 obtain ⟨q0,q1,q2,q3,q4⟩:=hi
 obtain ⟨n0,n1,n2,n3,n4⟩:=hn
 refine ⟨hop,fun a b=>?_,fun h=>?_,fun a b c=>?_,fun h=>?_,fun a b=>?_,fun h=>?_,fun h=>?_,fun h=>?_,fun h=>?_,fun h=>?_⟩
 ·simp only [k0,dP a b,if_true,mG] at q0
  have:=aY.1 q0;omega
 ·have e:wi x.op 1 9=false:=eT aF
  simpa [k0,e,nH] using n0
 ·have e:(wi x.op 2 8||wi x.op 10 12)=true:=by
   rw [Bool.or_eq_true,aY,aY];omega
  simp only [k1,if_neg b,e,if_true,mG] at q1
  have:=aY.1 q1;omega
 ·have e1:wi x.op 2 8=false:=eT aF
  have e2:wi x.op 10 12=false:=eT aF
  have e3:x.op≠1:=by omega
  simpa [k1,e1,e2,e3,nH] using n1
 ·simp only [k2,dP a b,if_true,mG] at q2
  have:=aY.1 q2;omega
 ·have e:wi x.op 3 8=false:=eT aF
  simpa [k2,e,nH] using n2
 ·rw [CE hk,if_neg h] at q3
  simp only [mG] at q3
  have:=aY.1 q3;omega
 ·rw [CE hk,if_pos h] at n3
  simpa [nH] using n3
 ·simp only [k4,if_pos h,mG] at q4
  have:=aY.1 q4;omega
 ·simpa [k4,h,nH] using n4
theorem Full.ok {r:Int} {len:Nat} {x:Nd} (h:Full r len x):kn x.op=true∧aX (mG r len) x=true∧aX nH x=true:=by
 obtain ⟨hop,hd,hd0,ha,ha0,hb,hb0,ht,ht0,he,he0⟩:=h
 have hk:kn x.op=true:=dP hop.1 hop.2
 have K3:=CE hk
 refine ⟨hk,?_,?_⟩
 ·simp only [aX,IX,List.all_cons,List.all_nil,Bool.and_true,Bool.and_eq_true]
  refine ⟨?_,?_,?_,?_,?_⟩
  ·by_cases c:1≤x.op∧x.op≤9
   ·have:=hd c.1 c.2
    simp only [k0,dP c.1 c.2,if_true,mG];exact dP aF aF
   ·have e:wi x.op 1 9=false:=eT aF
    simp [k0,e,mG]
  ·by_cases c1:x.op=1
   ·simp [k1,c1,mG]
   ·cases e:(wi x.op 2 8||wi x.op 10 12)
    ·simp [k1,c1,e,mG]
    ·rw [Bool.or_eq_true,aY,aY] at e
     have:=ha aF c1 aF
     have e' :(wi x.op 2 8||wi x.op 10 12)=true:=by rw [Bool.or_eq_true,aY,aY];exact e
     simp only [k1,if_neg c1,e', if_true,mG];exact dP aF aF
  ·by_cases c:3≤x.op∧x.op≤8
   ·have:=hb c.1 c.2
    simp only [k2,dP c.1 c.2,if_true,mG];exact dP aF aF
   ·have e:wi x.op 3 8=false:=eT aF
    simp [k2,e,mG]
  ·rw [K3]
   by_cases c:x.op=12
   ·simp [c,mG]
   ·have:=ht c
    rw [if_neg c]
    simp only [mG]
    exact dP aF aF
  ·by_cases c:x.op=11
   ·have:=he c
    simp only [k4,if_pos c,mG];exact dP aF aF
   ·simp [k4,c,mG]
 ·simp only [aX,IX,List.all_cons,List.all_nil,Bool.and_true,Bool.and_eq_true]
  refine ⟨?_,?_,?_,?_,?_⟩
  ·by_cases c:1≤x.op∧x.op≤9
   ·simp [k0,dP c.1 c.2,nH]
   ·simp [nH,hd0 c]
  ·by_cases c:x.op=0∨x.op=9
   ·simp [nH,ha0 c]
   ·by_cases c1:x.op=1
    ·simp [k1,c1,nH]
    ·have e' :(wi x.op 2 8||wi x.op 10 12)=true:=by rw [Bool.or_eq_true,aY,aY];omega
     simp [k1,c1,e', nH]
  ·by_cases c:3≤x.op∧x.op≤8
   ·simp [k2,dP c.1 c.2,nH]
   ·simp [nH,hb0 c]
  ·rw [K3]
   by_cases c:x.op=12
   ·simp [nH,ht0 c]
   ·simp [c,nH]
  ·by_cases c:x.op=11
   ·simp [k4,c,nH]
   ·simp [nH,he0 c]
theorem bE {r:Int} {ns:List Nd} (h:bM r ns=0):(1≤ns.length∧ns.length≤256)∧(1≤r∧r≤64)∧∀ x∈ns,Full r ns.length x:=by
 obtain ⟨h1,h2,h3,h4,h5⟩:=bB h
 exact ⟨h1,h2,fun x hx=>full_of (h3 x hx) (h4 x hx) (h5 x hx)⟩
theorem OJ {r:Int} {ns:List Nd} (h1:1≤ns.length∧ns.length≤256) (h2:1≤r∧r≤64) (h3:∀ x∈ns,Full r ns.length x):bM r ns=0:=by
 unfold bM
 have e1:(wi ns.length 1 256&&wi r 1 64)=true:=by
  rw [Bool.and_eq_true];exact ⟨dP aF aF,dP h2.1 h2.2⟩
 have e2:ns.all (fun x=>kn x.op)=true:=List.all_eq_true.2 fun x hx=>(h3 x hx).ok.1
 have e3:ns.all (aX (mG r ns.length))=true:=List.all_eq_true.2 fun x hx=>(h3 x hx).ok.2.1
 have e4:ns.all (aX nH)=true:=List.all_eq_true.2 fun x hx=>(h3 x hx).ok.2.2
 rw [if_pos e1,if_pos e2,if_pos e3,if_pos e4]
theorem dJ {r:Int} {ns:List Nd} (h:bM r ns=0) {n:Nat} (hn:n<ns.length):Full r ns.length (nd ns n) :=
 (bE h).2.2 _ (List.mem_of_getElem? (eU hn))
theorem yC {x:List Bool} {j:Nat} (hj:aM x j=true):∀ {k:Nat},j<k→(bI x k)[(bI x j).length]?=some j
 | 0,h=>by omega
 | k+1,h=>by
  by_cases e:j=k
  ·subst e;rw [gM hj];simp
  ·have ih:=yC hj (k:=k) aF
   cases hb:aM x k
   ·rw [nK hb];exact ih
   ·rw [gM hb,List.getElem?_append_left (List.getElem?_eq_some_iff.1 ih).1];exact ih
theorem yD {x:List Bool} {k j:Nat}:j∈bI x k↔j<k∧aM x j=true:=by simp [bI]
theorem SQ {x:List Bool} {j k:Nat} (hj:aM x j=true) (h:j<k):(bI x j).length<(bI x k).length:=(List.getElem?_eq_some_iff.1 (yC hj h)).1
theorem uB {ns:List Nd} {n:Nat} (hn:n<ns.length):aM (bA ns) n=true↔uS ns n:=(CP ns).iff n hn
theorem SS {ns:List Nd} (h:0<ns.length):aM (bA ns) 0=true:=(uB h).2 uS.zero
theorem mY (x:List Bool):bL x 0=0:=by unfold bL;split <;> simp [bI]
theorem SV {ns:List Nd} {n:Nat} (hn:n<ns.length) (h:(nd ns n).op≠12) {m:Nat} (hm:(nd ns n).t=m):mF ns m n=true:=by
 rw [nG (eU hn)];simp [tY,h,hm]
theorem SX {ns:List Nd} {n:Nat} (hn:n<ns.length) (h:(nd ns n).op=11) {m:Nat} (hm:(nd ns n).e=m):mF ns m n=true:=by
 rw [nG (eU hn)];simp [tY,h,hm]
theorem aKC {r:Int} {ns:List Nd} (hc:bM r ns=0) {n:Nat} (hn:n<ns.length) (hr:aM (bA ns) n=true) (h:(nd ns n).op≠12):(nd ns n).t.toNat<ns.length∧aM (bA ns) (nd ns n).t.toNat=true:=by
 have ht:=(dJ hc hn).t h
 have hlt:(nd ns n).t.toNat<ns.length:=by omega
 exact ⟨hlt,(uB hlt).2 (uS.step ((uB hn).1 hr) (SV hn h aF))⟩
theorem aKD {r:Int} {ns:List Nd} (hc:bM r ns=0) {n:Nat} (hn:n<ns.length) (hr:aM (bA ns) n=true) (h:(nd ns n).op=11):(nd ns n).e.toNat<ns.length∧aM (bA ns) (nd ns n).e.toNat=true:=by
 have ht:=(dJ hc hn).e h
 have hlt:(nd ns n).e.toNat<ns.length:=by omega
 exact ⟨hlt,(uB hlt).2 (uS.step ((uB hn).1 hr) (SX hn h aF))⟩
theorem JR {ns:List Nd} {j:Nat} (hj:j<ns.length) (hr:aM (bA ns) j=true):(cB ns)[bL (bA ns) j]?=some (ren (bA ns) (nd ns j)):=by
 simp only [cB,bL,hr,if_true,List.getElem?_map,yC hr hj,Option.map_some]
theorem JS (ns:List Nd):(cB ns).length=(bI (bA ns) ns.length).length:=by simp [cB]
theorem OL {ns:List Nd} {j:Nat} (hj:j<ns.length) (hr:aM (bA ns) j=true):bL (bA ns) j<(cB ns).length:=(List.getElem?_eq_some_iff.1 (JR hj hr)).1
theorem JU {ns:List Nd} (h:0<ns.length):0<(cB ns).length:=by
 have:=OL h (SS h);rw [mY] at this;exact this
theorem SY {ns:List Nd} {j:Nat} (hj:j<ns.length) (h0:0<j) (hr:aM (bA ns) j=true):0<bL (bA ns) j:=by
 simp only [bL,hr,if_true]
 exact Nat.lt_of_le_of_lt (Nat.zero_le _) (SQ (SS aF) h0)
theorem aKE {r:Int} {ns:List Nd} (hc:bM r ns=0) {n:Nat} (hn:n<ns.length) (hr:aM (bA ns) n=true):Full r (cB ns).length (ren (bA ns) (nd ns n)):=by
 have h:=dJ hc hn
 refine ⟨h.op,h.d,h.d0,h.a,h.a0,h.b,h.b0,fun h12=>?_,fun h12=>?_,fun h11=>?_,fun h11=>?_⟩
 ·obtain ⟨a1,a2⟩:=aKC hc hn hr h12
  have ht:=h.t h12
  have p:=SY a1 aF a2
  have q:=OL a1 a2
  simp only [ren];omega
 ·have:=h.t0 h12
  simp [ren,this,mY]
 ·obtain ⟨a1,a2⟩:=aKD hc hn hr h11
  have ht:=h.e h11
  have p:=SY a1 aF a2
  have q:=OL a1 a2
  simp only [ren];omega
 ·have:=h.e0 h11
  simp [ren,this,mY]
theorem JV {ns:List Nd} {y:Nd} (h:y∈cB ns):∃ n,n<ns.length∧aM (bA ns) n=true∧y=ren (bA ns) (nd ns n):=by
 simp only [cB,List.mem_map] at h
 obtain ⟨n,hn,rfl⟩:=h
 rw [yD] at hn
 exact ⟨n,hn.1,hn.2,rfl⟩
theorem fC {r:Int} {ns:List Nd} (hc:bM r ns=0):bM r (cB ns)=0:=by
 have h:=bE hc
 have h0:0<(cB ns).length:=JU aF
 have h1:(cB ns).length≤ns.length:=by rw [JS];exact mX _ _
 refine OJ ⟨aF,aF⟩ h.2.1 fun y hy=>?_
 obtain ⟨n,hn,hr,rfl⟩:=JV hy
 exact aKE hc hn hr
theorem a0Y {r:Int} {ns:List Nd} (hc:bM r ns=0) {n:Nat} (h:uS ns n):n<ns.length∧uS (cB ns) (bL (bA ns) n):=by
 induction h with
 | zero=>exact ⟨(bE hc).1.1,by rw [mY];exact uS.zero⟩
 | step hr ha ih =>
  rename_i a b
  obtain ⟨hlt,ih⟩:=ih
  have hra:aM (bA ns) a=true:=(uB hlt).2 hr
  have hF:=dJ hc hlt
  have hb:b<ns.length:=by
   rw [nG (eU hlt)] at ha
   simp only [tY,Bool.or_eq_true,Bool.and_eq_true,bne_iff_ne,beq_iff_eq] at ha
   rcases ha with ⟨h1,h2⟩ | ⟨h1,h2⟩
   ·have:=hF.t h1;omega
   ·have:=hF.e h1;omega
  refine ⟨hb,uS.step ih ?_⟩
  rw [nG (eU hlt)] at ha
  rw [nG (JR hlt hra)]
  simp only [tY,Bool.or_eq_true,Bool.and_eq_true,bne_iff_ne,beq_iff_eq,ren] at ha ⊢
  rcases ha with ⟨h1,h2⟩ | ⟨h1,h2⟩
  ·left;exact ⟨h1,by rw [h2];simp⟩
  ·right;exact ⟨h1,by rw [h2];simp⟩
theorem aRF {x:Nd} (hk:kn x.op=true) (m:Nat):(m:Int)∈jI x↔tY x m=true:=by
 have hop:=aY.1 hk
 unfold jI tY
 by_cases h11:x.op=11
 ·rw [if_pos h11]
  by_cases he:x.e=x.t
  ·rw [if_pos he];simp [h11,he];omega
  ·rw [if_neg he];simp [h11];omega
 ·rw [if_neg h11]
  by_cases h12:x.op=12
  ·have e:wi x.op 0 11=false:=eT aF
   rw [e];simp [h12]
  ·rw [dP aF aF,if_pos rfl];simp [h11,h12];omega
theorem aCY {r:Int} {ns:List Nd} (hc:bM r ns=0) {n:Nat} (hn:n<ns.length) (m:Nat):(m:Int)∈jI (nd ns n)↔mF ns m n=true:=by
 rw [aRF ((dJ hc hn).ok.1),nG (eU hn)]
structure OM (ns:List Nd) (x:List Bool) (cs:List Int) (i:Nat) (pre:List Int):Prop where
 len:x.length=ns.length
 mem:∀ m:Nat,m<ns.length→(aM x m=true↔(m:Int)∈cs)
 rng:∀ c∈cs,0≤c∧c<ns.length
 nodup:cs.Nodup
 rch:∀ m:Nat,(m:Int)∈cs→uS ns m
 done:∀ (j:Nat) (c:Int),j<i→cs[j]?=some c→∀ e∈jI (nd ns c.toNat),e∈cs
 part:∀ e∈pre,e∈cs
 zero:0∈cs
theorem OM.start {ns:List Nd} (h:0<ns.length):OM ns ((List.replicate ns.length false).set 0 true) [0] 0 []:=by
 refine ⟨aQ,fun m hm=>?_,by simp;omega,aQ,fun m hm=>?_,fun j c hj=>by omega,aQ,aQ⟩
 ·rw [dR (by simpa using h)]
  by_cases e:m=0
  ·subst e;simp
  ·simp only [e,if_false]
   simp [aM,hm]
   omega
 ·simp at hm;subst hm;exact uS.zero
theorem OM.aKF {ns:List Nd} {x:List Bool} {cs:List Int} {i:Nat} {pre:List Int} (h:OM ns x cs i pre):cs.length≤ns.length:=by
 have:=zI ns.length (cs.map Int.toNat) (by
  refine List.Pairwise.map _ (S:=fun a b=>a≠b) ?_ (List.Pairwise.and_mem.1 h.nodup)
  rintro a b ⟨ha,hb,hab⟩ e
  have h1:=h.rng a ha
  have h2:=h.rng b hb
  exact hab aF) (fun y hy=>by
  obtain ⟨c,hc,rfl⟩:=List.mem_map.1 hy
  have:=h.rng c hc;omega)
 simpa using this
theorem OM.hit {ns:List Nd} {x:List Bool} {cs:List Int} {i:Nat} {pre:List Int} (h:OM ns x cs i pre) {m:Nat} (hm:m<ns.length) (hx:aM x m=true):OM ns x cs i (pre++[(m:Int)]) :=
 ⟨h.len,h.mem,h.rng,h.nodup,h.rch,h.done,fun e he=>(by
  rcases List.mem_append.1 he with he | he
  ·exact h.part e he
  ·simp at he;subst he;exact (h.mem m hm).1 hx),h.zero⟩
theorem OM.new {r:Int} {ns:List Nd} (hc:bM r ns=0) {x:List Bool} {cs:List Int} {i:Nat} {pre:List Int} (h:OM ns x cs i pre) {m:Nat} (hm:m<ns.length) (hx:aM x m=false) {c:Int} (hci:cs[i]?=some c) (he:(m:Int)∈jI (nd ns c.toNat)):OM ns (x.set m true) (cs++[(m:Int)]) i (pre++[(m:Int)]):=by
 have hnm:(m:Int)∉cs:=fun q=>by
  have:=(h.mem m hm).2 q;rw [hx] at this;cases this
 have hcm:=List.mem_of_getElem? hci
 have hcr:=h.rng c hcm
 refine ⟨by simp [h.len],fun j hj=>?_,fun c' hc' =>?_,?_,fun j hj=>?_,fun j c' hj hjc e hee=>?_,fun e hee=>?_,by simp [h.zero]⟩
 ·rw [dR (by rw [h.len];exact hm)]
  by_cases q:j=m
  ·subst q;simp
  ·simp only [q,if_false,List.mem_append,List.mem_singleton]
   rw [h.mem j hj]
   constructor
   ·exact Or.inl
   ·rintro (h1 | h1)
    ·exact h1
    ·omega
 ·rcases List.mem_append.1 hc' with hc' | hc'
  ·exact h.rng c' hc'
  ·simp at hc'; omega
 ·rw [List.nodup_append]
  refine ⟨h.nodup,aQ,fun a ha b hb=>?_⟩
  simp at hb;subst hb;exact fun q=>hnm (q ▸ ha)
 ·rcases List.mem_append.1 hj with hj | hj
  ·exact h.rch j hj
  ·simp at hj
   have e1:j=m:=by omega
   subst e1
   have hlt:c.toNat<ns.length:=by omega
   exact uS.step (h.rch c.toNat (by rw [Int.toNat_of_nonneg hcr.1];exact hcm)) ((aCY hc hlt j).1 he)
 ·have hi:i<cs.length:=(List.getElem?_eq_some_iff.1 hci).1
  rw [List.getElem?_append_left aF] at hjc
  exact List.mem_append_left _ (h.done j c' hj hjc e hee)
 ·rcases List.mem_append.1 hee with hee | hee
  ·exact List.mem_append_left _ (h.part e hee)
  ·exact List.mem_append_right _ hee
theorem OM.next {ns:List Nd} {x:List Bool} {cs:List Int} {i:Nat} {c:Int} (h:OM ns x cs i (jI (nd ns c.toNat))) (hci:cs[i]?=some c):OM ns x cs (i+1) [] :=
 ⟨h.len,h.mem,h.rng,h.nodup,h.rch,fun j c' hj hjc e hee=>(by
  by_cases q:j=i
  ·subst q
   rw [hci] at hjc;cases hjc
   exact h.part e hee
  ·exact h.done j c' aF hjc e hee),aQ,h.zero⟩
theorem OM.fin {r:Int} {ns:List Nd} (hc:bM r ns=0) {x:List Bool} {cs:List Int} (h:OM ns x cs cs.length []):x=bA ns:=by
 refine IsR.uniq ⟨h.len,fun n hn=>?_⟩ (CP ns)
 rw [h.mem n hn]
 refine ⟨h.rch n,fun hr=>?_⟩
 have key:∀ m,uS ns m→(m:Int)∈cs:=by
  intro m hm
  induction hm with
  | zero=>exact h.zero
  | step hr ha ih =>
   rename_i a b
   obtain ⟨j,hj⟩:=List.getElem?_of_mem ih
   have hlt:=(List.getElem?_eq_some_iff.1 hj).1
   refine h.done j a hlt hj b ?_
   have hal:a<ns.length:=OI ha
   rw [Int.toNat_natCast,aCY hc hal]
   exact ha
 exact key n hr
def iN (ns:List Nd) (x:List Bool) (n:Nat):List Bool:=if aM x n&&(nd ns n).op != 12 then x.set (nd ns n).t.toNat true else x
def mH (ns:List Nd) (x:List Bool) (n:Nat):List Bool:=if aM x n&&(nd ns n).op==11 then x.set (nd ns n).e.toNat true else x
def mark (ns:List Nd) (x:List Bool) (n:Nat):List Bool:=mH ns (iN ns x n) n
def iK (ns:List Nd) (x:List Bool):Nat→List Bool
 | 0=>x
 | n+1=>mark ns (iK ns x n) n
def fK (ns:List Nd):Nat→List Bool
 | 0=>(List.replicate ns.length false).set 0 true
 | n+1=>iK ns (fK ns n) ns.length
theorem aKG (ns:List Nd) (x:List Bool) (n:Nat):(mark ns x n).length=x.length:=by
 unfold mark mH iN;repeat' split
 all_goals simp
theorem nL (ns:List Nd) (x:List Bool):∀ n,(iK ns x n).length=x.length
 | 0=>rfl
 | n+1=>by simp only [iK];rw [aKG,nL ns x n]
theorem iZ (ns:List Nd):∀ n,(fK ns n).length=ns.length
 | 0=>by simp [fK]
 | n+1=>by simp only [fK];rw [nL,iZ ns n]
theorem CQ {x:List Bool} {i:Nat} (h:i<x.length):x.set i true=x∨dU x<dU (x.set i true):=by
 cases e:aM x i
 ·right
  have h1:=pK (x:=x.set i true) (n:=i) (by simpa using h) (by rw [dR h];simp)
  rw [List.set_set,pM h e] at h1
  omega
 ·exact Or.inl (pM h e)
theorem aKH {r:Int} {ns:List Nd} (hc:bM r ns=0) {x:List Bool} (hl:x.length=ns.length) {n:Nat} (hn:n<ns.length):iN ns x n=x∨dU x<dU (iN ns x n):=by
 unfold iN
 split
 ·rename_i h
  rw [Bool.and_eq_true,bne_iff_ne] at h
  have:=(dJ hc hn).t h.2
  exact CQ aF
 ·exact Or.inl rfl
theorem TR {r:Int} {ns:List Nd} (hc:bM r ns=0) {x:List Bool} (hl:x.length=ns.length) {n:Nat} (hn:n<ns.length):mH ns x n=x∨dU x<dU (mH ns x n):=by
 unfold mH
 split
 ·rename_i h
  rw [Bool.and_eq_true,beq_iff_eq] at h
  have:=(dJ hc hn).e h.2
  exact CQ aF
 ·exact Or.inl rfl
theorem JW (ns:List Nd) (x:List Bool) (n:Nat):(iN ns x n).length=x.length:=by
 unfold iN;split <;> simp
theorem aCZ {r:Int} {ns:List Nd} (hc:bM r ns=0) {x:List Bool} (hl:x.length=ns.length) {n:Nat} (hn:n<ns.length):(mark ns x n=x∧iN ns x n=x∧mH ns x n=x)∨dU x<dU (mark ns x n):=by
 unfold mark
 rcases aKH hc hl hn with h1 | h1
 ·rw [h1]
  rcases TR hc hl hn with h2 | h2
  ·exact Or.inl ⟨h2,rfl,h2⟩
  ·exact Or.inr h2
 ·right
  rcases TR hc (x:=iN ns x n) (by rw [JW];exact hl) hn with h2 | h2
  ·rw [h2];exact h1
  ·omega
theorem JX {r:Int} {ns:List Nd} (hc:bM r ns=0) {x:List Bool} (hl:x.length=ns.length):∀ n,n≤ns.length→(iK ns x n=x∧∀ m,m<n→iN ns x m=x∧mH ns x m=x)∨dU x<dU (iK ns x n)
 | 0,_=>Or.inl ⟨rfl,fun m hm=>by omega⟩
 | n+1,hn=>by
  simp only [iK]
  rcases JX hc hl n aF with ⟨h1,h2⟩ | h1
  ·rw [h1]
   rcases aCZ hc hl (n:=n) aF with ⟨h3,h4⟩ | h3
   ·left
    refine ⟨h3,fun m hm=>?_⟩
    by_cases e:m=n
    ·subst e;exact h4
    ·exact h2 m aF
   ·exact Or.inr h3
  ·right
   rcases aCZ hc (x:=iK ns x n) (by rw [nL];exact hl) (n:=n) aF with ⟨h3,_⟩ | h3
   ·rw [h3];exact h1
   ·omega
theorem aDA {ns:List Nd} {x:List Bool} {i:Nat} (hi:i<x.length) (h:∀ m,aM x m=true→uS ns m) (hr:uS ns i):∀ m,aM (x.set i true) m=true→uS ns m:=by
 intro m hm
 rw [dR hi] at hm
 split at hm
 ·rename_i e;subst e;exact hr
 ·exact h m hm
theorem aKI {r:Int} {ns:List Nd} (hc:bM r ns=0) {x:List Bool} (hl:x.length=ns.length) {n:Nat} (hn:n<ns.length) (h:∀ m,aM x m=true→uS ns m):∀ m,aM (mark ns x n) m=true→uS ns m:=by
 have h1:∀ m,aM (iN ns x n) m=true→uS ns m:=by
  unfold iN
  split
  ·rename_i q
   rw [Bool.and_eq_true,bne_iff_ne] at q
   have:=(dJ hc hn).t q.2
   exact aDA aF h (uS.step (h n q.1) (SV hn q.2 aF))
  ·exact h
 have hl1:(iN ns x n).length=ns.length:=by rw [JW];exact hl
 unfold mark
 generalize iN ns x n=y at h1 hl1
 unfold mH
 split
 ·rename_i q
  rw [Bool.and_eq_true,beq_iff_eq] at q
  have:=(dJ hc hn).e q.2
  exact aDA aF h1 (uS.step (h1 n q.1) (SX hn q.2 aF))
 ·exact h1
theorem CR {r:Int} {ns:List Nd} (hc:bM r ns=0) {x:List Bool} (hl:x.length=ns.length) (h:∀ m,aM x m=true→uS ns m):∀ n,n≤ns.length→∀ m,aM (iK ns x n) m=true→uS ns m
 | 0,_=>h
 | n+1,hn=>aKI hc (by rw [nL];exact hl) aF (CR hc hl h n aF)
theorem JY {k:Nat} (h:0<k):aM ((List.replicate k false).set 0 true) 0=true:=by rw [dR (by simpa using h)];simp
theorem JZ {r:Int} {ns:List Nd} (hc:bM r ns=0):∀ n,∀ m,aM (fK ns n) m=true→uS ns m
 | 0=>fun m hm=>by
  simp only [fK] at hm
  rw [dR (by have:=(bE hc).1.1;rw [List.length_replicate];omega)] at hm
  split at hm
  ·rename_i e;subst e;exact uS.zero
  ·rw [show aM (List.replicate ns.length false) m=false by
    by_cases q:m<ns.length <;> simp [aM,q]] at hm
   cases hm
 | n+1=>CR hc (iZ ns n) (JZ hc n) ns.length dD
theorem aFL {x:List Bool} {i:Nat} (h:aM x i=true) (hi:i<x.length):1≤dU x:=by
 have:=pK hi h;omega
theorem TT {r:Int} {ns:List Nd} (hc:bM r ns=0):∀ n,(∀ m,m<ns.length→iN ns (fK ns n) m=fK ns n∧mH ns (fK ns n) m=fK ns n)∨n+1≤dU (fK ns n)
 | 0=>Or.inr (by
  have h:=(bE hc).1.1
  exact aFL (JY aF) (by rw [iZ];omega))
 | n+1=>by
  simp only [fK]
  rcases JX hc (iZ ns n) ns.length dD with ⟨h1,h2⟩ | h1
  ·left;rw [h1];exact h2
  ·rcases TT hc n with h2 | h2
   ·exfalso
    have:∀ k,k≤ns.length→iK ns (fK ns n) k=fK ns n:=by
     intro k
     induction k with
     | zero=>intro _;rfl
     | succ k ih =>
      intro hk
      simp only [iK]
      rw [ih aF]
      unfold mark
      rw [(h2 k aF).1,(h2 k aF).2]
    rw [this _ dD] at h1;omega
   ·right;omega
theorem ZX {ns:List Nd} {x:List Bool} {n j:Nat} (h:aM x j=true):aM (mark ns x n) j=true:=by
 have key:∀ (y:List Bool) (i:Nat),aM y j=true→aM (y.set i true) j=true:=by
  intro y i hy
  by_cases hi:i<y.length
  ·rw [dR hi];split
   ·rfl
   ·exact hy
  ·rw [List.set_eq_of_length_le aF];exact hy
 unfold mark mH iN
 repeat' split
 all_goals first | exact h | exact key _ _ h | exact key _ _ (key _ _ h)
theorem wI {ns:List Nd} {x:List Bool} {j:Nat} (h:aM x j=true):∀ n,aM (iK ns x n) j=true
 | 0=>h
 | n+1=>ZX (wI h n)
theorem CS {ns:List Nd} (h:0<ns.length):∀ n,aM (fK ns n) 0=true
 | 0=>JY h
 | n+1=>wI (CS h n) _
theorem ZY {r:Int} {ns:List Nd} (hc:bM r ns=0):fK ns ns.length=bA ns:=by
 refine IsR.uniq ⟨iZ ns _,fun n hn=>⟨JZ hc _ n,fun hr=>?_⟩⟩ (CP ns)
 have hcl:∀ m,m<ns.length→iN ns (fK ns ns.length) m=fK ns ns.length∧mH ns (fK ns ns.length) m=fK ns ns.length:=by
  rcases TT hc ns.length with h | h
  ·exact h
  ·have:=wE (fK ns ns.length);rw [iZ] at this;omega
 have h0:aM (fK ns ns.length) 0=true:=CS aF _
 have hlen:=iZ ns ns.length
 generalize fK ns ns.length=x at hcl h0 hlen
 have key:∀ m,uS ns m→aM x m=true:=by
  intro m hm
  induction hm with
  | zero=>exact h0
  | step hr ha ih =>
   rename_i a b
   have hal:=OI ha
   obtain ⟨k1,k2⟩:=hcl a hal
   rw [nG (eU hal)] at ha
   have hF:=dJ hc hal
   simp only [tY,Bool.or_eq_true,Bool.and_eq_true,bne_iff_ne,beq_iff_eq] at ha
   rcases ha with ⟨q1,q2⟩ | ⟨q1,q2⟩
   ·have ht:=hF.t q1
    unfold iN at k1
    rw [if_pos (by rw [Bool.and_eq_true,bne_iff_ne];exact ⟨ih,q1⟩)] at k1
    have h3:=congrArg (fun l=>aM l b) k1
    rw [dR aF,if_pos aF] at h3
    exact h3.symm
   ·have ht:=hF.e q1
    unfold mH at k2
    rw [if_pos (by rw [Bool.and_eq_true,beq_iff_eq];exact ⟨ih,q1⟩)] at k2
    have h3:=congrArg (fun l=>aM l b) k2
    rw [dR aF,if_pos aF] at h3
    exact h3.symm
 exact key n hr
def gX (m:Int):Nd:=⟨0,0,0,0,m,0⟩
def many (ns:List Nd) (m:Int):Prop:=1<(gJ ns m.toNat).length
theorem ZZ {l:List Nd} {n:Nat} (x:Nd) (h:n<l.length) (j:Nat):nd (l.set n x) j=if j=n then x else nd l j:=by
 simp only [nd,List.getD_eq_getElem?_getD,List.getElem?_set]
 by_cases e:n=j
 ·subst e;simp [h]
 ·simp [e,Ne.symm e]
theorem oI {l m:List Nd} {j:Nat} (h:j<l.length):nd (l++m) j=nd l j:=by
 simp only [nd,List.getD_eq_getElem?_getD];rw [List.getElem?_append_left h]
theorem zJ (l:List Nd) (x:Nd):nd (l++[x]) l.length=x:=by simp [nd]
structure SI (ns out:List Nd) (P:Nat→Int→Prop):Prop where
 len:ns.length≤out.length
 same:∀ n,n<ns.length→(nd out n).op=(nd ns n).op∧(nd out n).d=(nd ns n).d∧(nd out n).a=(nd ns n).a∧(nd out n).b=(nd ns n).b
 t0:∀ n,n<ns.length→(¬ P n (nd ns n).t∨¬ many ns (nd ns n).t)→(nd out n).t=(nd ns n).t
 t1:∀ n,n<ns.length→P n (nd ns n).t→many ns (nd ns n).t→∃ i:Nat,ns.length≤i∧i<out.length∧(nd out n).t=i∧nd out i=gX (nd ns n).t
 e0:∀ n,n<ns.length→(¬ P n (nd ns n).e∨¬ many ns (nd ns n).e)→(nd out n).e=(nd ns n).e
 e1:∀ n,n<ns.length→P n (nd ns n).e→many ns (nd ns n).e→∃ i:Nat,ns.length≤i∧i<out.length∧(nd out n).e=i∧nd out i=gX (nd ns n).e
 new:∀ i,ns.length≤i→i<out.length→∃ n m,n<ns.length∧P n m∧many ns m∧nd out i=gX m
 uniq:∀ i n1 n2:Nat,ns.length≤i→n1<ns.length→n2<ns.length→((nd out n1).t=i∨(nd out n1).e=i)→((nd out n2).t=i∨(nd out n2).e=i)→n1=n2
theorem iR {r:Int} {len:Nat} {x:Nd} (h:Full r len x) (hl:1≤len):0≤x.t∧x.t<len∧0≤x.e∧x.e<len:=by
 have:=h.t;have:=h.t0;have:=h.e;have:=h.e0
 by_cases h12:x.op=12 <;> by_cases h11:x.op=11 <;> simp_all <;> omega
theorem SI.start {r:Int} {ns:List Nd} (hc:bM r ns=0):SI ns ns (fun _ _=>False):=by
 refine ⟨Nat.le_refl _,fun n _=>⟨rfl,rfl,rfl,rfl⟩,fun n _ _=>rfl,fun n _ h=>h.elim,fun n _ _=>rfl,fun n _ h=>h.elim,fun i h1 h2=>by omega,fun i n1 n2 hi h1 h2 q1 _=>?_⟩
 have:=iR (dJ hc h1) (bE hc).1.1
 omega
theorem SI.weak {ns out:List Nd} {P:Nat→Int→Prop} (h:SI ns out P) {n:Nat} {m:Int} (hm:¬ many ns m):SI ns out (fun i j=>P i j∨(i=n∧j=m)):=by
 refine ⟨h.len,h.same,fun j hj hp=>h.t0 j hj ?_,fun j hj hp YY=>h.t1 j hj ?_ YY,fun j hj hp=>h.e0 j hj ?_,fun j hj hp YY=>h.e1 j hj ?_ YY,fun i h1 h2=>?_,h.uniq⟩
 ·rcases hp with hp | hp
  ·exact Or.inl fun q=>hp (Or.inl q)
  ·exact Or.inr hp
 ·rcases hp with hp | ⟨_,e⟩
  ·exact hp
  ·rw [e] at YY;exact absurd YY hm
 ·rcases hp with hp | hp
  ·exact Or.inl fun q=>hp (Or.inl q)
  ·exact Or.inr hp
 ·rcases hp with hp | ⟨_,e⟩
  ·exact hp
  ·rw [e] at YY;exact absurd YY hm
 ·obtain ⟨a,b,c,d,e⟩:=h.new i h1 h2;exact ⟨a,b,c,Or.inl d,e⟩
theorem SI.grow {r:Int} {ns out:List Nd} {P:Nat→Int→Prop} (hc:bM r ns=0) (h:SI ns out P) {n:Nat} {m:Int} (hn:n<ns.length) (hm:many ns m) (hp:¬ P n m) (hb:1≤m∧m<ns.length) :
 SI ns (out.set n (oV (nd out n) m out.length)++[gX m]) (fun i j=>P i j∨(i=n∧j=m)):=by
 have hlen:=h.len
 have hno:n<out.length:=by omega
 have at0:∀ j,j<out.length→nd (out.set n (oV (nd out n) m out.length)++[gX m]) j=if j=n then oV (nd out n) m out.length else nd out j:=fun j hj=>by
  rw [oI (by simpa using hj),ZZ _ hno]
 have atn:∀ j,j<ns.length→j≠n→nd (out.set n (oV (nd out n) m out.length)++[gX m]) j=nd out j:=fun j hj e=>by rw [at0 j aF,if_neg e]
 have ato:∀ j,ns.length≤j→j<out.length→nd (out.set n (oV (nd out n) m out.length)++[gX m]) j=nd out j:=fun j h1 h2=>by rw [at0 j h2,if_neg aF]
 have atl:nd (out.set n (oV (nd out n) m out.length)++[gX m]) out.length=gX m:=by
  have:=zJ (out.set n (oV (nd out n) m out.length)) (gX m)
  rwa [List.length_set] at this
 have atN:nd (out.set n (oV (nd out n) m out.length)++[gX m]) n=oV (nd out n) m out.length:=by rw [at0 n hno,if_pos rfl]
 have hfb:=iR (dJ hc hn) (bE hc).1.1
 have hlen' :(out.set n (oV (nd out n) m out.length)++[gX m]).length=out.length+1:=by simp
 have atT:(oV (nd out n) m out.length).t=if (nd out n).t=m then (out.length:Int) else (nd out n).t:=rfl
 have atE:(oV (nd out n) m out.length).e=if (nd out n).e=m then (out.length:Int) else (nd out n).e:=rfl
 have atR:(oV (nd out n) m out.length).op=(nd out n).op∧(oV (nd out n) m out.length).d=(nd out n).d∧(oV (nd out n) m out.length).a=(nd out n).a∧(oV (nd out n) m out.length).b=(nd out n).b:=⟨rfl,rfl,rfl,rfl⟩
 clear at0
 generalize oV (nd out n) m out.length=X at *
 generalize out.set n X++[gX m]=new at *
 have ht:(nd ns n).t=m∧(nd out n).t=m∨(nd ns n).t≠m∧(nd out n).t≠m:=by
  by_cases e:(nd ns n).t=m
  ·left;exact ⟨e,by rw [h.t0 n hn (Or.inl (by rw [e];exact hp)),e]⟩
  ·right
   refine ⟨e,fun q=>?_⟩
   by_cases hP:P n (nd ns n).t∧many ns (nd ns n).t
   ·obtain ⟨i,i1,i2,i3,_⟩:=h.t1 n hn hP.1 hP.2;omega
   ·have:=h.t0 n hn (by by_cases a:P n (nd ns n).t
                        ·right;exact fun b=>hP ⟨a,b⟩
                        ·left;exact a)
    rw [this] at q;exact e q
 have hee:(nd ns n).e=m∧(nd out n).e=m∨(nd ns n).e≠m∧(nd out n).e≠m:=by
  by_cases e:(nd ns n).e=m
  ·left;exact ⟨e,by rw [h.e0 n hn (Or.inl (by rw [e];exact hp)),e]⟩
  ·right
   refine ⟨e,fun q=>?_⟩
   by_cases hP:P n (nd ns n).e∧many ns (nd ns n).e
   ·obtain ⟨i,i1,i2,i3,_⟩:=h.e1 n hn hP.1 hP.2;omega
   ·have:=h.e0 n hn (by by_cases a:P n (nd ns n).e
                        ·right;exact fun b=>hP ⟨a,b⟩
                        ·left;exact a)
    rw [this] at q;exact e q
 have hlt:∀ j,j<ns.length→(nd out j).t<out.length∧(nd out j).e<out.length:=by
  intro j hj
  have hfj:=iR (dJ hc hj) (bE hc).1.1
  constructor
  ·by_cases hP:P j (nd ns j).t∧many ns (nd ns j).t
   ·obtain ⟨i,i1,i2,i3,_⟩:=h.t1 j hj hP.1 hP.2;omega
   ·have:=h.t0 j hj (by by_cases a:P j (nd ns j).t
                        ·right;exact fun b=>hP ⟨a,b⟩
                        ·left;exact a)
    omega
  ·by_cases hP:P j (nd ns j).e∧many ns (nd ns j).e
   ·obtain ⟨i,i1,i2,i3,_⟩:=h.e1 j hj hP.1 hP.2;omega
   ·have:=h.e0 j hj (by by_cases a:P j (nd ns j).e
                        ·right;exact fun b=>hP ⟨a,b⟩
                        ·left;exact a)
    omega
 refine ⟨aF,fun j hj=>?_,fun j hj hq=>?_,fun j hj hq YY=>?_,fun j hj hq=>?_,fun j hj hq YY=>?_,fun i h1 h2=>?_,fun i n1 n2 hi h1 h2 q1 q2=>?_⟩
 ·by_cases e:j=n
  ·subst e;rw [atN,atR.1,atR.2.1,atR.2.2.1,atR.2.2.2];exact h.same j hj
  ·rw [atn j hj e];exact h.same j hj
 ·by_cases e:j=n
  ·subst e
   rw [atN]
   rw [atT]
   rcases ht with ⟨a,b⟩ | ⟨a,b⟩
   ·exfalso
    rcases hq with hq | hq
    ·exact hq (Or.inr ⟨rfl,a⟩)
    ·rw [a] at hq;exact hq hm
   ·rw [if_neg b]
    refine h.t0 j hj ?_
    rcases hq with hq | hq
    ·exact Or.inl fun z=>hq (Or.inl z)
    ·exact Or.inr hq
  ·rw [atn j hj e]
   refine h.t0 j hj ?_
   rcases hq with hq | hq
   ·exact Or.inl fun z=>hq (Or.inl z)
   ·exact Or.inr hq
 ·by_cases e:j=n
  ·subst e
   rw [atN]
   rw [atT]
   rcases ht with ⟨a,b⟩ | ⟨a,b⟩
   ·refine ⟨out.length,aF,aF,by rw [if_pos b],by rw [atl,a]⟩
   ·rcases hq with hq | ⟨_,hq⟩
    ·obtain ⟨i,i1,i2,i3,i4⟩:=h.t1 j hj hq YY
     exact ⟨i,i1,aF,by rw [if_neg b];exact i3,by rw [ato i i1 i2];exact i4⟩
    ·exact absurd hq a
  ·rw [atn j hj e]
   rcases hq with hq | ⟨hq,_⟩
   ·obtain ⟨i,i1,i2,i3,i4⟩:=h.t1 j hj hq YY
    exact ⟨i,i1,aF,i3,by rw [ato i i1 i2];exact i4⟩
   ·exact absurd hq e
 ·by_cases e:j=n
  ·subst e
   rw [atN]
   rw [atE]
   rcases hee with ⟨a,b⟩ | ⟨a,b⟩
   ·exfalso
    rcases hq with hq | hq
    ·exact hq (Or.inr ⟨rfl,a⟩)
    ·rw [a] at hq;exact hq hm
   ·rw [if_neg b]
    refine h.e0 j hj ?_
    rcases hq with hq | hq
    ·exact Or.inl fun z=>hq (Or.inl z)
    ·exact Or.inr hq
  ·rw [atn j hj e]
   refine h.e0 j hj ?_
   rcases hq with hq | hq
   ·exact Or.inl fun z=>hq (Or.inl z)
   ·exact Or.inr hq
 ·by_cases e:j=n
  ·subst e
   rw [atN]
   rw [atE]
   rcases hee with ⟨a,b⟩ | ⟨a,b⟩
   ·refine ⟨out.length,aF,aF,by rw [if_pos b],by rw [atl,a]⟩
   ·rcases hq with hq | ⟨_,hq⟩
    ·obtain ⟨i,i1,i2,i3,i4⟩:=h.e1 j hj hq YY
     exact ⟨i,i1,aF,by rw [if_neg b];exact i3,by rw [ato i i1 i2];exact i4⟩
    ·exact absurd hq a
  ·rw [atn j hj e]
   rcases hq with hq | ⟨hq,_⟩
   ·obtain ⟨i,i1,i2,i3,i4⟩:=h.e1 j hj hq YY
    exact ⟨i,i1,aF,i3,by rw [ato i i1 i2];exact i4⟩
   ·exact absurd hq e
 ·by_cases e:i=out.length
  ·subst e;exact ⟨n,m,hn,Or.inr ⟨rfl,rfl⟩,hm,atl⟩
  ·have h2' :i<out.length:=by omega
   obtain ⟨a,b,c,d,f,g⟩:=h.new i h1 h2'
   exact ⟨a,b,c,Or.inl d,f,by rw [ato i h1 h2'];exact g⟩
 ·
  have key:∀ j,j<ns.length→((nd new j).t=i∨(nd new j).e=i)→(i=out.length∧j=n)∨(i<out.length∧((nd out j).t=i∨(nd out j).e=i)):=by
   intro j hj hq
   have hb' :=hlt j hj
   by_cases e:j=n
   ·subst e
    rw [atN,atT,atE] at hq
    rcases hq with hq | hq
    ·split at hq
     ·left;exact ⟨aF,rfl⟩
     ·right;exact ⟨aF,Or.inl hq⟩
    ·split at hq
     ·left;exact ⟨aF,rfl⟩
     ·right;exact ⟨aF,Or.inr hq⟩
   ·rw [atn j hj e] at hq
    right
    rcases hq with hq | hq
    ·exact ⟨aF,Or.inl hq⟩
    ·exact ⟨aF,Or.inr hq⟩
  rcases key n1 h1 q1 with ⟨a,b⟩ | ⟨a,b⟩ <;> rcases key n2 h2 q2 with ⟨c,d⟩ | ⟨c,d⟩
  ·rw [b,d]
  ·omega
  ·omega
  ·exact h.uniq i n1 n2 hi h1 h2 b d
theorem SI.one {r:Int} {ns out:List Nd} {P:Nat→Int→Prop} (hc:bM r ns=0) (h:SI ns out P) {n:Nat} {m:Int} (hn:n<ns.length) (hp:¬ P n m) (hb:1≤m∧m<ns.length):SI ns (eB ns n out m) (fun i j=>P i j∨(i=n∧j=m)):=by
 unfold eB
 split
 ·rename_i hm;exact h.grow hc hn hm hp hb
 ·rename_i hm;exact h.weak hm
def PTo (ns:List Nd) (k:Nat) (i:Nat) (m:Int):Prop:=i<k∧(nd ns i).op≠0∧m∈jI (nd ns i)
theorem SI.congr {ns out:List Nd} {P Q:Nat→Int→Prop} (h:SI ns out P) (e:∀ i m,P i m↔Q i m):SI ns out Q:=by
 have:P=Q:=by funext i m;exact propext (e i m)
 rw [← this];exact h
theorem nM {r:Int} {len:Nat} {x:Nd} (h:Full r len x) {m:Int} (hm:m∈jI x):1≤m∧m<len:=by
 unfold jI at hm
 split at hm
 ·rename_i h11
  have a:=h.t aF
  have b:=h.e h11
  split at hm
  ·simp at hm;omega
  ·simp at hm;omega
 ·split at hm
  ·rename_i h11 hw
   have:=aY.1 hw
   have a:=h.t aF
   simp at hm;omega
  ·simp at hm
theorem CU {r:Int} {ns:List Nd} (hc:bM r ns=0):∀ k,k≤ns.length→SI ns (dE ns k) (PTo ns k)
 | 0,_=>(SI.start hc).congr fun i m=>by simp [PTo]
 | k+1,hk=>by
  have ih:=CU hc k aF
  have hF:=dJ hc (show k<ns.length by omega)
  rw [jS]
  unfold IY
  have hpk:∀ m,¬ PTo ns k k m:=fun m h=>by have:=h.1;omega
  split
  ·rename_i h0
   refine ih.congr fun i m=>⟨fun h=>⟨by have:=h.1;omega,h.2⟩,fun h=>⟨?_,h.2⟩⟩
   have h1:=h.1
   have h2:i≠k:=fun e=>by subst e;exact h.2.1 h0
   omega
  ·rename_i h0
   have hx:∀ m,m∈jI (nd ns k)→1≤m∧m<ns.length:=fun m hm=>nM hF hm
   have hin:∀ i m,PTo ns (k+1) i m↔PTo ns k i m∨(i=k∧m∈jI (nd ns k)):=by
    intro i m
    constructor
    ·intro h
     by_cases e:i=k
     ·subst e;exact Or.inr ⟨rfl,h.2.2⟩
     ·exact Or.inl ⟨by have:=h.1;omega,h.2⟩
    ·rintro (h | ⟨rfl,h⟩)
     ·exact ⟨by have:=h.1;omega,h.2⟩
     ·exact ⟨aF,h0,h⟩
   generalize hex:jI (nd ns k)=ex at hx hin ⊢
   have hcase:ex=[]∨(∃ a,ex=[a])∨∃ a b,ex=[a,b]∧a≠b:=by
    rw [← hex];unfold jI
    split
    ·split
     ·exact Or.inr (Or.inl ⟨_,rfl⟩)
     ·rename_i q;exact Or.inr (Or.inr ⟨_,_,rfl,fun e=>q e.symm⟩)
    ·split
     ·exact Or.inr (Or.inl ⟨_,rfl⟩)
     ·exact Or.inl rfl
   rcases hcase with rfl | ⟨a,rfl⟩ | ⟨a,b,rfl,hab⟩
   ·exact ih.congr fun i m=>by rw [hin];simp
   ·have h1:=ih.one hc (n:=k) (m:=a) aF (hpk a) (hx a aQ)
    exact h1.congr fun i m=>by rw [hin];simp
   ·have h1:=ih.one hc (n:=k) (m:=a) aF (hpk a) (hx a aQ)
    have h2:=h1.one hc (n:=k) (m:=b) aF (by rintro (h | ⟨_,h⟩)
                                            ·exact hpk b h
                                            ·exact hab h.symm) (hx b aQ)
    refine h2.congr fun i m=>?_
    rw [hin]
    simp only [List.mem_cons,List.not_mem_nil,or_false]
    constructor
    ·rintro ((h | ⟨a1,a2⟩) | ⟨a1,a2⟩)
     ·exact Or.inl h
     ·exact Or.inr ⟨a1,Or.inl a2⟩
     ·exact Or.inr ⟨a1,Or.inr a2⟩
    ·rintro (h | ⟨a1,a2 | a2⟩)
     ·exact Or.inl (Or.inl h)
     ·exact Or.inl (Or.inr ⟨a1,a2⟩)
     ·exact Or.inr ⟨a1,a2⟩
theorem aFM {r:Int} {ns:List Nd} (hc:bM r ns=0) {i:Nat} (h1:ns.length≤i) (h2:i<(splitN ns).length) :
 ∃ m:Int,nd (splitN ns) i=gX m∧1≤m∧m<ns.length∧many ns m:=by
 obtain ⟨n,m,hn,hp,hm,e⟩:=(CU hc ns.length dD).new i h1 h2
 have:=nM (dJ hc hn) hp.2.2
 exact ⟨m,e,this.1,this.2,hm⟩
theorem iI {r:Int} {ns:List Nd} (hc:bM r ns=0) (hl:(splitN ns).length≤256):bM r (splitN ns)=0:=by
 have H:=CU hc ns.length dD
 change SI ns (splitN ns) _ at H
 have h:=bE hc
 have hlen:=H.len
 refine OJ ⟨aF,hl⟩ h.2.1 fun y hy=>?_
 obtain ⟨n,hn⟩:=List.getElem?_of_mem hy
 have hlt:=(List.getElem?_eq_some_iff.1 hn).1
 have hy:y=nd (splitN ns) n:=(jF hn).symm
 subst hy
 by_cases h1:n<ns.length
 ·have hF:=dJ hc h1
  obtain ⟨o1,o2,o3,o4⟩:=H.same n h1
  have ht:(nd (splitN ns) n).t=(nd ns n).t∨(nd ns n).op≠12∧ns.length≤(nd (splitN ns) n).t∧(nd (splitN ns) n).t<(splitN ns).length:=by
   by_cases hP:PTo ns ns.length n (nd ns n).t∧many ns (nd ns n).t
   ·right
    obtain ⟨i,i1,i2,i3,_⟩:=H.t1 n h1 hP.1 hP.2
    refine ⟨fun e=>?_,aF,aF⟩
    have:=hP.1.2.2
    simp [jI,e,wi] at this
   ·left
    exact H.t0 n h1 (by by_cases a:PTo ns ns.length n (nd ns n).t
                        ·right;exact fun b=>hP ⟨a,b⟩
                        ·left;exact a)
  have hee:(nd (splitN ns) n).e=(nd ns n).e∨(nd ns n).op=11∧ns.length≤(nd (splitN ns) n).e∧(nd (splitN ns) n).e<(splitN ns).length:=by
   by_cases hP:PTo ns ns.length n (nd ns n).e∧many ns (nd ns n).e
   ·obtain ⟨i,i1,i2,i3,_⟩:=H.e1 n h1 hP.1 hP.2
    right
    refine ⟨?_,aF,aF⟩
    by_cases e11:(nd ns n).op=11
    ·exact e11
    ·exfalso
     have hx:=hP.1.2.2
     have e0:=hF.e0 e11
     have:=nM hF hx
     omega
   ·left
    exact H.e0 n h1 (by by_cases a:PTo ns ns.length n (nd ns n).e
                        ·right;exact fun b=>hP ⟨a,b⟩
                        ·left;exact a)
  refine ⟨by rw [o1];exact hF.op,by rw [o1,o2];exact hF.d,by rw [o1,o2];exact hF.d0,by rw [o1,o3];exact hF.a,by rw [o1,o3];exact hF.a0,by rw [o1,o4];exact hF.b,by rw [o1,o4];exact hF.b0,?_,?_,?_,?_⟩
  ·rw [o1];intro q
   have:=hF.t q
   rcases ht with ht | ht
   ·rw [ht];omega
   ·omega
  ·rw [o1];intro q
   have:=hF.t0 q
   rcases ht with ht | ht
   ·rw [ht];exact this
   ·exact absurd q ht.1
  ·rw [o1];intro q
   have:=hF.e q
   rcases hee with ht | ht
   ·rw [ht];omega
   ·omega
  ·rw [o1];intro q
   have:=hF.e0 q
   rcases hee with ht | ht
   ·rw [ht];exact this
   ·exact absurd ht.1 q
 ·obtain ⟨m,e,m1,m2,_⟩:=aFM hc aF hlt
  rw [e]
  refine ⟨by simp [gX],by simp [gX],by simp [gX],by simp [gX],by simp [gX],by simp [gX],by simp [gX],?_,by simp [gX],by simp [gX],by simp [gX]⟩
  intro _
  show 1≤m∧m<_
  omega
theorem uC {ns:List Nd} {m n:Nat}:mF ns m n=true↔n<ns.length∧((nd ns n).op≠12∧(nd ns n).t=m∨(nd ns n).op=11∧(nd ns n).e=m):=by
 constructor
 ·intro h
  have hn:=OI h
  refine ⟨hn,?_⟩
  rw [nG (eU hn)] at h
  simpa [tY] using h
 ·rintro ⟨hn,h⟩
  rw [nG (eU hn)]
  simpa [tY] using h
def dB (c:UInt8):List UInt8→List (List UInt8)
 | []=>[[]]
 | b::l=>if b=c then []::dB c l else match dB c l with
  | []=>[[b]]
  | x::r=>(b::x)::r
theorem qY (c:UInt8):∀ l,dB c l≠[]
 | []=>by simp [dB]
 | b::l=>by
  unfold dB
  split
  ·simp
  ·cases dB c l <;> simp
theorem index_one (c:UInt8):∀ l:List UInt8,Lib.index l [c]=Lib.indexByte l c
 | []=>rfl
 | b::l=>by
  unfold Lib.index Lib.indexByte
  rw [index_one c l]
  by_cases h:b=c
  ·subst h;simp [List.isPrefixOf]
  ·have h' :¬ c=b:=fun e=>h e.symm
   simp [List.isPrefixOf,h,h']
theorem CV (c:UInt8):∀ l:List UInt8,Lib.splitK [c] 0 (Lib.count l [c]) l=dB c l
 | []=>by
  rw [Lib.count_one]
  rfl
 | b::l=>by
  have ih:=CV c l
  unfold dB
  by_cases h:b=c
  ·subst h
   rw [Lib.count_cons_eq,if_pos rfl,← ih,Nat.add_comm]
   have e:Lib.index (b::l) [b]=0:=by rw [index_one];simp [Lib.indexByte]
   generalize Lib.count l [b]=k
   show (if Lib.index (b::l) [b]== -1 then _ else _)=_
   rw [e]
   rfl
  ·rw [Lib.count_cons_ne b c l h,if_neg h,← ih]
   have hi:Lib.index (b::l) [c]=if Lib.index l [c]== -1 then -1 else Lib.index l [c]+1:=by
    rw [index_one,index_one]
    conv=>lhs;unfold Lib.indexByte
    rw [if_neg (by simpa using h)]
   have hge:=Lib.index_ge l [c]
   cases hk:Lib.count l [c] with
   | zero =>
    simp only [Lib.splitK]
   | succ k =>
    by_cases hm:Lib.index l [c]= -1
    ·rw [Lib.count_miss hm] at hk;cases hk
    ·unfold Lib.splitK
     rw [hi]
     have hf:(Lib.index l [c]== -1)=false:=by simpa using hm
     have hf2:(Lib.index l [c]+1== -1)=false:=by
      simp only [beq_eq_false_iff_ne];omega
     simp only [hf,hf2,Bool.false_eq_true,if_false]
     have e1:(Lib.index l [c]+1).toNat=(Lib.index l [c]).toNat+1:=by omega
     rw [e1]
     simp
theorem CW (c:UInt8):∀ (x rest:List UInt8),c∉x→dB c (x++c::rest)=x::dB c rest
 | [],rest,_=>by simp [dB]
 | b::x,rest,h=>by
  have h1:b≠c:=fun e=>h (by simp [e])
  have h2:c∉x:=fun e=>h (by simp [e])
  rw [List.cons_append,dB,if_neg h1,CW c x rest h2]
theorem CX (c:UInt8):∀ (x:List UInt8),c∉x→dB c x=[x]
 | [],_=>rfl
 | b::x,h=>by
  have h1:b≠c:=fun e=>h (by simp [e])
  have h2:c∉x:=fun e=>h (by simp [e])
  rw [dB,if_neg h1,CX c x h2]
theorem join_cons (c:UInt8) (x y:List UInt8) (r:List (List UInt8)):Lib.join (x::y::r) [c]=x++c::Lib.join (y::r) [c]:=by
 simp [Lib.join,List.intercalate]
theorem wJ (c:UInt8):∀ (ws:List (List UInt8)),ws≠[]→(∀ x∈ws,c∉x)→dB c (Lib.join ws [c])=ws
 | [],h,_=>absurd rfl h
 | [x],_,h=>by rw [Lib.join_one];exact CX c x (h x aQ)
 | x::y::r,_,h=>by
  rw [join_cons,CW c x _ (h x aQ),wJ c (y::r) aQ fun z hz=>h z (by simp [hz])]
theorem BB:∀ (u:Nat) {b:UInt8},b∈Lib.decDigits u→48≤b.toNat∧b.toNat≤57:=by
 intro u
 induction u using Nat.strongRecOn with
 | _ u ih =>
  intro b hb
  rw [Lib.decDigits] at hb
  split at hb
  ·rename_i h
   simp at hb
   subst hb
   simp [UInt8.toNat_ofNat']
   omega
  ·rename_i h
   rcases List.mem_append.1 hb with q | q
   ·exact ih (u / 10) aF q
   ·simp at q
    subst q
    simp [UInt8.toNat_ofNat']
    omega
theorem aKJ (u:Nat):Lib.decDigits u≠[]:=by
 rw [Lib.decDigits]
 split <;> simp
theorem KA:∀ (l r:List UInt8) (acc u:Nat),Lib.parseUint10 acc l=.ok u→Lib.parseUint10 acc (l++r)=Lib.parseUint10 u r
 | [],r,acc,u,h=>by
  simp only [Lib.parseUint10] at h
  injection h with h
  rw [h];rfl
 | c::l,r,acc,u,h=>by
  simp only [Lib.parseUint10,List.cons_append] at h ⊢
  split at h
  ·rename_i h1
   rw [if_pos h1]
   split at h
   ·cases h
   ·rename_i h2
    rw [if_neg h2]
    split at h
    ·cases h
    ·rename_i h3
     rw [if_neg h3]
     exact KA l r _ u h
  ·cases h
theorem KC:∀ (u:Nat),u<18446744073709551616→Lib.parseUint10 0 (Lib.decDigits u)=.ok u:=by
 intro u
 induction u using Nat.strongRecOn with
 | _ u ih =>
  intro hu
  rw [Lib.decDigits]
  split
  ·rename_i h
   simp [Lib.parseUint10,UInt8.toNat_ofNat']
   have e:(48+u) % 256=48+u:=by omega
   rw [e]
   rw [if_pos aF]
   simp
   omega
  ·rename_i h
   rw [KA _ _ _ _ (ih (u / 10) aF aF)]
   simp only [Lib.parseUint10,UInt8.toNat_ofNat']
   have e:(48+u % 10) % 256=48+u % 10:=by omega
   simp only [show (2:Nat) ^ 8=256 from rfl,e]
   rw [if_pos aF,if_neg aF,if_neg aF]
   congr 1
   omega
theorem yE (n:Int) (h0: -9223372036854775808≤n) (h1:n≤9223372036854775807):Lib.atoiAll (Lib.itoa n)=.ok n:=by
 unfold Lib.itoa
 by_cases hn:n<0
 ·rw [if_pos hn]
  unfold Lib.atoiAll Lib.parseMag
  simp only [UInt8.reduceToNat,or_true,if_true,if_neg (aKJ _),KC _ (show n.natAbs<18446744073709551616 by omega)]
  simp
  rw [if_neg aF]
  congr 1
  omega
 ·rw [if_neg hn]
  cases hd:Lib.decDigits n.toNat with
  | nil=>exact absurd hd (aKJ _)
  | cons c r =>
   have hc:=BB n.toNat (b:=c) (by rw [hd];simp)
   unfold Lib.atoiAll Lib.parseMag
   simp only
   rw [if_neg (show ¬ (c.toNat=43∨c.toNat=45) by omega),if_neg aQ,← hd,KC _ aF]
   simp only
   have h45:¬ c.toNat=45:=by omega
   rw [if_neg aF,if_neg aF,if_neg h45]
   congr 1
   omega
theorem OO {c:UInt8} (hc:c.toNat<45) (n:Int):c∉Lib.itoa n:=by
 unfold Lib.itoa
 split
 ·intro h
  rcases List.mem_cons.1 h with q | q
  ·rw [q] at hc;simp at hc
  ·have:=BB _ q;omega
 ·intro h
  have:=BB _ h
  omega
def rR:List (List UInt8):=[[115,107,105,112],[115,101,116],[99,111,112,121],[97,100,100],[115,117,98],[109,117,108],[97,110,100],[120,111,114],[108,101,115,115],[105,110],[111,117,116],[105,102],[101,110,100]]
def BC (op:Int):List UInt8:=rR.getD op.toNat []
def qZ (x:List UInt8):Option Nat:=rR.findIdx? (·==x)
def lS:List UInt8:=[114,101,103,115,32]
def toW:List UInt8:=[116,111]
def IZ:List UInt8:=[101,108,115,101]
def kF (op:Int):Bool:=wi op 1 9
def kG (op:Int):Bool:=wi op 1 8||wi op 10 12
def hasB (op:Int):Bool:=wi op 3 8
def mO (op:Int):Bool:=wi op 0 11
def oF (op:Int):Bool:=op==11
def gH (x:Nd):List (List UInt8) :=
 BC x.op::((if kF x.op then [Lib.itoa x.d] else [])++((if kG x.op then [Lib.itoa x.a] else [])++((if hasB x.op then [Lib.itoa x.b] else [])++((if mO x.op then [toW,Lib.itoa x.t] else [])++(if oF x.op then [IZ,Lib.itoa x.e] else [])))))
def fO (x:Nd):List UInt8:=Lib.join (gH x) [32]
def nN (r:Int):List UInt8:=lS++Lib.itoa r
def eX (r:Int) (ns:List Nd):List UInt8:=nN r++10::ns.flatMap fun x=>fO x++[10]
def gP (ws:List (List UInt8)) (k:Nat) (has lead:Bool):Option (Nat × Int) :=
 if has then
  match ws[if lead then k+1 else k]? with
  | none=>none
  | some x=>match Lib.atoiAll x with
   | .ok v=>some ((if lead then k+1 else k)+1,v)
   | _=>none
 else some (k,0)
def OP (ws:List (List UInt8)):Option Nd :=
 match ws with
 | []=>none
 | x::_=>match qZ x with
  | none=>none
  | some o=>match gP ws 1 (kF o) false with
   | none=>none
   | some (k1,d)=>match gP ws k1 (kG o) false with
    | none=>none
    | some (k2,a)=>match gP ws k2 (hasB o) false with
     | none=>none
     | some (k3,b)=>match gP ws k3 (mO o) true with
      | none=>none
      | some (k4,t)=>match gP ws k4 (oF o) true with
       | none=>none
       | some (_,e)=>some ⟨o,d,a,b,t,e⟩
theorem aDB {op:Int} (h:0≤op∧op≤12):qZ (BC op)=some op.toNat:=by
 obtain ⟨k,rfl⟩:=Int.eq_ofNat_of_zero_le h.1
 have hk:k≤12:=by omega
 rw [Int.toNat_natCast]
 have:∀ j:Fin 13,qZ (BC (j.1:Int))=some j.1:=by decide
 exact this ⟨k,aF⟩
structure Fits (x:Nd):Prop where
 d: -9223372036854775808≤x.d∧x.d≤9223372036854775807
 a: -9223372036854775808≤x.a∧x.a≤9223372036854775807
 b: -9223372036854775808≤x.b∧x.b≤9223372036854775807
 t: -9223372036854775808≤x.t∧x.t≤9223372036854775807
 e: -9223372036854775808≤x.e∧x.e≤9223372036854775807
theorem aUO (ws:List (List UInt8)) (k:Nat) (lead:Bool):gP ws k false lead=some (k,0):=rfl
theorem aKK {ws:List (List UInt8)} {k:Nat} {n:Int} (h:ws[k]?=some (Lib.itoa n)) (h0: -9223372036854775808≤n∧n≤9223372036854775807):gP ws k true false=some (k+1,n):=by
 simp [gP,h,yE n h0.1 h0.2]
theorem aRH {ws:List (List UInt8)} {k:Nat} {n:Int} (h:ws[k+1]?=some (Lib.itoa n)) (h0: -9223372036854775808≤n∧n≤9223372036854775807):gP ws k true true=some (k+2,n):=by
 simp [gP,h,yE n h0.1 h0.2]
theorem wK {pre rest:List (List UInt8)} {has lead:Bool} {lw:List UInt8} {n:Int} (k:Nat) (hk:pre.length=k) (h0: -9223372036854775808≤n∧n≤9223372036854775807) (hz:has=false→n=0) :
 gP (pre++((if has then (if lead then [lw,Lib.itoa n] else [Lib.itoa n]) else [])++rest)) k has lead=some (k+(if has then (if lead then 2 else 1) else 0),n):=by
 subst hk
 cases has
 ·rw [aUO,hz rfl];rfl
 ·cases lead
  ·rw [aKK (n:=n) aQ h0];rfl
  ·rw [aRH (n:=n) aQ h0];rfl
theorem aFN {x:Nd} (hop:0≤x.op∧x.op≤12) (hf:Fits x) (hd:kF x.op=false→x.d=0) (ha:kG x.op=false→x.a=0) (hb:hasB x.op=false→x.b=0) (ht:mO x.op=false→x.t=0) (he:oF x.op=false→x.e=0):OP (gH x)=some x:=by
 have ho:=aDB hop
 have eo:((x.op.toNat:Nat):Int)=x.op:=by omega
 have s1:=wK (pre:=[BC x.op]) (rest:=(if kG x.op then [Lib.itoa x.a] else [])++((if hasB x.op then [Lib.itoa x.b] else [])++((if mO x.op then [toW,Lib.itoa x.t] else [])++(if oF x.op then [IZ,Lib.itoa x.e] else [])))) (has:=kF x.op) (lead:=false) (lw:=[]) 1 rfl hf.d hd
 have s2:=wK (pre:=[BC x.op]++(if kF x.op then [Lib.itoa x.d] else [])) (rest:=(if hasB x.op then [Lib.itoa x.b] else [])++((if mO x.op then [toW,Lib.itoa x.t] else [])++(if oF x.op then [IZ,Lib.itoa x.e] else []))) (has:=kG x.op) (lead:=false) (lw:=[]) (1+if kF x.op=true then 1 else 0) (by cases kF x.op <;> rfl) hf.a ha
 have s3:=wK (pre:=[BC x.op]++(if kF x.op then [Lib.itoa x.d] else [])++(if kG x.op then [Lib.itoa x.a] else [])) (rest:=(if mO x.op then [toW,Lib.itoa x.t] else [])++(if oF x.op then [IZ,Lib.itoa x.e] else [])) (has:=hasB x.op) (lead:=false) (lw:=[]) (1+(if kF x.op=true then 1 else 0)+if kG x.op=true then 1 else 0) (by cases kF x.op <;> cases kG x.op <;> rfl) hf.b hb
 have s4:=wK (pre:=[BC x.op]++(if kF x.op then [Lib.itoa x.d] else [])++(if kG x.op then [Lib.itoa x.a] else [])++(if hasB x.op then [Lib.itoa x.b] else [])) (rest:=(if oF x.op then [IZ,Lib.itoa x.e] else [])) (has:=mO x.op) (lead:=true) (lw:=toW) (1+(if kF x.op=true then 1 else 0)+(if kG x.op=true then 1 else 0)+if hasB x.op=true then 1 else 0) (by cases kF x.op <;> cases kG x.op <;> cases hasB x.op <;> rfl) hf.t ht
 have s5:=wK (pre:=[BC x.op]++(if kF x.op then [Lib.itoa x.d] else [])++(if kG x.op then [Lib.itoa x.a] else [])++(if hasB x.op then [Lib.itoa x.b] else [])++(if mO x.op then [toW,Lib.itoa x.t] else [])) (rest:=[]) (has:=oF x.op) (lead:=true) (lw:=IZ) (1+(if kF x.op=true then 1 else 0)+(if kG x.op=true then 1 else 0)+(if hasB x.op=true then 1 else 0)+if mO x.op=true then 2 else 0) (by cases kF x.op <;> cases kG x.op <;> cases hasB x.op <;> cases mO x.op <;> rfl) hf.e he
 simp only [Bool.false_eq_true,if_false,if_true,List.append_assoc,List.append_nil,List.cons_append,List.nil_append] at s1 s2 s3 s4 s5
 unfold OP gH
 simp only [ho,eo]
 rw [s1]
 simp only
 rw [s2]
 simp only
 rw [s3]
 simp only
 rw [s4]
 simp only
 rw [s5]
def jJ:List (List UInt8)→Option (List Nd)
 | []=>some []
 | l::r=>match OP (dB 32 l) with
  | none=>none
  | some x=>(jJ r).map (x::·)
def trimB (s:List UInt8):List UInt8:=Lib.trimSuffix s [10]
def rdP (s:List UInt8):Option (Int × List Nd) :=
 if 16448<s.length then none else
 match dB 10 (trimB s) with
 | []=>none
 | l::r=>if Lib.hasPrefix l lS then match Lib.atoiAll (l.drop 5) with
  | .ok v=>(jJ r).map fun ns=>(v,ns)
  | _=>none
  else none
structure JA (x:Nd):Prop where
 op:0≤x.op∧x.op≤12
 fits:Fits x
 d:kF x.op=false→x.d=0
 a:kG x.op=false→x.a=0
 b:hasB x.op=false→x.b=0
 t:mO x.op=false→x.t=0
 e:oF x.op=false→x.e=0
 sd:0≤x.d∧x.d<1000
 sa:x.op≠1→0≤x.a∧x.a<1000
 sb:0≤x.b∧x.b<1000
 st:0≤x.t∧x.t<1000
 se:0≤x.e∧x.e<1000
theorem zK {n l h:Int} (q:wi n l h=false):¬ (l≤n∧n≤h):=fun z=>by rw [aY.2 z] at q;cases q
theorem aDC {r:Int} {ns:List Nd} (hc:bM r ns=0) {x:Nd} (hx:x∈ns) (ha: -9223372036854775808≤x.a∧x.a≤9223372036854775807):JA x:=by
 obtain ⟨hl,hr,hf⟩:=bE hc
 have hF:=hf x hx
 have hop:=hF.op
 have hb:=iR hF hl.1
 have hd:0≤x.d∧x.d<1000:=by
  by_cases q:1≤x.op∧x.op≤9
  ·have:=hF.d q.1 q.2;omega
  ·have:=hF.d0 q;omega
 have hB:0≤x.b∧x.b<1000:=by
  by_cases q:3≤x.op∧x.op≤8
  ·have:=hF.b q.1 q.2;omega
  ·have:=hF.b0 q;omega
 refine ⟨hop,⟨aF,ha,aF,aF,aF⟩,fun q=>hF.d0 (zK q),?_,fun q=>hF.b0 (zK q),?_,?_,hd,?_,hB,aF,aF⟩
 ·intro q
  unfold kG at q
  rw [Bool.or_eq_false_iff] at q
  have h1:=zK q.1
  have h2:=zK q.2
  exact hF.a0 aF
 ·intro q
  have:=zK q
  exact hF.t0 aF
 ·intro q
  unfold oF at q
  exact hF.e0 (by simpa using q)
 ·intro q
  by_cases h0:x.op=0∨x.op=9
  ·have:=hF.a0 h0;omega
  ·have:=hF.a aF aF aF;omega
theorem a1A {x:Nd} (h:JA x):OP (gH x)=some x:=aFN h.op h.fits h.d h.a h.b h.t h.e
theorem aVU {op:Int} {b:UInt8} (h:b∈BC op):97≤b.toNat:=by
 have key:∀ x∈rR,∀ b∈x,97≤b.toNat:=by decide
 unfold BC at h
 by_cases hl:op.toNat<rR.length
 ·have:rR.getD op.toNat []∈rR:=by
   rw [List.getD_eq_getElem?_getD,List.getElem?_eq_getElem hl]
   exact List.getElem_mem hl
  exact key _ this b h
 ·rw [List.getD_eq_getElem?_getD,List.getElem?_eq_none aF] at h
  cases h
theorem aKL {c:UInt8} (hc:c.toNat<45) (x:Nd):∀ y∈gH x,c∉y:=by
 intro y hy
 unfold gH at hy
 have low:∀ n:Int,c∉Lib.itoa n:=fun n=>OO hc n
 have hto:c∉toW:=by
  intro q
  have:∀ b∈toW,97≤b.toNat:=by decide
  have:=this c q;omega
 have hel:c∉IZ:=by
  intro q
  have:∀ b∈IZ,97≤b.toNat:=by decide
  have:=this c q;omega
 have hnm:c∉BC x.op:=fun q=>by have:=aVU q;omega
 simp only [List.mem_cons,List.mem_append] at hy
 rcases hy with rfl | q | q | q | q | q
 ·exact hnm
 ·split at q <;> simp at q;subst q;exact low _
 ·split at q <;> simp at q;subst q;exact low _
 ·split at q <;> simp at q;subst q;exact low _
 ·split at q <;> simp at q
  rcases q with rfl | rfl
  ·exact hto
  ·exact low _
 ·split at q <;> simp at q
  rcases q with rfl | rfl
  ·exact hel
  ·exact low _
theorem aKM (x:Nd):gH x≠[]:=by simp [gH]
theorem UD (x:Nd):dB 32 (fO x)=gH x:=wJ 32 _ (aKM x) (aKL aL x)
theorem aDD {c s:UInt8} (hs:c≠s):∀ (ws:List (List UInt8)),(∀ x∈ws,c∉x)→c∉Lib.join ws [s]
 | [],_=>by simp [Lib.join_nil]
 | [x],h=>by rw [Lib.join_one];exact h x aQ
 | x::y::r,h=>by
  rw [join_cons]
  intro q
  rcases List.mem_append.1 q with q | q
  ·exact h x aQ q
  ·rcases List.mem_cons.1 q with q | q
   ·exact hs q
   ·exact aDD hs (y::r) (fun z hz=>h z (by simp [hz])) q
theorem aDE (x:Nd):(10:UInt8)∉fO x:=aDD aL _ (aKL aL x)
theorem aDF (r:Int):(10:UInt8)∉nN r:=by
 unfold nN
 intro q
 rcases List.mem_append.1 q with q | q
 ·revert q;decide
 ·exact OO aL r q
theorem zL:∀ (ns:List Nd),(∀ x∈ns,JA x)→jJ (ns.map fO)=some ns
 | [],_=>rfl
 | x::ns,h=>by
  rw [List.map_cons,jJ,UD,a1A (h x aQ),zL ns fun y hy=>h y (by simp [hy])];rfl
theorem yF (l:List UInt8):∀ (ns:List Nd),l++10::(ns.flatMap fun x=>fO x++[10])=Lib.join (l::ns.map fO) [10]++[10]
 | []=>by simp [Lib.join_one]
 | x::ns=>by
  rw [List.map_cons,join_cons,List.append_assoc,List.cons_append,← yF (fO x) ns]
  simp
theorem aFP (r:Int) (ns:List Nd):trimB (eX r ns)=Lib.join (nN r::ns.map fO) [10]:=by
 unfold trimB eX
 rw [yF]
 unfold Lib.trimSuffix Lib.hasSuffix
 rw [if_pos aQ]
 simp
theorem aKN (r:Int) (ns:List Nd):dB 10 (trimB (eX r ns))=nN r::ns.map fO:=by
 rw [aFP]
 refine wJ 10 _ aQ fun x hx=>?_
 rcases List.mem_cons.1 hx with rfl | hx
 ·exact aDF r
 ·obtain ⟨y,_,rfl⟩:=List.mem_map.1 hx
  exact aDE y
theorem aKO {u:Nat} (h:u<1000):(Lib.decDigits u).length≤3:=by
 rw [Lib.decDigits_length]
 by_cases h1:u<10
 ·rw [Lib.nDigits_small h1];omega
 ·rw [Lib.nDigits_big h1]
  by_cases h2:u / 10<10
  ·rw [Lib.nDigits_small h2];omega
  ·rw [Lib.nDigits_big h2,Lib.nDigits_small aF]
   omega
theorem kX {n:Int} (h:0≤n∧n<1000):(Lib.itoa n).length≤3:=by
 unfold Lib.itoa
 rw [if_neg aF]
 exact aKO aF
theorem yG:∀ (k u:Nat),u<10 ^ (k+1)→(Lib.decDigits u).length≤k+1
 | 0,u,h=>by rw [Lib.decDigits_length,Lib.nDigits_small (by simpa using h)];omega
 | k+1,u,h=>by
  rw [Lib.decDigits_length]
  by_cases h1:u<10
  ·rw [Lib.nDigits_small h1];omega
  ·rw [Lib.nDigits_big h1,← Lib.decDigits_length]
   have:=yG k (u / 10) (by rw [Nat.pow_succ] at h;omega)
   omega
theorem dV {n:Int} (h: -9223372036854775808≤n∧n≤9223372036854775807):(Lib.itoa n).length≤20:=by
 unfold Lib.itoa
 split
 ·have:=yG 18 n.natAbs aF
  simp only [List.length_cons];omega
 ·have:=yG 18 n.toNat aF
  omega
theorem aAA (op:Int):(BC op).length≤4:=by
 have key:∀ x∈rR,x.length≤4:=by decide
 unfold BC
 by_cases hl:op.toNat<rR.length
 ·have:rR.getD op.toNat []∈rR:=by
   rw [List.getD_eq_getElem?_getD,List.getElem?_eq_getElem hl]
   exact List.getElem_mem hl
  exact key _ this
 ·rw [List.getD_eq_getElem?_getD,List.getElem?_eq_none aF]
  simp
theorem CY (c:UInt8):∀ (ws:List (List UInt8)),(Lib.join ws [c]).length≤(ws.map fun x=>x.length+1).sum
 | []=>by simp [Lib.join_nil]
 | [x]=>by simp [Lib.join_one]
 | x::y::r=>by
  have:=CY c (y::r)
  rw [join_cons]
  simp only [List.length_append,List.length_cons,List.map_cons,List.sum_cons] at this ⊢
  omega
theorem DC {x:Nd} (h:JA x):(fO x).length≤63:=by
 have h0:=CY 32 (gH x)
 have hn:=aAA x.op
 have hd:=kX h.sd
 have hb:=kX h.sb
 have ht:=kX h.st
 have he:=kX h.se
 have bHC:=dV h.fits.a
 unfold fO
 refine Nat.le_trans h0 ?_
 unfold gH
 simp only [List.map_cons,List.map_append,List.sum_cons,List.sum_append]
 have e1:((if kF x.op=true then [Lib.itoa x.d] else []).map fun x=>x.length+1).sum≤4:=by split <;> simp;omega
 have e3:((if hasB x.op=true then [Lib.itoa x.b] else []).map fun x=>x.length+1).sum≤(if x.op=1 then 0 else 4):=by
  split
  ·rename_i q
   have:=aY.1 q
   rw [if_neg aF]
   simp;omega
  ·simp
 have e2:((if kG x.op=true then [Lib.itoa x.a] else []).map fun x=>x.length+1).sum≤(if x.op=1 then 21 else 4):=by
  split
  ·split
   ·simp;omega
   ·rename_i q
    have:=kX (h.sa q)
    simp;omega
  ·simp
 have e4:((if mO x.op=true then [toW,Lib.itoa x.t] else []).map fun x=>x.length+1).sum≤7:=by split <;> simp [toW];omega
 have e5:((if oF x.op=true then [IZ,Lib.itoa x.e] else []).map fun x=>x.length+1).sum≤9:=by split <;> simp [IZ];omega
 have k2:(if x.op=1 then 21 else 4)≤21:=by split <;> omega
 have k3:(if x.op=1 then 0 else 4)≤4:=by split <;> omega
 generalize ((if kF x.op=true then [Lib.itoa x.d] else []).map fun x=>x.length+1).sum=s1 at *
 generalize ((if kG x.op=true then [Lib.itoa x.a] else []).map fun x=>x.length+1).sum=s2 at *
 generalize ((if hasB x.op=true then [Lib.itoa x.b] else []).map fun x=>x.length+1).sum=s3 at *
 generalize ((if mO x.op=true then [toW,Lib.itoa x.t] else []).map fun x=>x.length+1).sum=s4 at *
 generalize ((if oF x.op=true then [IZ,Lib.itoa x.e] else []).map fun x=>x.length+1).sum=s5 at *
 generalize (if x.op=1 then 21 else 4)=k21 at *
 generalize (if x.op=1 then 0 else 4)=k04 at *
 omega
theorem UG {r:Int} (hr:0≤r∧r<1000):∀ (ns:List Nd),(∀ x∈ns,JA x)→(eX r ns).length≤64+64*ns.length:=by
 intro ns h
 have key:∀ (l:List Nd),(∀ x∈l,JA x)→(l.flatMap fun x=>fO x++[10]).length≤64*l.length:=by
  intro l
  induction l with
  | nil=>intro _;simp
  | cons x l ih =>
   intro hl
   have h1:=ih fun y hy=>hl y (by simp [hy])
   have h2:=DC (hl x aQ)
   simp only [List.flatMap_cons,List.length_append,List.length_cons,List.length_nil]
   omega
 have h1:=key ns h
 have h2:=kX hr
 unfold eX nN
 simp only [List.length_append,List.length_cons,lS,List.length_nil]
 omega
theorem aKP {r:Int} {ns:List Nd} (hc:bM r ns=0) (ha:∀ x∈ns,-9223372036854775808≤x.a∧x.a≤9223372036854775807):rdP (eX r ns)=some (r,ns):=by
 obtain ⟨hl,hr,_⟩:=bE hc
 have ht:∀ x∈ns,JA x:=fun x hx=>aDC hc hx (ha x hx)
 have hlen:=UG (r:=r) aF ns ht
 unfold rdP
 rw [if_neg aF,aKN]
 simp only
 have hp:Lib.hasPrefix (nN r) lS=true:=by unfold Lib.hasPrefix nN;simp
 have hd:(nN r).drop 5=Lib.itoa r:=by unfold nN lS;simp
 rw [hp,hd,yE r aF aF,zL ns ht]
 rfl
def lT (s:List UInt8):Option (Int × List Nd) :=
 match rdP s with
 | none=>none
 | some (r,ns)=>if bM r ns=0∧eX r ns=s then some (r,ns) else none
end Go.Proofs.YtegloodcbfalfaaGreatDoor
