/-
  Of the proof of MovePlaces: M, GA, P, Q, R, S, GB, GC, A, GD, LA, MP, B, C, D, F, G, LB, MR, RA, RB, RC.
-/
import Derived.Test.YtnbdnbcnlgnicaaGreatRows
import Derived.WalkKit
import Derived.WalkSpells
import Derived.WalkLawsBesides
import Derived.RangeFuncNested
import Derived.RangeFuncBound
import Derived.RangeFuncCalls
import Derived.RangeFuncLeaves
import Derived.Shelf.Abstract
import Derived.Shelf.RegionOpen
import Derived.OwnWalkIn
import Derived.TacticsInMore
import Derived.LoopNIn
import Derived.LoopIn
import Derived.Deep.QuietTactic
import Derived.BigQuiet
import Derived.RangeFuncBox
import Derived.Maps.AppendAt
import Derived.Maps.Own
import Derived.Maps.Views
import Derived.WideKeyEntry
import Derived.DeepKeys4
set_option linter.unusedVariables false
set_option linter.unusedSimpArgs false
set_option maxHeartbeats 40000000
namespace Go.Proofs.YtnbdnbcnlgnicaaGreat
structure Nd where
 op:Int
 d:Int
 a:Int
 b:Int
 t:Int
 e:Int
 deriving DecidableEq,Inhabited
def wi (v l h:Int):Bool:=decide (l≤v)&&decide (v≤h)
theorem wi_true {v l h:Int} (h1:l≤v) (h2:v≤h):wi v l h=true:=by simp [wi,h1,h2]
theorem wi_false {v l h:Int} (h1:v<l∨h<v):wi v l h=false:=by
 simp only [wi,Bool.and_eq_false_iff,decide_eq_false_iff_not];omega
theorem wi_iff {v l h:Int}:wi v l h=true↔l≤v∧v≤h:=by simp [wi]
def kn (op:Int):Bool:=wi op 0 12
def k0 (op:Int):Int:=if wi op 1 9 then 1 else 0
def k1 (op:Int):Int:=if op=1 then 2 else if wi op 2 8||wi op 10 12 then 1 else 0
def k2 (op:Int):Int:=if wi op 3 8 then 1 else 0
def k3 (op:Int):Int:=if wi op 0 11 then 3 else 0
def k4 (op:Int):Int:=if op=11 then 3 else 0
theorem kinds_unknown {op:Int} (h:op<0∨12<op):kn op=false∧k0 op=0∧k1 op=0∧k2 op=0∧k3 op=0∧k4 op=0:=by
 have e1:wi op 1 9=false:=wi_false (by omega)
 have e2:wi op 2 8=false:=wi_false (by omega)
 have e3:wi op 10 12=false:=wi_false (by omega)
 have e4:wi op 3 8=false:=wi_false (by omega)
 have e5:wi op 0 11=false:=wi_false (by omega)
 have e6:wi op 0 12=false:=wi_false (by omega)
 have n1:op≠1:=by omega
 have n2:op≠11:=by omega
 simp [kn,k0,k1,k2,k3,k4,e1,e2,e3,e4,e5,e6,n1,n2]
theorem op_cases (op:Int):(op=0∨op=1∨op=2∨op=3∨op=4∨op=5∨op=6∨op=7∨op=8∨op=9∨op=10∨op=11∨op=12)∨(op<0∨12<op):=by omega
theorem take_succ_get {α:Type} {l:List α} {k:Nat} {x:α} (h:l[k]?=some x):l.take (k+1)=l.take k++[x]:=by
 obtain ⟨hk,rfl⟩:=List.getElem?_eq_some_iff.1 h
 exact List.take_succ_eq_append_getElem hk
theorem all_take_succ {α:Type} {l:List α} {k:Nat} {x:α} (p:α→Bool) (h:l[k]?=some x):(l.take (k+1)).all p=((l.take k).all p&&p x):=by
 rw [take_succ_get h,List.all_append];simp
theorem all_false_at {α:Type} {l:List α} {k:Nat} {x:α} (p:α→Bool) (h:l[k]?=some x) (hp:p x=false):l.all p=false:=by
 rw [List.all_eq_false];exact ⟨x,List.mem_of_getElem? h,by simp [hp]⟩
theorem take_all_len {α:Type} {l:List α} {k:Nat} (h:l.length≤k):l.take k=l:=List.take_of_length_le h
theorem get_lt {α:Type} {l:List α} {k:Nat} (h:k<l.length):∃ x,l[k]?=some x:=⟨l[k],List.getElem?_eq_getElem h⟩
def bat (x:List Bool) (n:Nat):Bool:=x.getD n false
theorem get_bat {x:List Bool} {n:Nat} (h:n<x.length):x[n]?=some (bat x n):=by simp [bat,h]
theorem bat_set {x:List Bool} {n m:Nat} {b:Bool} (h:n<x.length):bat (x.set n b) m=if m=n then b else bat x m:=by
 simp only [bat,List.getD_eq_getElem?_getD,List.getElem?_set]
 by_cases e:n=m
 ·subst e;simp [h]
 ·simp [e,Ne.symm e]
theorem bat_yes {k n:Nat} (h:n<k):bat (List.replicate k true) n=true:=by simp [bat,h]
theorem bat_beyond {x:List Bool} {n:Nat} (h:x.length≤n):bat x n=false:=by simp [bat,h]
theorem bat_ext {x y:List Bool} (hl:x.length=y.length) (h:∀ n,n<x.length→bat x n=bat y n):x=y:=by
 apply List.ext_getElem?
 intro n
 by_cases hn:n<x.length
 ·rw [get_bat hn,get_bat (by omega),h n hn]
 ·rw [List.getElem?_eq_none (by omega),List.getElem?_eq_none (by omega)]
theorem bat_map {k n:Nat} (f:Nat→Bool) (h:n<k):bat ((List.range k).map f) n=f n:=by simp [bat,h]
def Mono (F:(Nat→Bool)→Nat→Bool):Prop:=∀ x y:Nat→Bool,(∀ m,x m=true→y m=true)→∀ n,F x n=true→F y n=true
structure IsG (F:(Nat→Bool)→Nat→Bool) (k:Nat) (x:List Bool):Prop where
 len:x.length=k
 fix:∀ n,n<k→bat x n=F (bat x) n
 top:∀ y:Nat→Bool,(∀ n,k≤n→y n=false)→(∀ n,n<k→y n=true→F y n=true)→∀ n,y n=true→bat x n=true
theorem IsG.uniq {F:(Nat→Bool)→Nat→Bool} {k:Nat} {x y:List Bool} (hx:IsG F k x) (hy:IsG F k y):x=y:=by
 refine bat_ext (by rw [hx.len,hy.len]) fun n hn=>?_
 have h1:=hx.top (bat y) (fun n h=>bat_beyond (by rw [hy.len];exact h)) (fun n hn h=>by rw [← hy.fix n hn];exact h) n
 have h2:=hy.top (bat x) (fun n h=>bat_beyond (by rw [hx.len];exact h)) (fun n hn h=>by rw [← hx.fix n hn];exact h) n
 cases h:bat x n <;> cases h' :bat y n <;> simp_all
structure Onway (F:(Nat→Bool)→Nat→Bool) (k:Nat) (x:List Bool):Prop where
 len:x.length=k
 no:∀ n,n<k→bat x n=false→F (bat x) n=false
 top:∀ y:Nat→Bool,(∀ n,k≤n→y n=false)→(∀ n,n<k→y n=true→F y n=true)→∀ n,y n=true→bat x n=true
theorem Onway.start (F:(Nat→Bool)→Nat→Bool) (k:Nat):Onway F k (List.replicate k true):=by
 refine ⟨by simp,fun n hn h=>(by rw [bat_yes hn] at h;cases h),fun y hb _ n hy=>?_⟩
 by_cases hn:n<k
 ·exact bat_yes hn
 ·rw [hb n (by omega)] at hy;cases hy
theorem Onway.set {F:(Nat→Bool)→Nat→Bool} {k:Nat} {x:List Bool} (hF:Mono F) (h:Onway F k x) {n:Nat} (hn:n<k) (hs:F (bat x) n=false):Onway F k (x.set n false):=by
 have hle:∀ m,bat (x.set n false) m=true→bat x m=true:=by
  intro m hm;rw [bat_set (by rw [h.len];exact hn)] at hm;split at hm
  ·cases hm
  ·exact hm
 have hno:∀ m,F (bat x) m=false→F (bat (x.set n false)) m=false:=by
  intro m hm
  cases e:F (bat (x.set n false)) m
  ·rfl
  ·rw [hF _ _ hle m e] at hm;cases hm
 refine ⟨by simp [h.len],fun m hm hb=>?_,fun y hb hy m hm=>?_⟩
 ·rw [bat_set (by rw [h.len];exact hn)] at hb
  split at hb
  ·rename_i e;subst e;exact hno _ hs
  ·exact hno m (h.no m hm hb)
 ·rw [bat_set (by rw [h.len];exact hn)]
  split
  ·rename_i e
   subst e
   have h1:=hy m hn hm
   have h2:=hF y (bat x) (fun j hj=>h.top y hb hy j hj) m h1
   rw [hs] at h2;cases h2
  ·exact h.top y hb hy m hm
theorem Onway.put {F:(Nat→Bool)→Nat→Bool} {k:Nat} {x:List Bool} (hF:Mono F) (h:Onway F k x) {n:Nat} (hn:n<k):Onway F k (x.set n (F (bat x) n)):=by
 cases e:F (bat x) n
 ·exact h.set hF hn e
 ·cases e2:bat x n
  ·rw [h.no n hn e2] at e;cases e
  ·have:x.set n true=x:=by
    refine bat_ext (by simp) fun m hm=>?_
    rw [bat_set (by rw [h.len];exact hn)]
    split
    ·rename_i q;subst q;exact e2.symm
    ·rfl
   rw [this];exact h
theorem Onway.done {F:(Nat→Bool)→Nat→Bool} {k:Nat} {x:List Bool} (h:Onway F k x) (hy:∀ n,n<k→bat x n=true→F (bat x) n=true):IsG F k x:=by
 refine ⟨h.len,fun n hn=>?_,h.top⟩
 cases e:bat x n
 ·exact (h.no n hn e).symm
 ·exact (hy n hn e).symm
def yeses (x:List Bool):Nat:=x.count true
theorem yeses_set {x:List Bool} {n:Nat} (h:n<x.length) (hb:bat x n=true):yeses (x.set n false)+1=yeses x:=by
 induction x generalizing n with
 | nil=>simp at h
 | cons a l ih =>
  cases n with
  | zero=>simp [bat] at hb;subst hb;simp [yeses]
  | succ n =>
   have:=ih (n:=n) (by simpa using h) (by simpa [bat] using hb)
   simp only [yeses,List.set_cons_succ,List.count_cons] at this ⊢
   omega
theorem yeses_le (x:List Bool):yeses x≤x.length:=List.count_le_length
def turnTo (F:(Nat→Bool)→Nat→Bool) (x:List Bool):Nat→List Bool
 | 0=>x
 | n+1=>(turnTo F x n).set n (F (bat (turnTo F x n)) n)
theorem turnTo_onway {F:(Nat→Bool)→Nat→Bool} {k:Nat} {x:List Bool} (hF:Mono F) (h:Onway F k x):∀ n,n≤k→Onway F k (turnTo F x n)
 | 0,_=>h
 | n+1,hn=>(turnTo_onway hF h n (by omega)).put hF (by omega)
theorem set_same {x:List Bool} {n:Nat} {b:Bool} (h:n<x.length) (hb:bat x n=b):x.set n b=x:=by
 refine bat_ext (by simp) fun m hm=>?_
 rw [bat_set h]
 split
 ·rename_i q;subst q;exact hb.symm
 ·rfl
theorem put_yeses {F:(Nat→Bool)→Nat→Bool} {k:Nat} {x:List Bool} (h:Onway F k x) {n:Nat} (hn:n<k):x.set n (F (bat x) n)=x∨yeses (x.set n (F (bat x) n))<yeses x:=by
 cases e:bat x n
 ·rw [h.no n hn e,set_same (by rw [h.len];exact hn) e];exact Or.inl rfl
 ·cases e2:F (bat x) n
  ·right;have:=yeses_set (by rw [h.len];exact hn) e;omega
  ·left;exact set_same (by rw [h.len];exact hn) e
theorem turnTo_yeses {F:(Nat→Bool)→Nat→Bool} {k:Nat} {x:List Bool} (hF:Mono F) (h:Onway F k x):∀ n,n≤k→(turnTo F x n=x∧∀ m,m<n→bat x m=F (bat x) m)∨yeses (turnTo F x n)<yeses x
 | 0,_=>Or.inl ⟨rfl,fun m hm=>by omega⟩
 | n+1,hn=>by
  have ho:=turnTo_onway hF h n (by omega)
  have hp:=put_yeses ho (n:=n) (by omega)
  simp only [turnTo]
  rcases turnTo_yeses hF h n (by omega) with ⟨h1,h2⟩ | h1
  ·rw [h1] at hp ⊢
   rcases hp with h3 | h3
   ·left
    refine ⟨h3,fun m hm=>?_⟩
    by_cases e:m=n
    ·subst e
     have:=congrArg (fun l=>bat l m) h3
     rw [bat_set (by rw [h.len];omega)] at this
     simpa using this.symm
    ·exact h2 m (by omega)
   ·exact Or.inr h3
  ·right
   rcases hp with h3 | h3
   ·rw [h3];exact h1
   ·omega
def turns (F:(Nat→Bool)→Nat→Bool) (k:Nat):Nat→List Bool
 | 0=>List.replicate k true
 | n+1=>turnTo F (turns F k n) k
theorem turns_onway {F:(Nat→Bool)→Nat→Bool} (hF:Mono F) (k:Nat):∀ n,Onway F k (turns F k n)
 | 0=>Onway.start F k
 | n+1=>turnTo_onway hF (turns_onway hF k n) k (Nat.le_refl _)
theorem turns_yeses {F:(Nat→Bool)→Nat→Bool} (hF:Mono F) (k:Nat):∀ n,(∀ m,m<k→bat (turns F k n) m=F (bat (turns F k n)) m)∨yeses (turns F k n)+n≤k
 | 0=>Or.inr (by have:=yeses_le (List.replicate k true);simpa [turns] using this)
 | n+1=>by
  simp only [turns]
  rcases turnTo_yeses hF (turns_onway hF k n) k (Nat.le_refl _) with ⟨h1,h2⟩ | h1
  ·left;rw [h1];exact h2
  ·rcases turns_yeses hF k n with h2 | h2
   ·left
    have hs:∀ j,j≤k→turnTo F (turns F k n) j=turns F k n:=by
     intro j
     induction j with
     | zero=>intro _;rfl
     | succ j ih =>
      intro hj
      simp only [turnTo]
      rw [ih (by omega)]
      exact set_same (by rw [(turns_onway hF k n).len];omega) (h2 j (by omega))
    rw [hs k (Nat.le_refl _)];exact h2
   ·right;omega
theorem turns_isG {F:(Nat→Bool)→Nat→Bool} (hF:Mono F) (k:Nat):IsG F k (turns F k (k+1)):=by
 refine (turns_onway hF k (k+1)).done fun n hn h=>?_
 rcases turns_yeses hF k (k+1) with h1 | h1
 ·rw [← h1 n hn];exact h
 ·omega
def gr (F:(Nat→Bool)→Nat→Bool) (k:Nat):List Bool:=turns F k (k+1)
theorem gr_isG {F:(Nat→Bool)→Nat→Bool} (hF:Mono F) (k:Nat):IsG F k (gr F k):=turns_isG hF k
theorem IsG.eq_gr {F:(Nat→Bool)→Nat→Bool} {k:Nat} {x:List Bool} (hF:Mono F) (h:IsG F k x):x=gr F k:=h.uniq (gr_isG hF k)
def pick (p:Nat→Bool) (k:Nat):List Int:=((List.range k).filter p).map (fun m:Nat=>(m:Int))
theorem pick_yes {p:Nat→Bool} {k:Nat} (h:p k=true):pick p (k+1)=pick p k++[(k:Int)]:=by
 simp [pick,List.range_succ,List.filter_append,h]
theorem pick_no {p:Nat→Bool} {k:Nat} (h:p k=false):pick p (k+1)=pick p k:=by
 simp [pick,List.range_succ,List.filter_append,h]
theorem pick_len (p:Nat→Bool) (k:Nat):(pick p k).length≤k:=by
 simp only [pick,List.length_map]
 exact Nat.le_trans (List.length_filter_le _ _) (by simp)
def ldB (x:Nd) (m:Nat):Bool:=(x.op != 12&&x.t==(m:Int))||(x.op==11&&x.e==(m:Int))
def ahB (ns:List Nd) (n:Nat) (m:Nat):Bool:=match ns[m]? with | some y=>ldB y n | none=>false
theorem ahB_at {ns:List Nd} {n m:Nat} {y:Nd} (h:ns[m]?=some y):ahB ns n m=ldB y n:=by simp [ahB,h]
theorem pick_none {p:Nat→Bool}:∀ {k:Nat},(∀ m,m<k→p m=false)→pick p k=[]
 | 0,_=>rfl
 | k+1,h=>by rw [pick_no (h k (by omega))];exact pick_none fun m hm=>h m (by omega)
theorem pick_one {p:Nat→Bool} {a:Nat} (ha:p a=true):∀ {k:Nat},a<k→(∀ m,m<k→m≠a→p m=false)→pick p k=[(a:Int)]
 | 0,h,_=>by omega
 | k+1,h,ho=>by
  by_cases e:a=k
  ·subst e
   rw [pick_yes ha,pick_none fun m hm=>ho m (by omega) (by omega)];rfl
  ·rw [pick_no (ho k (by omega) (by omega))]
   exact pick_one ha (by omega) fun m hm hn=>ho m (by omega) hn
theorem pick_two {p:Nat→Bool} {a b:Nat} (ha:p a=true) (hb:p b=true) (hab:a<b):∀ {k:Nat},b<k→(∀ m,m<k→m≠a→m≠b→p m=false)→pick p k=[(a:Int),(b:Int)]
 | 0,h,_=>by omega
 | k+1,h,ho=>by
  by_cases e:b=k
  ·subst e
   rw [pick_yes hb,pick_one ha hab fun m hm hn=>ho m (by omega) hn (by omega)];rfl
  ·rw [pick_no (ho k (by omega) (by omega) (by omega))]
   exact pick_two ha hb hab (by omega) fun m hm hn hn' =>ho m (by omega) hn hn'
def exl (x:Nd):List Int :=
 if x.op=11 then if x.t=x.e then [x.t] else if x.t<x.e then [x.t,x.e] else [x.e,x.t]
 else if wi x.op 0 11 then [x.t] else []
theorem exl_pick (x:Nd) (len:Nat) (hk:kn x.op=true) (ht:x.op≠12→1≤x.t∧x.t≤(len:Int)-1) (he:x.op=11→1≤x.e∧x.e≤(len:Int)-1):exl x=pick (ldB x) len:=by
 obtain ⟨op,d,a,b,t,e⟩:=x
 simp only at *
 have hk' :=wi_iff.1 hk
 by_cases h11:op=11
 ·subst h11
  obtain ⟨t1,t2⟩:=ht (by omega)
  obtain ⟨e1,e2⟩:=he rfl
  obtain ⟨T,rfl⟩:=Int.eq_ofNat_of_zero_le (show 0≤t by omega)
  obtain ⟨E,rfl⟩:=Int.eq_ofNat_of_zero_le (show 0≤e by omega)
  have hld:∀ m,ldB ⟨11,d,a,b,T,E⟩ m=(decide (T=m)||decide (E=m)):=by
   intro m;rw [Bool.eq_iff_iff];simp [ldB];omega
  by_cases hte:T=E
  ·subst hte
   rw [pick_one (a:=T) (by rw [hld];simp) (by omega) (fun m _ hn=>by rw [hld];simp;omega)]
   simp [exl]
  ·by_cases hlt:T<E
   ·rw [pick_two (a:=T) (b:=E) (by rw [hld];simp) (by rw [hld];simp) hlt (by omega) (fun m _ hn hn' =>by rw [hld];simp;omega)]
    simp only [exl,if_true];rw [if_neg (by omega),if_pos (by omega)]
   ·rw [pick_two (a:=E) (b:=T) (by rw [hld];simp) (by rw [hld];simp) (by omega) (by omega) (fun m _ hn hn' =>by rw [hld];simp;omega)]
    simp only [exl,if_true];rw [if_neg (by omega),if_neg (by omega)]
 ·by_cases h12:op=12
  ·subst h12
   rw [pick_none (fun m _=>by simp [ldB])]
   simp [exl,wi]
  ·obtain ⟨t1,t2⟩:=ht h12
   obtain ⟨T,rfl⟩:=Int.eq_ofNat_of_zero_le (show 0≤t by omega)
   have hld:∀ m,ldB ⟨op,d,a,b,T,e⟩ m=decide (T=m):=by
    intro m;rw [Bool.eq_iff_iff];simp [ldB];omega
   rw [pick_one (a:=T) (by rw [hld];simp) (by omega) (fun m _ hn=>by rw [hld];simp;omega)]
   simp only [exl];rw [if_neg h11,if_pos (wi_true (by omega) (by omega))]
theorem sort1 (a:Int):([a].mergeSort fun x y=>decide (x≤y))=[a]:=by simp
theorem sort2 (a b:Int):([a,b].mergeSort fun x y=>decide (x≤y))=if a≤b then [a,b] else [b,a]:=by
 simp [List.mergeSort,List.MergeSort.Internal.splitInTwo,List.merge]
structure Tm where
 op:Int
 a:Int
 b:Int
 deriving DecidableEq,Inhabited
def tmOf (x:Nd):Tm:=⟨x.op,x.a,x.b⟩
def nxl (ns:List Nd) (n:Nat):List Nat:=(List.range ns.length).filter fun m=>ahB ns m n
def ahl (ns:List Nd) (n:Nat):List Nat:=(List.range ns.length).filter fun m=>ahB ns n m
theorem mem_nxl {ns:List Nd} {n m:Nat}:m∈nxl ns n↔m<ns.length∧ahB ns m n=true:=by simp [nxl]
theorem mem_ahl {ns:List Nd} {n m:Nat}:m∈ahl ns n↔m<ns.length∧ahB ns n m=true:=by simp [ahl]
theorem ahB_lt {ns:List Nd} {n m:Nat} (h:ahB ns n m=true):m<ns.length:=by
 unfold ahB at h
 cases e:ns[m]? with
 | none=>rw [e] at h;cases h
 | some x=>exact (List.getElem?_eq_some_iff.1 e).1
structure Flw where
 back:Bool
 empty:Bool
 gen:List Bool
 pass:List Bool
 plus:List Bool
 lets:List Bool
def nbs (ns:List Nd) (f:Flw) (n:Nat):List Nat:=if f.back then nxl ns n else ahl ns n
def allOr (e:Bool) (l:List Nat) (p:Nat→Bool):Bool:=if l.isEmpty then e else l.all p
def sayF (ns:List Nd) (f:Flw) (x:Nat→Bool) (n:Nat):Bool :=
 bat f.gen n||(bat f.pass n&&allOr f.empty (nbs ns f n) fun m=>bat f.plus m||(bat f.lets m&&x m))
theorem all_mono {l:List Nat} {p q:Nat→Bool} (h:∀ m,p m=true→q m=true) (ha:l.all p=true):l.all q=true:=by
 rw [List.all_eq_true] at ha ⊢
 exact fun m hm=>h m (ha m hm)
theorem allOr_mono {e:Bool} {l:List Nat} {p q:Nat→Bool} (h:∀ m,p m=true→q m=true) (ha:allOr e l p=true):allOr e l q=true:=by
 unfold allOr at ha ⊢
 split at ha
 ·rename_i hl;rw [if_pos hl];exact ha
 ·rename_i hl;rw [if_neg hl];exact all_mono h ha
theorem sayF_mono (ns:List Nd) (f:Flw):Mono (sayF ns f):=by
 intro x y hxy n h
 simp only [sayF,Bool.or_eq_true,Bool.and_eq_true] at h ⊢
 rcases h with h | ⟨h1,h2⟩
 ·exact Or.inl h
 ·refine Or.inr ⟨h1,allOr_mono (fun m hm=>?_) h2⟩
  simp only [Bool.or_eq_true,Bool.and_eq_true] at hm ⊢
  rcases hm with hm | ⟨h3,h4⟩
  ·exact Or.inl hm
  ·exact Or.inr ⟨h3,hxy m h4⟩
def solve (ns:List Nd) (f:Flw):List Bool:=gr (sayF ns f) ns.length
inductive Rch (ns:List Nd):Nat→Prop
 | zero:Rch ns 0
 | step {n m:Nat}:Rch ns n→ahB ns m n=true→Rch ns m
structure IsR (ns:List Nd) (x:List Bool):Prop where
 len:x.length=ns.length
 iff:∀ n,n<ns.length→(bat x n=true↔Rch ns n)
theorem IsR.uniq {ns:List Nd} {x y:List Bool} (hx:IsR ns x) (hy:IsR ns y):x=y:=by
 refine bat_ext (by rw [hx.len,hy.len]) fun n hn=>?_
 rw [hx.len] at hn
 rw [Bool.eq_iff_iff,hx.iff n hn,hy.iff n hn]
def nrF (ns:List Nd) (x:Nat→Bool) (n:Nat):Bool:=n != 0&&(ahl ns n).all x
theorem nrF_mono (ns:List Nd):Mono (nrF ns):=by
 intro x y hxy n h
 simp only [nrF,Bool.and_eq_true] at h ⊢
 exact ⟨h.1,all_mono hxy h.2⟩
def rchL (ns:List Nd):List Bool:=(gr (nrF ns) ns.length).map not
theorem rchL_len (ns:List Nd):(rchL ns).length=ns.length:=by simp [rchL,(gr_isG (nrF_mono ns) ns.length).len]
theorem bat_not {x:List Bool} {n:Nat} (h:n<x.length):bat (x.map not) n=!bat x n:=by
 simp [bat,h]
theorem rchL_isR (ns:List Nd):IsR ns (rchL ns):=by
 have hG:=gr_isG (nrF_mono ns) ns.length
 refine ⟨rchL_len ns,fun n hn=>?_⟩
 rw [rchL,bat_not (by rw [hG.len];exact hn)]
 constructor
 ·intro h
  apply Classical.byContradiction
  intro hc
  have:=hG.top (fun m=>@decide (m<ns.length∧¬ Rch ns m) (Classical.propDecidable _)) (fun m hm=>by simp;omega) (fun m hm hy=>by
   simp only [decide_eq_true_eq] at hy
   simp only [nrF,Bool.and_eq_true,bne_iff_ne,ne_eq,List.all_eq_true,decide_eq_true_eq]
   refine ⟨fun e=>hy.2 (e ▸ Rch.zero),fun j hj=>?_⟩
   rw [mem_ahl] at hj
   exact ⟨hj.1,fun hr=>hy.2 (Rch.step hr hj.2)⟩) n (by simp;exact ⟨hn,hc⟩)
  rw [this] at h;cases h
 ·intro h
  have:∀ m,Rch ns m→m<ns.length→bat (gr (nrF ns) ns.length) m=false:=by
   intro m hm
   induction hm with
   | zero=>intro h0;rw [hG.fix 0 h0];simp [nrF]
   | step hr ha ih =>
    rename_i a b
    intro hb
    rw [hG.fix _ hb]
    have hlt:=ahB_lt ha
    simp only [nrF,Bool.and_eq_false_iff]
    right
    rw [List.all_eq_false]
    exact ⟨_,mem_ahl.2 ⟨hlt,ha⟩,by rw [ih hlt];simp⟩
  rw [this n h hn];rfl
def rcB (t:Tm) (x:Nd):Bool:=x.op==t.op&&x.a==t.a&&x.b==t.b
def kpB (t:Tm) (x:Nd):Bool:=!wi x.op 1 9||(x.d != t.a&&x.d != t.b)
def rcl (ns:List Nd) (t:Tm):List Bool:=ns.map (rcB t)
def kpl (ns:List Nd) (t:Tm):List Bool:=ns.map (kpB t)
def yesl (k:Nat):List Bool:=List.replicate k true
def nol (k:Nat):List Bool:=List.replicate k false
def bothl (ns:List Nd) (t:Tm):List Bool:=ns.map fun x=>kpB t x&&rcB t x
def nrcl (ns:List Nd) (t:Tm):List Bool:=ns.map fun x=>!rcB t x
theorem bat_mapn {ns:List Nd} {f:Nd→Bool} {n:Nat} {x:Nd} (h:ns[n]?=some x):bat (ns.map f) n=f x:=by simp [bat,h]
def downW (ns:List Nd) (t:Tm):Flw:=⟨true,false,rcl ns t,kpl ns t,nol ns.length,yesl ns.length⟩
def upW (ns:List Nd) (t:Tm):Flw:=⟨false,false,nol ns.length,yesl ns.length,bothl ns t,kpl ns t⟩
def downL (ns:List Nd) (t:Tm):List Bool:=solve ns (downW ns t)
def upL (ns:List Nd) (t:Tm):List Bool:=solve ns (upW ns t)
def earlyL (ns:List Nd) (t:Tm):List Bool:=(List.range ns.length).map fun n=>bat (downL ns t) n&&((ahl ns n).isEmpty||!(ahl ns n).all fun m=>bat (kpl ns t) m&&(bat (downL ns t) m||bat (upL ns t) m))
def delayW (ns:List Nd) (t:Tm):Flw:=⟨false,false,earlyL ns t,yesl ns.length,nol ns.length,nrcl ns t⟩
def delayL (ns:List Nd) (t:Tm):List Bool:=solve ns (delayW ns t)
def lateL (ns:List Nd) (t:Tm):List Bool:=(List.range ns.length).map fun n=>bat (delayL ns t) n&&(bat (rcl ns t) n||!(nxl ns n).all fun m=>bat (delayL ns t) m)
def aloneW (ns:List Nd) (t:Tm):Flw:=⟨true,true,nol ns.length,yesl ns.length,lateL ns t,nrcl ns t⟩
def aloneL (ns:List Nd) (t:Tm):List Bool:=solve ns (aloneW ns t)
theorem solve_len (ns:List Nd) (f:Flw):(solve ns f).length=ns.length:=(gr_isG (sayF_mono ns f) ns.length).len
def lazyPut (ns:List Nd) (t:Tm):List Bool:=(List.range ns.length).map fun n=>bat (lateL ns t) n&&!bat (aloneL ns t) n
def lazyTake (ns:List Nd) (t:Tm):List Bool:=(List.range ns.length).map fun n=>bat (rcl ns t) n&&!(bat (lateL ns t) n&&bat (aloneL ns t) n)
def rivPut (ns:List Nd) (t:Tm) (put:List Bool):List Bool:=(List.range ns.length).map fun n=>bat put n&&bat (downL ns t) n
def thereW (ns:List Nd) (t:Tm) (put:List Bool):Flw:=⟨false,false,put,yesl ns.length,nol ns.length,kpl ns t⟩
def thereL (ns:List Nd) (t:Tm) (put:List Bool):List Bool:=solve ns (thereW ns t put)
def rivTake (ns:List Nd) (t:Tm) (put:List Bool):List Bool:=(List.range ns.length).map fun n=>bat (rcl ns t) n&&bat (thereL ns t (rivPut ns t put)) n
end Go.Proofs.YtnbdnbcnlgnicaaGreat
namespace Go.Proofs.YtnbdnbcnlgnicaaGreat
open Go.RowKit
theorem ret_bool {a b:Bool} (h:a=b):Ending.returned (.bool a)=.returned (.bool b):=by rw [h]
theorem ret_int {k:IntKind} {a b:Int} (h:a=b):Ending.returned (.int k a)=.returned (.int k b):=by rw [h]
theorem rwithin_any (n l h:Int) (w:World) :
 Calls Tryz.prog 25 #[.int .i64 n,.int .i64 l,.int .i64 h] w fun e w' =>e=.returned (.bool (wi n l h))∧w' =w:=by
 go_enter Tryz.func25,Tryz.ntmps25
 go_wp2
 all_goals go_ret
 ·rename_i hx;exact ⟨ret_bool (by simp [wi,hx]),rfl⟩
 ·rename_i hx;exact ⟨ret_bool (by simp [wi];intro h;omega),rfl⟩
theorem pwithin_any (n l h:Int) (w:World) :
 Calls Tryz.prog 91 #[.int .i64 n,.int .i64 l,.int .i64 h] w fun e w' =>e=.returned (.bool (wi n l h))∧w' =w:=by
 go_enter Tryz.func91,Tryz.ntmps91
 go_wp2
 all_goals go_ret
 ·rename_i hx;exact ⟨ret_bool (by simp [wi,hx]),rfl⟩
 ·rename_i hx;exact ⟨ret_bool (by simp [wi];intro h;omega),rfl⟩
theorem of_any (op:Int) (w:World) :
 Calls Tryz.prog 109 #[.int .i64 op] w fun e w' =>e=.returned (.tuple #[.agg #[.int .i64 (k0 op),.int .i64 (k1 op),.int .i64 (k2 op),.int .i64 (k3 op),.int .i64 (k4 op)],.bool (kn op)])∧Below w.heap.size w w' :=by
 rcases op_cases op with (rfl | rfl | rfl | rfl | rfl | rfl | rfl | rfl | rfl | rfl | rfl | rfl | rfl) | hx
 case inr =>
  obtain ⟨e0,e1,e2,e3,e4,e5⟩:=kinds_unknown hx
  rw [e0,e1,e2,e3,e4,e5]
  clear e0 e1 e2 e3 e4 e5
  go_enter Tryz.func109,Tryz.ntmps109
  go_wp2
  exact bodyPost_ret (v:=.tuple #[.agg #[.int .i64 0,.int .i64 0,.int .i64 0,.int .i64 0,.int .i64 0],.bool false]) (by simp [results,Tryz.results109,go_sem]) rfl ⟨rfl,(Below.refl _ _).alloc (Nat.le_refl _) _⟩
 all_goals
  go_enter Tryz.func109,Tryz.ntmps109
  go_wp2
  refine bodyPost_ret (v:=.tuple #[.agg #[.int .i64 (k0 _),.int .i64 (k1 _),.int .i64 (k2 _),.int .i64 (k3 _),.int .i64 (k4 _)],.bool (kn _)]) ?_ rfl ⟨rfl,(Below.refl _ _).alloc (Nat.le_refl _) _⟩
  simp [results,Tryz.results109,go_sem,k0,k1,k2,k3,k4,kn,wi]
end Go.Proofs.YtnbdnbcnlgnicaaGreat
namespace Go.Proofs.YtnbdnbcnlgnicaaGreat
def nd (ns:List Nd) (n:Nat):Nd:=ns.getD n ⟨0,0,0,0,0,0⟩
theorem nd_get {ns:List Nd} {n:Nat} {x:Nd} (h:ns[n]?=some x):nd ns n=x:=by simp [nd,h]
theorem get_nd {ns:List Nd} {n:Nat} (h:n<ns.length):ns[n]?=some (nd ns n):=by simp [nd,h]
def keptI (x:List Bool) (k:Nat):List Nat:=(List.range k).filter (bat x)
theorem keptI_yes {x:List Bool} {k:Nat} (h:bat x k=true):keptI x (k+1)=keptI x k++[k]:=by
 simp [keptI,List.range_succ,List.filter_append,h]
theorem keptI_no {x:List Bool} {k:Nat} (h:bat x k=false):keptI x (k+1)=keptI x k:=by
 simp [keptI,List.range_succ,List.filter_append,h]
theorem keptI_len (x:List Bool) (k:Nat):(keptI x k).length≤k :=
 Nat.le_trans (List.length_filter_le _ _) (by simp)
def anewAt (x:List Bool) (j:Nat):Nat:=if bat x j then (keptI x j).length else 0
def anewTo (x:List Bool) (k j:Nat):Nat:=if j<k then anewAt x j else 0
def ren (x:List Bool) (m:Nd):Nd:={ m with t:=(anewAt x m.t.toNat:Nat),e:=(anewAt x m.e.toNat:Nat) }
def trimN (ns:List Nd):List Nd:=(keptI (rchL ns) ns.length).map fun n=>ren (rchL ns) (nd ns n)
def exo (x:Nd):List Int :=
 if x.op=11 then if x.e=x.t then [x.t] else [x.t,x.e]
 else if wi x.op 0 11 then [x.t] else []
def trn (x:Nd) (fr to:Int):Nd:={ x with t:=if x.t=fr then to else x.t,e:=if x.e=fr then to else x.e }
def spl1 (ns:List Nd) (n:Nat) (out:List Nd) (m:Int):List Nd :=
 if 1<(ahl ns m.toNat).length then out.set n (trn (nd out n) m out.length)++[⟨0,0,0,0,m,0⟩] else out
def spl2 (ns:List Nd) (out:List Nd) (n:Nat):List Nd :=
 if (nd ns n).op=0 then out else (exo (nd ns n)).foldl (spl1 ns n) out
def splTo (ns:List Nd) (k:Nat):List Nd:=(List.range k).foldl (spl2 ns) ns
theorem splTo_succ (ns:List Nd) (k:Nat):splTo ns (k+1)=spl2 ns (splTo ns k) k:=by
 simp [splTo,List.range_succ,List.foldl_append]
def splitN (ns:List Nd):List Nd:=splTo ns ns.length
end Go.Proofs.YtnbdnbcnlgnicaaGreat
namespace Go.Proofs.YtnbdnbcnlgnicaaGreat
open Go.RowKit Go.Shelf
attribute [local go_sem] Oper.semAt_some
theorem hide' {p:Prop} (h:p):Hid p:=h
abbrev Ex (x:Nd):={ m:Int // m∈exo x }
def exoA (x:Nd):List (Ex x):=(exo x).attach
def exv {x:Nd} (l:List (Ex x)):List Int:=l.map (·.1)
theorem exv_snoc {x:Nd} (l:List (Ex x)) (y:Ex x):exv (l++[y])=exv l++[y.1]:=by simp [exv]
theorem exoA_map (x:Nd):(exoA x).map (·.1)=exo x:=by simp [exoA]
theorem exv_all (x:Nd):exv (exoA x)=exo x:=exoA_map x
theorem exv_len {x:Nd} (l:List (Ex x)):(exv l).length=l.length:=by simp [exv]
theorem exoA_len (x:Nd):(exoA x).length=(exo x).length:=by simp [exoA]
theorem exo_len (x:Nd):(exo x).length≤2:=by
 unfold exo;repeat' split
 all_goals simp
def NodeBox (w:World) (B:Nat) (x:Nd):Prop:=w.heap[B]?=some (.cells #[.int .i64 x.op,.int .i64 x.d,.int .i64 x.a,.int .i64 x.b,.int .i64 x.t,.int .i64 x.e] 47 (0,0))
theorem NodeBox.lt {w:World} {B:Nat} {x:Nd} (h:NodeBox w B x):B<w.heap.size:=(Array.getElem?_eq_some_iff.1 h).1
theorem NodeBox.c0 {w:World} {B:Nat} {x:Nd} (h:NodeBox w B x):w.cell? ⟨B,0,none⟩=some (.int .i64 x.op):=by simp [World.cell?,show w.heap[B]?=_ from h]
theorem NodeBox.c4 {w:World} {B:Nat} {x:Nd} (h:NodeBox w B x):w.cell? ⟨B,4,none⟩=some (.int .i64 x.t):=by simp [World.cell?,show w.heap[B]?=_ from h]
theorem NodeBox.c5 {w:World} {B:Nat} {x:Nd} (h:NodeBox w B x):w.cell? ⟨B,5,none⟩=some (.int .i64 x.e):=by simp [World.cell?,show w.heap[B]?=_ from h]
theorem NodeBox.below {w w' :World} {B n₀:Nat} {x:Nd} (h:NodeBox w B x) (hb:Below n₀ w w') (hB:B<n₀):NodeBox w' B x:=(hb.block B hB).trans h
structure KT (B:Nat) (A C:World):Prop where
 box:C.heap[B]?=A.heap[B]?
 kinds:∀ (k:Nat) vs fr,A.heap[k]?=some (.cells vs 127 fr)→C.heap[k]?=A.heap[k]?
theorem KT.refl (B:Nat) (A:World):KT B A A:=⟨rfl,fun _ _ _ _=>rfl⟩
theorem KT.trans {B:Nat} {A C E:World} (h:KT B A C) (k:KT B C E):KT B A E :=
 ⟨k.box.trans h.box,fun i vs fr e=>by
  have h1:=h.kinds i vs fr e
  rw [k.kinds i vs fr (h1.trans e),h1]⟩
theorem KT.of_below {B:Nat} {A C:World} (h:Below A.heap.size A C) (hB:B<A.heap.size):KT B A C :=
 ⟨h.block B hB,fun i vs fr e=>h.block i (Array.getElem?_eq_some_iff.1 e).1⟩
theorem KT.grown {B:Nat} {A C:World} {row:Option Nat} (hg:A.grownBy C row) (hB:B<A.heap.size) (hr:∀ g,row=some g→g≠B∧∃ vs t fr,A.heap[g]?=some (.cells vs t fr)∧t≠127):KT B A C :=
 ⟨hg.block B hB fun e=>(hr B e.symm).1 rfl,fun i vs fr e=>hg.block i (Array.getElem?_eq_some_iff.1 e).1 fun e2=>by
  obtain ⟨_,vs', t,fr', h1,h2⟩:=hr i e2.symm
  rw [h1] at e
  cases e
  exact h2 rfl⟩
theorem KT.setCell {B:Nat} {A:World} {b o:Nat} {vs:Array Value} {t:TypeId} {fr:Nat × Nat} (h:A.heap[b]?=some (.cells vs t fr)) (ht:t≠127) (hb:b≠B) (v:Value):KT B A (A.setCell ⟨b,o,none⟩ v) :=
 ⟨Below.heap_setCell _ _ _ B fun e2=>hb e2.symm,fun i vs' fr' e=>Below.heap_setCell _ _ _ i fun e2=>by
  simp only at e2
  subst e2
  rw [h] at e
  cases e
  exact ht rfl⟩
theorem KT.putObj {B:Nat} {w:World} (hB:B<w.heap.size) (W:World) (l:Nat) (o o' :Obj) (hl:w.heap.size≤l) (h:W.heap[l]?=some o) (hc:o.isCells=false) (_:o.isWalk=false):KT B W (W.putObj l o') :=
 ⟨World.putObj_heap_other (by omega),fun i vs fr e=>World.putObj_heap_other fun e2=>by
  subst e2
  rw [h] at e
  cases e
  cases hc⟩
theorem KT.node {B:Nat} {A C:World} {x:Nd} (h:KT B A C) (hx:NodeBox A B x):NodeBox C B x:=h.box.trans hx
theorem k3_ne {op:Int} (h:¬ (0≤op∧op≤11)):(k3 op==3)=false:=by
 have:wi op 0 11=false:=wi_false (by omega)
 simp [k3,this]
theorem k3_eq {op:Int} (h:0≤op∧op≤11):k3 op=3:=by
 simp [k3,wi_true h.1 h.2]
theorem grown_of_below {w w' :World} (h:Below w.heap.size w w') (row:Option Nat):w.grownBy w' row:=⟨h.os,h.tape,h.output,h.size,fun k hk _=>h.block k hk⟩
theorem abides_below {α:Type} {B:Nat} {J:List α→World→Prop} (hJ:AbidesFrom B J) {s:List α} {w w' :World} (h:J s w) (hb:Below w.heap.size w w'):J s w' :=
 hJ s w w' none h (grown_of_below hb none) (fun r e=>by cases e)
theorem exoA_nil {x:Nd} (h:exo x=[]):exoA x=[]:=by
 have:=exoA_len x;rw [h] at this;exact List.eq_nil_of_length_eq_zero this
theorem exoA_one {x:Nd} {a:Int} (h:exo x=[a]):∃ ha:a∈exo x,exoA x=[⟨a,ha⟩]:=by
 refine ⟨by rw [h];simp,?_⟩
 have hm:=(exoA_map x).trans h
 cases e:exoA x with
 | nil=>rw [e] at hm;simp at hm
 | cons y l =>
  rw [e] at hm
  simp only [List.map_cons,List.cons.injEq,List.map_eq_nil_iff] at hm
  obtain ⟨h1,h2⟩:=hm
  subst h2
  congr 1;exact Subtype.ext h1
theorem exoA_two {x:Nd} {a b:Int} (h:exo x=[a,b]):∃ (ha:a∈exo x) (hb:b∈exo x),exoA x=[⟨a,ha⟩,⟨b,hb⟩]:=by
 refine ⟨by rw [h];simp,by rw [h];simp,?_⟩
 have hm:=(exoA_map x).trans h
 cases e:exoA x with
 | nil=>rw [e] at hm;simp at hm
 | cons y l =>
  rw [e] at hm
  cases l with
  | nil=>simp at hm
  | cons z l =>
   simp only [List.map_cons,List.cons.injEq,List.map_eq_nil_iff] at hm
   obtain ⟨h1,h2,h3⟩:=hm
   subst h3
   congr 1
   ·exact Subtype.ext h1
   ·congr 1;exact Subtype.ext h2
set_option maxRecDepth 100000 in
theorem exits1_none (n:Nat) (hn:1≤n) (l B:Nat) (x:Nd) (J Jx:List (Ex x)→World→Prop) (W:World) (hJ:AbidesFrom W.heap.size J)
 (hY:∀ pre (y:Ex x) W,J pre W→pre.length<(exo x).length→YieldAt Fence.wide (n-1) Tryz.prog l #[.int .i64 y.1] W fun e W' =>
  (e=.returned (.bool true)∧J (pre++[y]) W' ∧KT B W W')∨(e=.returned (.bool false)∧Jx (pre++[y]) W'))
 (hx:NodeBox W B x) (h0:J [] W) (h3:¬ (0≤x.op∧x.op≤11)) :
 CallsIn Fence.wide n Tryz.prog 110 #[.func (.yield l) #[] #[],.pointer (some ⟨B,0,none⟩)] W fun e W' =>(∃ v,e=.returned v) ∧
  ((∃ ys,ys=exoA x∧J ys W')∨(∃ pre,pre <+: exoA x∧Jx pre W')):=by
 have c0:=hx.c0
 have hk3:=k3_ne h3
 have hk4:(k4 x.op==3)=false:=by simp [k4];omega
 have hex:exo x=[]:=by
  have e:wi x.op 0 11=false:=wi_false (by omega)
  simp [exo,e];omega
 refine callsIn_of_wp Tryz.func110 rfl trivial ?_ rfl
 simp only [Tryz.ntmps110,List.size_toArray,List.length_cons,List.length_nil,Nat.reduceAdd,Nat.reduceSub,Array.replicate_succ,Array.replicate_zero,List.push_toArray,List.append_toArray,List.nil_append,List.cons_append]
 gi_wp2_with (refine ⟨trivial,?_⟩;gi_at_call 109;refine (callsIn_wide.2 (of_any _ _)).mono ?_;rintro e w1 ⟨rfl,hb1⟩)
 refine ⟨fun _ h=>(by cases h),?_⟩
 gi_wp2
 go_end0
 exact ⟨⟨_,rfl⟩,.inl ⟨_,(exoA_nil hex).symm,abides_below hJ h0 (hb1.alloc hb1.size _)⟩⟩
set_option maxRecDepth 100000 in
theorem exits1_one (n:Nat) (hn:1≤n) (l B:Nat) (x:Nd) (J Jx:List (Ex x)→World→Prop) (W:World) (hJ:AbidesFrom W.heap.size J)
 (hY:∀ pre (y:Ex x) W,J pre W→pre.length<(exo x).length→YieldAt Fence.wide (n-1) Tryz.prog l #[.int .i64 y.1] W fun e W' =>
  (e=.returned (.bool true)∧J (pre++[y]) W' ∧KT B W W')∨(e=.returned (.bool false)∧Jx (pre++[y]) W'))
 (hx:NodeBox W B x) (h0:J [] W) (h3:0≤x.op∧x.op≤10) :
 CallsIn Fence.wide n Tryz.prog 110 #[.func (.yield l) #[] #[],.pointer (some ⟨B,0,none⟩)] W fun e W' =>(∃ v,e=.returned v) ∧
  ((∃ ys,ys=exoA x∧J ys W')∨(∃ pre,pre <+: exoA x∧Jx pre W')):=by
 have c0:=hx.c0
 have hk3:=k3_eq (op:=x.op) (by omega)
 have hk4:(k4 x.op==3)=false:=by simp [k4];omega
 have hex:exo x=[x.t]:=by
  simp only [exo]
  rw [if_neg (by omega),if_pos (wi_true (by omega) (by omega))]
 obtain ⟨ha,hexA⟩:=exoA_one hex
 have HX:=hide' hexA
 have HY:=hide' hY
 have HL:=hide' hex
 clear hexA hY hex
 refine callsIn_of_wp Tryz.func110 rfl trivial ?_ rfl
 simp only [Tryz.ntmps110,List.size_toArray,List.length_cons,List.length_nil,Nat.reduceAdd,Nat.reduceSub,Array.replicate_succ,Array.replicate_zero,List.push_toArray,List.append_toArray,List.nil_append,List.cons_append]
 gi_wp2_with (refine ⟨trivial,?_⟩;gi_at_call 109;refine (callsIn_wide.2 (of_any _ _)).mono ?_;rintro e w1 ⟨rfl,hb1⟩;have hs1:=hb1.size;have c4:w1.cell? ⟨B,4,none⟩=some (.int .i64 x.t):=(hb1.cell (p:=⟨B,4,none⟩) hx.lt).trans hx.c4;have hlt:B<w1.heap.size:=Nat.lt_of_lt_of_le hx.lt hb1.size;have hj1:J [] (w1.alloc (.cells #[.int .i64 (k0 x.op),.int .i64 (k1 x.op),.int .i64 (k2 x.op),.int .i64 3,.int .i64 (k4 x.op)] 127)):=abides_below hJ h0 (hb1.alloc hb1.size _);obtain ⟨fn,tmps,assign,body,hy,hR⟩:=HY.out [] ⟨x.t,ha⟩ _ hj1 (by rw [HL.out];simp);dsimp only at hy)
 refine hR.mono ?_
 rintro e W3 (⟨rfl,hJ3,hk3'⟩ | ⟨rfl,hJx3⟩)
 ·have hz:W3.cell? ⟨w1.heap.size,4,none⟩=some (.int .i64 (k4 x.op)):=by
   have h1:=hk3'.kinds w1.heap.size _ _ (World.alloc_heap_new w1 _)
   rw [World.alloc_heap_new] at h1
   simp [World.cell?,h1]
  gi_wp2
  go_end0
  exact ⟨⟨_,rfl⟩,.inl ⟨_,HX.out.symm,hJ3⟩⟩
 ·gi_wp2
  refine bodyPost_ret (results_none rfl _ _ _) rfl ?_
  exact ⟨⟨_,rfl⟩,.inr ⟨_,by rw [HX.out];simp,hJx3⟩⟩
set_option maxRecDepth 100000 in
theorem exits1_same (n:Nat) (hn:1≤n) (l B:Nat) (x:Nd) (J Jx:List (Ex x)→World→Prop) (W:World) (hJ:AbidesFrom W.heap.size J)
 (hY:∀ pre (y:Ex x) W,J pre W→pre.length<(exo x).length→YieldAt Fence.wide (n-1) Tryz.prog l #[.int .i64 y.1] W fun e W' =>
  (e=.returned (.bool true)∧J (pre++[y]) W' ∧KT B W W')∨(e=.returned (.bool false)∧Jx (pre++[y]) W'))
 (hx:NodeBox W B x) (h0:J [] W) (h3:x.op=11) (he:x.e=x.t) :
 CallsIn Fence.wide n Tryz.prog 110 #[.func (.yield l) #[] #[],.pointer (some ⟨B,0,none⟩)] W fun e W' =>(∃ v,e=.returned v) ∧
  ((∃ ys,ys=exoA x∧J ys W')∨(∃ pre,pre <+: exoA x∧Jx pre W')):=by
 have c0:=hx.c0
 have hk3:=k3_eq (op:=x.op) (by omega)
 have hk4:k4 x.op=3:=by simp [k4,h3]
 have hex:exo x=[x.t]:=by
  simp only [exo]
  rw [if_pos h3,if_pos he]
 obtain ⟨ha,hexA⟩:=exoA_one hex
 have HX:=hide' hexA
 have HY:=hide' hY
 have HL:=hide' hex
 have HE:=hide' he
 have hle:11≤x.op:=by omega
 clear hexA hY hex he h3 hle
 refine callsIn_of_wp Tryz.func110 rfl trivial ?_ rfl
 simp only [Tryz.ntmps110,List.size_toArray,List.length_cons,List.length_nil,Nat.reduceAdd,Nat.reduceSub,Array.replicate_succ,Array.replicate_zero,List.push_toArray,List.append_toArray,List.nil_append,List.cons_append]
 gi_wp2_with (refine ⟨trivial,?_⟩;gi_at_call 109;refine (callsIn_wide.2 (of_any _ _)).mono ?_;rintro e w1 ⟨rfl,hb1⟩;have hs1:=hb1.size;have c4:w1.cell? ⟨B,4,none⟩=some (.int .i64 x.t):=(hb1.cell (p:=⟨B,4,none⟩) hx.lt).trans hx.c4;have hlt:B<w1.heap.size:=Nat.lt_of_lt_of_le hx.lt hb1.size;have hj1:J [] (w1.alloc (.cells #[.int .i64 (k0 x.op),.int .i64 (k1 x.op),.int .i64 (k2 x.op),.int .i64 3,.int .i64 3] 127)):=abides_below hJ h0 (hb1.alloc hb1.size _);obtain ⟨fn,tmps,assign,body,hy,hR⟩:=HY.out [] ⟨x.t,ha⟩ _ hj1 (by rw [HL.out];simp);dsimp only at hy)
 refine hR.mono ?_
 rintro e W3 (⟨rfl,hJ3,hk3'⟩ | ⟨rfl,hJx3⟩)
 ·have hz:W3.cell? ⟨w1.heap.size,4,none⟩=some (.int .i64 3):=by
   have h1:=hk3'.kinds w1.heap.size _ _ (World.alloc_heap_new w1 _)
   rw [World.alloc_heap_new] at h1
   simp [World.cell?,h1]
  have hnb:=hx.below (hb1.alloc hb1.size (.cells #[.int .i64 (k0 x.op),.int .i64 (k1 x.op),.int .i64 (k2 x.op),.int .i64 3,.int .i64 3] 127)) hx.lt
  have q4:W3.cell? ⟨B,4,none⟩=some (.int .i64 x.t):=(hk3'.node hnb).c4
  have q5:W3.cell? ⟨B,5,none⟩=some (.int .i64 x.t):=(hk3'.node hnb).c5.trans (by rw [HE.out])
  gi_wp2
  go_end0
  exact ⟨⟨_,rfl⟩,.inl ⟨_,HX.out.symm,hJ3⟩⟩
 ·gi_wp2
  refine bodyPost_ret (results_none rfl _ _ _) rfl ?_
  exact ⟨⟨_,rfl⟩,.inr ⟨_,by rw [HX.out];simp,hJx3⟩⟩
set_option maxRecDepth 100000 in
theorem exits1_both (n:Nat) (hn:1≤n) (l B:Nat) (x:Nd) (J Jx:List (Ex x)→World→Prop) (W:World) (hJ:AbidesFrom W.heap.size J)
 (hY:∀ pre (y:Ex x) W,J pre W→pre.length<(exo x).length→YieldAt Fence.wide (n-1) Tryz.prog l #[.int .i64 y.1] W fun e W' =>
  (e=.returned (.bool true)∧J (pre++[y]) W' ∧KT B W W')∨(e=.returned (.bool false)∧Jx (pre++[y]) W'))
 (hx:NodeBox W B x) (h0:J [] W) (h3:x.op=11) (he:x.e≠x.t) :
 CallsIn Fence.wide n Tryz.prog 110 #[.func (.yield l) #[] #[],.pointer (some ⟨B,0,none⟩)] W fun e W' =>(∃ v,e=.returned v) ∧
  ((∃ ys,ys=exoA x∧J ys W')∨(∃ pre,pre <+: exoA x∧Jx pre W')):=by
 have c0:=hx.c0
 have hk3:=k3_eq (op:=x.op) (by omega)
 have hk4:k4 x.op=3:=by simp [k4,h3]
 have hex:exo x=[x.t,x.e]:=by
  simp only [exo]
  rw [if_pos h3,if_neg he]
 obtain ⟨ha,hb,hexA⟩:=exoA_two hex
 have hne:(x.e != x.t)=true:=by simpa using he
 have HX:=hide' hexA
 have HY:=hide' hY
 have HL:=hide' hex
 have HE:=hide' he
 have hle:11≤x.op:=by omega
 clear hexA hY hex he h3 hle
 refine callsIn_of_wp Tryz.func110 rfl trivial ?_ rfl
 simp only [Tryz.ntmps110,List.size_toArray,List.length_cons,List.length_nil,Nat.reduceAdd,Nat.reduceSub,Array.replicate_succ,Array.replicate_zero,List.push_toArray,List.append_toArray,List.nil_append,List.cons_append]
 gi_wp2_with (refine ⟨trivial,?_⟩;gi_at_call 109;refine (callsIn_wide.2 (of_any _ _)).mono ?_;rintro e w1 ⟨rfl,hb1⟩;have hs1:=hb1.size;have c4:w1.cell? ⟨B,4,none⟩=some (.int .i64 x.t):=(hb1.cell (p:=⟨B,4,none⟩) hx.lt).trans hx.c4;have hlt:B<w1.heap.size:=Nat.lt_of_lt_of_le hx.lt hb1.size;have hj1:J [] (w1.alloc (.cells #[.int .i64 (k0 x.op),.int .i64 (k1 x.op),.int .i64 (k2 x.op),.int .i64 3,.int .i64 3] 127)):=abides_below hJ h0 (hb1.alloc hb1.size _);obtain ⟨fn,tmps,assign,body,hy,hR⟩:=HY.out [] ⟨x.t,ha⟩ _ hj1 (by rw [HL.out];simp);dsimp only at hy)
 refine hR.mono ?_
 rintro e W3 (⟨rfl,hJ3,hk3'⟩ | ⟨rfl,hJx3⟩)
 ·have hz:W3.cell? ⟨w1.heap.size,4,none⟩=some (.int .i64 3):=by
   have h1:=hk3'.kinds w1.heap.size _ _ (World.alloc_heap_new w1 _)
   rw [World.alloc_heap_new] at h1
   simp [World.cell?,h1]
  have hnb:=hx.below (hb1.alloc hb1.size (.cells #[.int .i64 (k0 x.op),.int .i64 (k1 x.op),.int .i64 (k2 x.op),.int .i64 3,.int .i64 3] 127)) hx.lt
  have q4:W3.cell? ⟨B,4,none⟩=some (.int .i64 x.t):=(hk3'.node hnb).c4
  have q5:W3.cell? ⟨B,5,none⟩=some (.int .i64 x.e):=(hk3'.node hnb).c5
  obtain ⟨fn2,tmps2,assign2,body2,hy2,hR2⟩:=HY.out _ ⟨x.e,hb⟩ _ hJ3 (by have:=congrArg List.length HL.out;simp at this ⊢;omega)
  dsimp only at hy2
  gi_wp2
  refine hR2.mono ?_
  rintro e2 W4 (⟨rfl,hJ4,_⟩ | ⟨rfl,hJx4⟩)
  ·gi_wp2
   go_end0
   exact ⟨⟨_,rfl⟩,.inl ⟨_,HX.out.symm,hJ4⟩⟩
  ·gi_wp2
   go_end0
   exact ⟨⟨_,rfl⟩,.inr ⟨_,by rw [HX.out];simp,hJx4⟩⟩
 ·gi_wp2
  refine bodyPost_ret (results_none rfl _ _ _) rfl ?_
  exact ⟨⟨_,rfl⟩,.inr ⟨_,by rw [HX.out];simp,hJx3⟩⟩
theorem exits_stops (n:Nat) (hn:1≤n) (B:Nat) (x:Nd) (w:World) (hx:NodeBox w B x) :
 SeqStopsK Fence.wide n Tryz.prog 110 #[.pointer (some ⟨B,0,none⟩)] (fun y:Ex x=>#[Value.int .i64 y.1]) (KT B) (fun ys=>ys=exoA x) (fun pre=>pre <+: exoA x) (exo x).length w:=fun l J Jx W hW hJ _ hY h0=>by
 have hx' :NodeBox W B x:=hx.below hW hx.lt
 by_cases h3:0≤x.op∧x.op≤11
 ·by_cases h11:x.op=11
  ·by_cases he:x.e=x.t
   ·exact exits1_same n hn l B x J Jx W hJ hY hx' h0 h11 he
   ·exact exits1_both n hn l B x J Jx W hJ hY hx' h0 h11 he
  ·exact exits1_one n hn l B x J Jx W hJ hY hx' h0 (by omega)
 ·exact exits1_none n hn l B x J Jx W hJ hY hx' h0 h3
theorem exits_in (n:Nat) (op d a b t e:Int) (w:World) :
 CallsIn Fence.wide n Tryz.prog 85 #[.agg #[.int .i64 op,.int .i64 d,.int .i64 a,.int .i64 b,.int .i64 t,.int .i64 e]] w fun r w' =>r=.returned (.func (.func 110) #[] #[.pointer (some ⟨w.heap.size,0,none⟩)])∧w' =w.alloc (.cells #[.int .i64 op,.int .i64 d,.int .i64 a,.int .i64 b,.int .i64 t,.int .i64 e] 47):=by
 refine callsIn_of_wp Tryz.func85 rfl trivial ?_ rfl
 simp only [Tryz.ntmps85,List.size_toArray,List.length_cons,List.length_nil,Nat.reduceAdd,Nat.reduceSub,Array.replicate_succ,Array.replicate_zero,List.push_toArray,List.append_toArray,List.nil_append,List.cons_append]
 gi_wp2
 go_ret
 exact ⟨rfl,rfl⟩
theorem nodeBox_new (w:World) (x:Nd):NodeBox (w.alloc (.cells #[.int .i64 x.op,.int .i64 x.d,.int .i64 x.a,.int .i64 x.b,.int .i64 x.t,.int .i64 x.e] 47)) w.heap.size x:=World.alloc_heap_new w _
end Go.Proofs.YtnbdnbcnlgnicaaGreat
namespace Go.Proofs.YtnbdnbcnlgnicaaGreat
def inB (r:Int) (len:Nat) (k v:Int):Bool:=if k=1 then wi v 0 (r-1) else if k=3 then wi v 1 ((len:Int)-1) else true
def noF (k v:Int):Bool:=k != 0||v==0
def kvs (x:Nd):List (Int × Int):=[(k0 x.op,x.d),(k1 x.op,x.a),(k2 x.op,x.b),(k3 x.op,x.t),(k4 x.op,x.e)]
def fieldsOk (R:Int→Int→Bool) (x:Nd):Bool:=(kvs x).all fun p=>R p.1 p.2
def chk (r:Int) (ns:List Nd):Int :=
 if wi ns.length 1 256&&wi r 1 64 then
  if ns.all (fun x=>kn x.op) then
   if ns.all (fieldsOk (inB r ns.length)) then
    if ns.all (fieldsOk noF) then 0 else 1
   else 3
  else 4
 else 2
theorem chk_zero {r:Int} {ns:List Nd} (h:chk r ns=0):(1≤ns.length∧ns.length≤256)∧(1≤r∧r≤64)∧(∀ x∈ns,kn x.op=true)∧(∀ x∈ns,fieldsOk (inB r ns.length) x=true)∧(∀ x∈ns,fieldsOk noF x=true):=by
 unfold chk at h
 split at h
 ·rename_i h1
  rw [Bool.and_eq_true,wi_iff,wi_iff] at h1
  split at h
  ·rename_i h2
   split at h
   ·rename_i h3
    split at h
    ·rename_i h4
     rw [List.all_eq_true] at h2 h3 h4
     exact ⟨by omega,h1.2,h2,h3,h4⟩
    ·omega
   ·omega
  ·omega
 ·omega
theorem k3_val {op:Int} (h:kn op=true):k3 op=if op=12 then 0 else 3:=by
 have:=wi_iff.1 h
 unfold k3
 by_cases h12:op=12
 ·subst h12;rfl
 ·rw [if_neg h12,if_pos (wi_true (by omega) (by omega))]
theorem then_ok {r:Int} {ns:List Nd} (h:chk r ns=0) {x:Nd} (hx:x∈ns) (h12:x.op≠12):1≤x.t∧x.t≤(ns.length:Int)-1:=by
 obtain ⟨_,_,hk,hi,_⟩:=chk_zero h
 have h1:=hi x hx
 simp only [fieldsOk,kvs,List.all_cons,List.all_nil,Bool.and_true,Bool.and_eq_true] at h1
 have h3:=h1.2.2.2.1
 rw [k3_val (hk x hx),if_neg h12] at h3
 simpa [inB,wi] using h3
theorem else_ok {r:Int} {ns:List Nd} (h:chk r ns=0) {x:Nd} (hx:x∈ns) (h11:x.op=11):1≤x.e∧x.e≤(ns.length:Int)-1:=by
 obtain ⟨_,_,hk,hi,_⟩:=chk_zero h
 have h1:=hi x hx
 simp only [fieldsOk,kvs,List.all_cons,List.all_nil,Bool.and_true,Bool.and_eq_true] at h1
 have h4:=h1.2.2.2.2
 simp only [k4,if_pos h11] at h4
 simpa [inB,wi] using h4
theorem exl_ok {r:Int} {ns:List Nd} (h:chk r ns=0) {x:Nd} (hx:x∈ns):exl x=pick (ldB x) ns.length :=
 exl_pick x ns.length ((chk_zero h).2.2.1 x hx) (then_ok h hx) (else_ok h hx)
structure NodeOk (r:Int) (len:Nat) (x:Nd):Prop where
 op:0≤x.op∧x.op≤12
 d:1≤x.op→x.op≤9→0≤x.d∧x.d<r
 a:x.op≠0→x.op≠1→x.op≠9→0≤x.a∧x.a<r
 b:3≤x.op→x.op≤8→0≤x.b∧x.b<r
 t:0≤x.t∧x.t<len
 e:x.op=11→0≤x.e∧x.e<len
theorem node_ok {r:Int} {ns:List Nd} (h:chk r ns=0) {x:Nd} (hx:x∈ns):NodeOk r ns.length x:=by
 obtain ⟨hl,hr,hk,hi,hn⟩:=chk_zero h
 have hop:=wi_iff.1 (hk x hx)
 have h1:=hi x hx
 have h2:=hn x hx
 simp only [fieldsOk,kvs,List.all_cons,List.all_nil,Bool.and_true,Bool.and_eq_true] at h1 h2
 obtain ⟨q0,q1,q2,q3,q4⟩:=h1
 obtain ⟨n0,n1,n2,n3,n4⟩:=h2
 refine ⟨hop,fun a b=>?_,fun a b c=>?_,fun a b=>?_,?_,fun a=>?_⟩
 ·simp only [k0,wi_true a b,if_true,inB] at q0
  have:=wi_iff.1 q0;omega
 ·have e:(wi x.op 2 8||wi x.op 10 12)=true:=by
   rw [Bool.or_eq_true,wi_iff,wi_iff];omega
  simp only [k1,if_neg b,e,if_true,inB] at q1
  have:=wi_iff.1 q1;omega
 ·simp only [k2,wi_true a b,if_true,inB] at q2
  have:=wi_iff.1 q2;omega
 ·by_cases e:x.op=12
  ·rw [k3_val (hk x hx),if_pos e] at n3
   simp [noF] at n3
   omega
  ·have:=then_ok h hx e;omega
 ·have:=else_ok h hx a;omega
end Go.Proofs.YtnbdnbcnlgnicaaGreat
namespace Go.Proofs.YtnbdnbcnlgnicaaGreat
open Go.RowKit
theorem hide {p:Prop} (h:p):Hid p:=h
theorem fields_any (op:Int) (w:World) :
 Calls Tryz.prog 52 #[.int .i64 op] w fun e w' =>e=.returned (.tuple #[.bool (wi op 1 9),.bool (wi op 2 8||wi op 10 12),.bool (wi op 3 8),.bool (op != 12),.bool (op==11)])∧w' =w:=by
 go_enter Tryz.func52,Tryz.ntmps52
 go_wp2_with (go_at_call 25;refine (rwithin_any _ _ _ _).mono ?_;rintro e w' ⟨rfl,rfl⟩)
 all_goals exact bodyPost_ret (v:=.tuple #[.bool (wi op 1 9),.bool (wi op 2 8||wi op 10 12),.bool (wi op 3 8),.bool (op != 12),.bool (op==11)]) (by simp [results,Tryz.results52,go_sem, *]) rfl ⟨rfl,rfl⟩
theorem reckons_any (op:Int) (w:World) :
 Calls Tryz.prog 24 #[.int .i64 op] w fun e w' =>e=.returned (.bool (wi op 3 8))∧w' =w:=by
 go_enter Tryz.func24,Tryz.ntmps24
 go_wp2_with (go_at_call 25;refine (rwithin_any _ _ _ _).mono ?_;rintro e w' ⟨rfl,rfl⟩)
 go_ret
 exact ⟨rfl,rfl⟩
theorem values_any (op d a b t e:Int) (w:World) :
 Calls Tryz.prog 111 #[.agg #[.int .i64 op,.int .i64 d,.int .i64 a,.int .i64 b,.int .i64 t,.int .i64 e]] w fun r w' =>r=.returned (.agg #[.int .i64 d,.int .i64 a,.int .i64 b,.int .i64 t,.int .i64 e])∧Below w.heap.size w w' :=by
 go_enter Tryz.func111,Tryz.ntmps111
 go_wp2
 exact bodyPost_ret (v:=.agg #[.int .i64 d,.int .i64 a,.int .i64 b,.int .i64 t,.int .i64 e]) (by simp [results,Tryz.results111,go_sem]) rfl ⟨rfl,((Below.refl _ _).alloc (Nat.le_refl _) _).alloc (by simp) _⟩
theorem term_yes (op d a b t e:Int) (w:World) (h:3≤op) (h' :op≤8) :
 Calls Tryz.prog 44 #[.agg #[.int .i64 op,.int .i64 d,.int .i64 a,.int .i64 b,.int .i64 t,.int .i64 e]] w fun r w' =>r=.returned (.tuple #[.agg #[.int .i64 op,.int .i64 a,.int .i64 b],.bool true])∧Below w.heap.size w w' :=by
 go_enter Tryz.func44,Tryz.ntmps44
 go_wp2
 exact bodyPost_ret (v:=.tuple #[.agg #[.int .i64 op,.int .i64 a,.int .i64 b],.bool true]) (by simp [results,Tryz.results44,go_sem]) rfl ⟨rfl,((Below.refl _ _).alloc (Nat.le_refl _) _).alloc (by simp) _⟩
theorem term_no (op d a b t e:Int) (w:World) (h:op<3∨8<op) :
 Calls Tryz.prog 44 #[.agg #[.int .i64 op,.int .i64 d,.int .i64 a,.int .i64 b,.int .i64 t,.int .i64 e]] w fun r w' =>r=.returned (.tuple #[.agg #[.int .i64 0,.int .i64 0,.int .i64 0],.bool false])∧Below w.heap.size w w' :=by
 by_cases h3:op<3
 all_goals
  go_enter Tryz.func44,Tryz.ntmps44
  go_wp2
  exact bodyPost_ret (v:=.tuple #[.agg #[.int .i64 0,.int .i64 0,.int .i64 0],.bool false]) (by simp [results,Tryz.results44,go_sem]) rfl ⟨rfl,((Below.refl _ _).alloc (Nat.le_refl _) _).alloc (by simp) _⟩
theorem sum_any (w:World) :
 Calls Tryz.prog 32 #[] w fun r w' =>r=.returned (.agg #[.int .i64 3,.int .i64 0,.int .i64 1])∧Below w.heap.size w w' :=by
 go_enter Tryz.func32,Tryz.ntmps32
 go_wp2
 exact bodyPost_ret (v:=.agg #[.int .i64 3,.int .i64 0,.int .i64 1]) (by simp [results,Tryz.results32,go_sem]) rfl ⟨rfl,((Below.refl _ _).alloc (Nat.le_refl _) _)⟩
structure NodesAt (w:World) (b off:Nat) (ns:List Nd):Prop where
 lt:b<w.heap.size
 c0:∀ (i:Nat) (x:Nd),ns[i]?=some x→w.cell? ⟨b,off+i*6,none⟩=some (.int .i64 x.op)
 c1:∀ (i:Nat) (x:Nd),ns[i]?=some x→w.cell? ⟨b,off+i*6+1,none⟩=some (.int .i64 x.d)
 c2:∀ (i:Nat) (x:Nd),ns[i]?=some x→w.cell? ⟨b,off+i*6+2,none⟩=some (.int .i64 x.a)
 c3:∀ (i:Nat) (x:Nd),ns[i]?=some x→w.cell? ⟨b,off+i*6+3,none⟩=some (.int .i64 x.b)
 c4:∀ (i:Nat) (x:Nd),ns[i]?=some x→w.cell? ⟨b,off+i*6+4,none⟩=some (.int .i64 x.t)
 c5:∀ (i:Nat) (x:Nd),ns[i]?=some x→w.cell? ⟨b,off+i*6+5,none⟩=some (.int .i64 x.e)
theorem NodesAt.below {w w' :World} {b off B:Nat} {ns:List Nd} (h:NodesAt w b off ns) (hb:Below B w w') (hB:b<B):NodesAt w' b off ns:=by
 refine ⟨Nat.lt_of_lt_of_le h.lt hb.size,?_,?_,?_,?_,?_,?_⟩
 ·intro i x hx;rw [hb.cell (p:=⟨b,_,none⟩) hB];exact h.c0 i x hx
 ·intro i x hx;rw [hb.cell (p:=⟨b,_,none⟩) hB];exact h.c1 i x hx
 ·intro i x hx;rw [hb.cell (p:=⟨b,_,none⟩) hB];exact h.c2 i x hx
 ·intro i x hx;rw [hb.cell (p:=⟨b,_,none⟩) hB];exact h.c3 i x hx
 ·intro i x hx;rw [hb.cell (p:=⟨b,_,none⟩) hB];exact h.c4 i x hx
 ·intro i x hx;rw [hb.cell (p:=⟨b,_,none⟩) hB];exact h.c5 i x hx
def smallN:List Nd:=[⟨9,0,0,0,1,0⟩,⟨9,1,0,0,2,0⟩,⟨11,0,0,0,3,5⟩,⟨3,2,0,1,4,0⟩,⟨10,0,2,0,5,0⟩,⟨3,2,0,1,6,0⟩,⟨12,0,2,0,0,0⟩]
theorem small_cases {i:Nat} {x:Nd} (h:smallN[i]?=some x):i=0∧x=⟨9,0,0,0,1,0⟩∨i=1∧x=⟨9,1,0,0,2,0⟩∨i=2∧x=⟨11,0,0,0,3,5⟩∨i=3∧x=⟨3,2,0,1,4,0⟩∨i=4∧x=⟨10,0,2,0,5,0⟩∨i=5∧x=⟨3,2,0,1,6,0⟩∨i=6∧x=⟨12,0,2,0,0,0⟩:=by
 match i,h with
 | 0,h=>simp [smallN] at h;simp [h]
 | 1,h=>simp [smallN] at h;simp [h]
 | 2,h=>simp [smallN] at h;simp [h]
 | 3,h=>simp [smallN] at h;simp [h]
 | 4,h=>simp [smallN] at h;simp [h]
 | 5,h=>simp [smallN] at h;simp [h]
 | 6,h=>simp [smallN] at h;simp [h]
 | n+7,h=>simp [smallN] at h
theorem small_any (w:World) :
 Calls Tryz.prog 31 #[] w fun r w' =>r=.returned (.agg #[.int .i64 3,.slice (some ⟨w.heap.size+1,0,none⟩) 7 7])∧NodesAt w' (w.heap.size+1) 0 smallN∧Below w.heap.size w w' :=by
 go_enter Tryz.func31,Tryz.ntmps31
 go_wp2
 refine bodyPost_ret (v:=.agg #[.int .i64 3,.slice (some ⟨w.heap.size+1,0,none⟩) 7 7]) (by simp [results,Tryz.results31,go_sem]) rfl ⟨rfl,⟨by simp,?_,?_,?_,?_,?_,?_⟩,((Below.refl _ _).alloc (Nat.le_refl _) _).alloc (by simp) _⟩
 all_goals
  intro i x hx
  rcases small_cases hx with ⟨rfl,rfl⟩ | ⟨rfl,rfl⟩ | ⟨rfl,rfl⟩ | ⟨rfl,rfl⟩ | ⟨rfl,rfl⟩ | ⟨rfl,rfl⟩ | ⟨rfl,rfl⟩
  all_goals (rw [World.cell?_alloc_at _ _ _ _ (by simp)];simp)
theorem inb_any (k v r:Int) (pb:Nat) (a:Option Addr) (len cap:Nat) (w:World) (hr:1≤r∧r≤64) (hl:len≤256)
 (hp0:w.cell? ⟨pb,0,none⟩=some (.int .i64 r)) (hp1:w.cell? ⟨pb,1,none⟩=some (.slice a len cap)) :
 Calls Tryz.prog 93 #[.int .i64 k,.int .i64 v,.pointer (some ⟨pb,0,none⟩)] w fun e w' =>e=.returned (.bool (inB r len k v))∧w' =w:=by
 by_cases h1:k=1
 ·subst h1
  go_enter Tryz.func93,Tryz.ntmps93
  go_wp2_with (go_at_call 91;refine (pwithin_any _ _ _ _).mono ?_;rintro e w' ⟨rfl,rfl⟩)
  go_ret
  exact ⟨ret_bool (by simp [inB]),rfl⟩
 by_cases h3:k=3
 ·subst h3
  go_enter Tryz.func93,Tryz.ntmps93
  go_wp2_with (go_at_call 91;refine (pwithin_any _ _ _ _).mono ?_;rintro e w' ⟨rfl,rfl⟩)
  go_ret
  exact ⟨ret_bool (by simp [inB]),rfl⟩
 ·go_enter Tryz.func93,Tryz.ntmps93
  go_wp2
  go_ret
  exact ⟨ret_bool (by simp [inB,h1,h3]),rfl⟩
theorem nof_any (k v:Int) (w:World) :
 Calls Tryz.prog 95 #[.int .i64 k,.int .i64 v] w fun e w' =>e=.returned (.bool (noF k v))∧w' =w:=by
 by_cases h0:k=0
 ·subst h0
  go_enter Tryz.func95,Tryz.ntmps95
  go_wp2
  go_ret
  exact ⟨ret_bool (by simp [noF]),rfl⟩
 ·have hb:(k != 0)=true:=by simp [h0]
  go_enter Tryz.func95,Tryz.ntmps95
  go_wp2
  go_ret
  exact ⟨ret_bool (by simp [noF,h0]),rfl⟩
theorem kindsKnown_any (r:Int) (b off cap:Nat) (ns:List Nd) (w:World) (hN:NodesAt w b off ns) (hl:ns.length≤256) :
 Calls Tryz.prog 92 #[.agg #[.int .i64 r,.slice (some ⟨b,off,none⟩) ns.length cap]] w fun e w' =>e=.returned (.bool (ns.all fun x=>kn x.op))∧Below w.heap.size w w' :=by
 go_enter Tryz.func92,Tryz.ntmps92
 go_wp2
 go_loopw [10] (fun i wr=>∃ k:Nat,k≤ns.length∧i=.int .i64 k∧Hid ((ns.take k).all (fun x=>kn x.op)=true)∧Below w.heap.size w wr) (fun i _=>ns.length-(intOf i).toNat)
 case atStart=>exact ⟨0,Nat.zero_le _,rfl,rfl,(Below.refl _ _).alloc (Nat.le_refl _) _⟩
 case round =>
  obtain ⟨k,hk,rfl,hA,hb⟩:=hrel
  have hN' :=hN.below hb hN.lt
  have hlt' :=hN'.lt
  have hsz:=hb.size
  by_cases hlt:k<ns.length
  ·obtain ⟨x,hx⟩:=get_lt hlt
   have c0:=hN'.c0 k x hx
   have c1:=hN'.c1 k x hx
   have c2:=hN'.c2 k x hx
   have c3:=hN'.c3 k x hx
   have c4:=hN'.c4 k x hx
   have c5:=hN'.c5 k x hx
   have HX:Hid (ns[k]?=some x):=hx
   clear hx hN'
   go_wp2_with fail
   refine (of_any _ _).mono ?_
   rintro e w1 ⟨rfl,hb1⟩
   have hs1:=hb1.size
   simp only [World.size_alloc] at hs1 hb1
   have hB:Below w.heap.size w w1:=(hb.alloc hsz _).trans (hb1.mono (by omega))
   clear hb1 c0 c1 c2 c3 c4 c5
   cases hkn:kn x.op
   ·go_wp2
    go_ret
    exact ⟨ret_bool (all_false_at (fun x:Nd=>kn x.op) HX.out hkn).symm,hB.alloc (by omega) _⟩
   ·go_wp2
    go_roundw
    case rel=>exact ⟨k+1,by omega,by go_num,(by show _=_;rw [all_take_succ _ HX.out,hA.out,hkn];rfl),hB.alloc (by omega) _⟩
    case measure=>simp [intOf];omega
  ·go_wp2
   go_ret
   refine ⟨ret_bool ?_,hb⟩
   rw [← hA.out,take_all_len (by omega)]
theorem idx5_0 (a0 a1 a2 a3 a4:Value) (w:World):(Instr.index 130 (.agg #[a0,a1,a2,a3,a4]) (.int .i64 0)).run Tryz.prog w=.ok a0 w:=by kernel_rfl
theorem idx5_1 (a0 a1 a2 a3 a4:Value) (w:World):(Instr.index 130 (.agg #[a0,a1,a2,a3,a4]) (.int .i64 1)).run Tryz.prog w=.ok a1 w:=by kernel_rfl
theorem idx5_2 (a0 a1 a2 a3 a4:Value) (w:World):(Instr.index 130 (.agg #[a0,a1,a2,a3,a4]) (.int .i64 2)).run Tryz.prog w=.ok a2 w:=by kernel_rfl
theorem idx5_3 (a0 a1 a2 a3 a4:Value) (w:World):(Instr.index 130 (.agg #[a0,a1,a2,a3,a4]) (.int .i64 3)).run Tryz.prog w=.ok a3 w:=by kernel_rfl
theorem idx5_4 (a0 a1 a2 a3 a4:Value) (w:World):(Instr.index 130 (.agg #[a0,a1,a2,a3,a4]) (.int .i64 4)).run Tryz.prog w=.ok a4 w:=by kernel_rfl
set_option maxRecDepth 100000 in
theorem eachField_any (R:Int→Int→Bool) (g:Nat) (cb:Array Value) (r:Int) (b off cap:Nat) (ns:List Nd) (w:World) (hN:NodesAt w b off ns) (hl:ns.length≤256)
 (eg:∀ args w,(callFunc g args).run Tryz.prog w=.ok (.enter g args) w)
 (hg:∀ (k v:Int) (W:World),Below w.heap.size w W→Calls Tryz.prog g (#[.int .i64 k,.int .i64 v]++cb) W fun e w' =>e=.returned (.bool (R k v))∧Below W.heap.size W w') :
 Calls Tryz.prog 94 #[.agg #[.int .i64 r,.slice (some ⟨b,off,none⟩) ns.length cap],.func (.func g) #[] cb] w fun e w' =>e=.returned (.bool (ns.all (fieldsOk R)))∧Below w.heap.size w w' :=by
 go_enter Tryz.func94,Tryz.ntmps94
 go_wp2
 go_loopw [14] (fun i wr=>∃ k:Nat,k≤ns.length∧i=.int .i64 k∧Hid ((ns.take k).all (fieldsOk R)=true)∧Below w.heap.size w wr) (fun i _=>ns.length-(intOf i).toNat)
 case atStart=>exact ⟨0,Nat.zero_le _,rfl,rfl,(Below.refl _ _).alloc (Nat.le_refl _) _⟩
 case round =>
  obtain ⟨k,hk,rfl,hA,hb⟩:=hrel
  have hN' :=hN.below hb hN.lt
  have hlt' :=hN'.lt
  have hsz:=hb.size
  by_cases hlt:k<ns.length
  ·obtain ⟨x,hx⟩:=get_lt hlt
   have c0:=hN'.c0 k x hx
   have c1:=hN'.c1 k x hx
   have c2:=hN'.c2 k x hx
   have c3:=hN'.c3 k x hx
   have c4:=hN'.c4 k x hx
   have c5:=hN'.c5 k x hx
   have HX:Hid (ns[k]?=some x):=hx
   clear hx hN'
   go_wp2_with fail
   refine (of_any _ _).mono ?_
   rintro e w1 ⟨rfl,hb1⟩
   have hs1:=hb1.size
   simp only [World.size_alloc] at hs1 hb1
   have hB:Below w.heap.size w w1:=(hb.alloc hsz _).trans (hb1.mono (by omega))
   have d:∀ o,o<6→w1.cell? ⟨wr.heap.size,o,none⟩=#[Value.int .i64 x.op,.int .i64 x.d,.int .i64 x.a,.int .i64 x.b,.int .i64 x.t,.int .i64 x.e][o]? :=by
    intro o _;rw [hb1.cell (p:=⟨wr.heap.size,o,none⟩) (by simp)];simp
   have d0:=d 0 (by omega)
   have d1:=d 1 (by omega)
   have d2:=d 2 (by omega)
   have d3:=d 3 (by omega)
   have d4:=d 4 (by omega)
   have d5:=d 5 (by omega)
   simp at d0 d1 d2 d3 d4 d5
   clear hb1 c0 c1 c2 c3 c4 c5 d
   have hw1:wr.heap.size<w1.heap.size:=by omega
   go_wp2_with fail
   refine (values_any _ _ _ _ _ _ _).mono ?_
   rintro e w2 ⟨rfl,hb2⟩
   have hs2:=hb2.size
   simp only [World.size_alloc] at hs2 hb2
   have hB2:Below w.heap.size w w2:=(hB.alloc (by omega) _).trans (hb2.mono (by omega))
   have kc:∀ o,w2.cell? ⟨w1.heap.size,o,none⟩=#[Value.int .i64 (k0 x.op),.int .i64 (k1 x.op),.int .i64 (k2 x.op),.int .i64 (k3 x.op),.int .i64 (k4 x.op)][o]? :=by
    intro o;rw [hb2.cell (p:=⟨w1.heap.size,o,none⟩) (by simp)];simp
   clear hb2 d0 d1 d2 d3 d4 d5
   have HG:=hide hg
   clear hg
   go_wp2
   go_loopw [26] (fun j wv=>∃ m:Nat,m≤5∧j=.int .i64 m∧Hid (((kvs x).take m).all (fun p=>R p.1 p.2)=true)∧Below (w1.heap.size+1) w2 wv) (fun j _=>5-(intOf j).toNat)
   case atStart=>exact ⟨0,Nat.zero_le _,rfl,rfl,Below.refl _ _⟩
   case round =>
    obtain ⟨m,hm,rfl,hM,hv⟩:=hrel
    have hvs:=hv.size
    have hBv:Below w.heap.size w wr:=hB2.trans (hv.mono (by omega))
    have kc' :∀ o,wr.cell? ⟨w1.heap.size,o,none⟩=#[Value.int .i64 (k0 x.op),.int .i64 (k1 x.op),.int .i64 (k2 x.op),.int .i64 (k3 x.op),.int .i64 (k4 x.op)][o]? :=by
     intro o;rw [hv.cell (p:=⟨w1.heap.size,o,none⟩) (by simp)];exact kc o
    have kc0:=kc' 0
    have kc1:=kc' 1
    have kc2:=kc' 2
    have kc3:=kc' 3
    have kc4:=kc' 4
    simp at kc0 kc1 kc2 kc3 kc4
    clear kc' kc
    match m,hm with
    | 0,_ =>
     have i0:=idx5_0
     go_wp2_with fail
     refine (HG.out _ _ _ hBv).mono ?_
     rintro e w3 ⟨rfl,hb3⟩
     have hs3:=hb3.size
     have hB3:Below w.heap.size w w3:=hBv.trans (hb3.mono (by omega))
     cases hR:R (k0 x.op) x.d
     ·go_wp2
      go_ret
      exact ⟨ret_bool (all_false_at (fieldsOk R) HX.out (by simp [fieldsOk,kvs,hR])).symm,hB3⟩
     ·go_wp2
      go_roundw
      case rel=>exact ⟨1,by omega,by go_num,(by show _=_;simp [kvs,hR]),hv.trans (hb3.mono (by omega))⟩
      case measure=>simp [intOf]
    | 1,_ =>
     have i1:=idx5_1
     go_wp2_with fail
     refine (HG.out _ _ _ hBv).mono ?_
     rintro e w3 ⟨rfl,hb3⟩
     have hs3:=hb3.size
     have hB3:Below w.heap.size w w3:=hBv.trans (hb3.mono (by omega))
     cases hR:R (k1 x.op) x.a
     ·go_wp2
      go_ret
      exact ⟨ret_bool (all_false_at (fieldsOk R) HX.out (by simp [fieldsOk,kvs,hR])).symm,hB3⟩
     ·go_wp2
      go_roundw
      case rel=>exact ⟨2,by omega,by go_num,(by have:=hM.out;show _=_;simp [kvs] at this ⊢;simp [this,hR]),hv.trans (hb3.mono (by omega))⟩
      case measure=>simp [intOf]
    | 2,_ =>
     have i2:=idx5_2
     go_wp2_with fail
     refine (HG.out _ _ _ hBv).mono ?_
     rintro e w3 ⟨rfl,hb3⟩
     have hs3:=hb3.size
     have hB3:Below w.heap.size w w3:=hBv.trans (hb3.mono (by omega))
     cases hR:R (k2 x.op) x.b
     ·go_wp2
      go_ret
      exact ⟨ret_bool (all_false_at (fieldsOk R) HX.out (by simp [fieldsOk,kvs,hR])).symm,hB3⟩
     ·go_wp2
      go_roundw
      case rel=>exact ⟨3,by omega,by go_num,(by have:=hM.out;show _=_;simp [kvs] at this ⊢;simp [this,hR]),hv.trans (hb3.mono (by omega))⟩
      case measure=>simp [intOf]
    | 3,_ =>
     have i3:=idx5_3
     go_wp2_with fail
     refine (HG.out _ _ _ hBv).mono ?_
     rintro e w3 ⟨rfl,hb3⟩
     have hs3:=hb3.size
     have hB3:Below w.heap.size w w3:=hBv.trans (hb3.mono (by omega))
     cases hR:R (k3 x.op) x.t
     ·go_wp2
      go_ret
      exact ⟨ret_bool (all_false_at (fieldsOk R) HX.out (by simp [fieldsOk,kvs,hR])).symm,hB3⟩
     ·go_wp2
      go_roundw
      case rel=>exact ⟨4,by omega,by go_num,(by have:=hM.out;show _=_;simp [kvs] at this ⊢;simp [this,hR]),hv.trans (hb3.mono (by omega))⟩
      case measure=>simp [intOf]
    | 4,_ =>
     have i4:=idx5_4
     go_wp2_with fail
     refine (HG.out _ _ _ hBv).mono ?_
     rintro e w3 ⟨rfl,hb3⟩
     have hs3:=hb3.size
     have hB3:Below w.heap.size w w3:=hBv.trans (hb3.mono (by omega))
     cases hR:R (k4 x.op) x.e
     ·go_wp2
      go_ret
      exact ⟨ret_bool (all_false_at (fieldsOk R) HX.out (by simp [fieldsOk,kvs,hR])).symm,hB3⟩
     ·go_wp2
      go_roundw
      case rel=>exact ⟨5,by omega,by go_num,(by have:=hM.out;show _=_;simp [kvs] at this ⊢;simp [this,hR]),hv.trans (hb3.mono (by omega))⟩
      case measure=>simp [intOf]
    | 5,_ =>
     go_wp2
     go_roundw
     case rel=>exact ⟨k+1,by omega,by go_num,(by have h5:=hM.out;show _=_;rw [all_take_succ _ HX.out,hA.out];simpa [fieldsOk,kvs] using h5),hBv⟩
     case measure=>simp [intOf];omega
    | n+6,hm=>omega
  ·go_wp2
   go_ret
   refine ⟨ret_bool ?_,hb⟩
   rw [← hA.out,take_all_len (by omega)]
def SlN (w:World) (a:Option Addr) (ns:List Nd):Prop:=ns=[]∨∃ b off,a=some ⟨b,off,none⟩∧NodesAt w b off ns
theorem SlN.below {w w' :World} {a:Option Addr} {ns:List Nd} (h:SlN w a ns) (hb:Below w.heap.size w w'):SlN w' a ns:=by
 rcases h with h | ⟨b,off,rfl,h⟩
 ·exact Or.inl h
 ·exact Or.inr ⟨b,off,rfl,h.below hb h.lt⟩
theorem SlN.some {w:World} {a:Option Addr} {ns:List Nd} (h:SlN w a ns) (h1:1≤ns.length):∃ b off,a=.some ⟨b,off,none⟩∧NodesAt w b off ns:=by
 rcases h with rfl | h
 ·simp at h1
 ·exact h
theorem check_many (r:Int) (a:Option Addr) (cap:Nat) (ns:List Nd) (w:World) (h:(wi ns.length 1 256&&wi r 1 64)=false) :
 Calls Tryz.prog 61 #[.agg #[.int .i64 r,.slice a ns.length cap]] w fun e w' =>e=.returned (.int .i64 2)∧Below w.heap.size w w' :=by
 cases h1:wi ns.length 1 256
 ·go_enter Tryz.func61,Tryz.ntmps61
  go_wp2_with (go_at_call 91;refine (pwithin_any _ _ _ _).mono ?_;rintro e w' ⟨rfl,rfl⟩)
  go_ret
  exact ⟨rfl,(Below.refl _ _).alloc (Nat.le_refl _) _⟩
 ·have h2:wi r 1 64=false:=by simpa [h1] using h
  clear h
  go_enter Tryz.func61,Tryz.ntmps61
  go_wp2_with (go_at_call 91;refine (pwithin_any _ _ _ _).mono ?_;rintro e w' ⟨rfl,rfl⟩)
  go_ret
  exact ⟨rfl,(Below.refl _ _).alloc (Nat.le_refl _) _⟩
set_option maxRecDepth 100000 in
theorem check_rest (r:Int) (b off cap:Nat) (ns:List Nd) (w:World) (hN:NodesAt w b off ns) (h1:wi ns.length 1 256=true) (h2:wi r 1 64=true) :
 Calls Tryz.prog 61 #[.agg #[.int .i64 r,.slice (some ⟨b,off,none⟩) ns.length cap]] w fun e w' =>e=.returned (.int .i64 (chk r ns))∧Below w.heap.size w w' :=by
 have b1:=wi_iff.1 h1
 have b2:=wi_iff.1 h2
 have hblt:=hN.lt
 have hl:ns.length≤256:=by omega
 have eg1:∀ args w,(callFunc 93 args).run Tryz.prog w=.ok (.enter 93 args) w:=enters_of Tryz.func93 (by kernel_rfl) rfl
 have eg2:∀ args w,(callFunc 95 args).run Tryz.prog w=.ok (.enter 95 args) w:=enters_of Tryz.func95 (by kernel_rfl) rfl
 have HC:Hid (chk r ns=if ns.all (fun x=>kn x.op) then if ns.all (fieldsOk (inB r ns.length)) then if ns.all (fieldsOk noF) then 0 else 1 else 3 else 4):=by
  show _=_;simp [chk,h1,h2]
 generalize chk r ns=C at HC ⊢
 go_enter Tryz.func61,Tryz.ntmps61
 go_wp2_with (go_at_call 91;refine (pwithin_any _ _ _ _).mono ?_;rintro e w' ⟨rfl,rfl⟩)
 have hNa:NodesAt (w.alloc (.cells #[.int .i64 r,.slice (some ⟨b,off,none⟩) ns.length cap] 24)) b off ns:=hN.below ((Below.refl w.heap.size w).alloc (Nat.le_refl _) _) hN.lt
 refine (kindsKnown_any r b off cap ns _ hNa hl).mono ?_
 rintro e w1 ⟨rfl,hb1⟩
 have hs1:=hb1.size
 simp only [World.size_alloc] at hs1 hb1
 have hB1:Below w.heap.size w w1:=((Below.refl _ _).alloc (Nat.le_refl _) _).trans (hb1.mono (by omega))
 cases hk:ns.all (fun x=>kn x.op)
 ·go_wp2
  go_ret
  refine ⟨ret_int ?_,hB1⟩
  rw [HC.out,hk];rfl
 have q0:w1.cell? ⟨w.heap.size,0,none⟩=some (.int .i64 r):=by rw [hb1.cell (p:=⟨w.heap.size,0,none⟩) (by simp)];simp
 have q1:w1.cell? ⟨w.heap.size,1,none⟩=some (.slice (some ⟨b,off,none⟩) ns.length cap):=by rw [hb1.cell (p:=⟨w.heap.size,1,none⟩) (by simp)];simp
 have hs1' :w.heap.size<w1.heap.size:=by omega
 have hN1:NodesAt w1 b off ns:=hN.below hB1 hN.lt
 go_wp2_with fail
 refine (eachField_any (inB r ns.length) 93 #[.pointer (some ⟨w.heap.size,0,none⟩)] r b off cap ns w1 hN1 hl eg1 ?_).mono ?_
 ·intro k v W hW
  refine (inb_any k v r w.heap.size (some ⟨b,off,none⟩) ns.length cap W b2 hl (by rw [hW.cell (p:=⟨w.heap.size,0,none⟩) hs1'];exact q0) (by rw [hW.cell (p:=⟨w.heap.size,1,none⟩) hs1'];exact q1)).mono ?_
  rintro e w' ⟨rfl,rfl⟩
  exact ⟨rfl,Below.refl _ _⟩
 rintro e w2 ⟨rfl,hb2⟩
 have hs2:=hb2.size
 have hB2:Below w.heap.size w w2:=hB1.trans (hb2.mono (by omega))
 cases hi:ns.all (fieldsOk (inB r ns.length))
 ·go_wp2
  go_ret
  refine ⟨ret_int ?_,hB2⟩
  rw [HC.out,hk,hi];rfl
 have p0:w2.cell? ⟨w.heap.size,0,none⟩=some (.int .i64 r):=by rw [hb2.cell (p:=⟨w.heap.size,0,none⟩) hs1'];exact q0
 have p1:w2.cell? ⟨w.heap.size,1,none⟩=some (.slice (some ⟨b,off,none⟩) ns.length cap):=by rw [hb2.cell (p:=⟨w.heap.size,1,none⟩) hs1'];exact q1
 have hN2:NodesAt w2 b off ns:=hN.below hB2 hN.lt
 have hs2' :w.heap.size<w2.heap.size:=by omega
 clear q0 q1
 go_wp2_with fail
 refine (eachField_any noF 95 #[] r b off cap ns w2 hN2 hl eg2 ?_).mono ?_
 ·intro k v W hW
  refine (nof_any k v W).mono ?_
  rintro e w' ⟨rfl,rfl⟩
  exact ⟨rfl,Below.refl _ _⟩
 rintro e w3 ⟨rfl,hb3⟩
 have hB3:Below w.heap.size w w3:=hB2.trans (hb3.mono (by omega))
 cases hf:ns.all (fieldsOk noF)
 ·go_wp2
  go_ret
  refine ⟨ret_int ?_,hB3⟩
  rw [HC.out,hk,hi,hf];rfl
 ·go_wp2
  go_ret
  refine ⟨ret_int ?_,hB3⟩
  rw [HC.out,hk,hi,hf];rfl
theorem check_any (r:Int) (a:Option Addr) (cap:Nat) (ns:List Nd) (w:World) (hN:SlN w a ns) :
 Calls Tryz.prog 61 #[.agg #[.int .i64 r,.slice a ns.length cap]] w fun e w' =>e=.returned (.int .i64 (chk r ns))∧Below w.heap.size w w' :=by
 cases h:(wi ns.length 1 256&&wi r 1 64)
 ·have e:chk r ns=2:=by simp [chk,h]
  rw [e];exact check_many r a cap ns w h
 ·rw [Bool.and_eq_true] at h
  obtain ⟨b,off,rfl,hN'⟩:=hN.some (by have:=(wi_iff.1 h.1).1;omega)
  exact check_rest r b off cap ns w hN' h.1 h.2
def IntsAt (w:World) (a:Option Addr) (zs:List Int):Prop :=
 zs=[]∨∃ b off,a=some ⟨b,off,none⟩∧b<w.heap.size∧∀ (j:Nat) (z:Int),zs[j]?=some z→w.cell? ⟨b,off+j,none⟩=some (.int .i64 z)
theorem IntsAt.below {w w' :World} {a:Option Addr} {zs:List Int} (h:IntsAt w a zs) (hb:Below w.heap.size w w'):IntsAt w' a zs:=by
 rcases h with h | ⟨b,off,rfl,hlt,h⟩
 ·exact Or.inl h
 ·exact Or.inr ⟨b,off,rfl,Nat.lt_of_lt_of_le hlt hb.size,fun j z hz=>by rw [hb.cell (p:=⟨b,_,none⟩) hlt];exact h j z hz⟩
theorem IntsAt.at {w:World} {a:Option Addr} {zs:List Int} (h:IntsAt w a zs) {k:Nat} (hk:k<zs.length):∃ b off,a=some ⟨b,off,none⟩∧b<w.heap.size∧∀ (j:Nat) (z:Int),zs[j]?=some z→w.cell? ⟨b,off+j,none⟩=some (.int .i64 z):=by
 rcases h with rfl | h
 ·simp at hk
 ·exact h
theorem ownsRow_below {w w' :World} {base:Nat} {e:TypeId} {size:Nat} {v:Value} {n:Nat} {xs:List Value} (h:w.ownsRow base e size v n xs) {B:Nat} (hb:Below B w w') (hB:w.heap.size≤B):w'.ownsRow base e size v n xs:=by
 obtain ⟨hl,h⟩:=h
 refine ⟨hl,?_⟩
 rcases h with h | ⟨g,cap,cur,rfl,h1,h2,h3,h4,h5,h6⟩
 ·exact Or.inl h
 ·refine Or.inr ⟨g,cap,cur,rfl,h1,?_,h3,h4,h5,h6⟩
  have hg:g<w.heap.size:=(Array.getElem?_eq_some_iff.1 h2).1
  rw [hb.block g (by omega)];exact h2
theorem ownsRow_base {w:World} {base base' :Nat} {e:TypeId} {size:Nat} {v:Value} {n:Nat} {xs:List Value} (h:w.ownsRow base e size v n xs) (hB:base' ≤base):w.ownsRow base' e size v n xs:=by
 obtain ⟨hl,h⟩:=h
 refine ⟨hl,?_⟩
 rcases h with h | ⟨g,cap,cur,rfl,h1,h2⟩
 ·exact Or.inl h
 ·exact Or.inr ⟨g,cap,cur,rfl,by omega,h2⟩
theorem ints_of_owns {w:World} {base:Nat} {e:TypeId} {v:Value} {zs:List Int} (h:w.ownsRow base e 1 v zs.length (zs.map (Value.int .i64))):∃ a cap,v=.slice a zs.length cap∧IntsAt w a zs:=by
 have hc:∀ g,v.ownBlock=some g→∀ j u,(zs.map (Value.int .i64))[j]?=some u→w.cell? ((⟨g,0,none⟩:Addr).add j)=some u:=fun g hg=>h.cells hg
 obtain ⟨_,h⟩:=h
 rcases h with ⟨rfl,h0⟩ | ⟨g,cap,cur,rfl,h1,h2,h3,h4,h5,h6⟩
 ·have:zs=[]:=by cases zs;rfl;simp at h0
  subst this
  exact ⟨none,0,rfl,Or.inl rfl⟩
 ·refine ⟨_,cap,rfl,Or.inr ⟨g,0,rfl,(Array.getElem?_eq_some_iff.1 h2).1,?_⟩⟩
  intro j z hz
  have:=hc g rfl j (.int .i64 z) (by simp [hz])
  have e:(⟨g,0,none⟩:Addr).add j=⟨g,0+j,none⟩:=by cases j <;> simp [Addr.add]
  rw [e] at this;exact this
theorem info_int:(Tryz.prog.info? 3).map (fun i=>(i.zero,i.size,i.bytes))=some (some (.int .i64 0),1,8):=by kernel_rfl
theorem leads_any (r:Int) (b off cap:Nat) (ns:List Nd) (n m:Nat) (x:Nd) (w:World) (hN:NodesAt w b off ns) (hx:ns[n]?=some x) :
 Calls Tryz.prog 55 #[.agg #[.int .i64 r,.slice (some ⟨b,off,none⟩) ns.length cap],.int .i64 n,.int .i64 m] w fun e w' =>e=.returned (.bool (ldB x m))∧Below w.heap.size w w' :=by
 have h:n<ns.length:=(List.getElem?_eq_some_iff.1 hx).1
 have hb:=hN.lt
 have c0:=hN.c0 n x hx
 have c1:=hN.c1 n x hx
 have c2:=hN.c2 n x hx
 have c3:=hN.c3 n x hx
 have c4:=hN.c4 n x hx
 have c5:=hN.c5 n x hx
 obtain ⟨op,d,a,bb,t,e⟩:=x
 simp only at c0 c1 c2 c3 c4 c5
 clear hx hN
 go_enter Tryz.func55,Tryz.ntmps55
 go_wp2
 all_goals go_ret
 all_goals refine ⟨ret_bool ?_,((Below.refl _ _).alloc (Nat.le_refl _) _).alloc (by simp) _⟩
 all_goals simp [ldB, *]
theorem nextOf_any (r:Int) (b off cap:Nat) (ns:List Nd) (n:Nat) (x:Nd) (w:World) (hN:NodesAt w b off ns) (hl:ns.length≤256) (hx:ns[n]?=some x) :
 Calls Tryz.prog 54 #[.agg #[.int .i64 r,.slice (some ⟨b,off,none⟩) ns.length cap],.int .i64 n] w fun e w' =>∃ v,e=.returned v∧w'.ownsRow w.heap.size 3 1 v (pick (ldB x) ns.length).length ((pick (ldB x) ns.length).map (Value.int .i64))∧Below w.heap.size w w' :=by
 have HX:=hide hx
 clear hx
 obtain ⟨i0,hi,hz0,hz1,hz2⟩:=info_parts info_int
 go_enter Tryz.func54,Tryz.ntmps54
 go_wp2
 have q0:(w.alloc (.cells #[.int .i64 r,.slice (some ⟨b,off,none⟩) ns.length cap] 24)).cell? ⟨w.heap.size,0,none⟩=some (.int .i64 r):=by simp
 have q1:(w.alloc (.cells #[.int .i64 r,.slice (some ⟨b,off,none⟩) ns.length cap] 24)).cell? ⟨w.heap.size,1,none⟩=some (.slice (some ⟨b,off,none⟩) ns.length cap):=by simp
 have hN1:NodesAt (w.alloc (.cells #[.int .i64 r,.slice (some ⟨b,off,none⟩) ns.length cap] 24)) b off ns:=hN.below ((Below.refl w.heap.size w).alloc (Nat.le_refl _) _) hN.lt
 have hB1:Below w.heap.size w (w.alloc (.cells #[.int .i64 r,.slice (some ⟨b,off,none⟩) ns.length cap] 24)):=(Below.refl w.heap.size w).alloc (Nat.le_refl _) _
 have hS1:(w.alloc (.cells #[.int .i64 r,.slice (some ⟨b,off,none⟩) ns.length cap] 24)).heap.size=w.heap.size+1:=by simp
 have hblt:=hN.lt
 clear hN
 generalize w.alloc (.cells #[.int .i64 r,.slice (some ⟨b,off,none⟩) ns.length cap] 24)=W at q0 q1 hN1 hB1 hS1 ⊢
 go_loopw [5,6] (fun v i wr=>∃ k:Nat,k≤ns.length∧i=.int .i64 k∧wr.ownsRow (w.heap.size+1) 3 1 v (pick (ldB x) k).length ((pick (ldB x) k).map (Value.int .i64))∧Below (w.heap.size+1) W wr) (fun _ i _=>ns.length-(intOf i).toNat)
 case atStart=>exact ⟨0,Nat.zero_le _,rfl,World.ownsRow_nil _ _ _ _,Below.refl _ _⟩
 case round =>
  obtain ⟨k,hk,rfl,hown,hb⟩:=hrel
  have hsz:=hb.size
  have hN2:=hN1.below hb (by omega)
  have p0:wr.cell? ⟨w.heap.size,0,none⟩=some (.int .i64 r):=by rw [hb.cell (p:=⟨w.heap.size,0,none⟩) (by simp)];exact q0
  have p1:wr.cell? ⟨w.heap.size,1,none⟩=some (.slice (some ⟨b,off,none⟩) ns.length cap):=by rw [hb.cell (p:=⟨w.heap.size,1,none⟩) (by simp)];exact q1
  have hsw:w.heap.size<wr.heap.size:=by omega
  by_cases hlt:k<ns.length
  ·go_wp2_with fail
   refine (leads_any r b off cap ns n k x wr hN2 HX.out).mono ?_
   rintro e w1 ⟨rfl,hb1⟩
   have hs1:=hb1.size
   have hown1:=ownsRow_below hown hb1 (Nat.le_refl _)
   have hB2:Below (w.heap.size+1) W w1:=hb.trans (hb1.mono (by omega))
   clear hown hb hb1 p0 p1 hN2
   cases hld:ldB x k
   ·go_wp2
    go_roundw
    case rel=>exact ⟨k+1,by omega,by go_num,by rw [pick_no hld];exact hown1,hB2⟩
    case measure=>simp [intOf];omega
   ·have hpl:=pick_len (ldB x) k
    go_wp2_with (at_builtin;refine wpList_append_own _ rfl (.tmp 18) (.tmp 20) 54 rfl (w.heap.size+1) 3 i0 (.int .i64 0) 1 8 Tryz.underlying54 hi hz0 hz1 hz2 rfl (by decide) _ _ _ rfl (hown1.alloc _) ⟨w1.heap.size,0,none⟩ 1 1 [.int .i64 k] rfl rfl ?c1 ?c2 ?c3 ?c4 ?c5 ?_)
    case c1 =>
     intro j u hj
     match j,hj with
     | 0,hj=>simp at hj;subst hj;simp [Addr.add]
    case c2=>intro u hu;simp at hu;subst hu;rfl
    case c3=>unfold maxLen;omega
    case c4=>omega
    case c5=>simp;omega
    intro v' w2 hown2 hg2 _
    have hlt1:=hown1.lt
    have hB3:Below (w.heap.size+1) W w2:=(hB2.alloc (by omega) _).grown hg2 (by simp;omega) (fun k hk=>(hlt1 k hk).1)
    have hown3:w2.ownsRow (w.heap.size+1) 3 1 v' (pick (ldB x) (k+1)).length ((pick (ldB x) (k+1)).map (Value.int .i64)):=by
     rw [pick_yes hld];simpa using hown2
    clear hown2 hg2 hlt1 hown1
    go_wp2
    go_roundw
    case rel=>exact ⟨k+1,by omega,by go_num,hown3,hB3⟩
    case measure=>simp [intOf];omega
  ·have ek:k=ns.length:=by omega
   have HK:=hide ek
   clear ek
   go_wp2
   go_ret
   refine ⟨_,rfl,?_,hB1.trans (hb.mono (by omega))⟩
   rw [← HK.out]
   exact ownsRow_base hown (by omega)
end Go.Proofs.YtnbdnbcnlgnicaaGreat
namespace Go.Proofs.YtnbdnbcnlgnicaaGreat
open Go.RowKit Go.Shelf
attribute [local go_sem] Oper.semAt_some
theorem KT.appended {W w1:World} {n₀ B N:Nat} {t e:TypeId} {size:Nat} {v v' :Value} {k:Nat} {xs:List Value} {tmp:Obj} (hv1:Boxed w1 B t v) (hte:e≠127) (htt:t≠127) (hrow:W.ownsRow n₀ e size v k xs) (hN:N<W.heap.size) (hNn:N<n₀) (hB:B≠N) (hgrow:(W.alloc tmp).grownBy w1 v.ownBlock):KT N W (w1.setCell ⟨B,0,none⟩ v'):=by
 have h1:KT N W (W.alloc tmp):=KT.of_below ((Below.refl _ W).alloc (Nat.le_refl _) _) hN
 have h2:KT N (W.alloc tmp) w1:=by
  refine KT.grown hgrow (by simp;omega) fun g e' =>?_
  rcases (hrow.alloc tmp).2 with ⟨rfl,_⟩ | ⟨g', cap,cur,rfl,hb,hgb,_⟩
  ·simp [Value.ownBlock] at e'
  ·obtain rfl:g' =g:=by simpa [Value.ownBlock] using e'
   exact ⟨by omega,_,_,_,hgb,hte⟩
 exact (h1.trans h2).trans (KT.setCell (o:=0) hv1 htt hB v')
set_option maxRecDepth 100000 in
theorem appendSeq_in (n:Nat) (hn:3≤n) (B:Nat) (x:Nd) (w:World) (hx:NodeBox w B x) :
 CallsIn Fence.wide n Tryz.prog 129 #[.slice none 0 0,.func (.func 110) #[] #[.pointer (some ⟨B,0,none⟩)]] w fun e W' =>∃ v,e=.returned v∧W'.ownsRow w.heap.size 3 1 v (exo x).length ((exo x).map (Value.int .i64))∧Below w.heap.size w W' :=by
 have h1:1≤n:=by omega
 obtain ⟨i0,hi,hz0,hz1,hz2⟩:=info_parts info_int
 refine callsIn_of_wp_marks Tryz.func129 rfl trivial ?_ rfl
 simp only [Tryz.ntmps129,List.size_toArray,List.length_cons,List.length_nil,Nat.reduceAdd,Nat.reduceSub,Array.replicate_succ,Array.replicate_zero,List.push_toArray,List.append_toArray,List.nil_append,List.cons_append]
 gi_wp2
 have bO:=Boxed.new w 54 (.slice none 0 0)
 have hB0:Below w.heap.size w (w.alloc (.cells #[.slice none 0 0] 54)):=(Below.refl _ w).alloc (Nat.le_refl _) _
 refine wpIn_rangeFunc_ownG rfl h1 (gf:=110) (lb:=#[.pointer (some ⟨B,0,none⟩)]) rfl trivial (enters_of Tryz.func110 (by kernel_rfl) rfl)
  (exits_stops (n-1) (by omega) B x _ (hx.below hB0 hx.lt)) KT.trans (KT.putObj (by have:=hx.lt;simp;omega)) (Below.refl _ _) (fun _=>rfl)
  (fun pre W=>(∃ v,Boxed W w.heap.size 54 v∧W.ownsRow w.heap.size 3 1 v pre.length (pre.map fun y=>Value.int .i64 y.1)∧True)∧Below w.heap.size w W)
  (fun _ _ _=>False)
  (OwnFrom.and (Own.from (holdsRow_own w.heap.size w.heap.size 54 3 1 (fun (pre:List (Ex x))=>pre.length) (fun (pre:List (Ex x))=>pre.map fun y=>Value.int .i64 y.1) (fun pre v=>True)) _) (ownFrom_below (Nat.le_refl _) (by simp)))
  (fun _ _ _ _ _ hs _ _=>hs)
  ⟨⟨_,bO,World.ownsRow_nil _ _ _ _,trivial⟩,hB0⟩
  (fun y=>{ tmps:=#[.slice none 0 0,.func (.func 110) #[] #[.pointer (some ⟨B,0,none⟩)],.pointer (some ⟨w.heap.size,0,none⟩),undef,.slice none 0 0,.int .i64 y.1,.func (.func 110) #[] #[.pointer (some ⟨B,0,none⟩)],.int .i64 y.1,undef,undef,undef,undef,undef],defers:=[] }) ?assign ?body ?done ?stop
 case assign =>
  intro l y W K hK
  gi_wp2
  exact hK
 case body =>
  rintro l pre y W ⟨⟨v,hv,hrow,_⟩,hB⟩ hlt
  have hc:=hv.cell
  have hpl:pre.length<2:=Nat.lt_of_lt_of_le hlt (exo_len x)
  gi_wp2_with (gi_at_builtin;refine wpListIn_append_own _ rfl _ _ 54 rfl w.heap.size 3 i0 (.int .i64 0) 1 8 Tryz.underlying54 hi hz0 hz1 hz2 rfl (by decide) _ _ _ rfl (hrow.alloc _) ⟨W.heap.size,0,none⟩ 1 1 [.int .i64 y.1] rfl rfl (cell_one_new _ _ _) (by simp [Value.oneCell']) (by unfold maxLen;omega) (by omega) (by have:=hB.size;simp;omega) ?_;intro v' w1 hown' hgrow _;obtain ⟨g', cap', rfl⟩:=ownsRow_succ hown'; obtain ⟨hv1,hv2,hr2,hk2,hb2⟩:=hv.appended (by decide) hrow hB.size (Nat.le_refl _) hown' hgrow;have hc1:=hv1.cell;have hf1:=hv1.frozen)
  exact ⟨hk2.from _,KT.appended hv1 (by decide) (by decide) hrow (by have:=hx.lt;have:=hB.size;omega) hx.lt (by have:=hx.lt;omega) hgrow,⟨_,hv2,by simpa using hr2,trivial⟩,hB.trans hb2⟩
 case done =>
  rintro D ys W hD rfl ⟨⟨v,hv,hrow,_⟩,hB⟩ hK
  have hc:=hv.cell
  gi_wp2
  refine ⟨by simp,.inl ⟨_,_,rfl,run_takeDeferred hK,?_⟩⟩
  refine ⟨_,results_tmp rfl _ _ _,v,rfl,?_,hB.trans (belowK_b (w:=w) (Nat.le_refl _) W D _ _ (by simp at hD;omega) hK rfl rfl)⟩
  have h2:=ownsRow_putObj hrow (.deferred none) hK rfl
  have e1:(exoA x).map (fun y=>Value.int .i64 y.1)=(exo x).map (Value.int .i64):=by
   have:=congrArg (List.map (Value.int .i64)) (exoA_map x)
   rw [List.map_map] at this;exact this
  rw [exoA_len,e1] at h2
  exact h2
 case stop =>
  rintro D c pre W _ _ h _
  exact h.elim
theorem collect_in (n:Nat) (hn:4≤n) (B:Nat) (x:Nd) (w:World) (hx:NodeBox w B x) :
 CallsIn Fence.wide n Tryz.prog 116 #[.func (.func 110) #[] #[.pointer (some ⟨B,0,none⟩)]] w fun e W' =>∃ v,e=.returned v∧W'.ownsRow w.heap.size 3 1 v (exo x).length ((exo x).map (Value.int .i64))∧Below w.heap.size w W' :=by
 have h1:1≤n:=by omega
 have hA:=appendSeq_in (n-1) (by omega) B x w hx
 refine callsIn_of_wp Tryz.func116 rfl trivial ?_ rfl
 simp only [Tryz.ntmps116,List.size_toArray,List.length_cons,List.length_nil,Nat.reduceAdd,Nat.reduceSub,Array.replicate_succ,Array.replicate_zero,List.push_toArray,List.append_toArray,List.nil_append,List.cons_append]
 gi_wp2_with (refine ⟨trivial,?_⟩;gi_at_call 129;refine hA.mono ?_;rintro e w1 ⟨v,rfl,hrow,hb⟩)
 go_ret
 exact ⟨v,rfl,hrow,hb⟩
end Go.Proofs.YtnbdnbcnlgnicaaGreat
namespace Go.Proofs.YtnbdnbcnlgnicaaGreat
open Go.RowKit
def rk (op a b:Int):Int :=
 if op=3 then wrap64 (a+b) else if op=4 then wrap64 (a-b) else if op=5 then wrap64 (a*b)
 else if op=6 then bits BinOp.and IntKind.i64 a b else if op=7 then bits BinOp.xor IntKind.i64 a b else if a<b then 1 else 0
structure Ct where
 t:Tm
 n:Int
 deriving DecidableEq,Inhabited
def abv (a b:Tm):Bool:=if a.op=b.op then if a.a=b.a then decide (b.b<a.b) else decide (b.a<a.a) else decide (b.op<a.op)
def omore:List Ct→Tm→List Ct
 | [],t=>[⟨t,1⟩]
 | c::l,t=>if abv t c.t then c::omore l t else if c.t=t then ⟨t,c.n+1⟩::l else ⟨t,1⟩::c::l
structure St where
 regs:List Int
 pc:Nat
 inp:List Int
 out:List Int
 ret:Int
 ended:Bool
 steps:Nat
 cts:List Ct
 deriving Inhabited
def getR (l:List Int) (a:Int):Int:=l.getD a.toNat 0
def setR (l:List Int) (d v:Int):List Int:=l.set d.toNat v
def stp (x:Nd) (s:St):St :=
 if x.op=0 then { s with pc:=x.t.toNat,steps:=s.steps+1 }
 else if x.op=1 then { s with pc:=x.t.toNat,steps:=s.steps+1,regs:=setR s.regs x.d x.a }
 else if x.op=2 then { s with pc:=x.t.toNat,steps:=s.steps+1,regs:=setR s.regs x.d (getR s.regs x.a) }
 else if x.op=9 then { s with pc:=x.t.toNat,steps:=s.steps+1,regs:=setR s.regs x.d (s.inp.headD 0),inp:=s.inp.tail }
 else if x.op=10 then { s with pc:=x.t.toNat,steps:=s.steps+1,out:=s.out++[getR s.regs x.a] }
 else if x.op=11 then { s with pc:=(if getR s.regs x.a=0 then x.e else x.t).toNat,steps:=s.steps+1 }
 else if x.op=12 then { s with pc:=x.t.toNat,steps:=s.steps+1,ret:=getR s.regs x.a,ended:=true }
 else { s with pc:=x.t.toNat,steps:=s.steps+1,regs:=setR s.regs x.d (rk x.op (getR s.regs x.a) (getR s.regs x.b)),cts:=omore s.cts (tmOf x) }
def runN (ns:List Nd):Nat→St→St
 | 0,s=>s
 | n+1,s=>if s.ended then s else match ns[s.pc]? with | some x=>runN ns n (stp x s) | none=>s
def st0 (r:Nat) (inp:List Int):St:=⟨List.replicate r 0,0,inp,[],0,false,0,[]⟩
theorem stp_steps (x:Nd) (s:St):(stp x s).steps=s.steps+1:=by
 unfold stp;repeat' split
 all_goals rfl
theorem runN_ended {ns:List Nd} {s:St} (h:s.ended=true):∀ n,runN ns n s=s
 | 0=>rfl
 | n+1=>by simp [runN,h]
theorem runN_add {ns:List Nd}:∀ (n m:Nat) (s:St),(∀ k,k<n→(runN ns k s).pc<ns.length)→runN ns (n+m) s=runN ns m (runN ns n s)
 | 0,m,s,_=>by simp [runN]
 | n+1,m,s,h=>by
  rw [show n+1+m=(n+m)+1 by omega]
  simp only [runN]
  cases he:s.ended
  ·have h0:=h 0 (by omega)
   simp only [runN] at h0
   obtain ⟨x,hx⟩:=get_lt h0
   simp only [hx,Bool.false_eq_true,if_false]
   exact runN_add n m (stp x s) fun k hk=>by
    have:=h (k+1) (by omega)
    simpa [runN,he,hx] using this
  ·simp [runN_ended he]
theorem value_any (op a b:Int) (w:World) :
 Calls Tryz.prog 112 #[.int .i64 op,.int .i64 a,.int .i64 b] w fun e w' =>e=.returned (.int .i64 (rk op a b))∧w' =w:=by
 go_enter Tryz.func112,Tryz.ntmps112
 go_wp2
 all_goals go_ret
 all_goals refine ⟨ret_int ?_,rfl⟩
 all_goals simp_all [rk]
theorem blk_set {w:World} {b i:Nat} {cs:Array Value} {t:TypeId} {fr:Nat × Nat} (v:Value) (h:w.heap[b]?=some (.cells cs t fr)):(w.setCell ⟨b,i,none⟩ v).heap[b]?=some (.cells (cs.setIfInBounds i v) t fr):=by
 simp [World.setCell,Array.getElem?_modify,h]
theorem blk_set_ne {w:World} {b b' i:Nat} {o:Obj} (v:Value) (h:w.heap[b]?=some o) (hne:b≠b'):(w.setCell ⟨b', i,none⟩ v).heap[b]?=some o:=by
 rw [Below.heap_setCell _ _ _ _ (by exact hne)];exact h
theorem blk_alloc {w:World} {b:Nat} {o:Obj} (o' :Obj) (h:w.heap[b]?=some o):(w.alloc o').heap[b]?=some o:=by
 rw [Below.heap_alloc _ _ _ (Array.getElem?_eq_some_iff.1 h).1];exact h
theorem blk_drew {w:World} {b:Nat} {o:Obj} (h:w.heap[b]?=some o):w.drew.heap[b]?=some o:=h
theorem blk_lt {w:World} {b:Nat} {o:Obj} (h:w.heap[b]?=some o):b<w.heap.size:=(Array.getElem?_eq_some_iff.1 h).1
theorem blk_cell {w:World} {b:Nat} {cs:Array Value} {t:TypeId} {fr:Nat × Nat} (h:w.heap[b]?=some (.cells cs t fr)) (i:Nat):w.cell? ⟨b,i,none⟩=cs[i]? :=by
 simp [World.cell?,h]
theorem blk_frozen {w:World} {b:Nat} {cs:Array Value} {t:TypeId} (h:w.heap[b]?=some (.cells cs t (0,0))) (i:Nat):w.frozen? ⟨b,i,none⟩=false:=by
 simp [World.frozen?,h]
def InAt (w:World) (B:Nat) (a:Option Addr) (zs:List Int):Prop :=
 zs=[]∨∃ b off,a=some ⟨b,off,none⟩∧b<B∧∀ (j:Nat) (z:Int),zs[j]?=some z→w.cell? ⟨b,off+j,none⟩=some (.int .i64 z)
theorem InAt.below {w w' :World} {B:Nat} {a:Option Addr} {zs:List Int} (h:InAt w B a zs) (hb:Below B w w'):InAt w' B a zs:=by
 rcases h with h | ⟨b,off,rfl,hlt,h⟩
 ·exact Or.inl h
 ·exact Or.inr ⟨b,off,rfl,hlt,fun j z hz=>by rw [hb.cell (p:=⟨b,_,none⟩) hlt];exact h j z hz⟩
theorem comeIn_nil (mb:Nat) (v0 v1 v2 v3 v4 v5 v6 v8 v9:Value) (ia:Option Addr) (ic:Nat) (w:World)
 (hm:w.heap[mb]?=some (.cells #[v0,v1,v2,v3,v4,v5,v6,.slice ia 0 ic,v8,v9] 89 (0,0))) :
 Calls Tryz.prog 96 #[.pointer (some ⟨mb,0,none⟩)] w fun e w' =>e=.returned (.int .i64 0)∧w' =w:=by
 have c7:=blk_cell hm 7
 simp at c7
 clear hm
 go_enter Tryz.func96,Tryz.ntmps96
 go_wp2
 go_ret
 exact ⟨rfl,rfl⟩
theorem comeIn_cons (mb:Nat) (v0 v1 v2 v3 v4 v5 v6 v8 v9:Value) (b off l ic:Nat) (z:Int) (w:World) (hl:l+1≤ic)
 (hm:w.heap[mb]?=some (.cells #[v0,v1,v2,v3,v4,v5,v6,.slice (some ⟨b,off,none⟩) (l+1) ic,v8,v9] 89 (0,0))) (hz:w.cell? ⟨b,off,none⟩=some (.int .i64 z)) :
 Calls Tryz.prog 96 #[.pointer (some ⟨mb,0,none⟩)] w fun e w' =>e=.returned (.int .i64 z)∧∃ ia ic', w' =w.setCell ⟨mb,7,none⟩ (.slice ia l ic')∧l≤ic' ∧(l=0∨ia=some ⟨b,off+1,none⟩):=by
 have c7:=blk_cell hm 7
 have f7:=blk_frozen hm 7
 simp at c7
 clear hm
 have hne:(((l+1:Nat):Int)==0)=false:=by simp;omega
 by_cases hc:ic=1
 ·subst hc
  have hl0:l=0:=by omega
  subst hl0
  go_enter Tryz.func96,Tryz.ntmps96
  go_wp2
  go_ret
  exact ⟨rfl,_,_,rfl,Nat.zero_le _,Or.inl (by first | rfl | trivial)⟩
 ·have hc1:(1:Nat)<ic:=by omega
  go_enter Tryz.func96,Tryz.ntmps96
  go_wp2
  go_ret
  exact ⟨rfl,_,ic-1,rfl,by omega,Or.inr rfl⟩
end Go.Proofs.YtnbdnbcnlgnicaaGreat
namespace Go.Proofs.YtnbdnbcnlgnicaaGreat
open Go.RowKit Go.Maps Go.WideElems Go.ChangeMaps
open Go.WideMaps (KeyLaw)
set_option maxRecDepth 100000 in
theorem own_entry {H:Type} {P:Program} {k e t:TypeId} {w:World} {b n:Nat} {D:DataW H} (h:w.ownsMap P k (plainElem P e) b n D) (K:KeyLaw P k) (ht:P.underlying t=some (.map k e)) (he:P.underlying e=some (.int .i64))
 (hz:∀ u:World,(zeroValue e).run P u=.ok (.int .i64 0) u) (hn:n+1<maxLen) {key:Value} {kl:Lit} (hkey:keyOf P k key=some kl) :
 ∃ (c:Int) (v0:Value) (st:Nat) (es1:Array MapEntry) (clock1:Nat),D.atKey kl (.lit (.int .i64 0))=.lit (.int .i64 c) ∧
  (Instr.lookup t (.map (some b)) key false).run P w=.ok (.int .i64 c) w ∧
  (Instr.mapEntry t (.map (some b)) key).run P w=.ok (.tuple #[v0,goInt st]) (setBlock w b (.map es1 clock1)) ∧
  (Instr.lookup t (.map (some b)) key false).run P (setBlock w b (.map es1 clock1))=.ok (.int .i64 c) (setBlock w b (.map es1 clock1)) ∧
  ∀ val:Int,(Lit.int .i64 val).wf=true→∃ es2 clock2,(Instr.entryStore t (.map (some b)) (goInt st) (.int .i64 val)).run P (setBlock w b (.map es1 clock1))=.ok () (setBlock (setBlock w b (.map es1 clock1)) b (.map es2 clock2)) ∧
   (setBlock (setBlock w b (.map es1 clock1)) b (.map es2 clock2)).ownsMap P k (plainElem P e) b (n+1) (D.put kl (.lit (.int .i64 val))):=by
 have hw0:(Lit.int .i64 0).wf=true:=by decide
 have KK:=Keyed.of_law K
 obtain ⟨c,hrun,hat,hwc⟩:=h.lookup_int KK ht he (hz w) hkey
 have h' :=h
 obtain ⟨es,clock,hb,F,hs,hD⟩:=h
 obtain ⟨v0,st,es1,clock1,hent,hv0,hst⟩:=entry_then_store K ht hz hb F hkey
 have hb1:(setBlock w b (.map es1 clock1)).heap[b]?=some (.map es1 clock1):=heap_setBlock_same hb _
 refine ⟨c,v0,st,es1,clock1,hat,hrun,hent,?_,?_⟩
 ·
  rcases K.find w hkey es.toList F.keys with ⟨h1,h2⟩ | ⟨j,e0,h1,h2,h3⟩
  ·
   have hent2:(Instr.mapEntry t (.map (some b)) key).run P w=.ok (.tuple #[.int .i64 0,goInt clock]) (setBlock w b (.map (es.push ⟨key,.int .i64 0,clock⟩) (clock+1))):=by
    simp [Instr.mapEntry,run_underlying ht,MapKept.run_getObj_map hb,K.check w false hkey,h1,hz,MapKept.run_setObj_map _ hb,Result.andThen,setBlock]
   have hupd:(Instr.mapUpdate t (.map (some b)) key (.int .i64 0)).run P w=.ok () (setBlock w b (.map (es.push ⟨key,.int .i64 0,clock⟩) (clock+1))):=by
    simp [Instr.mapUpdate,run_underlying ht,MapKept.run_getObj_map hb,K.check w false hkey,h1,MapKept.run_setObj_map _ hb,Result.andThen,setBlock]
   obtain ⟨w', hrun', hown', _⟩:=h'.update KK ht (by omega) hkey (plainElem_int he hw0)
   rw [hent2] at hent
   rw [hupd] at hrun'
   obtain ⟨e1,e2⟩:=Result.ok.inj hent
   obtain ⟨e3,e4⟩:=Result.ok.inj hrun'
   rw [← e2,e4]
   obtain ⟨c', hrun2,hat2,_⟩:=hown'.lookup_int KK ht he (hz _) hkey
   have hm:IsMap D:=⟨_,hD⟩
   rw [atKey_put_same hm (KK.key hkey)] at hat2
   have hc0:c=0:=by
    rcases fit_look false KK ht (hz w) hb F hkey with ⟨_,_,ha⟩ | ⟨e0,y,hm0,hk0,_⟩
    ·rw [hD,ha] at hat;exact ((Lit.int.inj (DataW.lit.inj hat)).2).symm
    ·exact absurd hk0 (h2 e0 hm0)
   have hc' :c' =0:=((Lit.int.inj (DataW.lit.inj hat2)).2).symm
   rw [hc0];rw [hc'] at hrun2;exact hrun2
  ·
   have hj:es[j]?=some e0:=by simpa using h2
   have hsame:es.modify j (fun e=>{ e with key:=key })=es:=by
    apply Array.ext'
    rw [Array.toList_modify,modify_eq_set _ _ _ _ h2]
    have:({ e0 with key:=key }:MapEntry)=e0:=by rw [← h3]
    rw [this]
    exact set_self _ _ _ h2
   have hent2:(Instr.mapEntry t (.map (some b)) key).run P w=.ok (.tuple #[e0.val,goInt e0.born]) (setBlock w b (.map es clock)):=by
    simp [Instr.mapEntry,run_underlying ht,MapKept.run_getObj_map hb,K.check w false hkey,h1,hj,h3,K.stays w hkey,hsame,MapKept.run_setObj_map _ hb,Result.andThen,setBlock]
   rw [hent2] at hent
   obtain ⟨e1,e2⟩:=Result.ok.inj hent
   rw [← e2]
   have hown1:(setBlock w b (.map es clock)).ownsMap P k (plainElem P e) b n D:=⟨es,clock,heap_setBlock_same hb _,F,hs,hD⟩
   obtain ⟨c', hrun2,hat2,_⟩:=hown1.lookup_int KK ht he (hz _) hkey
   rw [hat] at hat2
   have q:=(Lit.int.inj (DataW.lit.inj hat2)).2
   rw [q];exact hrun2
 ·intro val hwv
  obtain ⟨es2,clock2,hs2,hu2⟩:=hst (setBlock w b (.map es1 clock1)) (.int .i64 val) hb1
  refine ⟨es2,clock2,hs2,?_⟩
  obtain ⟨w', hrun', hown', _⟩:=h'.update KK ht (by omega) hkey (plainElem_int he hwv)
  rw [hu2] at hrun'
  obtain ⟨_,e4⟩:=Result.ok.inj hrun'
  rw [← e4] at hown'
  obtain ⟨es3,clock3,hb3,F3,hs3,hD3⟩:=hown'
  refine ⟨es3,clock3,?_,F3,hs3,hD3⟩
  rw [heap_setBlock_same hb] at hb3
  rw [heap_setBlock_same hb1];exact hb3
theorem tlaw:KeyLaw Tryz.prog 26:=deep_law_laid (m:=4) (by kernel_rfl) (by omega) (of_decide_eq_true (by kernel_rfl)) (by kernel_rfl) (by kernel_rfl)
def tkl (t:Tm):Lit:=.string (keyBytes [.int .i64 t.op,.int .i64 t.a,.int .i64 t.b])
theorem types_pos:∃ m,Tryz.prog.types.size+1=m+2:=⟨Tryz.prog.types.size-1,by have:1≤Tryz.prog.types.size:=of_decide_eq_true (by kernel_rfl);omega⟩
theorem lits_int (d:Nat) (n:Int) (h:(Lit.int .i64 n).wf=true):Tryz.prog.keyLits (d+1) 3 [.int .i64 n]=some [.int .i64 n]:=by
 simp [Program.keyLits,Tryz.underlying3,h]
theorem tformed (x y z:Int):Value.formed Tryz.prog 26 (.agg #[.int .i64 x,.int .i64 y,.int .i64 z])=true:=by kernel_rfl
set_option maxRecDepth 100000 in
theorem tkey (t:Tm) (h0:(Lit.int .i64 t.op).wf=true) (h1:(Lit.int .i64 t.a).wf=true) (h2:(Lit.int .i64 t.b).wf=true):keyOf Tryz.prog 26 (.agg #[.int .i64 t.op,.int .i64 t.a,.int .i64 t.b])=some (tkl t):=by
 have hk:Tryz.prog.keyType 26=true:=by kernel_rfl
 have hc:Tryz.prog.cellsOf 26=3:=by kernel_rfl
 have hci:Tryz.prog.cellsOf 3=1:=by kernel_rfl
 obtain ⟨m,hm⟩:=types_pos
 have hl:Tryz.prog.keyLits (Tryz.prog.types.size+1) 26 [.int .i64 t.op,.int .i64 t.a,.int .i64 t.b]=some [.int .i64 t.op,.int .i64 t.a,.int .i64 t.b]:=by
  rw [hm]
  unfold Program.keyLits
  simp [Tryz.underlying26,hc,hci,lits_int,h0,h1,h2]
 unfold keyOf
 rw [Tryz.underlying26]
 simp only [hk,tformed,Bool.and_self,if_true]
 show (Tryz.prog.keyLits (Tryz.prog.types.size+1) 26 [.int .i64 t.op,.int .i64 t.a,.int .i64 t.b]).map _=_
 rw [hl];rfl
theorem zero_int (u:World):(zeroValue 3).run Tryz.prog u=.ok (.int .i64 0) u:=by kernel_rfl
end Go.Proofs.YtnbdnbcnlgnicaaGreat
