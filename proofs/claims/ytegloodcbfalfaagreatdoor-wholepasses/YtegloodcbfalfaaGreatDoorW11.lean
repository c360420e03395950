/-
  Of the proof of WholePasses: GP, HB, ZK, ZL, ZM, ZA, ZB, PF, PG.
-/
import Derived.Test.YtegloodcbfalfaaGreatDoorW1
import Derived.Test.YtegloodcbfalfaaGreatDoorW3
import Derived.Test.YtegloodcbfalfaaGreatDoorW5
import Derived.Test.YtegloodcbfalfaaGreatDoorW6
import Derived.Test.YtegloodcbfalfaaGreatDoorW7
import Derived.Test.YtegloodcbfalfaaGreatDoorW10
import Derived.Maps.OwnSet
set_option linter.unusedVariables false
set_option linter.unusedSimpArgs false
set_option maxHeartbeats 40000000
set_option maxRecDepth 100000
namespace Go.Proofs.YtegloodcbfalfaaGreatDoor
def usA (x:Nd):Bool:=x.op==2||wi x.op 3 8||wi x.op 10 12
def usB (x:Nd):Bool:=wi x.op 3 8
def XG (x:Nd) (j:Nat):Bool:=(usA x&&x.a==(j:Int))||(usB x&&x.b==(j:Int))
def XH (x:Nd) (j:Nat):Bool:=wi x.op 1 9&&x.d==(j:Int)
def xK (ns:List Nd) (j:Nat) (y:Nat→Bool) (n:Nat):Bool:=!XG (nd ns n) j&&(XH (nd ns n) j||(iQ ns n).all y)
theorem qH (ns:List Nd) (j:Nat):oD (xK ns j):=by
 intro x y h n hx
 simp only [xK,Bool.and_eq_true,Bool.or_eq_true] at hx ⊢
 refine ⟨hx.1,?_⟩
 rcases hx.2 with q | q
 ·exact Or.inl q
 ·exact Or.inr (CO h q)
def jE (ns:List Nd) (j n:Nat):Bool:=!aM (gr (xK ns j) ns.length) n
def FZ (a:Int):BitVec 64:=1#64 <<< a.toNat
def aNT (x:Nd):BitVec 64:=(if usA x then FZ x.a else 0#64) ||| (if usB x then FZ x.b else 0#64)
def iE (x:Nd):BitVec 64:=if wi x.op 1 9 then FZ x.d else 0#64
def vT (L:List (BitVec 64)) (l:List Nat):BitVec 64:=l.foldl (fun s m=>s ||| L.getD m 0#64) 0#64
def SG (ns:List Nd) (L:List (BitVec 64)) (n:Nat):BitVec 64:=aNT (nd ns n) ||| (vT L (iQ ns n) &&& ~~~iE (nd ns n))
def yX (j:Nat) (L:List (BitVec 64)):List Bool:=L.map fun m=>!m.getLsbD j
theorem xL {a:Int} (h:0≤a∧a<64) {j:Nat} (hj:j<64):(FZ a).getLsbD j=(a==(j:Int)):=by
 simp only [FZ,BitVec.getLsbD_shiftLeft,BitVec.getLsbD_one]
 by_cases e:a=j
 ·subst e;simp [hj]
 ·have h2:¬ j=a.toNat:=by omega
  by_cases h3:j<a.toNat
  ·simp [hj,h3,e]
  ·have:¬ (j-a.toNat=0):=by omega
   simp [hj,h3,e,this]
theorem aNU {r:Int} {len:Nat} {x:Nd} (hF:Full r len x) (hr:r≤64) {j:Nat} (hj:j<64):(aNT x).getLsbD j=XG x j:=by
 unfold aNT XG
 rw [BitVec.getLsbD_or]
 congr 1
 ·cases h:usA x
  ·simp
  ·simp only [if_true,Bool.true_and]
   refine xL ?_ hj
   simp only [usA,Bool.or_eq_true,beq_iff_eq] at h
   have:=hF.a (by rcases h with (h | h) | h
                  ·omega
                  ·have:=aY.1 h;omega
                  ·have:=aY.1 h;omega) (by rcases h with (h | h) | h
                                           ·omega
                                           ·have:=aY.1 h;omega
                                           ·have:=aY.1 h;omega) (by rcases h with (h | h) | h
                                                                    ·omega
                                                                    ·have:=aY.1 h;omega
                                                                    ·have:=aY.1 h;omega)
   omega
 ·cases h:usB x
  ·simp
  ·simp only [if_true,Bool.true_and]
   refine xL ?_ hj
   have h:=aY.1 h
   have:=hF.b h.1 h.2
   omega
theorem aNV {r:Int} {len:Nat} {x:Nd} (hF:Full r len x) (hr:r≤64) {j:Nat} (hj:j<64):(iE x).getLsbD j=XH x j:=by
 unfold iE XH
 cases h:wi x.op 1 9
 ·simp
 ·simp only [if_true,Bool.true_and]
  refine xL ?_ hj
  have h:=aY.1 h
  have:=hF.d h.1 h.2
  omega
theorem aNW (L:List (BitVec 64)) (l:List Nat) (j:Nat):(vT L l).getLsbD j=l.any fun m=>(L.getD m 0#64).getLsbD j:=by
 have:∀ (l:List Nat) (s:BitVec 64),(l.foldl (fun s m=>s ||| L.getD m 0#64) s).getLsbD j=(s.getLsbD j||l.any fun m=>(L.getD m 0#64).getLsbD j):=by
  intro l
  induction l with
  | nil=>intro s;simp
  | cons a l ih=>intro s;rw [List.foldl_cons,ih,BitVec.getLsbD_or,List.any_cons,Bool.or_assoc]
 unfold vT
 rw [this];simp
theorem BM {L:List (BitVec 64)} {n j:Nat} (h:n<L.length):aM (yX j L) n=!(L.getD n 0#64).getLsbD j:=by
 simp [aM,yX,h]
theorem BN {r:Int} {ns:List Nd} (hc:bM r ns=0) {L:List (BitVec 64)} (hl:L.length=ns.length) {n j:Nat} (hn:n<ns.length) (hj:j<64):(SG ns L n).getLsbD j=!xK ns j (aM (yX j L)) n:=by
 have hF:=dJ hc hn
 have hr:=(bE hc).2.1.2
 unfold SG xK
 rw [BitVec.getLsbD_or,BitVec.getLsbD_and,BitVec.getLsbD_not,aNU hF hr hj,aNV hF hr hj,aNW]
 have:((iQ ns n).any fun m=>(L.getD m 0#64).getLsbD j)=!(iQ ns n).all (aM (yX j L)):=by
  have hm:∀ m∈iQ ns n,m<L.length:=fun m hm=>by rw [hl];exact (iY.1 hm).1
  generalize iQ ns n=l at hm
  induction l with
  | nil=>rfl
  | cons a l ih =>
   rw [List.any_cons,List.all_cons,ih fun m q=>hm m (by simp [q]),BM (hm a aQ)]
   simp [Bool.not_and]
 rw [this]
 cases XG (nd ns n) j <;> cases XH (nd ns n) j <;> simp [hj]
structure LS (ns:List Nd) (L:List (BitVec 64)) (wk:List Nat):Prop where
 len:L.length=ns.length
 on:∀ j,j<64→iD (xK ns j) ns.length (yX j L)
 st:∀ n,n<ns.length→n∉wk→L.getD n 0#64=SG ns L n
 wl:∀ n∈wk,n<ns.length
theorem LS.start (ns:List Nd):LS ns (List.replicate ns.length 0#64) (List.range ns.length):=by
 refine ⟨aQ,fun j hj=>?_,fun n hn h=>absurd (List.mem_range.2 hn) h,fun n h=>List.mem_range.1 h⟩
 have:yX j (List.replicate ns.length 0#64)=List.replicate ns.length true:=by simp [yX]
 rw [this];exact iD.start _ _
theorem LS.pop {ns:List Nd} {L:List (BitVec 64)} {wk:List Nat} {n:Nat} (h:LS ns L (wk++[n])) (he:SG ns L n=L.getD n 0#64):LS ns L wk:=by
 refine ⟨h.len,h.on,fun m hm hw=>?_,fun m hm=>h.wl m (by simp [hm])⟩
 by_cases e:m=n
 ·subst e;exact he.symm
 ·exact h.st m hm (by simp [hw,e])
theorem XI {L:List (BitVec 64)} {n m:Nat} {v:BitVec 64} (h:n<L.length):(L.set n v).getD m 0#64=if m=n then v else L.getD m 0#64:=by
 simp only [List.getD_eq_getElem?_getD,List.getElem?_set]
 by_cases e:n=m
 ·subst e;simp [h]
 ·simp [e,Ne.symm e]
theorem aNX {L:List (BitVec 64)} {n:Nat} {v:BitVec 64} (h:n<L.length) {l:List Nat} (hl:n∉l):vT (L.set n v) l=vT L l:=by
 have:∀ (l:List Nat) (s:BitVec 64),n∉l→l.foldl (fun s m=>s ||| (L.set n v).getD m 0#64) s=l.foldl (fun s m=>s ||| L.getD m 0#64) s:=by
  intro l
  induction l with
  | nil=>intro s _;rfl
  | cons a l ih =>
   intro s hn
   have h1:a≠n:=fun e=>hn (by simp [e])
   rw [List.foldl_cons,List.foldl_cons,XI h,if_neg h1]
   exact ih _ fun q=>hn (by simp [q])
 exact this l _ hl
theorem LS.turn {r:Int} {ns:List Nd} (hc:bM r ns=0) {L:List (BitVec 64)} {wk:List Nat} {n:Nat} (h:LS ns L (wk++[n])):LS ns (L.set n (SG ns L n)) (wk++gJ ns n):=by
 have hn:n<ns.length:=h.wl n aQ
 have hnL:n<L.length:=by rw [h.len];exact hn
 refine ⟨by simp [h.len],fun j hj=>?_,fun m hm hw=>?_,fun m hm=>?_⟩
 ·have e:yX j (L.set n (SG ns L n))=(yX j L).set n (xK ns j (aM (yX j L)) n):=by
   unfold yX
   rw [List.map_set,BN hc h.len hn hj]
   simp [yX]
  rw [e];exact (h.on j hj).put (qH ns j) hn
 ·have hnx:n∉iQ ns m:=fun q=>by
   have:=(iY.1 q).2
   exact hw (List.mem_append_right _ (lH.2 ⟨hm,this⟩))
  unfold SG
  rw [aNX hnL hnx,XI hnL]
  by_cases e:m=n
  ·subst e;rw [if_pos rfl]
  ·rw [if_neg e]
   refine h.st m hm ?_
   intro q
   rcases List.mem_append.1 q with q | q
   ·exact hw (List.mem_append_left _ q)
   ·simp at q;exact e q
 ·rcases List.mem_append.1 hm with q | q
  ·exact h.wl m (by simp [q])
  ·exact (lH.1 q).1
def left (L:List (BitVec 64)):Nat:=((List.range 64).map fun j=>dU (yX j L)).sum
theorem aXY {l:List Nat} {f g:Nat→Nat} (h:∀ j∈l,f j≤g j):(l.map f).sum≤(l.map g).sum:=by
 induction l with
 | nil=>simp
 | cons a l ih =>
  have:=h a aQ
  have:=ih fun j hj=>h j (by simp [hj])
  simp;omega
theorem sum_lt {l:List Nat} {f g:Nat→Nat} (h:∀ j∈l,f j≤g j) {i:Nat} (hi:i∈l) (hlt:f i<g i):(l.map f).sum<(l.map g).sum:=by
 induction l with
 | nil=>cases hi
 | cons a l ih =>
  have h1:=h a aQ
  have h2:(l.map f).sum≤(l.map g).sum:=aXY fun j hj=>h j (List.mem_cons_of_mem _ hj)
  rcases List.mem_cons.1 hi with rfl | hi
  ·simp;omega
  ·have:=ih (fun j hj=>h j (by simp [hj])) hi
   simp;omega
theorem aHU {r:Int} {ns:List Nd} (hc:bM r ns=0) {L:List (BitVec 64)} {wk:List Nat} {n:Nat} (h:LS ns L (wk++[n])) (he:SG ns L n≠L.getD n 0#64):left (L.set n (SG ns L n))<left L:=by
 have hn:n<ns.length:=h.wl n aQ
 have e:∀ j,j<64→yX j (L.set n (SG ns L n))=(yX j L).set n (xK ns j (aM (yX j L)) n):=fun j hj=>by
  unfold yX
  rw [List.map_set,BN hc h.len hn hj]
  simp [yX]
 have hex:∃ j,j<64∧(SG ns L n).getLsbD j≠(L.getD n 0#64).getLsbD j:=by
  refine Classical.byContradiction fun q=>he ?_
  apply BitVec.eq_of_getLsbD_eq
  intro j hj
  exact Classical.byContradiction fun p=>q ⟨j,hj,p⟩
 obtain ⟨i,hi,hne⟩:=hex
 refine sum_lt (i:=i) (fun j hj=>?_) (List.mem_range.2 hi) ?_
 ·have hj:=List.mem_range.1 hj
  rw [e j hj]
  rcases uA (h.on j hj) hn with q | q
  ·rw [q];exact Nat.le_refl _
  ·exact Nat.le_of_lt q
 ·rw [e i hi]
  rcases uA (h.on i hi) hn with q | q
  ·exfalso
   apply hne
   have hb:aM ((yX i L).set n (xK ns i (aM (yX i L)) n)) n=xK ns i (aM (yX i L)) n:=by
    rw [dR (by simp [yX,h.len,hn]),if_pos rfl]
   rw [q,BM (by rw [h.len];exact hn)] at hb
   rw [BN hc h.len hn hi,← hb,Bool.not_not]
  ·exact q
theorem aSP (L:List (BitVec 64)):left L≤64*L.length:=by
 have:∀ l:List Nat,(l.map fun j=>dU (yX j L)).sum≤l.length*L.length:=by
  intro l
  induction l with
  | nil=>simp
  | cons a l ih =>
   have h1:=wE (yX a L)
   simp only [yX,List.length_map] at h1
   simp only [List.map_cons,List.sum_cons,List.length_cons,Nat.succ_mul]
   simp only [yX] at ih ⊢
   omega
 have:=this (List.range 64)
 simpa [left] using this
structure IsL (ns:List Nd) (L:List (BitVec 64)):Prop where
 len:L.length=ns.length
 bit:∀ n j,n<ns.length→j<64→(L.getD n 0#64).getLsbD j=jE ns j n
theorem LS.done {r:Int} {ns:List Nd} (hc:bM r ns=0) {L:List (BitVec 64)} (h:LS ns L []):IsL ns L:=by
 refine ⟨h.len,fun n j hn hj=>?_⟩
 have hG:IsG (xK ns j) ns.length (yX j L):=(h.on j hj).done fun m hm hb=>by
  have e:=h.st m hm aQ
  have b:=BN hc h.len hm hj
  rw [← e] at b
  rw [BM (by rw [h.len];exact hm),b,Bool.not_not] at hb
  exact hb
 have:=hG.aCX (qH ns j)
 unfold jE
 rw [← this,BM (by rw [h.len];exact hn),Bool.not_not]
def dies (ns:List Nd) (n:Nat):Bool:=wi (nd ns n).op 1 8&&!jE ns (nd ns n).d.toNat (nd ns n).t.toNat
def fB (ns:List Nd) (k:Nat):List Nd:=(List.range ns.length).map fun n=>if n<k∧dies ns n=true then gX (nd ns n).t else nd ns n
def qI (ns:List Nd):List Nd:=fB ns ns.length
theorem bN (ns:List Nd) (k:Nat):(fB ns k).length=ns.length:=by simp [fB]
theorem lD {ns:List Nd} {k n:Nat} (h:n<ns.length):nd (fB ns k) n=if n<k∧dies ns n=true then gX (nd ns n).t else nd ns n:=by
 simp [nd,fB,h]
theorem GG {ns:List Nd} {n:Nat} (h:n<ns.length):nd (qI ns) n=if dies ns n=true then gX (nd ns n).t else nd ns n:=by
 unfold qI
 rw [lD h]
 simp [h]
theorem QG {l m:List Nd} (hl:l.length=m.length) (h:∀ n,n<l.length→nd l n=nd m n):l=m:=by
 apply List.ext_getElem?
 intro n
 by_cases hn:n<l.length
 ·rw [eU hn,eU aF,h n hn]
 ·rw [List.getElem?_eq_none aF,List.getElem?_eq_none aF]
theorem zX (ns:List Nd):fB ns 0=ns:=by
 refine QG (bN ns 0) fun n hn=>?_
 rw [bN] at hn
 rw [lD hn,if_neg aF]
theorem zY {ns:List Nd} {k:Nat} (h:k<ns.length):fB ns (k+1)=if dies ns k=true then (fB ns k).set k (gX (nd ns k).t) else fB ns k:=by
 refine QG (by split <;> simp [bN]) fun n hn=>?_
 rw [bN] at hn
 rw [lD hn]
 by_cases hd:dies ns k=true
 ·rw [if_pos hd (c:=dies ns k=true),ZZ _ (by rw [bN];exact h),lD hn]
  by_cases e:n=k
  ·subst e;simp [hd]
  ·rw [if_neg e]
   by_cases q:n<k
   ·simp [q,show n<k+1 by omega]
   ·simp [q,show ¬ n<k+1 by omega]
 ·rw [if_neg hd (c:=dies ns k=true),lD hn]
  by_cases e:n=k
  ·subst e;simp [hd]
  ·by_cases q:n<k
   ·simp [q,show n<k+1 by omega]
   ·simp [q,show ¬ n<k+1 by omega]
theorem xM {ns:List Nd} {k:Nat} (h:k<ns.length):nd (fB ns k) k=nd ns k:=by
 rw [lD h,if_neg aF]
def nU (ns:List Nd) (k:Nat):Bool:=(List.range k).any (dies ns)
theorem GI (ns:List Nd) (k:Nat):nU ns (k+1)=(nU ns k||dies ns k):=by
 simp [nU,List.range_succ,List.any_append]
theorem aEM {ns:List Nd} {n:Nat} (h:dies ns n=true):1≤(nd ns n).op∧(nd ns n).op≤8:=by
 simp only [dies,Bool.and_eq_true] at h
 exact aY.1 h.1
theorem XK {ns ms:List Nd} (hl:ms.length=ns.length) (h:∀ n,n<ns.length→nd ms n=nd ns n∨1≤(nd ns n).op∧(nd ns n).op≤8∧nd ms n=gX (nd ns n).t) (m n:Nat):mF ms m n=mF ns m n:=by
 have key:mF ms m n=true↔mF ns m n=true:=by
  rw [uC,uC,hl]
  constructor
  ·rintro ⟨hn,q⟩
   refine ⟨hn,?_⟩
   rcases h n hn with e | ⟨h1,h2,e⟩
   ·rw [e] at q;exact q
   ·rw [e] at q
    simp only [gX] at q
    left;exact ⟨aF,aF⟩
  ·rintro ⟨hn,q⟩
   refine ⟨hn,?_⟩
   rcases h n hn with e | ⟨h1,h2,e⟩
   ·rw [e];exact q
   ·rw [e]
    simp only [gX]
    left;exact ⟨aF,aF⟩
 cases ha:mF ms m n <;> cases hb:mF ns m n
 ·rfl
 ·rw [key.2 hb] at ha;cases ha
 ·rw [key.1 ha] at hb;cases hb
 ·rfl
theorem aNY {ns ms:List Nd} (hl:ms.length=ns.length) (h:∀ n,n<ns.length→nd ms n=nd ns n∨1≤(nd ns n).op∧(nd ns n).op≤8∧nd ms n=gX (nd ns n).t) (n:Nat):iQ ms n=iQ ns n:=by
 unfold iQ;rw [hl];congr 1;funext m;exact XK hl h m n
theorem aNZ {ns ms:List Nd} (hl:ms.length=ns.length) (h:∀ n,n<ns.length→nd ms n=nd ns n∨1≤(nd ns n).op∧(nd ns n).op≤8∧nd ms n=gX (nd ns n).t) (n:Nat):gJ ms n=gJ ns n:=by
 unfold gJ;rw [hl];congr 1;funext m;exact XK hl h n m
structure dC (ns ms:List Nd):Prop where
 len:ms.length=ns.length
 at_:∀ n,n<ns.length→nd ms n=nd ns n∨1≤(nd ns n).op∧(nd ns n).op≤8∧nd ms n=gX (nd ns n).t
theorem dC.refl (ns:List Nd):dC ns ns:=⟨rfl,fun _ _=>Or.inl rfl⟩
theorem dC.to (ns:List Nd) (k:Nat):dC ns (fB ns k):=⟨bN ns k,fun n hn=>by
 rw [lD hn]
 split
 ·rename_i h;have:=aEM h.2;exact Or.inr ⟨this.1,this.2,rfl⟩
 ·exact Or.inl rfl⟩
theorem dC.round (ns:List Nd):dC ns (qI ns):=dC.to ns ns.length
theorem dC.trans {ns ms ls:List Nd} (h:dC ns ms) (h' :dC ms ls):dC ns ls:=⟨h'.len.trans h.len,fun n hn=>by
 rcases h'.at_ n (by rw [h.len];exact hn) with e | ⟨a,b,e⟩
 ·rw [e];exact h.at_ n hn
 ·rcases h.at_ n hn with e' | ⟨_,_,e'⟩
  ·rw [e'] at a b e;exact Or.inr ⟨a,b,e⟩
  ·rw [e'] at a;simp [gX] at a⟩
theorem dC.iQ {ns ms:List Nd} (h:dC ns ms) (n:Nat):iQ ms n=iQ ns n:=aNY h.len h.at_ n
theorem dC.gJ {ns ms:List Nd} (h:dC ns ms) (n:Nat):gJ ms n=gJ ns n:=aNZ h.len h.at_ n
theorem dC.bM {r:Int} {ns ms:List Nd} (h:dC ns ms) (hc:bM r ns=0):bM r ms=0:=by
 have hf:=bE hc
 refine OJ (by rw [h.len];exact hf.1) hf.2.1 fun y hy=>?_
 obtain ⟨n,hn⟩:=List.getElem?_of_mem hy
 have hlt:=(List.getElem?_eq_some_iff.1 hn).1
 have hy:y=nd ms n:=(jF hn).symm
 subst hy
 rw [h.len] at hlt ⊢
 have hF:=dJ hc hlt
 rcases h.at_ n hlt with e | ⟨a,b,e⟩
 ·rw [e];exact hF
 ·rw [e]
  have:=hF.t aF
  refine ⟨by simp [gX],by simp [gX],by simp [gX],by simp [gX],by simp [gX],by simp [gX],by simp [gX],?_,by simp [gX],by simp [gX],by simp [gX]⟩
  intro _
  exact this
def vI (ns:List Nd):Nat:=ns.countP fun x=>x.op != 0
theorem MN {p:Nd→Bool}:∀ {l m:List Nd},l.length=m.length→(∀ n,n<l.length→p (nd l n)=true→p (nd m n)=true)→l.countP p≤m.countP p
 | [],[],_,_=>Nat.le_refl _
 | a::l,b::m,hl,h=>by
  have ih:=MN (l:=l) (m:=m) (p:=p) (by simpa using hl) fun n hn q=>h (n+1) (by simpa using hn) q
  have h0:=h 0 aQ
  simp only [nd,List.getD_cons_zero] at h0
  simp only [List.countP_cons]
  split <;> split <;> first | omega | (rename_i q1 q2;exact absurd (h0 q1) q2)
 | [],_::_,hl,_=>by simp at hl
 | _::_,[],hl,_=>by simp at hl
theorem MO {p:Nd→Bool}:∀ {l m:List Nd},l.length=m.length→(∀ n,n<l.length→p (nd l n)=true→p (nd m n)=true)→∀ k,k<l.length→p (nd l k)=false→p (nd m k)=true→l.countP p<m.countP p
 | [],[],_,_,k,hk,_,_=>by simp at hk
 | a::l,b::m,hl,h,k,hk,q1,q2=>by
  have h0:=h 0 aQ
  simp only [nd,List.getD_cons_zero] at h0
  have hle:=MN (l:=l) (m:=m) (p:=p) (by simpa using hl) fun n hn q=>h (n+1) (by simpa using hn) q
  simp only [List.countP_cons]
  cases k with
  | zero =>
   have q1:p a=false:=q1
   have q2:p b=true:=q2
   simp [q1,q2];omega
  | succ k =>
   have ih:=MO (l:=l) (m:=m) (p:=p) (by simpa using hl) (fun n hn q=>h (n+1) (by simpa using hn) q) k (by simpa using hk) q1 q2
   split <;> split <;> first | omega | (rename_i q1 q2;exact absurd (h0 q1) q2)
 | [],_::_,hl,_,_,_,_,_=>by simp at hl
 | _::_,[],hl,_,_,_,_,_=>by simp at hl
theorem rH {ns:List Nd} (h:nU ns ns.length=true):vI (qI ns)<vI ns:=by
 obtain ⟨k,hk,hd⟩:=List.any_eq_true.1 h
 have hk:=List.mem_range.1 hk
 refine MO (bN ns _) (fun n hn q=>?_) k (by rw [qI,bN];exact hk) ?_ ?_
 ·rw [qI,bN] at hn
  rw [GG hn] at q
  split at q
  ·simp [gX] at q
  ·exact q
 ·rw [GG hk,if_pos hd];simp [gX]
 ·have:=aEM hd
  simp;omega
theorem nV {ns:List Nd} (h:nU ns ns.length=false):qI ns=ns:=by
 refine QG (bN ns _) fun n hn=>?_
 rw [qI,bN] at hn
 rw [GG hn]
 have:dies ns n=false:=by
  cases q:dies ns n
  ·rfl
  ·have:=List.any_eq_true.2 ⟨n,List.mem_range.2 hn,q⟩
   unfold nU at h;rw [this] at h;cases h
 rw [this];rfl
def xN:Nat→List Nd→List Nd
 | 0,ns=>ns
 | k+1,ns=>xN k (qI ns)
def gT (ns:List Nd):List Nd:=xN (vI ns) ns
theorem uO {ns:List Nd} (h:qI ns=ns):∀ k,xN k ns=ns
 | 0=>rfl
 | k+1=>by rw [xN,h,uO h k]
theorem rJ:∀ (k:Nat) (ns:List Nd),vI ns≤k→xN k ns=gT ns
 | 0,ns,h=>by
  unfold gT
  rw [show vI ns=0 by omega]
 | k+1,ns,h=>by
  cases ha:nU ns ns.length
  ·have:=nV ha
   unfold gT
   rw [uO this,uO this]
  ·have hl:=rH ha
   rw [xN,rJ k _ aF]
   unfold gT
   obtain ⟨d,hd⟩:∃ d,vI ns=d+1:=⟨vI ns-1,aF⟩
   rw [hd,xN]
   exact (rJ d _ aF).symm
theorem zZ (ns:List Nd):gT (qI ns)=gT ns:=by
 cases ha:nU ns ns.length
 ·rw [nV ha]
 ·have hl:=rH ha
  unfold gT
  obtain ⟨d,hd⟩:∃ d,vI ns=d+1:=⟨vI ns-1,aF⟩
  rw [hd,xN]
  exact (rJ d _ aF).symm
theorem MQ {ns:List Nd} (h:nU ns ns.length=false):gT ns=ns:=uO (nV h) _
theorem dC.iter:∀ (k:Nat) (ns:List Nd),dC ns (xN k ns)
 | 0,ns=>dC.refl ns
 | k+1,ns=>(dC.round ns).trans (dC.iter k _)
theorem dC.all (ns:List Nd):dC ns (gT ns):=dC.iter _ ns
def pJ (ns:List Nd) (k n:Nat):List Nat:=(List.range k).filter fun j=>jE ns j n
theorem XL (ns:List Nd) (k n:Nat):pJ ns (k+1) n=if jE ns k n=true then pJ ns k n++[k] else pJ ns k n:=by
 simp only [pJ,List.range_succ,List.filter_append]
 split
 ·rename_i h;simp [h]
 ·rename_i h;simp [h]
theorem aEN {ns:List Nd} {k n j:Nat}:j∈pJ ns k n↔j<k∧jE ns j n=true:=by simp [pJ]
theorem aSQ {r:Int} {ns:List Nd} (hc:bM r ns=0) {n:Nat} (hn:n<ns.length) (h1:(nd ns n).op≠11) (h2:(nd ns n).op≠12):iQ ns n=[(nd ns n).t.toNat]:=by
 have ht:=(dJ hc hn).t h2
 have hlt:(nd ns n).t.toNat<ns.length:=by omega
 have:∀ m,mF ns m n=decide (m=(nd ns n).t.toNat):=fun m=>by
  have key:mF ns m n=true↔m=(nd ns n).t.toNat:=by
   rw [uC]
   constructor
   ·rintro ⟨_,⟨_,q⟩ | ⟨q,_⟩⟩
    ·omega
    ·exact absurd q h1
   ·intro e;exact ⟨hn,Or.inl ⟨h2,aF⟩⟩
  by_cases e:m=(nd ns n).t.toNat
  ·rw [key.2 e];simp [e]
  ·cases q:mF ns m n
   ·simp [e]
   ·exact absurd (key.1 q) e
 unfold iQ
 generalize (nd ns n).t.toNat=t at this hlt
 have e:(fun m=>mF ns m n)=fun m=>decide (m=t):=funext this
 rw [e]
 have:∀ k,t<k→(List.range k).filter (fun m=>decide (m=t))=[t]:=by
  intro k
  induction k with
  | zero=>intro h;omega
  | succ k ih =>
   intro h
   rw [List.range_succ,List.filter_append]
   by_cases q:t<k
   ·rw [ih q];simp;omega
   ·have:k=t:=by omega
    subst this
    have:(List.range k).filter (fun m=>decide (m=k))=[]:=by
     rw [List.filter_eq_nil_iff];intro a ha;have:=List.mem_range.1 ha;simp;omega
    rw [this];simp
 exact this _ hlt
def cnt (l:List Ct) (t:Tm):Int:=(jZ l t).getD 0
theorem aOA {ns:List Nd} {n:Nat} {r:Int} (hc:bM r ns=0) (hn:n<ns.length) (h:(nd ns n).op≠12):(nd ns n).t.toNat∈iQ ns n:=by
 have:=(dJ hc hn).t h
 exact iY.2 ⟨aF,uC.2 ⟨hn,Or.inl ⟨h,aF⟩⟩⟩
theorem aOB {ns:List Nd} {n:Nat} {r:Int} (hc:bM r ns=0) (hn:n<ns.length) (h:(nd ns n).op=11):(nd ns n).e.toNat∈iQ ns n:=by
 have:=(dJ hc hn).e h
 exact iY.2 ⟨aF,uC.2 ⟨hn,Or.inr ⟨h,aF⟩⟩⟩
def XM (F:(Nat→Bool)→Nat→Bool) (k:Nat) (x:List Bool):Nat→List Bool
 | 0=>x
 | j+1=>(XM F k x j).set (k-1-j) (F (aM (XM F k x j)) (k-1-j))
theorem uP {F:(Nat→Bool)→Nat→Bool} {k:Nat} {x:List Bool} (hF:oD F) (h:iD F k x):∀ j,j≤k→iD F k (XM F k x j)
 | 0,_=>h
 | j+1,hj=>(uP hF h j aF).put hF aF
theorem MS {F:(Nat→Bool)→Nat→Bool} {k:Nat} {x:List Bool} (hF:oD F) (h:iD F k x):∀ j,j≤k→(XM F k x j=x∧∀ m,k-j≤m→m<k→aM x m=F (aM x) m)∨dU (XM F k x j)<dU x
 | 0,_=>Or.inl ⟨rfl,fun m hm hm' =>by omega⟩
 | j+1,hj=>by
  have ho:=uP hF h j aF
  have hp:=uA ho (n:=k-1-j) aF
  simp only [XM]
  rcases MS hF h j aF with ⟨h1,h2⟩ | h1
  ·rw [h1] at hp ⊢
   rcases hp with h3 | h3
   ·left
    refine ⟨h3,fun m hm hm' =>?_⟩
    by_cases e:m=k-1-j
    ·subst e
     have:=congrArg (fun l=>aM l (k-1-j)) h3
     rw [dR (by rw [h.len];omega)] at this
     simpa using this.symm
    ·exact h2 m aF hm'
   ·exact Or.inr h3
  ·right
   rcases hp with h3 | h3
   ·rw [h3];exact h1
   ·omega
def tJ (F:(Nat→Bool)→Nat→Bool) (k:Nat):Nat→List Bool
 | 0=>List.replicate k true
 | n+1=>XM F k (tJ F k n) k
theorem nW {F:(Nat→Bool)→Nat→Bool} (hF:oD F) (k:Nat):∀ n,iD F k (tJ F k n)
 | 0=>iD.start F k
 | n+1=>uP hF (nW hF k n) k dD
theorem GJ {F:(Nat→Bool)→Nat→Bool} (hF:oD F) (k:Nat):∀ n,(∀ m,m<k→aM (tJ F k n) m=F (aM (tJ F k n)) m)∨dU (tJ F k n)+n≤k
 | 0=>Or.inr (by have:=wE (List.replicate k true);simpa [tJ] using this)
 | n+1=>by
  simp only [tJ]
  rcases MS hF (nW hF k n) k dD with ⟨h1,h2⟩ | h1
  ·left;rw [h1];exact fun m hm=>h2 m aF hm
  ·rcases GJ hF k n with h2 | h2
   ·left
    have hs:∀ j,j≤k→XM F k (tJ F k n) j=tJ F k n:=by
     intro j
     induction j with
     | zero=>intro _;rfl
     | succ j ih =>
      intro hj
      simp only [XM]
      rw [ih aF]
      exact pM (by rw [(nW hF k n).len];omega) (h2 _ aF)
    rw [hs k dD];exact h2
   ·right;omega
theorem aOC {F:(Nat→Bool)→Nat→Bool} (hF:oD F) (k:Nat):IsG F k (tJ F k (k+1)):=by
 refine (nW hF k (k+1)).done fun n hn h=>?_
 rcases GJ hF k (k+1) with h1 | h1
 ·rw [← h1 n hn];exact h
 ·omega
def lvR (ns:List Nd) (j:Nat):List Bool:=(List.range ns.length).map (jE ns j)
theorem aSR (ns:List Nd) (j:Nat):(lvR ns j).length=ns.length:=by simp [lvR]
theorem aEO {ns:List Nd} {j n:Nat} (h:n<ns.length):aM (lvR ns j) n=jE ns j n:=mM _ h
theorem aYA (ns:List Nd) (j:Nat):(tJ (xK ns j) ns.length (ns.length+1)).map not=lvR ns j:=by
 have hG:=aOC (qH ns j) ns.length
 have e:=hG.aCX (qH ns j)
 refine mK (by simp [lvR,hG.len]) fun n hn=>?_
 rw [List.length_map,hG.len] at hn
 rw [wH (by rw [hG.len];exact hn),aEO hn,e];rfl
theorem aSS {r:Int} {ns:List Nd} (hc:bM r ns=0) {n:Nat} (hn:n<ns.length) (p:Nat→Bool):(iQ ns n).any p=(((nd ns n).op != 12&&p (nd ns n).t.toNat)||((nd ns n).op==11&&p (nd ns n).e.toNat)):=by
 have hF:=dJ hc hn
 have key:(iQ ns n).any p=true↔(((nd ns n).op != 12&&p (nd ns n).t.toNat)||((nd ns n).op==11&&p (nd ns n).e.toNat))=true:=by
  simp only [List.any_eq_true,Bool.or_eq_true,Bool.and_eq_true,bne_iff_ne,beq_iff_eq]
  constructor
  ·rintro ⟨m,hm,hp⟩
   obtain ⟨_,q⟩:=uC.1 (iY.1 hm).2
   rcases q with ⟨q1,q2⟩ | ⟨q1,q2⟩
   ·left;exact ⟨q1,by rw [q2];exact hp⟩
   ·right;exact ⟨q1,by rw [q2];exact hp⟩
  ·rintro (⟨q1,q2⟩ | ⟨q1,q2⟩)
   ·exact ⟨_,aOA hc hn q1,q2⟩
   ·exact ⟨_,aOB hc hn q1,q2⟩
 cases a:(iQ ns n).any p <;> cases b:(((nd ns n).op != 12&&p (nd ns n).t.toNat)||((nd ns n).op==11&&p (nd ns n).e.toNat))
 ·rfl
 ·rw [key.2 b] at a;cases a
 ·rw [key.1 a] at b;cases b
 ·rfl
theorem aST {r:Int} {ns:List Nd} (hc:bM r ns=0) {n:Nat} (hn:n<ns.length) (j:Nat) (y:Nat→Bool):(!xK ns j y n)=(XG (nd ns n) j||(!XH (nd ns n) j&&(((nd ns n).op != 12&&!y (nd ns n).t.toNat)||((nd ns n).op==11&&!y (nd ns n).e.toNat)))):=by
 have e:=aSS hc hn fun m=>!y m
 simp only [xK,Bool.not_and,Bool.not_not,Bool.not_or]
 rw [← e]
 congr 1
 congr 1
 generalize iQ ns n=l
 induction l with
 | nil=>rfl
 | cons a l ih=>simp only [List.all_cons,List.any_cons,Bool.not_and,ih]
def uW (ns:List Nd) (tak:List Bool) (h:Int) (n:Nat):Nd:=if aM tak n then ⟨2,(nd ns n).d,h,0,(nd ns n).t,0⟩ else nd ns n
def JI (t:Tm) (h:Int) (b:Nat):Nd:=⟨t.op,h,t.a,t.b,b,0⟩
def iF (ns:List Nd) (t:Tm) (put tak:List Bool) (h:Int) (k:Nat):List Nd :=
 ((List.range ns.length).map fun n=>if n<k∧aM put n=true then JI t h (ns.length+(bI put n).length) else uW ns tak h n)++(bI put k).map (uW ns tak h)
def qJ (ns:List Nd) (t:Tm) (put tak:List Bool) (h:Int):List Nd:=iF ns t put tak h ns.length
theorem fM (ns:List Nd) (t:Tm) (put tak:List Bool) (h:Int) (k:Nat):(iF ns t put tak h k).length=ns.length+(bI put k).length:=by simp [iF]
theorem BO {ns:List Nd} {t:Tm} {put tak:List Bool} {h:Int} {k n:Nat} (hn:n<ns.length):nd (iF ns t put tak h k) n=if n<k∧aM put n=true then JI t h (ns.length+(bI put n).length) else uW ns tak h n:=by
 unfold iF
 rw [oI (by simpa using hn)]
 simp [nd,hn]
theorem oO {ns:List Nd} {t:Tm} {put tak:List Bool} {h:Int} {k i n:Nat} (hi:(bI put k)[i]?=some n):nd (iF ns t put tak h k) (ns.length+i)=uW ns tak h n:=by
 unfold iF nd
 rw [List.getD_eq_getElem?_getD,List.getElem?_append_right aQ]
 simp [hi]
theorem aHV (ns:List Nd) (t:Tm) (put tak:List Bool) (h:Int):iF ns t put tak h 0=(List.range ns.length).map (uW ns tak h):=by simp [iF,bI]
theorem aSU {ns:List Nd} {t:Tm} {put tak:List Bool} {h:Int} {k:Nat} (hp:aM put k=false):iF ns t put tak h (k+1)=iF ns t put tak h k:=by
 unfold iF
 rw [nK hp]
 congr 1
 refine List.map_congr_left fun n _=>?_
 by_cases e:n=k
 ·subst e;simp [hp]
 ·by_cases q:n<k
  ·simp [q,show n<k+1 by omega]
  ·simp [q,show ¬ n<k+1 by omega]
theorem aOD {ns:List Nd} {t:Tm} {put tak:List Bool} {h:Int} {k:Nat} (hk:k<ns.length) (hp:aM put k=true):iF ns t put tak h (k+1)=(iF ns t put tak h k++[uW ns tak h k]).set k (JI t h (iF ns t put tak h k).length):=by
 refine QG (by simp [fM,gM hp];omega) fun i hi=>?_
 rw [fM,gM hp,List.length_append,List.length_singleton] at hi
 rw [ZZ _ (by simp [fM];omega)]
 by_cases h1:i<ns.length
 ·rw [BO h1]
  by_cases e:i=k
  ·subst e;rw [if_pos ⟨aF,hp⟩,if_pos rfl,fM]
  ·rw [if_neg e,oI (by rw [fM];omega),BO h1]
   by_cases q:i<k
   ·simp [q,show i<k+1 by omega]
   ·simp [q,show ¬ i<k+1 by omega]
 ·obtain ⟨j,rfl⟩:∃ j,i=ns.length+j:=⟨i-ns.length,aF⟩
  rw [if_neg aF]
  by_cases q:j<(bI put k).length
  ·have hg:(bI put k)[j]?=some (bI put k)[j]:=List.getElem?_eq_getElem q
   rw [oO (n:=(bI put k)[j]) (by rw [gM hp,List.getElem?_append_left q];exact hg),oI (by rw [fM];omega),oO hg]
  ·have ej:j=(bI put k).length:=by omega
   subst ej
   rw [oO (n:=k) (by rw [gM hp,List.getElem?_append_right dD];simp)]
   have e2:ns.length+(bI put k).length=(iF ns t put tak h k).length:=(fM ..).symm
   rw [e2,zJ]
structure JJ (r:Int) (t:Tm):Prop where
 op:3≤t.op∧t.op≤8
 a:0≤t.a∧t.a<r
 b:0≤t.b∧t.b<r
theorem aSV {t:Tm} {x:Nd}:nP t x=true↔x.op=t.op∧x.a=t.a∧x.b=t.b:=by
 simp [nP,and_assoc]
def vU (ns:List Nd) (t:Tm) (tak:List Bool):Prop:=∀ n,n<ns.length→aM tak n=true→nP t (nd ns n)=true
theorem aEP {r:Int} {len:Nat} {ns:List Nd} {t:Tm} {tak:List Bool} (ht:JJ r t) (hT:vU ns t tak) (hl:ns.length≤len) {n:Nat} (hn:n<ns.length) (hF:Full r ns.length (nd ns n)):Full (r+1) len (uW ns tak r n):=by
 unfold uW
 split
 ·rename_i q
  have hr:=aSV.1 (hT n hn q)
  have hd:=hF.d (by have:=ht.op;omega) (by have:=ht.op;omega)
  have htt:=hF.t (by have:=ht.op;omega)
  have h0:=ht.a
  refine ⟨aQ,fun _ _=>by simp;omega,aQ,fun _ _ _=>by simp;omega,aQ,aQ,aQ,fun _=>by simp;omega,aQ,aQ,aQ⟩
 ·exact ⟨hF.op,fun a b=>by have:=hF.d a b;omega,hF.d0,fun a b c=>by have:=hF.a a b c;omega,hF.a0,fun a b=>by have:=hF.b a b;omega,hF.b0,fun a=>by have:=hF.t a;omega,hF.t0,fun a=>by have:=hF.e a;omega,hF.e0⟩
theorem aYB {r:Int} {ns:List Nd} (hc:bM r ns=0) {t:Tm} (ht:JJ r t) {put tak:List Bool} (hT:vU ns t tak) (hl:(qJ ns t put tak r).length≤256) (hr:r+1≤64):bM (r+1) (qJ ns t put tak r)=0:=by
 have hf:=bE hc
 have hlen:=fM ns t put tak r ns.length
 change (qJ ns t put tak r).length=_ at hlen
 refine OJ ⟨aF,hl⟩ aF fun y hy=>?_
 obtain ⟨i,hi⟩:=List.getElem?_of_mem hy
 have hlt:=(List.getElem?_eq_some_iff.1 hi).1
 have hy:y=nd (qJ ns t put tak r) i:=(jF hi).symm
 subst hy
 by_cases h1:i<ns.length
 ·unfold qJ at hlt ⊢
  rw [BO h1]
  split
  ·rename_i q
   have hk:=SQ q.2 h1
   have:=ht.op
   have:=ht.a
   have:=ht.b
   refine ⟨by simp [JI];omega,fun _ _=>by simp [JI];omega,fun q=>by simp [JI] at q;omega,fun _ _ _=>by simp [JI];omega,fun q=>by simp [JI] at q;omega,fun _ _=>by simp [JI];omega,fun q=>by simp [JI] at q;omega,fun _=>?_,fun q=>by simp [JI] at q;omega,fun q=>by simp [JI] at q;omega,by simp [JI]⟩
   simp only [JI,fM];omega
  ·exact aEP ht hT (by rw [fM];omega) h1 (dJ hc h1)
 ·obtain ⟨j,rfl⟩:∃ j,i=ns.length+j:=⟨i-ns.length,aF⟩
  have hj:j<(bI put ns.length).length:=by omega
  have hg:(bI put ns.length)[j]?=some (bI put ns.length)[j]:=List.getElem?_eq_getElem hj
  have hm:=(yD.1 (List.mem_of_getElem? hg)).1
  unfold qJ
  rw [oO hg]
  exact aEP ht hT (by rw [fM];omega) hm (dJ hc hm)
end Go.Proofs.YtegloodcbfalfaaGreatDoor
namespace Go.Proofs.YtegloodcbfalfaaGreatDoor
open Go.RowKit Go.Shelf
theorem MU (a:Option Addr) (c:Nat) (xs:List Bool) (n:Nat) (hn:xs.length=n) (w:World) (h:aJ w a xs) (hl:n≤256) :
 Calls Tryz.prog 76 #[.slice a n c] w fun e w' =>e=.returned (.bool (xs.any id))∧w' =w:=by
 subst hn
 go_enter Tryz.func76,Tryz.ntmps76
 go_wp2
 go_loopw [3] (fun i u=>∃ k:Nat,k≤xs.length∧i=.int .i64 k∧(xs.take k).any id=false∧u=w) (fun i _=>xs.length-(intOf i).toNat)
 case atStart=>exact ⟨0,Nat.zero_le _,rfl,rfl,rfl⟩
 case round =>
  obtain ⟨k,hk,rfl,hn,rfl⟩:=hrel
  have HN:=aB hn
  clear hn
  by_cases hlt:k<xs.length
  ·obtain ⟨b,off,rfl,bl,hv⟩:=h.at hlt
   obtain ⟨z,hz⟩:=bD hlt
   have c0:=hv k z hz
   have hki:(k:Int)<(xs.length:Int):=by omega
   have HZ:=aB hz
   clear hz hv
   cases z
   ·go_wp2
    go_roundw
    case rel=>exact ⟨k+1,aF,by go_num,by rw [List.take_add_one,HZ.out,List.any_append,HN.out];rfl,trivial⟩
    case measure=>simp [intOf];omega
   ·go_wp2
    go_ret
    refine ⟨?_,rfl⟩
    rw [show xs.any id=true from List.any_eq_true.2 ⟨true,List.mem_of_getElem? HZ.out,rfl⟩]
    rfl
  ·have hki:¬ (k:Int)<(xs.length:Int):=by omega
   go_wp2
   go_ret
   refine ⟨?_,rfl⟩
   have e:=HN.out
   rw [List.take_of_length_le aF] at e
   rw [e]
   rfl
theorem QH {w:World} {a:Option Addr} {xs:List Bool} (h:aJ w a xs) {k:Nat} (hk:k<xs.length):∃ b off,a=some ⟨b,off,none⟩∧b<w.heap.size∧w.cell? ⟨b,off+k,none⟩=some (.bool (aM xs k)):=by
 obtain ⟨b,off,rfl,bl,hv⟩:=h.at hk
 exact ⟨b,off,rfl,bl,hv k _ (kE hk)⟩
theorem yY (put:List Bool) (k:Nat):(bI put (k+1)).length=(bI put k).length+(if aM put k then 1 else 0):=by
 cases h:aM put k
 ·rw [nK h];simp
 ·rw [gM h];simp
theorem xO (put:List Bool):∀ k,(bI put k).length≤k
 | 0=>by simp [bI]
 | k+1=>by
  have:=xO put k
  rw [yY];split <;> omega
theorem GK (r:Int) (b off cap:Nat) (ns:List Nd) (t:Tm) (a1 a2:Option Addr) (c1 c2:Nat) (put tak:List Bool) (w:World) (hN:aH w b off ns) (hc:iP r ns t=0) (h1:aJ w a1 put) (h2:aJ w a2 tak) (l1:put.length=ns.length) (l2:tak.length=ns.length) (hT:vU ns t tak) :
 Calls Tryz.prog 77 #[.agg #[.int .i64 r,.slice (some ⟨b,off,none⟩) ns.length cap],.agg #[.int .i64 t.op,.int .i64 t.a,.int .i64 t.b],.agg #[.slice a1 ns.length c1,.slice a2 ns.length c2]] w fun e w' =>e=.returned (.int .i64 (if 256<ns.length+(bI put ns.length).length∨r=64 then 2 else 0))∧Below w.heap.size w w' :=by
 have hl:=(bB (qG hc).1).1
 obtain ⟨W,HW,hbA,p0,p1,p2⟩:=JE w (.cells #[.int .i64 r,.slice (some ⟨b,off,none⟩) ns.length cap] 24) (.cells #[.int .i64 t.op,.int .i64 t.a,.int .i64 t.b] 59) (.cells #[.slice a1 ns.length c1,.slice a2 ns.length c2] 126)
 have XN:=aB (tC r (some ⟨b,off,none⟩) cap ns t W (Or.inr ⟨b,off,rfl,hN.below hbA hN.lt⟩))
 rw [hc] at XN
 obtain ⟨E,HE⟩:∃ E:Int,Hid ((if 256<ns.length+(bI put ns.length).length∨r=64 then 2 else 0)=E):=⟨_,rfl⟩
 rw [HE.out]
 go_enter Tryz.func77,Tryz.ntmps77
 go_upto_region 1 with fail
 rw [HW.out]
 clear HW
 have q0:=aA p0 0
 have q1:=aA p0 1
 have t0:=aA p1 0
 have t1:=aA p1 1
 have t2:=aA p1 2
 simp at q0 q1 t0 t1 t2
 have pl:=aD p0
 have tl:=aD p1
 have HB:=aB hbA
 have HP:=aB p0
 have HT:=aB p1
 have HR:=aB p2
 clear hbA p0 p1 p2
 go_wp2_with fail
 refine XN.out.mono ?_
 rintro e w1 ⟨rfl,hb1⟩
 have hp:=(hb1.block _ pl).trans HP.out
 have ht:=(hb1.block _ tl).trans HT.out
 have hr:=bP hb1 HR.out
 have HB1:=aB (bG HB.out hb1)
 clear q0 q1 t0 t1 t2 pl tl HP HT HR HB XN hb1
 have q0:=aA hp 0
 have q1:=aA hp 1
 have t0:=aA ht 0
 have t1:=aA ht 1
 have t2:=aA ht 2
 have r0:=aA hr 0
 have r1:=aA hr 1
 simp at q0 q1 t0 t1 t2 r0 r1
 have pl:=aD hp
 have tl:=aD ht
 have rl:=aD hr
 have HN:=aB (hN.below HB1.out hN.lt)
 have H1:=aB (h1.below HB1.out)
 have H2:=aB (h2.below HB1.out)
 have HL1:=aB l1
 have HL2:=aB l2
 have vJ:=aB hT
 have HL:=aB hl
 have hr1:Hid (1≤r∧r≤64):=(bB (qG hc).1).2.1
 clear hN h1 h2 l1 l2 hT hl hc hp ht hr
 have HQ:Hid (∀ u:World,Below w1.heap.size w1 u→u.cell? ⟨w.heap.size,0,none⟩=some (.int .i64 r)∧u.cell? ⟨w.heap.size,1,none⟩=some (.slice (some ⟨b,off,none⟩) ns.length cap)∧u.cell? ⟨w.heap.size+1,0,none⟩=some (.int .i64 t.op)∧u.cell? ⟨w.heap.size+1,1,none⟩=some (.int .i64 t.a)∧u.cell? ⟨w.heap.size+1,2,none⟩=some (.int .i64 t.b)∧u.cell? ⟨w.heap.size+2,0,none⟩=some (.slice a1 ns.length c1)∧u.cell? ⟨w.heap.size+2,1,none⟩=some (.slice a2 ns.length c2)):=fun u h =>
  ⟨(h.cell (p:=⟨w.heap.size,0,none⟩) pl).trans q0,(h.cell (p:=⟨w.heap.size,1,none⟩) pl).trans q1,(h.cell (p:=⟨w.heap.size+1,0,none⟩) tl).trans t0,(h.cell (p:=⟨w.heap.size+1,1,none⟩) tl).trans t1,(h.cell (p:=⟨w.heap.size+1,2,none⟩) tl).trans t2,(h.cell (p:=⟨w.heap.size+2,0,none⟩) rl).trans r0,(h.cell (p:=⟨w.heap.size+2,1,none⟩) rl).trans r1⟩
 go_wp2_with fail
 go_loopw [8,9] (fun v i u=>∃ k:Nat,k≤ns.length∧i=.int .i64 k∧v=.int .i64 ((ns.length+(bI put k).length:Nat):Int)∧Below w1.heap.size w1 u) (fun _ i _=>ns.length-(intOf i).toNat)
 case atStart=>exact ⟨0,Nat.zero_le _,rfl,by simp [bI],Below.refl _ _⟩
 case round =>
  obtain ⟨k,hk,rfl,rfl,hb⟩:=hrel
  clear q0 q1 t0 t1 t2 r0 r1
  have hs:=hb.size
  have pw:w.heap.size<wr.heap.size:=by omega
  have tw:w.heap.size+1<wr.heap.size:=by omega
  have rw' :w.heap.size+2<wr.heap.size:=by omega
  obtain ⟨q0,q1,t0,t1,t2,r0,r1⟩:=HQ.out wr hb
  have iX:=aB hb
  by_cases hlt:k<ns.length
  ·obtain ⟨x,hx⟩:=bD hlt
   have hki:(k:Int)<(ns.length:Int):=by omega
   have FX:=HN.out.below hb HN.out.lt
   have n0:=FX.c0 k x hx
   have n1:=FX.c1 k x hx
   have n2:=FX.c2 k x hx
   have n3:=FX.c3 k x hx
   have n4:=FX.c4 k x hx
   have n5:=FX.c5 k x hx
   have nl:=FX.lt
   obtain ⟨pb,po,rfl,pbl,pc⟩:=QH (H1.out.below hb) (k:=k) (by rw [HL1.out];exact hlt)
   obtain ⟨kb,ko,rfl,kbl,kc⟩:=QH (H2.out.below hb) (k:=k) (by rw [HL2.out];exact hlt)
   have vG:=aB (fun U=>fF x t U)
   have hTk:Hid (aM tak k=true→nP t x=true):=fun h=>by have:=vJ.out k hlt h;rwa [jF hx] at this
   have HKS:=aB (yY put k)
   have hKL:(bI put k).length≤256:=Nat.le_trans (xO put k) (by have:=HL.out.2;omega)
   have hL2:=HL.out.2
   clear hx FX hb
   generalize aM tak k=T at kc hTk
   generalize aM put k=P at pc HKS
   generalize nP t x=RC at vG hTk
   generalize (bI put k).length=M at hKL HKS ⊢
   go_upto_region 10 with fail
   refine wp_region_held_drew (S:=fun u=>∀ p:Addr,p.block<wr.heap.size→u.cell? p=wr.cell? p) kD (fun p hp=>rfl) (fun hHeld=>?_)
   have hB:=aB ((Below.refl wr.heap.size wr).drew)
   refine thw 0 ?_
   iterate 5 refine thv ?_
   cases T
   ·iterate 8 refine thu ?_
    refine thv ?_
    generalize wr.drew=wa at hB hHeld ⊢
    refine wpAnyH_done kD ?_ _
    have pc' :=(hB.out.cell (p:=⟨pb,po+k,none⟩) pbl).trans pc
    have r0' :=(hB.out.cell (p:=⟨w.heap.size+2,0,none⟩) rw').trans r0
    have rl' :=Nat.lt_of_lt_of_le rw' hB.out.size
    have pl' :=Nat.lt_of_lt_of_le pbl hB.out.size
    clear hHeld kc n0 n1 n2 n3 n4 n5 q0 q1 t0 t1 t2 r0 r1 pc
    cases P
    ·go_wp2
     go_roundw
     case rel=>exact ⟨k+1,aF,by go_num,by rw [HKS.out];rfl,bG iX.out hB.out⟩
     case measure=>simp [intOf];omega
    ·go_wp2
     go_roundw
     case rel=>exact ⟨k+1,aF,by go_num,by rw [HKS.out];go_num,bG iX.out hB.out⟩
     case measure=>simp [intOf];omega
   ·obtain rfl:=hTk.out rfl
    iterate 6 refine thv ?_
    refine tfr (fun K hK=>?_)
    go_simp
    go_at_call 108
    refine (vG.out _).mono ?_
    rintro e wa ⟨rfl,hba⟩
    replace hB:=aB (bG hB.out hba)
    refine hK.out _ _ (fun p hp=>hB.out.cell hp) (fun hHeld=>?_)
    clear hK K
    iterate 2 refine thv ?_
    refine wpAnyH_done kD ?_ _
    have pc' :=(hB.out.cell (p:=⟨pb,po+k,none⟩) pbl).trans pc
    have r0' :=(hB.out.cell (p:=⟨w.heap.size+2,0,none⟩) rw').trans r0
    have rl' :=Nat.lt_of_lt_of_le rw' hB.out.size
    have pl' :=Nat.lt_of_lt_of_le pbl hB.out.size
    clear hHeld kc n0 n1 n2 n3 n4 n5 q0 q1 t0 t1 t2 r0 r1 pc
    cases P
    ·go_wp2
     go_roundw
     case rel=>exact ⟨k+1,aF,by go_num,by rw [HKS.out];rfl,bG iX.out hB.out⟩
     case measure=>simp [intOf];omega
    ·go_wp2
     go_roundw
     case rel=>exact ⟨k+1,aF,by go_num,by rw [HKS.out];go_num,bG iX.out hB.out⟩
     case measure=>simp [intOf];omega
  ·have ek:k=ns.length:=by omega
   subst ek
   have hki:¬ (ns.length:Int)<(ns.length:Int):=by omega
   have hKL:(bI put ns.length).length≤256:=Nat.le_trans (xO put _) HL.out.2
   have hL2:=HL.out.2
   clear hb
   generalize (bI put ns.length).length=M at hKL HE ⊢
   by_cases hm:256<ns.length+M
   ·have KW:(ns.length:Int)+(M:Int)>256:=by omega
    have hmb:decide ((ns.length:Int)+(M:Int)>256)=true:=by simp;omega
    have HM:=aB hm
    clear hm
    go_wp2
    go_ret
    exact ⟨bU (by rw [← HE.out,if_pos (Or.inl HM.out)]),bG HB1.out iX.out⟩
   ·have KW:¬ (ns.length:Int)+(M:Int)>256:=by omega
    have hmb:decide ((ns.length:Int)+(M:Int)>256)=false:=by simp;omega
    have HM:=aB hm
    clear hm
    by_cases h64:r=64
    ·subst h64
     go_wp2
     go_ret
     exact ⟨bU (by rw [← HE.out];simp),bG HB1.out iX.out⟩
    ·have h6:(r==64)=false:=by simp [h64]
     have H6:=aB h64
     clear h64
     go_wp2
     go_ret
     exact ⟨bU (by rw [← HE.out,if_neg (fun h=>h.elim HM.out H6.out)]),bG HB1.out iX.out⟩
theorem XO {w w' :World} {base:Nat} {e:TypeId} {size:Nat} {v:Value} {n:Nat} {xs:List Value} (h:w.ownsRow base e size v n xs) (hk:∀ g,v.ownBlock=some g→w'.heap[g]?=w.heap[g]?):w'.ownsRow base e size v n xs:=by
 obtain ⟨hl,h3⟩:=h
 refine ⟨hl,?_⟩
 rcases h3 with h3 | ⟨g', cap', cur', rfl,a1,a2,a3⟩
 ·exact Or.inl h3
 ·exact Or.inr ⟨g', cap', cur', rfl,a1,(hk g' rfl).trans a2,a3⟩
theorem XP {w:World} {base:Nat} {v:Value} {l:List Nd} (ty:TypeId) (h:w.ownsRow base 42 6 v l.length (l.flatMap aP)) (hb:base≤w.heap.size) (hl:l.length≤600) (x:Nd) :
 ∃ v' w', (Builtin.append_ #[22,22] ty #[v,.slice (some ⟨w.heap.size,0,none⟩) 1 1]).run Tryz.prog (w.alloc (.cells #[.int .i64 x.op,.int .i64 x.d,.int .i64 x.a,.int .i64 x.b,.int .i64 x.t,.int .i64 x.e] 42))=.ok v' w' ∧w'.ownsRow base 42 6 v' (l++[x]).length ((l++[x]).flatMap aP)∧(w.alloc (.cells #[.int .i64 x.op,.int .i64 x.d,.int .i64 x.a,.int .i64 x.b,.int .i64 x.t,.int .i64 x.e] 42)).grownBy w' v.ownBlock∧(v'.ownBlock=v.ownBlock∨v'.ownBlock=some (w.heap.size+1))∧Below base w w' :=by
 obtain ⟨i0,hi,hz0,hz1,hz2⟩:=info_parts jC
 obtain ⟨v', w', hr,hv,hg,-,hat⟩:=run_append_own_at (P:=Tryz.prog) (w.alloc (.cells #[.int .i64 x.op,.int .i64 x.d,.int .i64 x.a,.int .i64 x.b,.int .i64 x.t,.int .i64 x.e] 42)) base 22 ty 42 i0 _ 6 48 Tryz.underlying22 hi hz0 hz1 hz2 rfl aL v l.length (l.flatMap aP) (h.alloc _) ⟨w.heap.size,0,none⟩ 1 1 (aP x) rfl (by
  intro j u hu
  rw [show (⟨w.heap.size,0,none⟩:Addr).add j=⟨w.heap.size,j,none⟩ from by cases j <;> simp [Addr.add],aA (World.alloc_heap_new w _)]
  simpa [aP] using hu) (by simp [aP,Value.oneCell']) (by unfold maxLen;omega) aF bF
 refine ⟨v', w', hr,?_,hg,?_,((Below.refl base w).alloc hb _).grown hg bF (fun k e=>(eQ h k e).1)⟩
 ·rw [List.length_append,List.flatMap_append,List.flatMap_singleton];exact hv
 ·rw [World.size_alloc] at hat;exact hat
structure AO (w:World) (QB:Nat) (R:Int) (lo lb:List Nd) (vo vb:Value) (u:World):Prop where
 box:u.heap[QB]?=some (.cells #[.int .i64 R,vo] 24 (0,0))
 ro:u.ownsRow (QB+1) 42 6 vo lo.length (lo.flatMap aP)
 rb:u.ownsRow (QB+1) 42 6 vb lb.length (lb.flatMap aP)
 dj:∀ g,vo.ownBlock=some g→vb.ownBlock≠some g
 bel:Below w.heap.size w u
 low:w.heap.size≤QB
section
variable {w u u' :World} {QB XB:Nat} {R:Int} {lo lb:List Nd} {vo vb:Value} {x y:Nd}
theorem AO.below (h:AO w QB R lo lb vo vb u) (hb:Below u.heap.size u u'):AO w QB R lo lb vo vb u' :=
 ⟨bP hb h.box,ownsRow_below h.ro hb dD,ownsRow_below h.rb hb dD,h.dj,bG h.bel hb,h.low⟩
structure AX (w:World) (QB XB:Nat) (R:Int) (x:Nd) (lo lb:List Nd) (vo vb:Value) (u:World):Prop where
 ao:AO w QB R lo lb vo vb u
 xb:u.heap[XB]?=some (.cells #[.int .i64 x.op,.int .i64 x.d,.int .i64 x.a,.int .i64 x.b,.int .i64 x.t,.int .i64 x.e] 42 (0,0))
 ox:∀ g,vo.ownBlock=some g→g≠XB
 bx:∀ g,vb.ownBlock=some g→g≠XB
 lx:w.heap.size≤XB
theorem AX.of (h:AO w QB R lo lb vo vb u) (hb:Below u.heap.size u u') (hx:u'.heap[u.heap.size]?=some (.cells #[.int .i64 x.op,.int .i64 x.d,.int .i64 x.a,.int .i64 x.b,.int .i64 x.t,.int .i64 x.e] 42 (0,0))):AX w QB u.heap.size R x lo lb vo vb u' :=
 ⟨h.below hb,hx,fun g e=>Nat.ne_of_lt (eQ h.ro g e).2.1,fun g e=>Nat.ne_of_lt (eQ h.rb g e).2.1,h.bel.size⟩
theorem vV {b g:Nat} {v0 v1 v2 v3 v4 v5:Value} (h:g≠b):((((((u.setCell ⟨b,0,none⟩ v0).setCell ⟨b,1,none⟩ v1).setCell ⟨b,2,none⟩ v2).setCell ⟨b,3,none⟩ v3).setCell ⟨b,4,none⟩ v4).setCell ⟨b,5,none⟩ v5).heap[g]?=u.heap[g]? :=by
 rw [Below.heap_setCell _ _ _ _ h,Below.heap_setCell _ _ _ _ h,Below.heap_setCell _ _ _ _ h,Below.heap_setCell _ _ _ _ h,Below.heap_setCell _ _ _ _ h,Below.heap_setCell _ _ _ _ h]
theorem AX.set (h:AX w QB XB R x lo lb vo vb u) (y:Nd):AX w QB XB R y lo lb vo vb ((((((u.setCell ⟨XB,0,none⟩ (.int .i64 y.op)).setCell ⟨XB,1,none⟩ (.int .i64 y.d)).setCell ⟨XB,2,none⟩ (.int .i64 y.a)).setCell ⟨XB,3,none⟩ (.int .i64 y.b)).setCell ⟨XB,4,none⟩ (.int .i64 y.t)).setCell ⟨XB,5,none⟩ (.int .i64 y.e)) :=
 ⟨⟨(vV (fD h.ao.box h.xb aL)).trans h.ao.box,XO h.ao.ro fun g e=>vV (h.ox g e),XO h.ao.rb fun g e=>vV (h.bx g e),h.ao.dj,lC h.ao.bel h.lx,h.ao.low⟩,qF h.xb,h.ox,h.bx,h.lx⟩
theorem AX.bAQ (h:AX w QB XB R x lo lb vo vb u) (ty:TypeId) (n:Nat) (hn:lb.length=n) (hl:n≤256) :
 ∃ va vc w', (Builtin.append_ #[22,22] ty #[vb,.slice (some ⟨u.heap.size,0,none⟩) 1 1]).run Tryz.prog (u.alloc (.cells #[.int .i64 x.op,.int .i64 x.d,.int .i64 x.a,.int .i64 x.b,.int .i64 x.t,.int .i64 x.e] 42))=.ok (.slice va (n+1) vc) w' ∧AX w QB XB R x lo (lb++[x]) vo (.slice va (n+1) vc) w' ∧Below (QB+1) u w' :=by
 subst hn
 have hq:=aD h.ao.box
 have hx:=aD h.xb
 obtain ⟨v', w', hr,hv,hg,hat,hB⟩:=XP ty h.ao.rb hq aF x
 obtain ⟨va,vc,ET⟩:=aU hv
 rw [show (lb++[x]).length=lb.length+1 by simp] at ET
 subst ET
 refine ⟨va,vc,w', hr,⟨⟨(hB.block _ (Nat.lt_succ_self _)).trans h.ao.box,kZ (h.ao.ro.alloc _) hg (fun g e e' =>h.ao.dj g e e'),hv,fun g e q=>?_,h.ao.bel.trans (hB.mono (by have:=h.ao.low;omega)),h.ao.low⟩,?_,h.ox,fun g e=>?_,h.lx⟩,hB⟩
 ·rcases hat with e1 | e1 <;> rw [e1] at q
  ·exact h.ao.dj g e q
  ·have:=(eQ h.ao.ro g e).2.1
   simp at q;omega
 ·exact (hg.block XB bF (fun e=>h.bx XB e.symm rfl)).trans ((Below.heap_alloc _ _ _ hx).trans h.xb)
 ·rcases hat with e1 | e1 <;> rw [e1] at e
  ·exact h.bx g e
  ·simp at e;omega
theorem AX.bAR (h:AX w QB XB R x lo lb vo vb u) (ty:TypeId) (n:Nat) (hn:lo.length=n) (hl:n≤256) :
 ∃ va vc w', (Builtin.append_ #[22,22] ty #[vo,.slice (some ⟨u.heap.size,0,none⟩) 1 1]).run Tryz.prog (u.alloc (.cells #[.int .i64 x.op,.int .i64 x.d,.int .i64 x.a,.int .i64 x.b,.int .i64 x.t,.int .i64 x.e] 42))=.ok (.slice va (n+1) vc) w' ∧w'.heap[QB]?=some (.cells #[.int .i64 R,vo] 24 (0,0))∧AO w QB R (lo++[x]) lb (.slice va (n+1) vc) vb (w'.setCell ⟨QB,1,none⟩ (.slice va (n+1) vc))∧Below (QB+1) u w' :=by
 subst hn
 have hq:=aD h.ao.box
 obtain ⟨v', w', hr,hv,hg,hat,hB⟩:=XP ty h.ao.ro hq aF x
 obtain ⟨va,vc,ET⟩:=aU hv
 rw [show (lo++[x]).length=lo.length+1 by simp] at ET
 subst ET
 have hx:=(hB.block _ (Nat.lt_succ_self _)).trans h.ao.box
 refine ⟨va,vc,w', hr,hx,⟨?_,aI hv hx aL,aI (kZ (h.ao.rb.alloc _) hg (fun g e e' =>h.ao.dj g e' e)) hx aL,fun g e q=>?_,(h.ao.bel.trans (hB.mono (by have:=h.ao.low;omega))).setCell (p:=⟨QB,1,none⟩) h.ao.low _,h.ao.low⟩,hB⟩
 ·rw [aG _ hx];simp
 ·rcases hat with e1 | e1 <;> rw [e1] at e
  ·exact h.ao.dj g e q
  ·have:=(eQ h.ao.rb g q).2.1
   simp at e;omega
theorem aOE (l:List Nd):∀ v∈l.flatMap aP,v.oneCell' =true:=fun v hv=>by
 obtain ⟨x,_,hx⟩:=List.mem_flatMap.1 hv
 simp only [aP,List.mem_cons,List.not_mem_nil,or_false] at hx
 rcases hx with rfl | rfl | rfl | rfl | rfl | rfl <;> rfl
theorem AO.join (h:AO w QB R lo lb vo vb u) (ty:TypeId) (a:Option Addr) (n c:Nat) (hvb:vb=.slice a n c) (hn:lb.length=n) (hl:lo.length+n≤600) (h1:1≤lo.length) :
 ∃ v' w', (Builtin.append_ #[22,22] ty #[vo,vb]).run Tryz.prog u=.ok v' w' ∧w'.heap[QB]?=some (.cells #[.int .i64 R,vo] 24 (0,0))∧(∃ g gc,v' =.slice (some ⟨g,0,none⟩) (lo++lb).length gc)∧w'.ownsRow (QB+1) 42 6 v' (lo++lb).length ((lo++lb).flatMap aP)∧Below (QB+1) u w' :=by
 subst hn
 obtain ⟨i0,hi,hz0,hz1,hz2⟩:=info_parts jC
 have hq:=aD h.box
 by_cases h0:lb=[]
 ·subst h0
  subst hvb
  obtain ⟨g,gc,rfl,hle⟩:∃ g gc,vo=.slice (some ⟨g,0,none⟩) lo.length gc∧lo.length≤gc:=by
   rcases h.ro.2 with ⟨_,q⟩ | ⟨g,gc,cur,q,_,_,a3,_⟩
   ·omega
   ·exact ⟨g,gc,q,a3⟩
  refine ⟨_,u,?_,h.box,⟨g,gc,by rw [List.append_nil]⟩,by rw [List.append_nil];exact h.ro,Below.refl _ _⟩
  refine run_append_nothing _ 22 22 ty 42 i0 Tryz.underlying22 hi (some ⟨g,0,none⟩) lo.length gc hle _ ⟨Or.inl ⟨_,Tryz.underlying22⟩,fun w' =>by simp [Builtin.lenOf],?_,?_,aQ,aQ⟩
  ·cases a <;> simp [Builtin.firstCells,loadCells,loadCellsFrom]
  ·cases a <;> simp [Builtin.firstCells,loadCells,loadCellsFrom]
 ·have hp:1≤lb.length:=by cases lb;exact absurd rfl h0;simp
  obtain ⟨g,gc,ET,hg2,hg3⟩:=h.rb.form aF
  subst ET
  obtain ⟨v', w', hr,hv,hg,-,-⟩:=run_append_own_at (P:=Tryz.prog) u (QB+1) 22 ty 42 i0 _ 6 48 Tryz.underlying22 hi hz0 hz1 hz2 rfl aL vo lo.length (lo.flatMap aP) h.ro ⟨g,0,none⟩ lb.length gc (lb.flatMap aP) (sM 6 aP dM lb) (fun j u hu=>h.rb.cells rfl j u hu) (aOE lb) (by unfold maxLen;omega) aF hq
  have hB:=(Below.refl (QB+1) u).grown hg hq (fun k e=>(eQ h.ro k e).1)
  rw [← List.length_append,← List.flatMap_append] at hv
  obtain ⟨g', gc', ET,_⟩:=hv.form bF
  exact ⟨v', w', hr,(hB.block _ (Nat.lt_succ_self _)).trans h.box,⟨g', gc', ET⟩,hv,hB⟩
end
theorem QI {w w' :World} {ops:Array Oper} {rest:List Oper} {o:Oper} {a:Act} {Q:Exit→Act→World→Prop} (hgd:o.guard=none) (s x:Operand) (t:TypeId)
 (ho:o.op=.call { callee:=.builtin .append,args:=#[s,x],argTypes:=#[t,t] }) {v xv v' :Value} (hs:a.eval s=v) (hx:a.eval x=xv) (hr:(Builtin.append_ #[t,t] o.type #[v,xv]).run Tryz.prog w=.ok v' w')
 (h:wpList Tryz.prog ops Q rest (a.put o.dst v') w'):wpList Tryz.prog ops Q (o::rest) a w:=by
 refine wpList_plain hgd fun K hK=>?_
 unfold Oper.wp execOp
 simp only [ho,resolve,invoke,builtin,Sem.run_bind,Sem.run_pure,Result.andThen_ok,List.map_toArray,List.map_cons,List.map_nil,hs,hx,hr]
 exact hK _ _ h
def aoN (ns:List Nd) (t:Tm) (put tak:List Bool) (h:Int) (n:Nat):Nd:=if aM put n then JI t h (ns.length+(bI put n).length) else uW ns tak h n
theorem aOF (ns:List Nd) (t:Tm) (put tak:List Bool) (h:Int):qJ ns t put tak h=(List.range ns.length).map (aoN ns t put tak h)++(bI put ns.length).map (uW ns tak h):=by
 unfold qJ iF aoN
 congr 1
 refine List.map_congr_left fun n hn=>?_
 have:=List.mem_range.1 hn
 cases hp:aM put n <;> simp [this]
theorem XQ (r:Int) (b off cap:Nat) (ns:List Nd) (t:Tm) (a1 a2:Option Addr) (c1 c2:Nat) (put tak:List Bool) (w:World) (hN:aH w b off ns) (hl:1≤ns.length∧ns.length≤256) (hr:1≤r∧r≤64) (h1:aJ w a1 put) (h2:aJ w a2 tak) (l1:put.length=ns.length) (l2:tak.length=ns.length) :
 Calls Tryz.prog 78 #[.agg #[.int .i64 r,.slice (some ⟨b,off,none⟩) ns.length cap],.agg #[.int .i64 t.op,.int .i64 t.a,.int .i64 t.b],.agg #[.slice a1 ns.length c1,.slice a2 ns.length c2]] w fun e w' =>∃ gb gc,e=.returned (.agg #[.int .i64 (r+1),.slice (some ⟨gb,0,none⟩) (qJ ns t put tak r).length gc])∧w'.ownsRow w.heap.size 42 6 (.slice (some ⟨gb,0,none⟩) (qJ ns t put tak r).length gc) (qJ ns t put tak r).length ((qJ ns t put tak r).flatMap aP)∧Below w.heap.size w w' :=by
 obtain ⟨A,HAA⟩:∃ A,Hid (qJ ns t put tak r=A):=⟨_,rfl⟩
 rw [HAA.out]
 obtain ⟨W,HW,hbA,p0,p1,p2,p3⟩:=bx4 w (.cells #[.int .i64 r,.slice (some ⟨b,off,none⟩) ns.length cap] 24) (.cells #[.int .i64 t.op,.int .i64 t.a,.int .i64 t.b] 59) (.cells #[.slice a1 ns.length c1,.slice a2 ns.length c2] 126) (.cells #[.int .i64 0,.slice none 0 0] 24)
 go_enter Tryz.func78,Tryz.ntmps78
 go_upto_region 1 with fail
 rw [HW.out]
 clear HW
 have q0:=aA p0 0
 have q1:=aA p0 1
 have t0:=aA p1 0
 have t1:=aA p1 1
 have t2:=aA p1 2
 have r0:=aA p2 0
 have r1:=aA p2 1
 simp at q0 q1 t0 t1 t2 r0 r1
 have pl:=aD p0
 have tl:=aD p1
 have rl:=aD p2
 have HB:=aB hbA
 have HR:Hid (W.heap[w.heap.size+1+1+1]?=some (.cells #[.int .i64 0,.slice none 0 0] 24 (0,0))):=p3
 have HN:=aB (hN.below hbA hN.lt)
 have H1:=aB (h1.below hbA)
 have H2:=aB (h2.below hbA)
 have HQ:Hid (∀ u:World,Below W.heap.size W u→u.cell? ⟨w.heap.size,0,none⟩=some (.int .i64 r)∧u.cell? ⟨w.heap.size,1,none⟩=some (.slice (some ⟨b,off,none⟩) ns.length cap)∧u.cell? ⟨w.heap.size+1,0,none⟩=some (.int .i64 t.op)∧u.cell? ⟨w.heap.size+1,1,none⟩=some (.int .i64 t.a)∧u.cell? ⟨w.heap.size+1,2,none⟩=some (.int .i64 t.b)∧u.cell? ⟨w.heap.size+2,0,none⟩=some (.slice a1 ns.length c1)∧u.cell? ⟨w.heap.size+2,1,none⟩=some (.slice a2 ns.length c2)):=fun u h =>
  ⟨(h.cell (p:=⟨w.heap.size,0,none⟩) pl).trans q0,(h.cell (p:=⟨w.heap.size,1,none⟩) pl).trans q1,(h.cell (p:=⟨w.heap.size+1,0,none⟩) tl).trans t0,(h.cell (p:=⟨w.heap.size+1,1,none⟩) tl).trans t1,(h.cell (p:=⟨w.heap.size+1,2,none⟩) tl).trans t2,(h.cell (p:=⟨w.heap.size+2,0,none⟩) rl).trans r0,(h.cell (p:=⟨w.heap.size+2,1,none⟩) rl).trans r1⟩
 have HL:=aB hl
 have HL1:=aB l1
 have HL2:=aB l2
 have hw1:IntKind.i64.wrap (r+1)=r+1:=by rw [IntWalk.i64_left];unfold wrap64;omega
 clear hbA p0 p1 p2 p3 hN h1 h2 l1 l2
 obtain ⟨V,HV,hbV,v0⟩:=bx1 W (.cells #[.int .i64 (r+1),.slice none 0 0] 24)
 have HA0:Hid (AO W W.heap.size (r+1) ((List.range 0).map (aoN ns t put tak r)) ((bI put 0).map (uW ns tak r)) (.slice none 0 0) (.slice none 0 0) V):=⟨v0,World.ownsRow_nil _ _ _ _,World.ownsRow_nil _ _ _ _,fun g e=>by simp [Value.ownBlock] at e,hbV,Nat.le_refl _⟩
 go_upto_region 2 with fail
 rw [HV.out]
 clear HV
 obtain ⟨q0,q1,t0,t1,t2,r0,r1⟩:=HQ.out V hbV
 have hsV:=hbV.size
 have plV:=Nat.lt_of_lt_of_le pl hsV
 have pl0:=pl
 go_wp2_with fail
 go_loopw [9,10,11] (fun kv bv i u=>∃ (k:Nat) (vo vb:Value),k≤ns.length∧i=.int .i64 k∧kv=.int .i64 ((ns.length+(bI put k).length:Nat):Int)∧vb=bv∧AO W W.heap.size (r+1) ((List.range k).map (aoN ns t put tak r)) ((bI put k).map (uW ns tak r)) vo vb u) (fun _ _ i _=>ns.length-(intOf i).toNat)
 case atStart=>exact ⟨0,_,_,Nat.zero_le _,rfl,by simp [bI],rfl,HA0.out⟩
 case round =>
  obtain ⟨k,vo,vb,hk,rfl,rfl,rfl,hA⟩:=hrel
  clear q0 q1 t0 t1 t2 r0 r1 plV
  have hb:=hA.bel
  have hs:=hb.size
  obtain ⟨q0,q1,t0,t1,t2,r0,r1⟩:=HQ.out wr hb
  have pw:w.heap.size<wr.heap.size:=by omega
  have tw:w.heap.size+1<wr.heap.size:=by omega
  have rw' :w.heap.size+2<wr.heap.size:=by omega
  have HA:=aB hA
  by_cases hlt:k<ns.length
  ·obtain ⟨x,hx⟩:=bD hlt
   have hki:(k:Int)<(ns.length:Int):=by omega
   have FX:=HN.out.below hb HN.out.lt
   have n0:=FX.c0 k x hx
   have n1:=FX.c1 k x hx
   have n2:=FX.c2 k x hx
   have n3:=FX.c3 k x hx
   have n4:=FX.c4 k x hx
   have n5:=FX.c5 k x hx
   have nl:=FX.lt
   have HX:=aB (jF hx)
   clear hx FX hA
   obtain ⟨V1,jU,hb1,x1⟩:=bx1 wr (.cells #[.int .i64 x.op,.int .i64 x.d,.int .i64 x.a,.int .i64 x.b,.int .i64 x.t,.int .i64 x.e] 42)
   have HAX:=aB (AX.of HA.out hb1 x1)
   go_upto_region 9 with fail
   rw [jU.out]
   clear jU q0 q1 t0 t1 t2 r0 r1 n0 n1 n2 n3 n4 n5 hb x1
   have hB1:=HAX.out.ao.bel
   obtain ⟨q0,q1,t0,t1,t2,r0,r1⟩:=HQ.out V1 hB1
   obtain ⟨kb,ko,rfl,kbl,kc⟩:=QH (H2.out.below hB1) (k:=k) (by rw [HL2.out];exact hlt)
   have hs1:=hb1.size
   have rw1:w.heap.size+2<V1.heap.size:=by omega
   have HTN:Hid (uW ns tak r k=if aM tak k then ⟨2,x.d,r,0,x.t,0⟩ else x):=by show _=_;unfold uW;rw [HX.out]
   generalize aM tak k=T at kc HTN
   obtain ⟨y,HY⟩:∃ y,Hid (uW ns tak r k=y):=⟨_,rfl⟩
   rw [HY.out] at HTN
   generalize wr.heap.size=XB at HAX pw tw rw' nl hs hs1
   have x1:=HAX.out.xb
   have c0:=aA x1 0
   have c1:=aA x1 1
   have c2:=aA x1 2
   have c3:=aA x1 3
   have c4:=aA x1 4
   have c5:=aA x1 5
   simp at c0 c1 c2 c3 c4 c5
   have f0:=aC x1 0
   have f1:=aC x1 1
   have f2:=aC x1 2
   have f3:=aC x1 3
   have f4:=aC x1 4
   have f5:=aC x1 5
   have xl:=aD x1
   clear x1
   go_upto_if 38 with fail
   go_cut [12] from 38 to 44 (fun v wx=>v=.pointer (some ⟨XB,0,none⟩)∧AX W W.heap.size XB (r+1) y ((List.range k).map (aoN ns t put tak r)) ((bI put k).map (uW ns tak r)) vo vb wx)
   case first =>
    cases T
    ·have e:=HTN.out
     simp at e
     subst e
     go_wp2
     go_meet
     exact ⟨rfl,HAX.out⟩
    ·have HS:=aB (HAX.out.set ⟨2,x.d,r,0,x.t,0⟩)
     go_wp2
     go_meet
     refine ⟨rfl,?_⟩
     have e:=HTN.out
     simp at e
     rw [e]
     exact HS.out
   case rest =>
    obtain ⟨rfl,hX⟩:=hcut
    have aSX:=aB hX
    have hB2:=hX.ao.bel
    generalize wc=V2 at *
    clear c0 c1 c2 c3 c4 c5 f0 f1 f2 f3 f4 f5 xl q0 q1 t0 t1 t2 r0 r1 kc HAX hX hB1
    obtain ⟨q0,q1,t0,t1,t2,r0,r1⟩:=HQ.out V2 hB2
    obtain ⟨pb,po,rfl,pbl,pc⟩:=QH (H1.out.below hB2) (k:=k) (by rw [HL1.out];exact hlt)
    have hs2:=hB2.size
    have rw2:w.heap.size+2<V2.heap.size:=by omega
    have tw2:w.heap.size+1<V2.heap.size:=by omega
    have HKS:=aB (yY put k)
    have HKM:Hid ((bI put (k+1)).map (uW ns tak r)=if aM put k then (bI put k).map (uW ns tak r)++[y] else (bI put k).map (uW ns tak r)):=by
     show _=_
     cases h:aM put k
     ·rw [nK h];rfl
     ·rw [gM h,List.map_append,List.map_cons,List.map_nil,HY.out];rfl
    have HAN:Hid (aoN ns t put tak r k=if aM put k then JI t r (ns.length+(bI put k).length) else y):=by show _=_;unfold aoN;rw [HY.out]
    have hKL:(bI put k).length≤256:=Nat.le_trans (xO put k) (by have:=HL.out.2;omega)
    have hL2:=HL.out.2
    have HMM:=aB (show ((bI put k).map (uW ns tak r)).length=(bI put k).length by simp)
    obtain ⟨z,HZ⟩:∃ z,Hid (aoN ns t put tak r k=z):=⟨_,rfl⟩
    rw [HZ.out] at HAN
    obtain ⟨lb', HLB⟩:∃ lb', Hid ((bI put (k+1)).map (uW ns tak r)=lb'):=⟨_,rfl⟩
    rw [HLB.out] at HKM
    generalize (bI put k).map (uW ns tak r)=lb at HKM aSX HMM
    obtain ⟨M', tK⟩:∃ M', Hid ((bI put (k+1)).length=M'):=⟨_,rfl⟩
    rw [tK.out] at HKS
    generalize (bI put k).length=M at HKS HAN HMM hKL
    generalize aM put k=P at pc HKS HKM HAN
    have x1:=aSX.out.xb
    have c0:=aA x1 0
    have c1:=aA x1 1
    have c2:=aA x1 2
    have c3:=aA x1 3
    have c4:=aA x1 4
    have c5:=aA x1 5
    simp at c0 c1 c2 c3 c4 c5
    have xl:=aD x1
    clear x1
    go_upto_if 49 with fail
    go_cut [9,10] from 49 to 64 (fun kv bv wx=>kv=.int .i64 ((ns.length+M' :Nat):Int)∧∃ vb', vb' =bv∧AX W W.heap.size XB (r+1) z ((List.range k).map (aoN ns t put tak r)) lb' vo vb' wx)
    case first =>
     cases P
     ·have e1:=HKS.out
      have e2:=HKM.out
      have e3:=HAN.out
      simp at e1 e2 e3
      subst e1
      subst e2
      subst e3
      go_wp2
      go_meet
      exact ⟨rfl,_,rfl,aSX.out⟩
     ·have e1:=HKS.out
      have e2:=HKM.out
      have e3:=HAN.out
      simp at e1 e2 e3
      obtain ⟨va,vc,w5,hrun,hA5,hB5⟩:=aSX.out.bAQ 22 M HMM.out hKL
      have HR5:=aB hrun
      have x5:=hA5.xb
      have HS5:=aB (hA5.set (JI t r (ns.length+M)))
      obtain ⟨-,-,u0,u1,u2,-,-⟩:=HQ.out w5 hA5.ao.bel
      have f0:=aC x5 0
      have f1:=aC x5 1
      have f2:=aC x5 2
      have f3:=aC x5 3
      have f4:=aC x5 4
      have f5:=aC x5 5
      have d0:=aA x5 0
      have d1:=aA x5 1
      have d2:=aA x5 2
      have d3:=aA x5 3
      have d4:=aA x5 4
      have d5:=aA x5 5
      simp at d0 d1 d2 d3 d4 d5
      have xl5:=aD x5
      have tw5:w.heap.size+1<w5.heap.size:=Nat.lt_of_lt_of_le aF hA5.ao.bel.size
      have SE:=aB e1
      have HE2:=aB e2
      have HE3:=aB e3
      clear hrun hA5 hB5 x5 e1 e2 e3
      go_wp2_with (at_builtin;refine QI rfl _ _ _ rfl rfl rfl HR5.out ?_)
      go_meet
      rw [SE.out,HE2.out,HE3.out]
      exact ⟨by go_num,_,rfl,HS5.out⟩
    case rest =>
     obtain ⟨rfl,vb', rfl,hX3⟩:=hcut
     generalize wc=V3 at *
     obtain ⟨va,vc,w6,hrun,hx6,hA6,hB6⟩:=hX3.bAR 22 k aQ aF
     have x3:=hX3.xb
     have JE:=hX3.ao.box
     clear c0 c1 c2 c3 c4 c5 xl q0 q1 t0 t1 t2 r0 r1 pc
     have c0:=aA x3 0
     have c1:=aA x3 1
     have c2:=aA x3 2
     have c3:=aA x3 3
     have c4:=aA x3 4
     have c5:=aA x3 5
     have b1:=aA JE 1
     have b6:=aA hx6 1
     simp at c0 c1 c2 c3 c4 c5 b1 b6
     have g6:=aC hx6 1
     have xl:=aD x3
     have bl:=aD JE
     have bl6:=aD hx6
     have HR6:=aB hrun
     have HA6:=aB hA6
     have HSU:=aB (show (List.range (k+1)).map (aoN ns t put tak r)=(List.range k).map (aoN ns t put tak r)++[z] by rw [List.range_succ,List.map_append,List.map_cons,List.map_nil,HZ.out])
     clear hrun hA6 hB6 hX3 x3 JE hx6
     go_wp2_with (at_builtin;refine QI rfl _ _ _ rfl rfl rfl HR6.out ?_)
     go_roundw
     case rel=>exact ⟨k+1,_,_,aF,by go_num,by rw [tK.out];first | rfl | (congr 1;omega) | simp,rfl,by rw [HSU.out,HLB.out];exact HA6.out⟩
     case measure=>simp [intOf];omega
  ·have ek:k=ns.length:=by omega
   subst ek
   have hki:¬ (ns.length:Int)<(ns.length:Int):=by omega
   obtain ⟨va,vc,hvb⟩:=aU hA.rb
   have hKL:=xO put ns.length
   have hL2:=HL.out
   obtain ⟨v', w6,hrun,hx6,⟨g,gc,rfl⟩,hv6,hB6⟩:=hA.join 22 va _ vc hvb rfl bF bF
   have aOH:=hA.bel.trans (hB6.mono (Nat.le_succ _))
   rw [← aOF,HAA.out] at hv6 hrun
   have hR6:=bP aOH HR.out
   have bx:=hA.box
   have HV6:=aB hv6
   have HR6:=aB hrun
   have HX6:=aB hx6
   have HRR:=aB hR6
   have HB6:=aB aOH
   clear hb hA hrun hv6 hB6
   have b1:=aA bx 1
   have y0:=aA hx6 0
   have y1:=aA hx6 1
   have z0:=aA hR6 0
   have z1:=aA hR6 1
   simp at b1 y0 y1 z0 z1
   have bl:=aD bx
   have yl:=aD hx6
   have zl:=aD hR6
   have yf:=aC hx6 1
   have zf0:=aC hR6 0
   have zf1:=aC hR6 1
   have hne:w.heap.size+1+1+1≠W.heap.size:=Nat.ne_of_lt (aD HR.out)
   clear bx hx6 hR6 aOH
   go_wp2_with (at_builtin;refine QI rfl _ _ _ rfl rfl rfl HR6.out ?_)
   have hk1:(w6.setCell ⟨W.heap.size,1,none⟩ (.slice (some ⟨g,0,none⟩) A.length gc)).heap[w.heap.size+1+1+1]?=some (.cells #[.int .i64 0,.slice none 0 0] 24 (0,0)):=(Below.heap_setCell _ _ _ _ hne).trans HRR.out
   have hk:=bQ (v0:=.int .i64 (r+1)) (v1:=.slice (some ⟨g,0,none⟩) A.length gc) hk1
   have k0:=aA hk 0
   have k1:=aA hk 1
   simp at k0 k1
   have T1:=aI (o:=1) (u:=.slice (some ⟨g,0,none⟩) A.length gc) HV6.out HX6.out aL
   have T2:=aI (o:=1) (u:=.slice (some ⟨g,0,none⟩) A.length gc) (aI (o:=0) (u:=.int .i64 (r+1)) T1 hk1 aL) (aG _ hk1) aL
   exact bodyPost_ret (v:=.agg #[.int .i64 (r+1),.slice (some ⟨g,0,none⟩) A.length gc]) (by simp [results,Tryz.results78,go_sem,k0,k1]) rfl ⟨g,gc,rfl,aK T2 (by have:=HB.out.size;omega),aW ((bG HB.out HB6.out).setCell (p:=⟨W.heap.size,1,none⟩) HB.out.size _) aF⟩
end Go.Proofs.YtegloodcbfalfaaGreatDoor
namespace Go.Proofs.YtegloodcbfalfaaGreatDoor
open Go.RowKit Go.Shelf Go.Maps
theorem GL {H:Type} {P:Program} (w:World) {ops:Array Oper} {rest:List Oper} {o:Oper} {a:Act} {Q:Exit→Act→World→Prop}
 (hg:o.guard=none) (m x v:Operand) (t:TypeId) (hop:o.op=Op.insert t m x v)
 (k e:TypeId) (K:Keyed P k) (ht:P.underlying t=some (.map k e)) (R:Value→Option (DataW H × List MemPlace)) (b n:Nat) (D:DataW H)
 (hm:a.eval m=.map (some b)) (hown:w.ownsMap P k R b n D) (hn:n<maxLen) (key val:Value) (kl:Lit) (hx:a.eval x=key) (hv:a.eval v=val) (hkey:keyOf P k key=some kl)
 (d:DataW H) (ps:List MemPlace) (hval:R val=some (d,ps))
 (hK:∀ w', w'.ownsMap P k R b (n+1) (D.put kl d)→w.grownBy w' (some b)→wpList P ops Q rest (a.put o.dst undef) w') :
 wpList P ops Q (o::rest) a w:=by
 refine wpList_plain hg fun K' hK' =>?_
 obtain ⟨w', hrun,r1,r2⟩:=hown.update K ht hn hkey hval
 unfold Oper.wp
 simp [execOp,hop,hm,hx,hv,hrun,Result.andThen]
 exact hK' _ _ (hK w' r1 r2)
def asIs (v:Value):Option (DataW Value × List MemPlace):=some (.held v,[])
def fnV (n:Nat):Value:=.func (.func n) #[] #[]
def tL:DataW Value:=((((DataW.map []).put (.int .i64 1) (.held (fnV 36))).put (.int .i64 2) (.held (fnV 37))).put (.int .i64 3) (.held (fnV 38))).put (.int .i64 4) (.held (fnV 39))
theorem QJ (w:World):Calls Tryz.prog 11 #[] w fun e w' =>e=.returned (.map (some w.heap.size))∧w'.ownsMap Tryz.prog 3 asIs w.heap.size 4 tL∧Below w.heap.size w w' :=by
 have KK:Keyed Tryz.prog 3:=int_keyed Tryz.underlying3
 have hown:=World.ownsMap_made (H:=Value) w Tryz.prog 3 asIs
 have hB:Below w.heap.size w (w.alloc (.map #[] 0)):=dY
 have hmk:∀ W:World,Sem.run Tryz.prog (Instr.makeMap 35 none) W=.ok (.map (some W.heap.size)) (W.alloc (.map #[] 0)):=fun W=>rfl
 have jP:13<maxLen:=by decide
 go_enter Tryz.func11,Tryz.ntmps11
 go_wp2_with (refine GL _ rfl _ _ _ 35 rfl 3 37 KK Tryz.underlying35 _ w.heap.size _ _ rfl hown aF _ _ _ rfl rfl (keyOf_int_mk Tryz.underlying3 aL) _ [] rfl ?_;have hlt:=hown.lt;clear hown;intro w1 hown hg1;replace hB:=hB.grown hg1 aF (fun k hk=>by have:=Option.some.inj hk;omega);clear hg1 hlt)
 go_ret
 refine ⟨rfl,hown,hB⟩
def vK (k:Int):Value:=if k=4 then fnV 39 else if k=3 then fnV 38 else if k=2 then fnV 37 else if k=1 then fnV 36 else .nilFunc
theorem QK {D:DataW Value} (hD:IsMap D) (j k:Int) (d z:DataW Value):(D.put (.int .i64 j) d).atKey (.int .i64 k) z=if k=j then d else D.atKey (.int .i64 k) z:=by
 by_cases e:k=j
 ·rw [if_pos e,e];exact atKey_put_same hD (by trivial) _ _
 ·rw [if_neg e];exact atKey_put_other (by intro h;cases h;exact e rfl) _ _
theorem aOI (k:Int):tL.atKey (.int .i64 k) (.held .nilFunc)=.held (vK k):=by
 unfold tL
 have h0:IsMap (DataW.map []:DataW Value):=isMap_empty
 have h1:=h0.put (.int .i64 1) (.held (fnV 36))
 have h2:=h1.put (.int .i64 2) (.held (fnV 37))
 have h3:=h2.put (.int .i64 3) (.held (fnV 38))
 rw [QK h3,QK h2,QK h1,QK h0]
 unfold vK
 by_cases e4:k=4
 ·simp [e4]
 by_cases e3:k=3
 ·simp [e3]
 by_cases e2:k=2
 ·simp [e2]
 by_cases e1:k=1
 ·simp [e1]
 simp [e4,e3,e2,e1]
 rfl
theorem MV {w:World} {mb n:Nat} (h:w.ownsMap Tryz.prog 3 asIs mb n tL) {k:Int} (hk:(Lit.int .i64 k).wf=true):(Instr.lookup 35 (.map (some mb)) (.int .i64 k) false).run Tryz.prog w=.ok (vK k) w:=by
 obtain ⟨v,ps,hr,hv⟩:=h.lookup (e:=37) (int_keyed Tryz.underlying3) Tryz.underlying35 (z:=.nilFunc) fJ (zd:=.held .nilFunc) (zp:=[]) rfl (keyOf_int_mk Tryz.underlying3 hk)
 rw [aOI] at hv
 have e:v=vK k:=by
  have:=(Option.some.inj hv)
  exact DataW.held.inj (Prod.mk.inj this).1
 rw [e] at hr
 exact hr
def iM (k:Int):Bool:=k==1||k==2||k==3||k==4
theorem XR (k:Int) (B mb n:Nat) (w:World) (hB:w.cell? ⟨B,0,none⟩=some (.map (some mb))) (hBl:B<w.heap.size) (hm:w.ownsMap Tryz.prog 3 asIs mb n tL) (hk:(Lit.int .i64 k).wf=true) :
 Calls Tryz.prog 12 #[.int .i64 k,.pointer (some ⟨B,0,none⟩)] w fun e w' =>e=.returned (.bool (iM k))∧w' =w:=by
 have hl:=MV hm hk
 clear hm hk
 have hne:∀ W,Sem.run Tryz.prog (binOp .neq 37 (vK k) .nilFunc) W=.ok (.bool (iM k)) W∧Sem.run Tryz.prog (eqGuard .neq 37 (.tmp 6) (.const .nilFunc) (vK k) .nilFunc) W=.ok () W:=fun W=>by
  unfold vK iM
  by_cases e4:k=4
  ·subst e4;exact ⟨by kernel_rfl,by kernel_rfl⟩
  by_cases e3:k=3
  ·subst e3;exact ⟨by kernel_rfl,by kernel_rfl⟩
  by_cases e2:k=2
  ·subst e2;exact ⟨by kernel_rfl,by kernel_rfl⟩
  by_cases e1:k=1
  ·subst e1;exact ⟨by kernel_rfl,by kernel_rfl⟩
  rw [if_neg e4,if_neg e3,if_neg e2,if_neg e1,show (k==1||k==2||k==3||k==4)=false by simp [e4,e3,e2,e1]]
  exact ⟨by kernel_rfl,by kernel_rfl⟩
 have he1:=fun W=>(hne W).1
 have he2:=fun W=>(hne W).2
 clear hne
 generalize vK k=V at hl he1 he2
 generalize iM k=I at he1 ⊢
 go_enter Tryz.func12,Tryz.ntmps12
 go_wp2
 go_ret
 exact ⟨rfl,rfl⟩
end Go.Proofs.YtegloodcbfalfaaGreatDoor
namespace Go.Proofs.YtegloodcbfalfaaGreatDoor
open Go.RowKit Go.Shelf
theorem rM (b off cap:Nat) (ns:List Nd) (w:World) (hN:aH w b off ns) (hl:1≤ns.length∧ns.length≤512) :
 Calls Tryz.prog 14 #[.slice (some ⟨b,off,none⟩) ns.length cap] w fun e w' =>∃ cb cc,e=.returned (.slice (some ⟨cb,0,none⟩) ns.length cc)∧w'.ownsRow w.heap.size 42 6 (.slice (some ⟨cb,0,none⟩) ns.length cc) ns.length (ns.flatMap aP)∧Below w.heap.size w w' :=by
 refine (callsIn_wide.1 (EM 1 b off cap ns w hN hl)).mono ?_
 rintro e w' ⟨v,rfl,hv,hB⟩
 rcases hv.2 with ⟨_,q⟩ | ⟨g,vc,cur,rfl,_⟩
 ·omega
 ·exact ⟨g,vc,rfl,hv,hB⟩
theorem jV {w:World} {base cb cc:Nat} {e:TypeId} {ns:List Nd} (h:w.ownsRow base e 6 (.slice (some ⟨cb,0,none⟩) ns.length cc) ns.length (ns.flatMap aP)) (hl:1≤ns.length):aH w cb 0 ns:=by
 obtain ⟨a,c,e,hs⟩:=lI h
 cases e
 obtain ⟨b', o', e,hn⟩:=hs.some hl
 cases e
 exact hn
theorem GM {w:World} {base g cap n:Nat} {xs:List Value} (h:w.ownsRow base 42 6 (.slice (some ⟨g,0,none⟩) n cap) n xs):∃ cur,w.heap[g]?=some (.cells cur 42 (0,0))∧base≤g:=by
 rcases h.2 with ⟨q,_⟩ | ⟨g', c,cur,q,a1,a2,_⟩
 ·cases q
 ·cases q;exact ⟨cur,a2,a1⟩
def nX (ns:List Nd) (tak:List Bool) (h:Int) (k:Nat):List Nd:=(List.range ns.length).map fun i=>if i<k then uW ns tak h i else nd ns i
theorem nY (ns:List Nd) (tak:List Bool) (h:Int) (k:Nat):(nX ns tak h k).length=ns.length:=by simp [nX]
theorem aHX (ns:List Nd) (tak:List Bool) (h:Int):nX ns tak h 0=ns:=by
 apply List.ext_getElem?
 intro i
 by_cases hi:i<ns.length
 ·rw [eU hi];simp [nX,hi]
 ·rw [List.getElem?_eq_none (by simp [nX];omega),List.getElem?_eq_none aF]
theorem aOJ (ns:List Nd) (tak:List Bool) (h:Int):nX ns tak h ns.length=(List.range ns.length).map (uW ns tak h):=by
 apply List.map_congr_left
 intro i hi
 simp [List.mem_range.1 hi]
theorem aSZ {ns:List Nd} {tak:List Bool} {h:Int} {k:Nat} (hp:aM tak k=false):nX ns tak h (k+1)=nX ns tak h k:=by
 apply List.map_congr_left
 intro i hi
 by_cases e:i=k
 ·subst e;simp [uW,hp]
 ·by_cases h1:i<k
  ·rw [if_pos h1,if_pos aF]
  ·rw [if_neg h1,if_neg aF]
theorem aOK {ns:List Nd} {tak:List Bool} {h:Int} {k:Nat} (hk:k<ns.length) (hp:aM tak k=true):nX ns tak h (k+1)=(nX ns tak h k).set k ⟨2,(nd ns k).d,h,0,(nd ns k).t,0⟩:=by
 apply List.ext_getElem?
 intro i
 by_cases hi:i<ns.length
 ·by_cases e:i=k
  ·subst e
   rw [List.getElem?_set_self (by rw [nY];exact hi)]
   simp [nX,hi,uW,hp]
  ·rw [List.getElem?_set_ne (fun q=>e q.symm)]
   simp only [nX,List.getElem?_map,List.getElem?_range hi,Option.map_some]
   by_cases h1:i<k
   ·rw [if_pos h1,if_pos aF]
   ·rw [if_neg h1,if_neg aF]
 ·rw [List.getElem?_eq_none (by simp [nX];omega),List.getElem?_eq_none (by simp [nX];omega)]
theorem JK (b off cap:Nat) (ns:List Nd) (ta:Option Addr) (tc:Nat) (tak:List Bool) (h:Int) (w:World) (hN:aH w b off ns) (hl:1≤ns.length∧ns.length≤256) (ht:aJ w ta tak) (e1:tak.length=ns.length) :
 Calls Tryz.prog 133 #[.slice (some ⟨b,off,none⟩) ns.length cap,.slice ta ns.length tc,.int .i64 h] w fun e w' =>∃ cb cc,e=.returned (.slice (some ⟨cb,0,none⟩) ns.length cc)∧w'.ownsRow w.heap.size 42 6 (.slice (some ⟨cb,0,none⟩) ns.length cc) ns.length (((List.range ns.length).map (uW ns tak h)).flatMap aP)∧Below w.heap.size w w' :=by
 have HCL:=aB (rM b off cap ns w hN aF)
 have HN:=aB hN
 have vJ:=aB ht
 have HTL:=aB e1
 clear hN ht e1
 go_enter Tryz.func133,Tryz.ntmps133
 go_wp2_with fail
 refine HCL.out.mono ?_
 rintro e w1 ⟨cb,cc,rfl,hV,hb1⟩
 have HV:=aB hV
 have HB1:=aB hb1
 clear hV hb1 HCL
 go_wp2_with fail
 go_loopw [14] (fun i wr=>∃ k:Nat,k≤ns.length∧i=.int .i64 k∧wr.ownsRow w.heap.size 42 6 (.slice (some ⟨cb,0,none⟩) ns.length cc) ns.length ((nX ns tak h k).flatMap aP)∧Below w.heap.size w wr) (fun i _=>ns.length-(intOf i).toNat)
 case atStart=>exact ⟨0,Nat.zero_le _,rfl,by rw [aHX];exact HV.out,HB1.out⟩
 case round =>
  obtain ⟨k,hk,rfl,hown,hb⟩:=hrel
  have hsz:=hb.size
  by_cases hlt:k<ns.length
  ·have hx:=eU hlt
   have kQ:=HN.out.below hb HN.out.lt
   have c0:=kQ.c0 k _ hx
   have c1:=kQ.c1 k _ hx
   have c2:=kQ.c2 k _ hx
   have c3:=kQ.c3 k _ hx
   have c4:=kQ.c4 k _ hx
   have c5:=kQ.c5 k _ hx
   have bl:=kQ.lt
   obtain ⟨b3,o3,rfl,l3,v3⟩:=bT vJ.out (k:=k) (by rw [HTL.out];exact hlt)
   have v4:wr.cell? ⟨b3,o3+k,none⟩=some (.bool (aM tak k)):=by rw [World.cell?_of_block (hb.block _ l3)];exact v3
   have l4:b3<wr.heap.size:=Nat.lt_of_lt_of_le l3 hsz
   have hki:(k:Int)<(ns.length:Int):=by omega
   have hS:wr.heap.size<(wr.alloc (.cells #[.int .i64 (nd ns k).op,.int .i64 (nd ns k).d,.int .i64 (nd ns k).a,.int .i64 (nd ns k).b,.int .i64 (nd ns k).t,.int .i64 (nd ns k).e] 42)).heap.size:=by simp
   have XT:=hown.alloc (.cells #[.int .i64 (nd ns k).op,.int .i64 (nd ns k).d,.int .i64 (nd ns k).a,.int .i64 (nd ns k).b,.int .i64 (nd ns k).t,.int .i64 (nd ns k).e] 42)
   have HBA:=aB (hb.alloc hsz (.cells #[.int .i64 (nd ns k).op,.int .i64 (nd ns k).d,.int .i64 (nd ns k).a,.int .i64 (nd ns k).b,.int .i64 (nd ns k).t,.int .i64 (nd ns k).e] 42))
   have hzn:=World.alloc_heap_new wr (.cells #[.int .i64 (nd ns k).op,.int .i64 (nd ns k).d,.int .i64 (nd ns k).a,.int .i64 (nd ns k).b,.int .i64 (nd ns k).t,.int .i64 (nd ns k).e] 42)
   have hbn:=(Below.refl wr.heap.size wr).alloc dD (.cells #[.int .i64 (nd ns k).op,.int .i64 (nd ns k).d,.int .i64 (nd ns k).a,.int .i64 (nd ns k).b,.int .i64 (nd ns k).t,.int .i64 (nd ns k).e] 42)
   have v5:(wr.alloc (.cells #[.int .i64 (nd ns k).op,.int .i64 (nd ns k).d,.int .i64 (nd ns k).a,.int .i64 (nd ns k).b,.int .i64 (nd ns k).t,.int .i64 (nd ns k).e] 42)).cell? ⟨b3,o3+k,none⟩=some (.bool (aM tak k)):=by rw [World.cell?_of_block (hbn.block _ l4)];exact v4
   have l5:b3<(wr.alloc (.cells #[.int .i64 (nd ns k).op,.int .i64 (nd ns k).d,.int .i64 (nd ns k).a,.int .i64 (nd ns k).b,.int .i64 (nd ns k).t,.int .i64 (nd ns k).e] 42)).heap.size:=by simp;omega
   have HOA:=aB XT
   have HLT:=aB hlt
   have GN:(nX ns tak h k)[k]?=some (nd (nX ns tak h k) k):=eU (by rw [nY];exact hlt)
   have kC:aH (wr.alloc (.cells #[.int .i64 (nd ns k).op,.int .i64 (nd ns k).d,.int .i64 (nd ns k).a,.int .i64 (nd ns k).b,.int .i64 (nd ns k).t,.int .i64 (nd ns k).e] 42)) cb 0 (nX ns tak h k):=jV (by rw [nY];exact XT) (by rw [nY];exact hl.1)
   obtain ⟨cur,mR,hge⟩:=GM XT
   have d0:=kC.c0 k _ GN
   have d1:=kC.c1 k _ GN
   have d2:=kC.c2 k _ GN
   have d3:=kC.c3 k _ GN
   have d4:=kC.c4 k _ GN
   have d5:=kC.c5 k _ GN
   simp only [Nat.zero_add] at d0 d1 d2 d3 d4 d5
   have dl:=kC.lt
   have g0:=aC mR (k*6)
   have g1:=aC mR (k*6+1)
   have g2:=aC mR (k*6+2)
   have g3:=aC mR (k*6+3)
   have g4:=aC mR (k*6+4)
   have g5:=aC mR (k*6+5)
   have QL:Hid (aM tak k=true→nX ns tak h (k+1)=(nX ns tak h k).set k ⟨2,(nd ns k).d,h,0,(nd ns k).t,0⟩):=fun hp=>aOK hlt hp
   have HNO:Hid (aM tak k=false→nX ns tak h (k+1)=nX ns tak h k):=fun hp=>aSZ hp
   have HWR:=aB (pX (y:=⟨2,(nd ns k).d,h,0,(nd ns k).t,0⟩) (by rw [nY];exact XT) (by rw [nY];exact hlt))
   clear hown XT hx kQ v3 v4 l3 l4 GN kC mR hbn hb
   generalize nd (nX ns tak h k) k=z at d0 d1 d2 d3 d4 d5
   generalize aM tak k=Q at v5 QL HNO
   go_upto_region 5 with fail
   generalize (wr.alloc (.cells #[.int .i64 (nd ns k).op,.int .i64 (nd ns k).d,.int .i64 (nd ns k).a,.int .i64 (nd ns k).b,.int .i64 (nd ns k).t,.int .i64 (nd ns k).e] 42))=WA at hS HOA HBA v5 l5 d0 d1 d2 d3 d4 d5 dl g0 g1 g2 g3 g4 g5 HWR hzn ⊢
   generalize wr.heap.size=XB at *
   have x1:=aA hzn 1
   have x4:=aA hzn 4
   simp at x1 x4
   clear hzn
   clear c0 c1 c2 c3 c4 c5 bl
   cases Q
   ·clear QL HWR
    go_wp2_with fail
    go_roundw
    case rel=>exact ⟨k+1,aF,by go_num,by rw [HNO.out rfl];exact HOA.out,HBA.out⟩
    case measure=>simp [intOf];omega
   ·have HE:=aB (QL.out rfl)
    clear HNO QL
    go_wp2_with fail
    go_roundw
    case rel =>
     refine ⟨k+1,aF,by go_num,?_,HBA.out.trans (pY WA k ⟨2,(nd ns k).d,h,0,(nd ns k).t,0⟩ hge)⟩
     rw [HE.out]
     have:=HWR.out
     rw [List.length_set,nY] at this
     exact this
    case measure=>simp [intOf];omega
  ·have ek:k=ns.length:=by omega
   subst ek
   rw [aOJ] at hown
   have HO:=aB hown
   have HB:=aB hb
   clear hown hb
   go_wp2
   go_ret
   exact ⟨cb,cc,rfl,HO.out,HB.out⟩
theorem XU (g0 cap0:Nat) (ns:List Nd) (pa:Option Addr) (pc:Nat) (put tak:List Bool) (t:Tm) (h:Int) (w0 w:World) (hb0:Below w0.heap.size w0 w)
 (hO:w.ownsRow w0.heap.size 42 6 (.slice (some ⟨g0,0,none⟩) ns.length cap0) ns.length (((List.range ns.length).map (uW ns tak h)).flatMap aP))
 (hl:1≤ns.length∧ns.length≤256) (hp:aJ w0 pa put) (e1:put.length=ns.length) :
 Calls Tryz.prog 132 #[.slice (some ⟨g0,0,none⟩) ns.length cap0,.slice pa ns.length pc,.agg #[.int .i64 t.op,.int .i64 t.a,.int .i64 t.b],.int .i64 h] w fun e w' =>∃ g cp,e=.returned (.slice (some ⟨g,0,none⟩) (qJ ns t put tak h).length cp)∧w'.ownsRow w0.heap.size 42 6 (.slice (some ⟨g,0,none⟩) (qJ ns t put tak h).length cp) (qJ ns t put tak h).length ((qJ ns t put tak h).flatMap aP)∧Below w0.heap.size w0 w' :=by
 obtain ⟨i0,hi0,hz0,hz1,hz2⟩:=info_parts jC
 have hbA:Below w0.heap.size w0 (w.alloc (.cells #[.int .i64 t.op,.int .i64 t.a,.int .i64 t.b] 59)):=hb0.alloc hb0.size _
 have hT0:(w.alloc (.cells #[.int .i64 t.op,.int .i64 t.a,.int .i64 t.b] 59)).heap[w.heap.size]?=some (.cells #[.int .i64 t.op,.int .i64 t.a,.int .i64 t.b] 59 (0,0)):=World.alloc_heap_new w _
 have hO1:=hO.alloc (.cells #[.int .i64 t.op,.int .i64 t.a,.int .i64 t.b] 59)
 rw [← aHV ns t put tak h] at hO1
 have HPB:=aB hp
 have HPL:=aB e1
 have hwl:w0.heap.size≤w.heap.size:=hb0.size
 clear hp e1 hO hb0
 go_enter Tryz.func132,Tryz.ntmps132
 go_upto_region 1 with fail
 generalize (w.alloc (.cells #[.int .i64 t.op,.int .i64 t.a,.int .i64 t.b] 59))=W at hbA hT0 hO1 ⊢
 generalize w.heap.size=TB at *
 have HT0:=aB hT0
 have BF:=aB hO1
 have HBA:=aB hbA
 have uD:Hid ((iF ns t put tak h 0).length=ns.length):=by rw [Hid,fM];simp [bI]
 clear hT0 hO1 hbA
 go_upto_region 2 with fail
 go_loopw [0,14] (fun v i wr=>∃ k g cp:Nat,k≤ns.length∧i=.int .i64 k∧v=.slice (some ⟨g,0,none⟩) (iF ns t put tak h k).length cp∧wr.ownsRow w0.heap.size 42 6 (.slice (some ⟨g,0,none⟩) (iF ns t put tak h k).length cp) (iF ns t put tak h k).length ((iF ns t put tak h k).flatMap aP)∧wr.heap[TB]?=some (.cells #[.int .i64 t.op,.int .i64 t.a,.int .i64 t.b] 59 (0,0))∧Below w0.heap.size w0 wr) (fun _ i _=>ns.length-(intOf i).toNat)
 case atStart=>exact ⟨0,g0,cap0,Nat.zero_le _,rfl,by rw [uD.out],by rw [uD.out];exact BF.out,HT0.out,HBA.out⟩
 case round =>
  obtain ⟨k,g,cp,hk,rfl,rfl,hown,hT,hb⟩:=hrel
  have hsz:=hb.size
  by_cases hlt:k<ns.length
  ·have hAL:(iF ns t put tak h k).length=ns.length+(bI put k).length:=fM ns t put tak h k
   have hKL:=mX put k
   have hkA:k<(iF ns t put tak h k).length:=by omega
   have aOL:(iF ns t put tak h k).length≤512:=by omega
   have GN:=eU hkA
   have kC:aH wr g 0 (iF ns t put tak h k):=jV hown aF
   have vJ:Hid (nd (iF ns t put tak h k) k=uW ns tak h k):=by rw [Hid,BO hlt,if_neg aF]
   have c0:=kC.c0 k _ GN
   have c1:=kC.c1 k _ GN
   have c2:=kC.c2 k _ GN
   have c3:=kC.c3 k _ GN
   have c4:=kC.c4 k _ GN
   have c5:=kC.c5 k _ GN
   simp only [Nat.zero_add] at c0 c1 c2 c3 c4 c5
   have gl:=kC.lt
   obtain ⟨b3,o3,rfl,l3,v3⟩:=bT (HPB.out.below hb) (k:=k) (by rw [HPL.out];exact hlt)
   have hki:(k:Int)<(ns.length:Int):=by omega
   have a3S:(k:Int)<((iF ns t put tak h k).length:Int):=by omega
   obtain ⟨cur,mR,hge⟩:=GM hown
   have hne:=fD hT mR aL
   have HOW:=aB hown
   have HT:=aB hT
   have HB:=aB hb
   have QL:Hid (aM put k=true→iF ns t put tak h (k+1)=(iF ns t put tak h k++[uW ns tak h k]).set k (JI t h (iF ns t put tak h k).length)):=fun hp=>aOD hlt hp
   have HNO:Hid (aM put k=false→iF ns t put tak h (k+1)=iF ns t put tak h k):=fun hp=>aSU hp
   have bAW:=aB mR
   have HGE:=aB hge
   have HNE:=aB hne
   clear hown hT hb GN kC mR hge hne hAL hKL
   generalize aM put k=Q at v3 QL HNO
   generalize nd (iF ns t put tak h k) k=z at c0 c1 c2 c3 c4 c5 vJ
   have HKA:=aB hkA
   have HAI:=aB a3S
   cases Q
   ·have HE:=aB (HNO.out rfl)
    clear HNO QL c0 c1 c2 c3 c4 c5
    go_wp2_with fail
    go_roundw
    case rel=>exact ⟨k+1,g,cp,aF,by go_num,by rw [HE.out],by rw [HE.out];exact HOW.out,HT.out,HB.out⟩
    case measure=>simp [intOf];omega
   ·have HE:=aB (QL.out rfl)
    clear HNO QL
    have HM:=aB aOL
    have hm5:(iF ns t put tak h k).length≤512:=aOL
    generalize hms:iF ns t put tak h k=ms at HOW HE HKA HAI HM aOL hkA a3S hm5 ⊢
    clear hms
    go_upto_region 7 with (at_builtin;refine wpList_append_own _ rfl (.tmp 22) (.tmp 27) 22 rfl w0.heap.size 42 i0 _ 6 48 Tryz.underlying22 hi0 hz0 hz1 hz2 rfl aL _ _ _ rfl (HOW.out.alloc _) ⟨wr.heap.size,0,none⟩ 1 1 (aP z) rfl rfl ?c1 ?c2 ?c3 ?c4 ?c5 ?_)
    case c1 =>
     intro j u hj
     match j,hj with
     | 0,hj=>simp [aP] at hj;subst hj;simp [Addr.add]
     | 1,hj=>simp [aP] at hj;subst hj;simp [Addr.add]
     | 2,hj=>simp [aP] at hj;subst hj;simp [Addr.add]
     | 3,hj=>simp [aP] at hj;subst hj;simp [Addr.add]
     | 4,hj=>simp [aP] at hj;subst hj;simp [Addr.add]
     | 5,hj=>simp [aP] at hj;subst hj;simp [Addr.add]
     | j+6,hj=>simp [aP] at hj
    case c2=>exact fun u hu=>yN [z] u (by simpa using hu)
    case c3=>unfold maxLen;omega
    case c4=>omega
    case c5=>simp;omega
    intro v' w4 hown5 hg4 hni
    have hlt1:=HOW.out.lt
    have hB4:Below w0.heap.size w0 w4:=(HB.out.alloc hsz _).grown hg4 bF (fun k hk=>(hlt1 k hk).1)
    obtain ⟨g', cp', rfl⟩:∃ g' cp', v' =.slice (some ⟨g', 0,none⟩) (ms.length+1) cp' :=by
     rcases hown5.2 with ⟨_,q⟩ | ⟨g', vc,cur,rfl,_⟩
     ·omega
     ·exact ⟨g', vc,rfl⟩
    have hT4:w4.heap[TB]?=some (.cells #[.int .i64 t.op,.int .i64 t.a,.int .i64 t.b] 59 (0,0)):=by
     rw [hg4.block TB (by have:=aD HT.out;simp;omega) (by simp [Value.ownBlock];exact HNE.out),Below.heap_alloc _ _ _ (aD HT.out)]
     exact HT.out
    have hl6:(ms++[z]).length=ms.length+1:=by simp
    have hown6:w4.ownsRow w0.heap.size 42 6 (.slice (some ⟨g', 0,none⟩) (ms++[z]).length cp') (ms++[z]).length ((ms++[z]).flatMap aP):=by
     rw [hl6,List.flatMap_append];simpa using hown5
    rw [← hl6]
    rw [← vJ.out] at HE
    clear hown5 hg4 hni hlt1 c0 c1 c2 c3 c4 c5 l3 v3
    have hk6:k<(ms++[z]).length:=by rw [hl6];omega
    have bAY:(k:Int)<((ms++[z]).length:Int):=by omega
    have XV:Hid ((ms.length:Int)=(ms.length:Int)):=rfl
    have jP:ms.length≤512:=hm5
    have kC:=jV hown6 (by rw [hl6];omega)
    have GN:=eU hk6
    have d0:=kC.c0 k _ GN
    have d1:=kC.c1 k _ GN
    have d2:=kC.c2 k _ GN
    have d3:=kC.c3 k _ GN
    have d4:=kC.c4 k _ GN
    have d5:=kC.c5 k _ GN
    simp only [Nat.zero_add] at d0 d1 d2 d3 d4 d5
    obtain ⟨bKS,xP,hge4⟩:=GM hown6
    have dl:=aD xP
    have g0:=aC xP (k*6)
    have g1:=aC xP (k*6+1)
    have g2:=aC xP (k*6+2)
    have g3:=aC xP (k*6+3)
    have g4:=aC xP (k*6+4)
    have g5:=aC xP (k*6+5)
    have HWR:=aB (pX (y:=JI t h ms.length) hown6 hk6)
    have HTW:=aB ((gQ (y:=JI t h ms.length) (j:=k) (w:=w4) (fD hT4 xP aL)).trans hT4)
    have t0:=aA hT4 0
    have t1:=aA hT4 1
    have t2:=aA hT4 2
    simp at t0 t1 t2
    have tl:=aD hT4
    have kP:=aB (hB4.trans (pY w4 k (JI t h ms.length) hge4))
    generalize nd (ms++[z]) k=y at d0 d1 d2 d3 d4 d5
    have HL6:=aB hl6
    clear kC GN hown6 xP hT4 hB4 hk6 hl6 HOW HT HB bAW jP XV
    generalize hL:(ms++[z]).length=L6 at bAY HL6 ⊢
    have HL:=aB hL
    clear hL
    go_wp2_with fail
    go_roundw
    case rel =>
     have e:(iF ns t put tak h (k+1)).length=L6:=by rw [HE.out,List.length_set,HL.out]
     refine ⟨k+1,g', cp', by omega,by go_num,by rw [e],?_,HTW.out,kP.out⟩
     have:=HWR.out
     rw [← HE.out] at this
     exact this
    case measure=>simp [intOf];omega
  ·have ek:k=ns.length:=by omega
   subst ek
   have HO:=aB hown
   have HB:=aB hb
   have HA:Hid (iF ns t put tak h ns.length=qJ ns t put tak h):=rfl
   rw [HA.out] at HO ⊢
   clear hown hb hT
   go_wp2
   go_ret
   exact ⟨g,cp,rfl,HO.out,HB.out⟩
theorem aCE (a:Option Addr) (cap:Nat) (l:List Bool) (w:World) (hl:aJ w a l) (hn:l.length≤512) :
 Calls Tryz.prog 130 #[.slice a l.length cap,.bool true] w fun e w' =>(∃ i:Int,e=.returned (.int .i64 i)∧(0≤i↔l.any id=true))∧w' =w:=by
 have HL:=aB hl
 clear hl
 go_enter Tryz.func130,Tryz.ntmps130
 go_wp2_with fail
 go_loopw [8] (fun i wr=>∃ k:Nat,k≤l.length∧i=.int .i64 k∧(∀ j,j<k→aM l j=false)∧wr=w) (fun i _=>l.length-(intOf i).toNat)
 case atStart=>exact ⟨0,Nat.zero_le _,rfl,fun j hj=>absurd hj aF,rfl⟩
 case round =>
  obtain ⟨k,hk,rfl,hall,rfl⟩:=hrel
  by_cases hlt:k<l.length
  ·obtain ⟨b3,o3,rfl,l3,v3⟩:=bT HL.out (k:=k) hlt
   have hki:(k:Int)<(l.length:Int):=by omega
   have HA:=aB hall
   have HLT:=aB hlt
   clear hall
   cases hq:aM l k
   ·rw [hq] at v3
    have HQ:=aB hq
    clear hq
    go_wp2_with fail
    go_roundw
    case rel=>exact ⟨k+1,aF,by go_num,fun j hj=>by
     by_cases e:j=k
     ·subst e;exact HQ.out
     ·exact HA.out j aF,trivial⟩
    case measure=>simp [intOf];omega
   ·rw [hq] at v3
    have HQ:=aB hq
    clear hq
    go_wp2
    go_ret
    refine ⟨⟨k,rfl,?_⟩,rfl⟩
    refine ⟨fun _=>?_,fun _=>by omega⟩
    rw [List.any_eq_true]
    have h1:=HLT.out
    refine ⟨true,?_,rfl⟩
    have:=HQ.out
    rw [aM,List.getD_eq_getElem?_getD,List.getElem?_eq_getElem h1,Option.getD_some] at this
    rw [← this];exact List.getElem_mem h1
  ·have ek:k=l.length:=by omega
   subst ek
   have HA:=aB hall
   clear hall
   go_wp2
   go_ret
   refine ⟨⟨-1,rfl,?_⟩,rfl⟩
   refine ⟨fun h=>absurd h aF,fun h=>?_⟩
   rw [List.any_eq_true] at h
   obtain ⟨x,hx,h2⟩:=h
   obtain ⟨i,hi,rfl⟩:=List.getElem_of_mem hx
   have:=HA.out i hi
   rw [aM,List.getD_eq_getElem?_getD,List.getElem?_eq_getElem hi,Option.getD_some] at this
   rw [this] at h2
   cases h2
theorem lK (a:Option Addr) (cap:Nat) (l:List Bool) (w:World) (hl:aJ w a l) (hn:l.length≤512) :
 Calls Tryz.prog 102 #[.slice a l.length cap,.bool true] w fun e w' =>e=.returned (.bool (l.any id))∧w' =w:=by
 have HI:=aB (aCE a cap l w hl hn)
 clear hl
 go_enter Tryz.func102,Tryz.ntmps102
 go_wp2_with fail
 refine HI.out.mono ?_
 rintro e w1 ⟨⟨i,rfl,hi⟩,rfl⟩
 by_cases h0:0≤i
 ·have HX:=aB (hi.1 h0)
  clear hi
  go_wp2
  go_ret
  exact ⟨aO HX.out.symm,rfl⟩
 ·have:l.any id=false:=by
   cases h:l.any id
   ·rfl
   ·exact absurd (hi.2 h) h0
  have HX:=aB this
  clear hi this
  go_wp2
  go_ret
  exact ⟨aO (by rw [HX.out];simpa using h0),rfl⟩
theorem aOM (r:Int) (b off cap:Nat) (ns:List Nd) (t:Tm) (pa ta:Option Addr) (pc tc:Nat) (put tak:List Bool) (w:World) (hN:aH w b off ns) (hl:ns.length≤256) (hto:3≤t.op∧t.op≤8) (e1:put.length=ns.length) (e2:tak.length=ns.length) (ht:aJ w ta tak) (hT:vU ns t tak) :
 Calls Tryz.prog 131 #[.agg #[.int .i64 r,.slice (some ⟨b,off,none⟩) ns.length cap],.agg #[.int .i64 t.op,.int .i64 t.a,.int .i64 t.b],.agg #[.slice pa put.length pc,.slice ta tak.length tc]] w fun e w' =>e=.returned (.bool true)∧Below w.heap.size w w' :=by
 rw [e1,e2]
 have HE2:=aB e2
 have HN:=aB hN
 have vJ:=aB ht
 have HTT:=aB hT
 have HTO:=aB hto
 clear e1 e2 hN ht hT hto
 obtain ⟨W,oG,hbA,p0,p1,p2⟩:=JE w (.cells #[.int .i64 r,.slice (some ⟨b,off,none⟩) ns.length cap] 24) (.cells #[.int .i64 t.op,.int .i64 t.a,.int .i64 t.b] 59) (.cells #[.slice pa ns.length pc,.slice ta ns.length tc] 126)
 go_enter Tryz.func131,Tryz.ntmps131
 go_upto_region 1 with fail
 rw [oG.out]
 clear oG
 try rw [show w.heap.size+1+1=w.heap.size+2 from rfl]
 have q0:=aA p0 0
 have q1:=aA p0 1
 simp at q0 q1
 have y0:=aA p2 0
 have y1:=aA p2 1
 simp at y0 y1
 have pl:=aD p0
 have yl:=aD p2
 have HB:=aB hbA
 have HP:=aB p0
 have HQ:=aB p1
 clear hbA p0 p1 p2
 go_upto_region 4 with fail
 clear q0 q1 y0 y1 pl yl
 go_loopw [28] (fun i wr=>∃ k:Nat,k≤ns.length∧i=.int .i64 k∧Below W.heap.size W wr) (fun i _=>ns.length-(intOf i).toNat)
 case atStart=>exact ⟨0,Nat.zero_le _,rfl,Below.refl _ _⟩
 case round =>
  obtain ⟨k,hk,rfl,hb⟩:=hrel
  have hBw:=bG HB.out hb
  have hsz:=hBw.size
  by_cases hlt:k<ns.length
  ·have hx:=eU hlt
   have hki:(k:Int)<(ns.length:Int):=by omega
   obtain ⟨b3,o3,rfl,l3,v3⟩:=bT (vJ.out.below hBw) (k:=k) (by rw [HE2.out];exact hlt)
   have HS:Hid (∀ u:World,Below wr.heap.size wr u→u.cell? ⟨w.heap.size,0,none⟩=some (.int .i64 r)∧u.cell? ⟨w.heap.size,1,none⟩=some (.slice (some ⟨b,off,none⟩) ns.length cap)∧u.cell? ⟨w.heap.size+1,0,none⟩=some (.int .i64 t.op)∧u.cell? ⟨w.heap.size+1,1,none⟩=some (.int .i64 t.a)∧u.cell? ⟨w.heap.size+1,2,none⟩=some (.int .i64 t.b)∧u.cell? ⟨b,off+k*6,none⟩=some (.int .i64 (nd ns k).op)∧u.cell? ⟨b,off+k*6+1,none⟩=some (.int .i64 (nd ns k).d)∧u.cell? ⟨b,off+k*6+2,none⟩=some (.int .i64 (nd ns k).a)∧u.cell? ⟨b,off+k*6+3,none⟩=some (.int .i64 (nd ns k).b)∧u.cell? ⟨b,off+k*6+4,none⟩=some (.int .i64 (nd ns k).t)∧u.cell? ⟨b,off+k*6+5,none⟩=some (.int .i64 (nd ns k).e)):=fun u h=>by
    have h' :=bG hb h
    have k1:=bP h' HP.out
    have k2:=bP h' HQ.out
    have k3:=HN.out.below (bG HB.out h') HN.out.lt
    refine ⟨?_,?_,?_,?_,?_,k3.c0 k _ hx,k3.c1 k _ hx,k3.c2 k _ hx,k3.c3 k _ hx,k3.c4 k _ hx,k3.c5 k _ hx⟩
    ·rw [aA k1];rfl
    ·rw [aA k1];rfl
    ·rw [aA k2];rfl
    ·rw [aA k2];rfl
    ·rw [aA k2];rfl
   have HR:Hid (aM tak k=true→nP t (nd ns k)=true):=fun h=>HTT.out k hlt h
   have bl:=Nat.lt_of_lt_of_le HN.out.lt hsz
   have wl:w.heap.size<wr.heap.size:=Nat.lt_of_lt_of_le (aD HP.out) hb.size
   have wl1:w.heap.size+1<wr.heap.size:=Nat.lt_of_lt_of_le (aD HQ.out) hb.size
   have HBR:=aB hb
   clear hx hb hBw
   generalize aM tak k=Q at v3 HR
   cases Q
   ·clear HR
    go_upto_region 6 with fail
    refine wp_region_held_drew (S:=(fun u=>u.cell? ⟨w.heap.size,0,none⟩=some (.int .i64 r)∧u.cell? ⟨w.heap.size,1,none⟩=some (.slice (some ⟨b,off,none⟩) ns.length cap)∧u.cell? ⟨w.heap.size+1,0,none⟩=some (.int .i64 t.op)∧u.cell? ⟨w.heap.size+1,1,none⟩=some (.int .i64 t.a)∧u.cell? ⟨w.heap.size+1,2,none⟩=some (.int .i64 t.b)∧u.cell? ⟨b,off+k*6,none⟩=some (.int .i64 (nd ns k).op)∧u.cell? ⟨b,off+k*6+1,none⟩=some (.int .i64 (nd ns k).d)∧u.cell? ⟨b,off+k*6+2,none⟩=some (.int .i64 (nd ns k).a)∧u.cell? ⟨b,off+k*6+3,none⟩=some (.int .i64 (nd ns k).b)∧u.cell? ⟨b,off+k*6+4,none⟩=some (.int .i64 (nd ns k).t)∧u.cell? ⟨b,off+k*6+5,none⟩=some (.int .i64 (nd ns k).e))) kD (by (try dsimp only);first | (with_reducible exact HS.out _ hB2) | exact HS.out _ (Below.refl _ wr).drew | exact HS.out _ (Below.refl _ wr)) (fun hHeld=>?_)
    refine wV 0 ⟨some 33,.move (.tmp 8),4, "move.go:127", #[],none⟩ (v:=?_) ?_ ?_
    rotate_left 1
    ·intro w hSw;(try dsimp only at hSw);go_simp;all_goals with_reducible rfl
    (try simp only [Act.put,kR,kS,kT])
    refine wV 1 ⟨some 34,.move (.tmp 33),4, "move.go:127", #[⟨0,.data⟩],none⟩ (v:=?_) ?_ ?_
    rotate_left 1
    ·intro w hSw;(try dsimp only at hSw);go_simp;all_goals with_reducible rfl
    (try simp only [Act.put,kR,kS,kT])
    refine zR 2 ⟨some 35,.fieldAddr 24 (.tmp 3) 1,0, "move.go:127", #[⟨1,.guard⟩],some (1,true)⟩ ?_
    (try simp only [Act.put,kR,kS,kT])
    refine zR 3 ⟨some 36,.load 22 (.tmp 35),22, "move.go:127", #[⟨2,.data⟩,⟨1,.guard⟩],some (1,true)⟩ ?_
    (try simp only [Act.put,kR,kS,kT])
    refine zR 4 ⟨some 37,.move (.tmp 7),3, "move.go:127", #[⟨1,.guard⟩],some (1,true)⟩ ?_
    (try simp only [Act.put,kR,kS,kT])
    refine zR 5 ⟨some 38,.indexAddr 22 (.tmp 36) (.tmp 37),0, "move.go:127", #[⟨3,.data⟩,⟨4,.data⟩,⟨1,.guard⟩],some (1,true)⟩ ?_
    (try simp only [Act.put,kR,kS,kT])
    refine zR 6 ⟨some 39,.load 42 (.tmp 38),42, "move.go:127", #[⟨5,.data⟩,⟨1,.guard⟩],some (1,true)⟩ ?_
    (try simp only [Act.put,kR,kS,kT])
    refine zR 7 ⟨some 40,.load 59 (.tmp 4),59, "move.go:127", #[⟨1,.guard⟩],some (1,true)⟩ ?_
    (try simp only [Act.put,kR,kS,kT])
    refine zR 8 ⟨some 41,.call { callee:=.value (.func 128),args:=#[.tmp 39,.tmp 40],argTypes:=#[42,59] },4, "move.go:127", #[⟨6,.data⟩,⟨7,.data⟩,⟨1,.chain⟩,⟨1,.guard⟩],some (1,true)⟩ ?_
    (try simp only [Act.put,kR,kS,kT])
    refine zR 9 ⟨some 42,.unOp Go.UnOp.not 4 (.tmp 41),4, "move.go:127", #[⟨8,.data⟩,⟨1,.guard⟩],some (1,true)⟩ ?_
    (try simp only [Act.put,kR,kS,kT])
    refine wV 10 ⟨some 43,.pick (.tmp 34) (.tmp 42) (.const (Go.Value.bool false)),4, "move.go:127", #[⟨1,.data⟩,⟨9,.data⟩],none⟩ (v:=?_) ?_ ?_
    rotate_left 1
    ·intro w hSw;(try dsimp only at hSw);go_simp;all_goals with_reducible rfl
    (try simp only [Act.put,kR,kS,kT])
    refine wpAnyH_done kD ?_ _
    go_wp2_with fail
    go_roundw
    case rel=>exact ⟨k+1,aF,by go_num,HBR.out.drew⟩
    case measure=>simp [intOf];omega
   ·have hr:=HR.out rfl
    have vG:=aB hr
    clear HR hr
    go_upto_region 6 with fail
    go_region_held3 (fun u=>u.cell? ⟨w.heap.size,0,none⟩=some (.int .i64 r)∧u.cell? ⟨w.heap.size,1,none⟩=some (.slice (some ⟨b,off,none⟩) ns.length cap)∧u.cell? ⟨w.heap.size+1,0,none⟩=some (.int .i64 t.op)∧u.cell? ⟨w.heap.size+1,1,none⟩=some (.int .i64 t.a)∧u.cell? ⟨w.heap.size+1,2,none⟩=some (.int .i64 t.b)∧u.cell? ⟨b,off+k*6,none⟩=some (.int .i64 (nd ns k).op)∧u.cell? ⟨b,off+k*6+1,none⟩=some (.int .i64 (nd ns k).d)∧u.cell? ⟨b,off+k*6+2,none⟩=some (.int .i64 (nd ns k).a)∧u.cell? ⟨b,off+k*6+3,none⟩=some (.int .i64 (nd ns k).b)∧u.cell? ⟨b,off+k*6+4,none⟩=some (.int .i64 (nd ns k).t)∧u.cell? ⟨b,off+k*6+5,none⟩=some (.int .i64 (nd ns k).e)) (with_reducible refine HS.out _ ?_;first | with_reducible exact hB2 | with_reducible exact (Below.refl _ wr).drew | with_reducible exact (Below.refl _ wr)) (first
     | (go_at_call 128;refine (kN (nd ns k) t _ HTO.out).mono ?_;rintro e wa ⟨rfl,hba⟩;have hB2:Below wr.heap.size wr wa:=(by first | exact (Below.refl _ wr).drew.trans hba | exact hba);rw [vG.out]))
    go_wp2_with fail
    go_roundw
    case rel=>exact ⟨k+1,aF,by go_num,bG HBR.out hB2⟩
    case measure=>simp [intOf];omega
  ·have ek:k=ns.length:=by omega
   subst ek
   have iX:=aB hBw
   clear hb hBw
   go_wp2
   go_ret
   exact ⟨rfl,iX.out⟩
end Go.Proofs.YtegloodcbfalfaaGreatDoor
