/-
  Of the proof of WholePasses: FL, PA, PB, FH.
-/
import Derived.Test.YtegloodcbfalfaaGreatDoorW3
import Derived.Test.YtegloodcbfalfaaGreatDoorW5
import Derived.Test.YtegloodcbfalfaaGreatDoorW6
import Derived.Test.YtegloodcbfalfaaGreatDoorW7
import Derived.Test.YtegloodcbfalfaaGreatDoorW8
import Derived.Maps.AppendAt
import Derived.BigQuiet
import Derived.Laws.EntriesVeiled
set_option linter.unusedVariables false
set_option linter.unusedSimpArgs false
set_option maxHeartbeats 40000000
set_option maxRecDepth 100000
namespace Go.Proofs.YtegloodcbfalfaaGreatDoor
def eH (F:(Nat→Bool)→Nat→Bool) (x:Nat→Bool) (n:Nat):Bool:=F (fun m=>m==n||x m) n
theorem aBQ {F:(Nat→Bool)→Nat→Bool} (hF:oD F):oD (eH F):=by
 intro x y hxy n h
 refine hF _ _ (fun m hm=>?_) n h
 simp only [Bool.or_eq_true] at hm ⊢
 exact hm.imp id (hxy m)
theorem aHI {F:(Nat→Bool)→Nat→Bool} {k:Nat} {x:List Bool} (hF:oD F) (h:IsG (eH F) k x):IsG F k x:=by
 have hle:∀ (y:Nat→Bool) n,F y n=true→eH F y n=true:=fun y n hy=>hF _ _ (fun m hm=>by simp [hm]) n hy
 refine ⟨h.len,fun n hn=>?_,fun y hb hy=>h.top y hb fun n hn hyn=>hle y n (hy n hn hyn)⟩
 have h1:=h.fix n hn
 cases e:aM x n
 ·cases e2:F (aM x) n
  ·rfl
  ·rw [e,hle _ n e2] at h1;cases h1
 ·have h2:(fun m=>m==n||aM x m)=aM x:=by
   funext m
   by_cases q:m=n
   ·subst q;simp [e]
   ·simp [q]
  rw [e,eH,h2] at h1
  exact h1
theorem WV {F:(Nat→Bool)→Nat→Bool} (hF:oD F) (k:Nat):gr (eH F) k=gr F k:=(aHI hF (CL (aBQ hF) k)).aCX hF
theorem BL (k m:Nat):aM (EZ k) m=false:=by simp [aM,EZ,List.getD_eq_getElem?_getD,List.getElem?_replicate];split <;> rfl
theorem xE {k m:Nat} (h:m<k):aM (sU k) m=true:=OH h
theorem QC {l:List Nat} {p q:Nat→Bool} (h:∀ m∈l,p m=q m):l.all p=l.all q:=by
 induction l with
 | nil=>rfl
 | cons a l ih =>
  simp only [List.all_cons]
  rw [h a aQ,ih fun m hm=>h m (by simp [hm])]
theorem aXR {l:List Nat} {p q:Nat→Bool} (h:∀ m∈l,p m=q m):l.any p=l.any q:=by
 induction l with
 | nil=>rfl
 | cons a l ih =>
  simp only [List.any_cons]
  rw [h a aQ,ih fun m hm=>h m (by simp [hm])]
theorem sZ (l:List Nat) (p:Nat→Bool):lQ false l p=(decide (0<l.length)&&l.all p):=by
 cases l <;> simp [lQ]
theorem aBR (l:List Nat) (p:Nat→Bool):lQ true l p=l.all p:=by
 cases l <;> simp [lQ]
theorem aEG (l:List Nat) (p:Nat→Bool):(!l.all p)=l.any fun m=>!p m:=by
 induction l with
 | nil=>rfl
 | cons a l ih=>simp only [List.all_cons,List.any_cons,Bool.not_and,ih]
theorem FO {ns:List Nd} {n m:Nat} (h:m∈iQ ns n):m<ns.length:=(iY.1 h).1
theorem FP {ns:List Nd} {n m:Nat} (h:m∈gJ ns n):m<ns.length:=(lH.1 h).1
theorem aHJ {ns:List Nd} {t:Tm} {n:Nat} (y:Nat→Bool) (hn:n<ns.length) :
 bZ ns (jN ns t) y n=(aM (nC ns t) n||(aM (yS ns t) n&&decide (0<(iQ ns n).length)&&(iQ ns n).all y)):=by
 simp only [bZ,jN,zH,if_true,sZ]
 rw [QC (q:=y) fun m hm=>by rw [BL,xE (FO hm)];simp]
 cases aM (nC ns t) n <;> cases aM (yS ns t) n <;> simp
theorem aNL {ns:List Nd} {t:Tm} {m:Nat} (h:m<ns.length):aM (wZ ns t) m=(aM (yS ns t) m&&aM (nC ns t) m):=by
 obtain ⟨x,hx⟩:∃ x,ns[m]?=some x:=⟨_,List.getElem?_eq_getElem h⟩
 rw [wZ,yS,nC,cZ hx,cZ hx,cZ hx]
theorem aEH {ns:List Nd} {t:Tm} {m:Nat} (h:m<ns.length):aM (yT ns t) m=!aM (nC ns t) m:=by
 obtain ⟨x,hx⟩:∃ x,ns[m]?=some x:=⟨_,List.getElem?_eq_getElem h⟩
 rw [yT,nC,cZ hx,cZ hx]
def SA (ns:List Nd) (t:Tm) (n:Nat) (y:Nat→Bool) (m:Nat):Bool:=aM (yS ns t) m&&((m==n||y m)||aM (nC ns t) m)
theorem aSK {ns:List Nd} {t:Tm} {n:Nat} (y:Nat→Bool) (hn:n<ns.length) :
 eH (bZ ns (KZ ns t)) y n=(decide (0<(gJ ns n).length)&&(gJ ns n).all (SA ns t n y)):=by
 simp only [eH,bZ,KZ,zH,if_false,sZ,Bool.false_eq_true]
 rw [BL,xE hn,QC (q:=SA ns t n y) fun m hm=>by
  rw [aNL (FP hm),SA]
  cases aM (yS ns t) m <;> cases aM (nC ns t) m <;> simp]
 simp
def iL (ns:List Nd) (t:Tm) (n:Nat) (y:Nat→Bool) (m:Nat):Bool:=aM (dI ns t) m||(!aM (nC ns t) m&&(m==n||y m))
theorem aBS {ns:List Nd} {t:Tm} {n:Nat} (y:Nat→Bool) (hn:n<ns.length) :
 eH (bZ ns (fT ns t)) y n=(iQ ns n).all (iL ns t n y):=by
 simp only [eH,bZ,fT,zH,if_true,aBR]
 rw [BL,xE hn,QC (q:=iL ns t n y) fun m hm=>by
  rw [aEH (FO hm),iL]]
 simp
def nS (ns:List Nd) (t:Tm) (y:Nat→Bool) (m:Nat):Bool:=y m&&!aM (nC ns t) m
theorem aBT {ns:List Nd} {t:Tm} {n:Nat} (y:Nat→Bool) (hn:n<ns.length) :
 bZ ns (eZ ns t) y n=(aM (dA ns t) n||(decide (0<(gJ ns n).length)&&(gJ ns n).all (nS ns t y))):=by
 simp only [bZ,eZ,zH,if_false,sZ,Bool.false_eq_true]
 rw [xE hn,QC (q:=nS ns t y) fun m hm=>by
  rw [BL,aEH (FP hm),nS]
  cases y m <;> cases aM (nC ns t) m <;> simp]
 simp
def nT (ns:List Nd) (t:Tm) (m:Nat):Bool:=!aM (yS ns t) m||(!aM (dG ns t) m&&!aM (sV ns t) m)
theorem aBU {ns:List Nd} {t:Tm} {n:Nat} (hn:n<ns.length) :
 aM (dA ns t) n=(aM (dG ns t) n&&(decide ((gJ ns n).length=0)||(gJ ns n).any (nT ns t))):=by
 rw [dA,mM _ hn,aEG,aXR (q:=nT ns t) fun m hm=>by
  rw [nT];cases aM (yS ns t) m <;> cases aM (dG ns t) m <;> cases aM (sV ns t) m <;> rfl]
 cases gJ ns n <;> simp
theorem aHK {ns:List Nd} {t:Tm} {n:Nat} (hn:n<ns.length) :
 aM (dI ns t) n=(aM (dH ns t) n&&(aM (nC ns t) n||(iQ ns n).any fun m=>!aM (dH ns t) m)):=by
 rw [dI,mM _ hn,aEG]
theorem iJ {l:List Nat} {q m:Nat} (p:Nat→Bool) (h:l[q]?=some m):(l.take (q+1)).all p=((l.take q).all p&&p m):=by
 have hq:=(List.getElem?_eq_some_iff.1 h)
 obtain ⟨hlt,he⟩:=hq
 rw [List.take_add_one,h];simp [List.all_append]
theorem vF {l:List Nat} {q m:Nat} (p:Nat→Bool) (h:l[q]?=some m):(l.take (q+1)).any p=((l.take q).any p||p m):=by
 rw [List.take_add_one,h];simp [List.any_append]
end Go.Proofs.YtegloodcbfalfaaGreatDoor
namespace Go.Proofs.YtegloodcbfalfaaGreatDoor
open Go.RowKit Go.Shelf
theorem P1 {α:Type} (l:List α) (i:Nat) (a:α):l.toArray.setIfInBounds i a=(l.set i a).toArray:=List.setIfInBounds_toArray l i a
theorem P3 {α:Type} {x a:α} {i:Nat} {xs:List α}:(x::xs).set (i+1) a=x::xs.set i a:=rfl
theorem FQ {w:World} {b b' :Nat} {cs cs' :Array Value} {t t' :TypeId} (h:w.heap[b]?=some (.cells cs t (0,0))) (h' :w.heap[b']?=some (.cells cs' t' (0,0))) (hne:t≠t'):b≠b' :=by
 rintro rfl
 rw [h] at h'
 cases h'
 exact hne rfl
def SC (w:World) (base:Nat) (v:Value) (k:Nat) (F:Nat→List Nat):Prop :=
 ∃ vs:List Value,w.ownsRow base 25 1 v k vs∧∀ m,m<k→∃ u,vs[m]?=some u∧w.ownsRow 0 3 1 u (F m).length ((ints (F m)).map (Value.int .i64))
theorem SC.below {w w' :World} {base:Nat} {v:Value} {k:Nat} {F:Nat→List Nat} (h:SC w base v k F) (hb:Below w.heap.size w w'):SC w' base v k F:=by
 obtain ⟨vs,h1,h2⟩:=h
 refine ⟨vs,ownsRow_below h1 hb dD,fun m hm=>?_⟩
 obtain ⟨u,h3,h4⟩:=h2 m hm
 exact ⟨u,h3,ownsRow_below h4 hb dD⟩
theorem SC.set {w:World} {base:Nat} {v u:Value} {k b o:Nat} {F:Nat→List Nat} {cs:Array Value} {t:TypeId} (h:SC w base v k F) (hb:w.heap[b]?=some (.cells cs t (0,0))) (h1:t≠25) (h2:t≠3):SC (w.setCell ⟨b,o,none⟩ u) base v k F:=by
 obtain ⟨vs,k1,k2⟩:=h
 refine ⟨vs,aI k1 hb h1,fun m hm=>?_⟩
 obtain ⟨u,h3,h4⟩:=k2 m hm
 exact ⟨u,h3,aI h4 hb h2⟩
theorem SC.read {w:World} {base:Nat} {v:Value} {k m:Nat} {F:Nat→List Nat} (h:SC w base v k F) (hm:m<k):∃ g c a d,v=.slice (some ⟨g,0,none⟩) k c∧g<w.heap.size∧w.cell? ⟨g,m,none⟩=some (.slice a (F m).length d)∧dW w a (ints (F m)):=by
 obtain ⟨vs,h1,h2⟩:=h
 obtain ⟨u,h3,h4⟩:=h2 m hm
 obtain ⟨a,d,rfl,hI⟩:=mP (zs:=ints (F m)) (by rw [bX];exact h4)
 rw [bX] at h3
 rcases h1.2 with ⟨e1,e2⟩ | ⟨g,c,cur,rfl,_,hg,_,_,_,hc⟩
 ·subst e2;omega
 ·refine ⟨g,c,a,d,rfl,aD hg,?_,hI⟩
  rw [aA hg]
  have hv:cur[m]?=some (.slice a (F m).length d):=by
   have:(cur.toList.take (k*1))[m]?=some (.slice a (F m).length d):=by rw [hc];exact h3
   rw [List.getElem?_take_of_lt aF] at this
   simpa using this
  exact hv
theorem kZ {w w' :World} {base:Nat} {e:TypeId} {size:Nat} {v:Value} {n:Nat} {xs:List Value} {row:Option Nat} (h:w.ownsRow base e size v n xs) (hg:w.grownBy w' row) (hne:∀ g,v.ownBlock=some g→row≠some g):w'.ownsRow base e size v n xs:=by
 obtain ⟨hl,h3⟩:=h
 refine ⟨hl,?_⟩
 rcases h3 with h3 | ⟨g,cap,cur,rfl,a1,a2,a3⟩
 ·exact Or.inl h3
 ·exact Or.inr ⟨g,cap,cur,rfl,a1,(hg.block g (aD a2) (fun q=>hne g rfl q.symm)).trans a2,a3⟩
theorem rF {w:World} {base b:Nat} {e t:TypeId} {size:Nat} {v:Value} {n:Nat} {xs:List Value} {cs:Array Value} (h:w.ownsRow base e size v n xs) (hb:w.heap[b]?=some (.cells cs t (0,0))) (hne:t≠e):v.ownBlock≠some b:=by
 rcases h.2 with ⟨rfl,_⟩ | ⟨g,cap,cur,rfl,_,a2,_⟩
 ·simp [Value.ownBlock]
 ·intro e1
  simp [Value.ownBlock] at e1
  subst e1
  rw [a2] at hb
  cases hb
  exact hne rfl
theorem aBV {w:World} {base base' :Nat} {e e' :TypeId} {size size' :Nat} {v v' :Value} {n n' :Nat} {xs xs' :List Value} (h:w.ownsRow base e size v n xs) (h' :w.ownsRow base' e' size' v' n' xs') (hne:e≠e'):∀ g,v.ownBlock=some g→v'.ownBlock≠some g:=by
 intro g hg
 rcases h.2 with ⟨rfl,_⟩ | ⟨g', cap,cur,rfl,_,a2,_⟩
 ·simp [Value.ownBlock] at hg
 ·simp [Value.ownBlock] at hg
  subst hg
  exact rF h' a2 hne
theorem SC.kept {w w' :World} {base:Nat} {v:Value} {k:Nat} {F:Nat→List Nat} {row:Option Nat} (h:SC w base v k F) (hg:w.grownBy w' row) (h1:∀ g,v.ownBlock=some g→row≠some g) (h2:∀ g,row=some g→∃ cs,w.heap[g]?=some (.cells cs 25 (0,0))):SC w' base v k F:=by
 obtain ⟨vs,k1,k2⟩:=h
 refine ⟨vs,kZ k1 hg h1,fun m hm=>?_⟩
 obtain ⟨u,h3,h4⟩:=k2 m hm
 refine ⟨u,h3,kZ h4 hg fun g hu e=>?_⟩
 obtain ⟨cs,hc⟩:=h2 g e
 exact rF h4 hc aL hu
theorem eQ {w:World} {base:Nat} {e:TypeId} {size:Nat} {v:Value} {n:Nat} {xs:List Value} (h:w.ownsRow base e size v n xs):∀ g,v.ownBlock=some g→base≤g∧g<w.heap.size∧∃ cs,w.heap[g]?=some (.cells cs e (0,0)):=by
 intro g hg
 rcases h.2 with ⟨rfl,_⟩ | ⟨g', cap,cur,rfl,a1,a2,_⟩
 ·simp [Value.ownBlock] at hg
 ·simp [Value.ownBlock] at hg
  subst hg
  exact ⟨a1,aD a2,cur,a2⟩
theorem WW {w w' :World} {base:Nat} {v v' u:Value} {k:Nat} {F:Nat→List Nat} {vs:List Value} (hv:w.ownsRow base 25 1 v k vs) (hr:∀ m,m<k→∃ u,vs[m]?=some u∧w.ownsRow 0 3 1 u (F m).length ((ints (F m)).map (Value.int .i64))) (hu:w.ownsRow 0 3 1 u (F k).length ((ints (F k)).map (Value.int .i64))) (hown:w'.ownsRow base 25 1 v' (k+1) (vs++[u])) (hg:w.grownBy w' v.ownBlock):SC w' base v' (k+1) F:=by
 refine ⟨_,hown,fun m hm=>?_⟩
 have hl:vs.length=k:=by have:=hv.1;omega
 have hk:∀ z n xs,w.ownsRow 0 3 1 z n xs→w'.ownsRow 0 3 1 z n xs:=fun z n xs h=>kZ h hg fun g hz e=>aBV hv h aL g e hz
 by_cases e:m=k
 ·subst e
  exact ⟨u,by rw [← hl];simp,hk _ _ _ hu⟩
 ·obtain ⟨z,h1,h2⟩:=hr m aF
  exact ⟨z,by rw [List.getElem?_append_left aF];exact h1,hk _ _ _ h2⟩
structure FS (w0:World) (r:Int) (b off cap:Nat) (ns:List Nd) (t:Tm) (X:Nat→Nat) (L:Nat→List Bool) (v13 v14:Value) (k k' :Nat) (w:World):Prop where
 pb:w.heap[w0.heap.size]?=some (.cells #[.int .i64 r,.slice (some ⟨b,off,none⟩) ns.length cap] 24 (0,0))
 tb:w.heap[w0.heap.size+1]?=some (.cells #[.int .i64 t.op,.int .i64 t.a,.int .i64 t.b] 59 (0,0))
 rb:w.heap[w0.heap.size+2]?=some (.cells #[.slice none 0 0,.slice none 0 0,.slice none 0 0,.slice none 0 0,.slice none 0 0,.slice none 0 0] 159 (0,0))
 kb:w.heap[w0.heap.size+3]?=some (.cells #[.int .i64 ns.length] 3 (0,0))
 blk:∀ i,i<6→w.heap[X i]?=some (.cells ((L i).map Value.bool).toArray 4 (0,0))
 len:∀ i,i<6→(L i).length=ns.length
 inj:∀ i j,i<6→j<6→X i=X j→i=j
 low:∀ i,i<6→w0.heap.size≤X i
 nx:SC w w0.heap.size v13 k (iQ ns)
 ah:SC w w0.heap.size v14 k' (gJ ns)
 dj:∀ g,v13.ownBlock=some g→v14.ownBlock≠some g
 bel:Below w0.heap.size w0 w
theorem FS.below {w0:World} {r:Int} {b off cap:Nat} {ns:List Nd} {t:Tm} {X:Nat→Nat} {L:Nat→List Bool} {v13 v14:Value} {k k' :Nat} {w w' :World} (h:FS w0 r b off cap ns t X L v13 v14 k k' w) (hb:Below w.heap.size w w'):FS w0 r b off cap ns t X L v13 v14 k k' w' :=
 ⟨bP hb h.pb,bP hb h.tb,bP hb h.rb,bP hb h.kb,fun i hi=>(hb.block _ (aD (h.blk i hi))).trans (h.blk i hi),h.len,h.inj,h.low,h.nx.below hb,h.ah.below hb,h.dj,bG h.bel hb⟩
def bH (L:Nat→List Bool) (i:Nat) (x:List Bool):Nat→List Bool:=fun j=>if j=i then x else L j
theorem yV (L:Nat→List Bool) (i:Nat) (x:List Bool):bH L i x i=x:=by simp [bH]
theorem aEI {L:Nat→List Bool} {i j:Nat} {x:List Bool} (h:j≠i):bH L i x j=L j:=by simp [bH,h]
theorem aHL (L:Nat→List Bool) (i:Nat) (x y:List Bool):bH (bH L i x) i y=bH L i y:=by
 funext j;simp only [bH];split <;> rfl
theorem nD (L:Nat→List Bool) (i:Nat):bH L i (L i)=L:=by
 funext j;simp only [bH];split
 ·rename_i e;rw [e]
 ·rfl
theorem FS.set {w0:World} {r:Int} {b off cap:Nat} {ns:List Nd} {t:Tm} {X:Nat→Nat} {L:Nat→List Bool} {v13 v14:Value} {k k' :Nat} {w:World} (h:FS w0 r b off cap ns t X L v13 v14 k k' w) {i:Nat} (hi:i<6) (m:Nat) (v:Bool):FS w0 r b off cap ns t X (bH L i ((L i).set m v)) v13 v14 k k' (w.setCell ⟨X i,m,none⟩ (.bool v)):=by
 have hb:=h.blk i hi
 refine ⟨aN _ h.pb (FQ h.pb hb aL),aN _ h.tb (FQ h.tb hb aL),aN _ h.rb (FQ h.rb hb aL),aN _ h.kb (FQ h.kb hb aL),fun j hj=>?_,fun j hj=>?_,h.inj,h.low,h.nx.set hb aL aL,h.ah.set hb aL aL,h.dj,h.bel.setCell (p:=⟨X i,m,none⟩) (h.low i hi) _⟩
 ·by_cases e:j=i
  ·subst e
   rw [yV,aG _ hb]
   simp only [List.map_set,List.setIfInBounds_toArray]
  ·rw [aEI e]
   exact aN _ (h.blk j hj) (fun q=>e (h.inj j i hj hi q))
 ·by_cases e:j=i
  ·subst e;rw [yV,List.length_set];exact h.len j hj
  ·rw [aEI e];exact h.len j hj
theorem FS.cb {w0:World} {r:Int} {b off cap:Nat} {ns:List Nd} {t:Tm} {X:Nat→Nat} {L:Nat→List Bool} {v13 v14:Value} {k k' :Nat} {w:World} (h:FS w0 r b off cap ns t X L v13 v14 k k' w) {i m:Nat} (hi:i<6) (hm:m<ns.length):w.cell? ⟨X i,m,none⟩=some (.bool (aM (L i) m)):=by
 rw [aA (h.blk i hi),List.getElem?_toArray,List.getElem?_map,kE (by rw [h.len i hi];exact hm)];rfl
theorem FS.lt {w0:World} {r:Int} {b off cap:Nat} {ns:List Nd} {t:Tm} {X:Nat→Nat} {L:Nat→List Bool} {v13 v14:Value} {k k' :Nat} {w:World} (h:FS w0 r b off cap ns t X L v13 v14 k k' w) {i:Nat} (hi:i<6):X i<w.heap.size:=aD (h.blk i hi)
theorem FS.fr {w0:World} {r:Int} {b off cap:Nat} {ns:List Nd} {t:Tm} {X:Nat→Nat} {L:Nat→List Bool} {v13 v14:Value} {k k' :Nat} {w:World} (h:FS w0 r b off cap ns t X L v13 v14 k k' w) {i:Nat} (hi:i<6) (m:Nat):w.frozen? ⟨X i,m,none⟩=false:=aC (h.blk i hi) m
theorem FS.c5 {w0:World} {r:Int} {b off cap:Nat} {ns:List Nd} {t:Tm} {X:Nat→Nat} {L:Nat→List Bool} {v13 v14:Value} {k k' :Nat} {w:World} (h:FS w0 r b off cap ns t X L v13 v14 k k' w):w.cell? ⟨w0.heap.size+3,0,none⟩=some (.int .i64 ns.length):=by rw [aA h.kb];rfl
theorem FS.a3H {w0:World} {r:Int} {b off cap:Nat} {ns:List Nd} {t:Tm} {X:Nat→Nat} {L:Nat→List Bool} {v13 v14 v' u:Value} {k k' :Nat} {w w' :World} {vs:List Value} (h:FS w0 r b off cap ns t X L v13 v14 k k' w) (hv:w.ownsRow w0.heap.size 25 1 v13 k vs) (hr:∀ m,m<k→∃ u,vs[m]?=some u∧w.ownsRow 0 3 1 u (iQ ns m).length ((ints (iQ ns m)).map (Value.int .i64))) (hu:w.ownsRow 0 3 1 u (iQ ns k).length ((ints (iQ ns k)).map (Value.int .i64))) (hown:w'.ownsRow w0.heap.size 25 1 v' (k+1) (vs++[u])) (hg:w.grownBy w' v13.ownBlock) (hat:v'.ownBlock=v13.ownBlock∨v'.ownBlock=some w.heap.size):FS w0 r b off cap ns t X L v' v14 (k+1) k' w' :=by
 have hk:∀ (q:Nat) (cs:Array Value) (ty:TypeId),ty≠25→w.heap[q]?=some (.cells cs ty (0,0))→w'.heap[q]?=some (.cells cs ty (0,0)):=fun q cs ty hty hq=>(hg.block q (aD hq) (fun e=>rF hv hq hty e.symm)).trans hq
 obtain ⟨vs', hv', _⟩:=h.ah
 refine ⟨hk _ _ _ aL h.pb,hk _ _ _ aL h.tb,hk _ _ _ aL h.rb,hk _ _ _ aL h.kb,fun i hi=>hk _ _ _ aL (h.blk i hi),h.len,h.inj,h.low,WW hv hr hu hown hg,h.ah.kept hg (fun g h1 h2=>h.dj g h2 h1) (fun g e=>(eQ hv g e).2.2),fun g hg' =>?_,h.bel.grown hg h.bel.size (fun q e=>(eQ hv q e).1)⟩
 rcases hat with e | e
 ·rw [e] at hg'; exact h.dj g hg'
 ·rw [e] at hg'
  intro q
  have:=(eQ hv' g q).2.1
  simp at hg'
  omega
theorem FS.a3I {w0:World} {r:Int} {b off cap:Nat} {ns:List Nd} {t:Tm} {X:Nat→Nat} {L:Nat→List Bool} {v13 v14 v' u:Value} {k k' :Nat} {w w' :World} {vs:List Value} (h:FS w0 r b off cap ns t X L v13 v14 k k' w) (hv:w.ownsRow w0.heap.size 25 1 v14 k' vs) (hr:∀ m,m<k' →∃ u,vs[m]?=some u∧w.ownsRow 0 3 1 u (gJ ns m).length ((ints (gJ ns m)).map (Value.int .i64))) (hu:w.ownsRow 0 3 1 u (gJ ns k').length ((ints (gJ ns k')).map (Value.int .i64))) (hown:w'.ownsRow w0.heap.size 25 1 v' (k' +1) (vs++[u])) (hg:w.grownBy w' v14.ownBlock) (hat:v'.ownBlock=v14.ownBlock∨v'.ownBlock=some w.heap.size):FS w0 r b off cap ns t X L v13 v' k (k' +1) w' :=by
 have hk:∀ (q:Nat) (cs:Array Value) (ty:TypeId),ty≠25→w.heap[q]?=some (.cells cs ty (0,0))→w'.heap[q]?=some (.cells cs ty (0,0)):=fun q cs ty hty hq=>(hg.block q (aD hq) (fun e=>rF hv hq hty e.symm)).trans hq
 obtain ⟨vs', hv', _⟩:=h.nx
 refine ⟨hk _ _ _ aL h.pb,hk _ _ _ aL h.tb,hk _ _ _ aL h.rb,hk _ _ _ aL h.kb,fun i hi=>hk _ _ _ aL (h.blk i hi),h.len,h.inj,h.low,h.nx.kept hg (fun g h1 h2=>h.dj g h1 h2) (fun g e=>(eQ hv g e).2.2),WW hv hr hu hown hg,fun g hg' =>?_,h.bel.grown hg h.bel.size (fun q e=>(eQ hv q e).1)⟩
 rcases hat with e | e
 ·rw [e];exact h.dj g hg'
 ·rw [e]
  intro q
  have:=(eQ hv' g hg').2.1
  simp at q
  omega
theorem SC.row {w:World} {base g c k m:Nat} {F:Nat→List Nat} (h:SC w base (.slice (some ⟨g,0,none⟩) k c) k F) (hm:m<k):∃ a d,w.cell? ⟨g,m,none⟩=some (.slice a (F m).length d)∧dW w a (ints (F m))∧g<w.heap.size:=by
 obtain ⟨g', c', a,d,e,h1,h2,h3⟩:=h.read hm
 simp at e
 obtain ⟨rfl,rfl⟩:=e
 exact ⟨a,d,h2,h3,h1⟩
theorem SC.aNM {w:World} {base g c k m:Nat} {F:Nat→List Nat} (h:SC w base (.slice (some ⟨g,0,none⟩) k c) k F) (hm:m<k):∃ a d,w.cell? ⟨g,m,none⟩=some (.slice a (F m).length d)∧w.ownsRow 0 3 1 (.slice a (F m).length d) (F m).length ((ints (F m)).map (Value.int .i64))∧g<w.heap.size:=by
 obtain ⟨vs,h1,h2⟩:=h
 obtain ⟨u,h3,h4⟩:=h2 m hm
 obtain ⟨a,d,rfl⟩:=aU h4
 rcases h1.2 with ⟨e1,e2⟩ | ⟨g', c', cur,e,_,hg,_,_,_,hc⟩
 ·cases e1
 ·cases e
  refine ⟨a,d,?_,h4,aD hg⟩
  rw [aA hg]
  have:(cur.toList.take (k*1))[m]?=some (.slice a (F m).length d):=by rw [hc];exact h3
  rw [List.getElem?_take_of_lt aF] at this
  simpa using this
theorem FT {w:World} {a:Option Addr} {l:List Nat} {d q m:Nat} (h:w.ownsRow 0 3 1 (.slice a l.length d) l.length ((ints l).map (Value.int .i64))) (hq:l[q]?=some m):∃ bb oo,a=some ⟨bb,oo,none⟩∧bb<w.heap.size∧w.cell? ⟨bb,oo+q,none⟩=some (.int .i64 (m:Int))∧∃ cs,w.heap[bb]?=some (.cells cs 3 (0,0)):=by
 rcases h.2 with ⟨e1,e2⟩ | ⟨g,c,cur,e,_,hg,_,_,_,hc⟩
 ·rw [List.length_eq_zero_iff.1 e2] at hq;simp at hq
 ·cases e
  refine ⟨g,0,rfl,aD hg,?_,cur,hg⟩
  rw [aA hg,Nat.zero_add]
  have IU:=(List.getElem?_eq_some_iff.1 hq).1
  have:(cur.toList.take (l.length*1))[q]?=some (.int .i64 (m:Int)):=by rw [hc];simp [ints,hq]
  rw [List.getElem?_take_of_lt aF] at this
  simpa using this
theorem xG {x:List Bool} {n:Nat} {b:Bool} (h:n<x.length):aM (x.set n b) n=b:=by rw [dR h,if_pos rfl]
theorem xH {x:List Bool} {n m:Nat} (h:n<x.length):aM (x.set n true) m=(m==n||aM x m):=by
 rw [dR h]
 by_cases e:m=n
 ·simp [e]
 ·simp [e]
def jO (E:List Bool) (n j:Nat):List Bool:=(List.range n).map fun i=>decide (i<j)&&aM E i
theorem FU (E:List Bool) (n:Nat):jO E n 0=EZ n:=by
 refine List.ext_getElem (by simp [jO,EZ]) fun i h1 h2=>?_
 simp [jO,EZ]
theorem FV {E:List Bool} {n j:Nat} (h:j<n):jO E n (j+1)=(jO E n j).set j (aM E j):=by
 refine mK (by simp [jO]) fun i hi=>?_
 have hi' :i<n:=by simpa [jO] using hi
 rw [dR (by simp [jO];exact h),jO,jO,mM _ hi', mM _ hi']
 by_cases e:i=j
 ·subst e;simp
 ·rw [if_neg e,decide_eq_decide.2 (show i<j+1↔i<j by omega)]
theorem LX {E:List Bool} {n:Nat} (h:E.length=n):jO E n n=E:=by
 refine mK (by simp [jO,h]) fun i hi=>?_
 have hi' :i<n:=by simpa [jO] using hi
 rw [jO,mM _ hi']
 simp [hi']
theorem ints_at {w:World} {a:Option Addr} {l:List Nat} {q m:Nat} (h:dW w a (ints l)) (hq:l[q]?=some m):∃ bb oo,a=some ⟨bb,oo,none⟩∧bb<w.heap.size∧w.cell? ⟨bb,oo+q,none⟩=some (.int .i64 (m:Int)):=by
 rcases h with h | ⟨bb,oo,rfl,h1,h2⟩
 ·cases l with
  | nil=>simp at hq
  | cons _ _=>simp [ints] at h
 ·exact ⟨bb,oo,rfl,h1,h2 q m (by simp [ints,hq])⟩
theorem FS.put {w0:World} {r:Int} {b off cap:Nat} {ns:List Nd} {t:Tm} {X:Nat→Nat} {L:Nat→List Bool} {v13 v14:Value} {k k' :Nat} {w:World} {i:Nat} {x:List Bool} (h:FS w0 r b off cap ns t X (bH L i x) v13 v14 k k' w) (hi:i<6) (m:Nat) (v:Bool):FS w0 r b off cap ns t X (bH L i (x.set m v)) v13 v14 k k' (w.setCell ⟨X i,m,none⟩ (.bool v)):=by
 have:=h.set hi m v
 rwa [yV,aHL] at this
def NC (w0:World) (r:Int) (b off cap n:Nat) (t:Tm) (m:Nat) (x:Nd) (u:World):Prop :=
 u.cell? ⟨w0.heap.size,0,none⟩=some (.int .i64 r)∧u.cell? ⟨w0.heap.size,1,none⟩=some (.slice (some ⟨b,off,none⟩) n cap)∧u.cell? ⟨w0.heap.size+1,0,none⟩=some (.int .i64 t.op)∧u.cell? ⟨w0.heap.size+1,1,none⟩=some (.int .i64 t.a)∧u.cell? ⟨w0.heap.size+1,2,none⟩=some (.int .i64 t.b)∧u.cell? ⟨b,off+m*6,none⟩=some (.int .i64 x.op)∧u.cell? ⟨b,off+m*6+1,none⟩=some (.int .i64 x.d)∧u.cell? ⟨b,off+m*6+2,none⟩=some (.int .i64 x.a)∧u.cell? ⟨b,off+m*6+3,none⟩=some (.int .i64 x.b)∧u.cell? ⟨b,off+m*6+4,none⟩=some (.int .i64 x.t)∧u.cell? ⟨b,off+m*6+5,none⟩=some (.int .i64 x.e)
theorem FS.nc {w0:World} {r:Int} {b off cap:Nat} {ns:List Nd} {t:Tm} {X:Nat→Nat} {L:Nat→List Bool} {v13 v14:Value} {k k' :Nat} {w:World} (h:FS w0 r b off cap ns t X L v13 v14 k k' w) (hN:aH w0 b off ns) {m:Nat} {x:Nd} (hx:ns[m]?=some x):NC w0 r b off cap ns.length t m x w:=by
 have k3:=hN.below h.bel hN.lt
 refine ⟨?_,?_,?_,?_,?_,k3.c0 m x hx,k3.c1 m x hx,k3.c2 m x hx,k3.c3 m x hx,k3.c4 m x hx,k3.c5 m x hx⟩
 ·rw [aA h.pb];rfl
 ·rw [aA h.pb];rfl
 ·rw [aA h.tb];rfl
 ·rw [aA h.tb];rfl
 ·rw [aA h.tb];rfl
theorem xI (n K:Nat) (w:World) (hn:n≤256) (hK:w.heap[K]?=some (.cells #[.int .i64 n] 3 (0,0))) :
 Calls Tryz.prog 135 #[.pointer (some ⟨K,0,none⟩)] w fun e w' =>e=.returned (.slice (some ⟨w.heap.size,0,none⟩) n n)∧w'.heap[w.heap.size]?=some (.cells ((sU n).map Value.bool).toArray 4 (0,0))∧Below w.heap.size w w' :=by
 have hms:∀ W:World,Sem.run Tryz.prog (Instr.makeSlice 73 (.int .i64 (n:Int)) (.int .i64 (n:Int))) W=.ok (.slice (some ⟨W.heap.size,0,none⟩) n n) (W.alloc (.cells (madeCells #[.bool false] n) 4)):=fun W=>run_make_row' 73 4 _ 1 Tryz.underlying73 nQ rfl .i64 .i64 n aF aF W
 have k0:=aA hK 0
 simp at k0
 have kl:=aD hK
 go_enter Tryz.func135,Tryz.ntmps135
 go_wp2_with fail
 have hB0:Below w.heap.size w (w.alloc (.cells (madeCells #[.bool false] n) 4)):=dY
 have hX0:(w.alloc (.cells (madeCells #[.bool false] n) 4)).heap[w.heap.size]?=some (.cells ((List.replicate 0 true++List.replicate (n-0) false).map Value.bool).toArray 4 (0,0)):=by
  rw [World.alloc_heap_new,oL];simp
 generalize (w.alloc (.cells (madeCells #[.bool false] n) 4))=W0 at hB0 hX0 ⊢
 have HX0:=aB hX0
 clear hX0 hms
 go_loopw [3] (fun i wr=>∃ k:Nat,k≤n∧i=.int .i64 k∧wr.heap[w.heap.size]?=some (.cells ((List.replicate k true++List.replicate (n-k) false).map Value.bool).toArray 4 (0,0))∧Below w.heap.size w wr) (fun i _=>n-(intOf i).toNat)
 case atStart=>exact ⟨0,Nat.zero_le _,rfl,HX0.out,hB0⟩
 case round =>
  obtain ⟨k,hk,rfl,hX,hb⟩:=hrel
  have hsz:=hb.size
  have hXl:=aD hX
  have kr:=(hb.cell (p:=⟨K,0,none⟩) kl).trans k0
  have krl:=Nat.lt_of_lt_of_le kl hsz
  by_cases hlt:k<n
  ·have hxc:=aA hX k
   rw [WP hlt] at hxc
   have hxf:=aC hX k
   have hli:(k:Int)<(n:Int):=by omega
   have HX:=aB hX
   have HB:=aB hb
   clear hX hb
   go_wp2
   go_roundw
   case rel =>
    refine ⟨k+1,aF,by go_num,?_,HB.out.setCell (p:=⟨w.heap.size,k,none⟩) dD _⟩
    rw [aG _ HX.out,← WM hlt]
    simp only [List.map_set,List.setIfInBounds_toArray]
   case measure=>simp [intOf];omega
  ·have ek:k=n:=by omega
   subst ek
   have hX' :wr.heap[w.heap.size]?=some (.cells ((sU k).map Value.bool).toArray 4 (0,0)):=by rw [hX];simp [sU]
   have HX:=aB hX'
   have HB:=aB hb
   clear hX hX' hb
   go_wp2
   go_ret
   exact ⟨rfl,HX.out,HB.out⟩
theorem aHM (m B k:Nat) (ys zs:List Bool) (ya za:Option Addr) (yc zc:Nat) (w:World) (h4:w.cell? ⟨B,4,none⟩=some (.slice ya k yc)) (h5:w.cell? ⟨B,5,none⟩=some (.slice za k zc)) (hB:B<w.heap.size) (hy:aJ w ya ys) (hz:aJ w za zs) (e1:ys.length=k) (e2:zs.length=k) (hm:m<k) :
 Calls Tryz.prog 126 #[.int .i64 m,.pointer (some ⟨B,0,none⟩)] w fun e w' =>e=.returned (.bool (aM ys m&&!aM zs m))∧w' =w:=by
 obtain ⟨b3,o3,rfl,l3,v3⟩:=bT hy (k:=m) aF
 obtain ⟨b4,o4,rfl,l4,v4⟩:=bT hz (k:=m) aF
 have KW:(m:Int)<(k:Int):=by omega
 generalize aM ys m=P at v3 ⊢
 generalize aM zs m=Q at v4 ⊢
 clear hy hz e1 e2
 cases P
 ·go_enter Tryz.func126,Tryz.ntmps126
  go_wp2
  go_ret
  exact ⟨rfl,rfl⟩
 ·go_enter Tryz.func126,Tryz.ntmps126
  go_wp2
  go_ret
  exact ⟨rfl,rfl⟩
theorem kR {α:Type} (l:List α) (i:Nat) (a:α):l.toArray.setIfInBounds i a=(l.set i a).toArray:=List.setIfInBounds_toArray l i a
theorem kS {α:Type} {x a:α} {xs:List α}:(x::xs).set 0 a=a::xs:=rfl
theorem kT {α:Type} {x a:α} {i:Nat} {xs:List α}:(x::xs).set (i+1) a=x::xs.set i a:=rfl
theorem aHN (i P T D:Nat) (r:Int) (b off cap:Nat) (ns:List Nd) (t:Tm) (ys zs:List Bool) (da ea:Option Addr) (dc ec:Nat) (w:World) (hN:aH w b off ns) (hi:i<ns.length) (hP:w.heap[P]?=some (.cells #[.int .i64 r,.slice (some ⟨b,off,none⟩) ns.length cap] 24 (0,0))) (hT:w.heap[T]?=some (.cells #[.int .i64 t.op,.int .i64 t.a,.int .i64 t.b] 59 (0,0))) (ht:3≤t.op∧t.op≤8) (hl:D<w.heap.size) (h4:w.cell? ⟨D,4,none⟩=some (.slice da ns.length dc)) (h5:w.cell? ⟨D,5,none⟩=some (.slice ea ns.length ec)) (hy:aJ w da ys) (hz:aJ w ea zs) (e1:ys.length=ns.length) (e2:zs.length=ns.length) :
 Calls Tryz.prog 127 #[.int .i64 i,.pointer (some ⟨P,0,none⟩),.pointer (some ⟨T,0,none⟩),.pointer (some ⟨D,0,none⟩)] w fun e w' =>e=.returned (.bool (aM (nC ns t) i&&!(aM ys i&&aM zs i)))∧Below w.heap.size w w' :=by
 obtain ⟨x,hx⟩:=bD hi
 have hb:aM (nC ns t) i=nP t x:=cZ hx
 have hii:(i:Int)<(ns.length:Int):=by omega
 obtain ⟨b3,o3,rfl,l3,v3⟩:=bT hy (k:=i) aF
 obtain ⟨b4,o4,rfl,l4,v4⟩:=bT hz (k:=i) aF
 generalize aM ys i=QY at v3 ⊢
 generalize aM zs i=Q at v4 ⊢
 have HS:Hid (∀ u:World,Below w.heap.size w u→u.cell? ⟨P,0,none⟩=some (.int .i64 r)∧u.cell? ⟨P,1,none⟩=some (.slice (some ⟨b,off,none⟩) ns.length cap)∧u.cell? ⟨T,0,none⟩=some (.int .i64 t.op)∧u.cell? ⟨T,1,none⟩=some (.int .i64 t.a)∧u.cell? ⟨T,2,none⟩=some (.int .i64 t.b)∧u.cell? ⟨b,off+i*6,none⟩=some (.int .i64 x.op)∧u.cell? ⟨b,off+i*6+1,none⟩=some (.int .i64 x.d)∧u.cell? ⟨b,off+i*6+2,none⟩=some (.int .i64 x.a)∧u.cell? ⟨b,off+i*6+3,none⟩=some (.int .i64 x.b)∧u.cell? ⟨b,off+i*6+4,none⟩=some (.int .i64 x.t)∧u.cell? ⟨b,off+i*6+5,none⟩=some (.int .i64 x.e)∧u.cell? ⟨D,4,none⟩=some (.slice (some ⟨b3,o3,none⟩) ns.length dc)∧u.cell? ⟨D,5,none⟩=some (.slice (some ⟨b4,o4,none⟩) ns.length ec)∧u.cell? ⟨b3,o3+i,none⟩=some (.bool QY)∧u.cell? ⟨b4,o4+i,none⟩=some (.bool Q)):=fun u h=>by
  have k1:=bP h hP
  have k2:=bP h hT
  have k3:=hN.below h hN.lt
  refine ⟨?_,?_,?_,?_,?_,k3.c0 i x hx,k3.c1 i x hx,k3.c2 i x hx,k3.c3 i x hx,k3.c4 i x hx,k3.c5 i x hx,?_,?_,?_,?_⟩
  ·rw [aA k1];rfl
  ·rw [aA k1];rfl
  ·rw [aA k2];rfl
  ·rw [aA k2];rfl
  ·rw [aA k2];rfl
  ·rw [World.cell?_of_block (h.block _ hl)];exact h4
  ·rw [World.cell?_of_block (h.block _ hl)];exact h5
  ·rw [World.cell?_of_block (h.block _ l3)];exact v3
  ·rw [World.cell?_of_block (h.block _ l4)];exact v4
 have pl:=aD hP
 have tl:=aD hT
 have bl:=hN.lt
 have HBI:=aB hb
 have HT:=aB ht
 clear hP hT hN hx hb ht hy hz e1 e2 v3 v4 h4 h5
 cases hq:nP t x
 ·have vG:=aB hq
  clear hq
  go_enter Tryz.func127,Tryz.ntmps127
  go_upto_region 1 with fail
  refine wp_region_held_drew (S:=(fun u=>u.cell? ⟨P,0,none⟩=some (.int .i64 r)∧u.cell? ⟨P,1,none⟩=some (.slice (some ⟨b,off,none⟩) ns.length cap)∧u.cell? ⟨T,0,none⟩=some (.int .i64 t.op)∧u.cell? ⟨T,1,none⟩=some (.int .i64 t.a)∧u.cell? ⟨T,2,none⟩=some (.int .i64 t.b)∧u.cell? ⟨b,off+i*6,none⟩=some (.int .i64 x.op)∧u.cell? ⟨b,off+i*6+1,none⟩=some (.int .i64 x.d)∧u.cell? ⟨b,off+i*6+2,none⟩=some (.int .i64 x.a)∧u.cell? ⟨b,off+i*6+3,none⟩=some (.int .i64 x.b)∧u.cell? ⟨b,off+i*6+4,none⟩=some (.int .i64 x.t)∧u.cell? ⟨b,off+i*6+5,none⟩=some (.int .i64 x.e)∧u.cell? ⟨D,4,none⟩=some (.slice (some ⟨b3,o3,none⟩) ns.length dc)∧u.cell? ⟨D,5,none⟩=some (.slice (some ⟨b4,o4,none⟩) ns.length ec)∧u.cell? ⟨b3,o3+i,none⟩=some (.bool QY)∧u.cell? ⟨b4,o4+i,none⟩=some (.bool Q))) kD (by (try dsimp only);first | (with_reducible exact HS.out _ hB2) | exact HS.out _ (Below.refl _ w).drew | exact HS.out _ (Below.refl _ w)) (fun hHeld=>?_)
  refine wV 0 ⟨some 6,.fieldAddr 24 (.tmp 1) 1,0, "move.go:23", #[],none⟩ (v:=?_) ?_ ?_
  rotate_left 1
  ·intro w hSw;(try dsimp only at hSw);go_simp;all_goals with_reducible rfl
  (try simp only [Act.put,kR,kS,kT])
  refine wV 1 ⟨some 7,.load 22 (.tmp 6),22, "move.go:23", #[⟨0,.data⟩],none⟩ (v:=?_) ?_ ?_
  rotate_left 1
  ·intro w hSw;(try dsimp only at hSw);go_simp;all_goals with_reducible rfl
  (try simp only [Act.put,kR,kS,kT])
  refine wV 2 ⟨some 8,.move (.tmp 0),3, "move.go:23", #[],none⟩ (v:=?_) ?_ ?_
  rotate_left 1
  ·intro w hSw;(try dsimp only at hSw);go_simp;all_goals with_reducible rfl
  (try simp only [Act.put,kR,kS,kT])
  refine wV 3 ⟨some 9,.indexAddr 22 (.tmp 7) (.tmp 8),0, "move.go:23", #[⟨1,.data⟩,⟨2,.data⟩],none⟩ (v:=?_) ?_ ?_
  rotate_left 1
  ·intro w hSw;(try dsimp only at hSw);go_simp;all_goals with_reducible rfl
  (try simp only [Act.put,kR,kS,kT])
  refine wV 4 ⟨some 10,.load 42 (.tmp 9),42, "move.go:23", #[⟨3,.data⟩],none⟩ (v:=?_) ?_ ?_
  rotate_left 1
  ·intro w hSw;(try dsimp only at hSw);go_simp;all_goals with_reducible rfl
  (try simp only [Act.put,kR,kS,kT])
  refine wV 5 ⟨some 11,.load 59 (.tmp 2),59, "move.go:23", #[],none⟩ (v:=?_) ?_ ?_
  rotate_left 1
  ·intro w hSw;(try dsimp only at hSw);go_simp;all_goals with_reducible rfl
  (try simp only [Act.put,kR,kS,kT])
  refine wpAnyH_ready (rs:=[6]) kD aQ (AllReadyH.cons (o:=⟨some 12,.call { callee:=.value (.func 128),args:=#[.tmp 10,.tmp 11],argTypes:=#[42,59] },4, "move.go:23", #[⟨4,.data⟩,⟨5,.data⟩],none⟩) rfl (fun K hK=>?_) AllReadyH.nil)
  go_simp
  go_at_call 128;refine (kN x t _ HT.out).mono ?_;rintro e wa ⟨rfl,hba⟩;have hB2:Below w.heap.size w wa:=(by first | exact (Below.refl _ w).drew.trans hba | exact hba);rw [vG.out];(try go_wp2_with fail)
  refine hK.out _ _ (by (try dsimp only);first | (with_reducible exact HS.out _ hB2) | exact HS.out _ (Below.refl _ w).drew | exact HS.out _ (Below.refl _ w)) (fun hHeld=>?_)
  clear hK K
  (try simp only [Act.put,kR,kS,kT])
  refine wV 7 ⟨some 13,.move (.tmp 12),4, "move.go:23", #[⟨6,.data⟩,⟨6,.chain⟩],none⟩ (v:=?_) ?_ ?_
  rotate_left 1
  ·intro w hSw;(try dsimp only at hSw);go_simp;all_goals with_reducible rfl
  (try simp only [Act.put,kR,kS,kT])
  refine zR 8 ⟨some 14,.fieldAddr 159 (.tmp 3) 4,0, "move.go:23", #[⟨7,.guard⟩],some (7,true)⟩ ?_
  (try simp only [Act.put,kR,kS,kT])
  refine zR 9 ⟨some 15,.load 73 (.tmp 14),73, "move.go:23", #[⟨8,.data⟩,⟨7,.guard⟩],some (7,true)⟩ ?_
  (try simp only [Act.put,kR,kS,kT])
  refine zR 10 ⟨some 16,.move (.tmp 0),3, "move.go:23", #[⟨7,.guard⟩],some (7,true)⟩ ?_
  (try simp only [Act.put,kR,kS,kT])
  refine zR 11 ⟨some 17,.indexAddr 73 (.tmp 15) (.tmp 16),0, "move.go:23", #[⟨9,.data⟩,⟨10,.data⟩,⟨7,.guard⟩],some (7,true)⟩ ?_
  (try simp only [Act.put,kR,kS,kT])
  refine zR 12 ⟨some 18,.load 4 (.tmp 17),4, "move.go:23", #[⟨11,.data⟩,⟨7,.guard⟩],some (7,true)⟩ ?_
  (try simp only [Act.put,kR,kS,kT])
  refine zR 13 ⟨some 19,.move (.tmp 18),4, "move.go:23", #[⟨12,.data⟩,⟨7,.chain⟩,⟨7,.guard⟩],some (7,true)⟩ ?_
  (try simp only [Act.put,kR,kS,kT])
  refine zR 14 ⟨some 20,.fieldAddr 159 (.tmp 3) 5,0, "move.go:23", #[⟨13,.guard⟩],some (13,true)⟩ ?_
  (try simp only [Act.put,kR,kS,kT])
  refine zR 15 ⟨some 21,.load 73 (.tmp 20),73, "move.go:23", #[⟨14,.data⟩,⟨13,.guard⟩],some (13,true)⟩ ?_
  (try simp only [Act.put,kR,kS,kT])
  refine zR 16 ⟨some 22,.move (.tmp 0),3, "move.go:23", #[⟨13,.guard⟩],some (13,true)⟩ ?_
  (try simp only [Act.put,kR,kS,kT])
  refine zR 17 ⟨some 23,.indexAddr 73 (.tmp 21) (.tmp 22),0, "move.go:23", #[⟨15,.data⟩,⟨16,.data⟩,⟨13,.guard⟩],some (13,true)⟩ ?_
  (try simp only [Act.put,kR,kS,kT])
  refine zR 18 ⟨some 24,.load 4 (.tmp 23),4, "move.go:23", #[⟨17,.data⟩,⟨13,.guard⟩],some (13,true)⟩ ?_
  (try simp only [Act.put,kR,kS,kT])
  refine zR 19 ⟨some 25,.pick (.tmp 19) (.tmp 24) (.const (Go.Value.bool false)),4, "move.go:23", #[⟨13,.data⟩,⟨18,.data⟩,⟨7,.guard⟩],some (7,true)⟩ ?_
  (try simp only [Act.put,kR,kS,kT])
  refine zR 20 ⟨some 26,.unOp Go.UnOp.not 4 (.tmp 25),4, "move.go:23", #[⟨19,.data⟩,⟨7,.guard⟩],some (7,true)⟩ ?_
  (try simp only [Act.put,kR,kS,kT])
  refine wV 21 ⟨some 27,.pick (.tmp 13) (.tmp 26) (.const (Go.Value.bool false)),4, "move.go:23", #[⟨7,.data⟩,⟨20,.data⟩],none⟩ (v:=?_) ?_ ?_
  rotate_left 1
  ·intro w hSw;(try dsimp only at hSw);go_simp;all_goals with_reducible rfl
  (try simp only [Act.put,kR,kS,kT])
  refine wV 22 ⟨some 5,.assign (.tmp 27),4, "move.go:23", #[⟨21,.data⟩,⟨13,.chain⟩,⟨0,.phase⟩,⟨1,.phase⟩,⟨2,.phase⟩,⟨3,.phase⟩,⟨4,.phase⟩,⟨5,.phase⟩,⟨6,.phase⟩,⟨7,.phase⟩,⟨8,.phase⟩,⟨9,.phase⟩,⟨10,.phase⟩,⟨11,.phase⟩,⟨12,.phase⟩,⟨13,.phase⟩,⟨14,.phase⟩,⟨15,.phase⟩,⟨16,.phase⟩,⟨17,.phase⟩,⟨18,.phase⟩,⟨19,.phase⟩,⟨20,.phase⟩,⟨21,.phase⟩],none⟩ (v:=?_) ?_ ?_
  rotate_left 1
  ·intro w hSw;(try dsimp only at hSw);go_simp;all_goals with_reducible rfl
  (try simp only [Act.put,kR,kS,kT])
  refine wpAnyH_done kD ?_ _
  go_wp2
  go_ret
  exact ⟨aO (by rw [HBI.out,vG.out];rfl),hB2⟩
 ·have vG:=aB hq
  clear hq
  cases QY
  ·go_enter Tryz.func127,Tryz.ntmps127
   go_upto_region 1 with fail
   refine wp_region_held_drew (S:=(fun u=>u.cell? ⟨P,0,none⟩=some (.int .i64 r)∧u.cell? ⟨P,1,none⟩=some (.slice (some ⟨b,off,none⟩) ns.length cap)∧u.cell? ⟨T,0,none⟩=some (.int .i64 t.op)∧u.cell? ⟨T,1,none⟩=some (.int .i64 t.a)∧u.cell? ⟨T,2,none⟩=some (.int .i64 t.b)∧u.cell? ⟨b,off+i*6,none⟩=some (.int .i64 x.op)∧u.cell? ⟨b,off+i*6+1,none⟩=some (.int .i64 x.d)∧u.cell? ⟨b,off+i*6+2,none⟩=some (.int .i64 x.a)∧u.cell? ⟨b,off+i*6+3,none⟩=some (.int .i64 x.b)∧u.cell? ⟨b,off+i*6+4,none⟩=some (.int .i64 x.t)∧u.cell? ⟨b,off+i*6+5,none⟩=some (.int .i64 x.e)∧u.cell? ⟨D,4,none⟩=some (.slice (some ⟨b3,o3,none⟩) ns.length dc)∧u.cell? ⟨D,5,none⟩=some (.slice (some ⟨b4,o4,none⟩) ns.length ec)∧u.cell? ⟨b3,o3+i,none⟩=some (.bool false)∧u.cell? ⟨b4,o4+i,none⟩=some (.bool Q))) kD (by (try dsimp only);first | (with_reducible exact HS.out _ hB2) | exact HS.out _ (Below.refl _ w).drew | exact HS.out _ (Below.refl _ w)) (fun hHeld=>?_)
   refine wV 0 ⟨some 6,.fieldAddr 24 (.tmp 1) 1,0, "move.go:23", #[],none⟩ (v:=?_) ?_ ?_
   rotate_left 1
   ·intro w hSw;(try dsimp only at hSw);go_simp;all_goals with_reducible rfl
   (try simp only [Act.put,kR,kS,kT])
   refine wV 1 ⟨some 7,.load 22 (.tmp 6),22, "move.go:23", #[⟨0,.data⟩],none⟩ (v:=?_) ?_ ?_
   rotate_left 1
   ·intro w hSw;(try dsimp only at hSw);go_simp;all_goals with_reducible rfl
   (try simp only [Act.put,kR,kS,kT])
   refine wV 2 ⟨some 8,.move (.tmp 0),3, "move.go:23", #[],none⟩ (v:=?_) ?_ ?_
   rotate_left 1
   ·intro w hSw;(try dsimp only at hSw);go_simp;all_goals with_reducible rfl
   (try simp only [Act.put,kR,kS,kT])
   refine wV 3 ⟨some 9,.indexAddr 22 (.tmp 7) (.tmp 8),0, "move.go:23", #[⟨1,.data⟩,⟨2,.data⟩],none⟩ (v:=?_) ?_ ?_
   rotate_left 1
   ·intro w hSw;(try dsimp only at hSw);go_simp;all_goals with_reducible rfl
   (try simp only [Act.put,kR,kS,kT])
   refine wV 4 ⟨some 10,.load 42 (.tmp 9),42, "move.go:23", #[⟨3,.data⟩],none⟩ (v:=?_) ?_ ?_
   rotate_left 1
   ·intro w hSw;(try dsimp only at hSw);go_simp;all_goals with_reducible rfl
   (try simp only [Act.put,kR,kS,kT])
   refine wV 5 ⟨some 11,.load 59 (.tmp 2),59, "move.go:23", #[],none⟩ (v:=?_) ?_ ?_
   rotate_left 1
   ·intro w hSw;(try dsimp only at hSw);go_simp;all_goals with_reducible rfl
   (try simp only [Act.put,kR,kS,kT])
   refine wpAnyH_ready (rs:=[6]) kD aQ (AllReadyH.cons (o:=⟨some 12,.call { callee:=.value (.func 128),args:=#[.tmp 10,.tmp 11],argTypes:=#[42,59] },4, "move.go:23", #[⟨4,.data⟩,⟨5,.data⟩],none⟩) rfl (fun K hK=>?_) AllReadyH.nil)
   go_simp
   go_at_call 128;refine (kN x t _ HT.out).mono ?_;rintro e wa ⟨rfl,hba⟩;have hB2:Below w.heap.size w wa:=(by first | exact (Below.refl _ w).drew.trans hba | exact hba);rw [vG.out];(try go_wp2_with fail)
   refine hK.out _ _ (by (try dsimp only);first | (with_reducible exact HS.out _ hB2) | exact HS.out _ (Below.refl _ w).drew | exact HS.out _ (Below.refl _ w)) (fun hHeld=>?_)
   clear hK K
   (try simp only [Act.put,kR,kS,kT])
   refine wV 7 ⟨some 13,.move (.tmp 12),4, "move.go:23", #[⟨6,.data⟩,⟨6,.chain⟩],none⟩ (v:=?_) ?_ ?_
   rotate_left 1
   ·intro w hSw;(try dsimp only at hSw);go_simp;all_goals with_reducible rfl
   (try simp only [Act.put,kR,kS,kT])
   refine wV 8 ⟨some 14,.fieldAddr 159 (.tmp 3) 4,0, "move.go:23", #[⟨7,.guard⟩],some (7,true)⟩ (v:=?_) ?_ ?_
   rotate_left 1
   ·intro w hSw;(try dsimp only at hSw);go_simp;all_goals with_reducible rfl
   (try simp only [Act.put,kR,kS,kT])
   refine wV 9 ⟨some 15,.load 73 (.tmp 14),73, "move.go:23", #[⟨8,.data⟩,⟨7,.guard⟩],some (7,true)⟩ (v:=?_) ?_ ?_
   rotate_left 1
   ·intro w hSw;(try dsimp only at hSw);go_simp;all_goals with_reducible rfl
   (try simp only [Act.put,kR,kS,kT])
   refine wV 10 ⟨some 16,.move (.tmp 0),3, "move.go:23", #[⟨7,.guard⟩],some (7,true)⟩ (v:=?_) ?_ ?_
   rotate_left 1
   ·intro w hSw;(try dsimp only at hSw);go_simp;all_goals with_reducible rfl
   (try simp only [Act.put,kR,kS,kT])
   refine wV 11 ⟨some 17,.indexAddr 73 (.tmp 15) (.tmp 16),0, "move.go:23", #[⟨9,.data⟩,⟨10,.data⟩,⟨7,.guard⟩],some (7,true)⟩ (v:=?_) ?_ ?_
   rotate_left 1
   ·intro w hSw;(try dsimp only at hSw);go_simp;all_goals with_reducible rfl
   (try simp only [Act.put,kR,kS,kT])
   refine wV 12 ⟨some 18,.load 4 (.tmp 17),4, "move.go:23", #[⟨11,.data⟩,⟨7,.guard⟩],some (7,true)⟩ (v:=?_) ?_ ?_
   rotate_left 1
   ·intro w hSw;(try dsimp only at hSw);go_simp;all_goals with_reducible rfl
   (try simp only [Act.put,kR,kS,kT])
   refine wV 13 ⟨some 19,.move (.tmp 18),4, "move.go:23", #[⟨12,.data⟩,⟨7,.chain⟩,⟨7,.guard⟩],some (7,true)⟩ (v:=?_) ?_ ?_
   rotate_left 1
   ·intro w hSw;(try dsimp only at hSw);go_simp;all_goals with_reducible rfl
   (try simp only [Act.put,kR,kS,kT])
   refine zR 14 ⟨some 20,.fieldAddr 159 (.tmp 3) 5,0, "move.go:23", #[⟨13,.guard⟩],some (13,true)⟩ ?_
   (try simp only [Act.put,kR,kS,kT])
   refine zR 15 ⟨some 21,.load 73 (.tmp 20),73, "move.go:23", #[⟨14,.data⟩,⟨13,.guard⟩],some (13,true)⟩ ?_
   (try simp only [Act.put,kR,kS,kT])
   refine zR 16 ⟨some 22,.move (.tmp 0),3, "move.go:23", #[⟨13,.guard⟩],some (13,true)⟩ ?_
   (try simp only [Act.put,kR,kS,kT])
   refine zR 17 ⟨some 23,.indexAddr 73 (.tmp 21) (.tmp 22),0, "move.go:23", #[⟨15,.data⟩,⟨16,.data⟩,⟨13,.guard⟩],some (13,true)⟩ ?_
   (try simp only [Act.put,kR,kS,kT])
   refine zR 18 ⟨some 24,.load 4 (.tmp 23),4, "move.go:23", #[⟨17,.data⟩,⟨13,.guard⟩],some (13,true)⟩ ?_
   (try simp only [Act.put,kR,kS,kT])
   refine wV 19 ⟨some 25,.pick (.tmp 19) (.tmp 24) (.const (Go.Value.bool false)),4, "move.go:23", #[⟨13,.data⟩,⟨18,.data⟩,⟨7,.guard⟩],some (7,true)⟩ (v:=?_) ?_ ?_
   rotate_left 1
   ·intro w hSw;(try dsimp only at hSw);go_simp;all_goals with_reducible rfl
   (try simp only [Act.put,kR,kS,kT])
   refine wV 20 ⟨some 26,.unOp Go.UnOp.not 4 (.tmp 25),4, "move.go:23", #[⟨19,.data⟩,⟨7,.guard⟩],some (7,true)⟩ (v:=?_) ?_ ?_
   rotate_left 1
   ·intro w hSw;(try dsimp only at hSw);go_simp;all_goals with_reducible rfl
   (try simp only [Act.put,kR,kS,kT])
   refine wV 21 ⟨some 27,.pick (.tmp 13) (.tmp 26) (.const (Go.Value.bool false)),4, "move.go:23", #[⟨7,.data⟩,⟨20,.data⟩],none⟩ (v:=?_) ?_ ?_
   rotate_left 1
   ·intro w hSw;(try dsimp only at hSw);go_simp;all_goals with_reducible rfl
   (try simp only [Act.put,kR,kS,kT])
   refine wV 22 ⟨some 5,.assign (.tmp 27),4, "move.go:23", #[⟨21,.data⟩,⟨13,.chain⟩,⟨0,.phase⟩,⟨1,.phase⟩,⟨2,.phase⟩,⟨3,.phase⟩,⟨4,.phase⟩,⟨5,.phase⟩,⟨6,.phase⟩,⟨7,.phase⟩,⟨8,.phase⟩,⟨9,.phase⟩,⟨10,.phase⟩,⟨11,.phase⟩,⟨12,.phase⟩,⟨13,.phase⟩,⟨14,.phase⟩,⟨15,.phase⟩,⟨16,.phase⟩,⟨17,.phase⟩,⟨18,.phase⟩,⟨19,.phase⟩,⟨20,.phase⟩,⟨21,.phase⟩],none⟩ (v:=?_) ?_ ?_
   rotate_left 1
   ·intro w hSw;(try dsimp only at hSw);go_simp;all_goals with_reducible rfl
   (try simp only [Act.put,kR,kS,kT])
   refine wpAnyH_done kD ?_ _
   go_wp2
   go_ret
   exact ⟨aO (by rw [HBI.out,vG.out];rfl),hB2⟩
  ·go_enter Tryz.func127,Tryz.ntmps127
   go_upto_region 1 with fail
   go_region_held3 (fun u=>u.cell? ⟨P,0,none⟩=some (.int .i64 r)∧u.cell? ⟨P,1,none⟩=some (.slice (some ⟨b,off,none⟩) ns.length cap)∧u.cell? ⟨T,0,none⟩=some (.int .i64 t.op)∧u.cell? ⟨T,1,none⟩=some (.int .i64 t.a)∧u.cell? ⟨T,2,none⟩=some (.int .i64 t.b)∧u.cell? ⟨b,off+i*6,none⟩=some (.int .i64 x.op)∧u.cell? ⟨b,off+i*6+1,none⟩=some (.int .i64 x.d)∧u.cell? ⟨b,off+i*6+2,none⟩=some (.int .i64 x.a)∧u.cell? ⟨b,off+i*6+3,none⟩=some (.int .i64 x.b)∧u.cell? ⟨b,off+i*6+4,none⟩=some (.int .i64 x.t)∧u.cell? ⟨b,off+i*6+5,none⟩=some (.int .i64 x.e)∧u.cell? ⟨D,4,none⟩=some (.slice (some ⟨b3,o3,none⟩) ns.length dc)∧u.cell? ⟨D,5,none⟩=some (.slice (some ⟨b4,o4,none⟩) ns.length ec)∧u.cell? ⟨b3,o3+i,none⟩=some (.bool true)∧u.cell? ⟨b4,o4+i,none⟩=some (.bool Q)) (first
    | (with_reducible refine HS.out _ ?_;first | with_reducible exact hB2 | with_reducible exact (Below.refl _ w).drew | with_reducible exact (Below.refl _ w))) (first
    | (go_at_call 128;refine (kN x t _ HT.out).mono ?_;rintro e wa ⟨rfl,hba⟩;have hB2:Below w.heap.size w wa:=(by first | exact (Below.refl _ w).drew.trans hba | exact hba);rw [vG.out]))
   go_wp2
   go_ret
   exact ⟨aO (by rw [HBI.out,vG.out];rfl),hB2⟩
theorem bJ {w:World} {b k:Nat} (h:k≠b) (o:Nat) (v:Value):(w.setCell ⟨b,o,none⟩ v).heap[k]?=w.heap[k]? :=Below.heap_setCell _ _ _ _ h
theorem aBW (R1 R2:Nat→Bool) (g1 g2:Nat) (cb1 cb2:Array Value) (r:Int) (pa:Option Addr) (n cap:Nat) (w:World) (hn:n≤256)
 (eg1:∀ args w,(callFunc g1 args).run Tryz.prog w=.ok (.enter g1 args) w) (eg2:∀ args w,(callFunc g2 args).run Tryz.prog w=.ok (.enter g2 args) w)
 (hg1:∀ i,i<n→∀ W:World,Below w.heap.size w W→Calls Tryz.prog g1 (#[.int .i64 (i:Int)]++cb1) W fun e w' =>e=.returned (.bool (R1 i))∧Below W.heap.size W w')
 (hg2:∀ i,i<n→∀ W:World,Below w.heap.size w W→Calls Tryz.prog g2 (#[.int .i64 (i:Int)]++cb2) W fun e w' =>e=.returned (.bool (R2 i))∧Below W.heap.size W w') :
 Calls Tryz.prog 129 #[.agg #[.int .i64 r,.slice pa n cap],.func (.func g1) #[] cb1,.func (.func g2) #[] cb2] w fun e w' =>∃ a1 c1 a2 c2,e=.returned (.agg #[.slice a1 n c1,.slice a2 n c2])∧w'.ownsRow w.heap.size 4 1 (.slice a1 n c1) n (((List.range n).map R1).map Value.bool)∧w'.ownsRow w.heap.size 4 1 (.slice a2 n c2) n (((List.range n).map R2).map Value.bool)∧Below w.heap.size w w' :=by
 have SE:=aB (fun W (h:Below w.heap.size w W)=>sW R1 g1 cb1 n W hn eg1 (fun i hi V hV=>hg1 i hi V (bG h hV)))
 have HE2:=aB (fun W (h:Below w.heap.size w W)=>sW R2 g2 cb2 n W hn eg2 (fun i hi V hV=>hg2 i hi V (bG h hV)))
 clear hg1 hg2 eg1 eg2
 have hbA:Below w.heap.size w ((w.alloc (.cells #[.int .i64 r,.slice pa n cap] 24)).alloc (.cells #[.slice none 0 0,.slice none 0 0] 126)):=(dY).alloc aQ _
 have hp:((w.alloc (.cells #[.int .i64 r,.slice pa n cap] 24)).alloc (.cells #[.slice none 0 0,.slice none 0 0] 126)).heap[w.heap.size]?=some (.cells #[.int .i64 r,.slice pa n cap] 24 (0,0)):=(Below.heap_alloc _ _ _ aQ).trans (World.alloc_heap_new w _)
 have hq:((w.alloc (.cells #[.int .i64 r,.slice pa n cap] 24)).alloc (.cells #[.slice none 0 0,.slice none 0 0] 126)).heap[w.heap.size+1]?=some (.cells #[.slice none 0 0,.slice none 0 0] 126 (0,0)):=by
  have:=World.alloc_heap_new (w.alloc (.cells #[.int .i64 r,.slice pa n cap] 24)) (.cells #[.slice none 0 0,.slice none 0 0] 126)
  rwa [World.size_alloc] at this
 go_enter Tryz.func129,Tryz.ntmps129
 go_upto_region 1 with fail
 generalize ((w.alloc (.cells #[.int .i64 r,.slice pa n cap] 24)).alloc (.cells #[.slice none 0 0,.slice none 0 0] 126))=W at hbA hp hq ⊢
 have HH:Hid (∀ u:World,Below W.heap.size W u→u.heap[w.heap.size]?=some (.cells #[.int .i64 r,.slice pa n cap] 24 (0,0))∧u.heap[w.heap.size+1]?=some (.cells #[.slice none 0 0,.slice none 0 0] 126 (0,0))):=fun u h=>⟨bP h hp,bP h hq⟩
 have HS:Hid (∀ u:World,Below W.heap.size W u→u.cell? ⟨w.heap.size,0,none⟩=some (.int .i64 r)∧u.cell? ⟨w.heap.size,1,none⟩=some (.slice pa n cap)):=fun u h=>by
  obtain ⟨k1,_⟩:=HH.out u h
  refine ⟨?_,?_⟩
  ·rw [aA k1];rfl
  ·rw [aA k1];rfl
 have HW:=aB hbA
 clear hp hq hbA
 have XF:Hid (∀ u:World,Below W.heap.size W u→∀ k,k<2→u.cell? ⟨w.heap.size+1,k,none⟩=#[.slice none 0 0,.slice none 0 0][k]?∧u.frozen? ⟨w.heap.size+1,k,none⟩=false):=fun u h k _=>⟨aA (HH.out u h).2 k,aC (HH.out u h).2 k⟩
 have WK:Hid (∀ (u:World) (v0 v1:Value),(u.cell? ⟨w.heap.size,0,none⟩=some (.int .i64 r)∧u.cell? ⟨w.heap.size,1,none⟩=some (.slice pa n cap))→((u.setCell ⟨w.heap.size+1,0,none⟩ v0).setCell ⟨w.heap.size+1,1,none⟩ v1).cell? ⟨w.heap.size,0,none⟩=some (.int .i64 r)∧((u.setCell ⟨w.heap.size+1,0,none⟩ v0).setCell ⟨w.heap.size+1,1,none⟩ v1).cell? ⟨w.heap.size,1,none⟩=some (.slice pa n cap)):=fun u v0 v1 h=>by
  have e:∀ (B k:Nat),B≠w.heap.size+1→((u.setCell ⟨w.heap.size+1,0,none⟩ v0).setCell ⟨w.heap.size+1,1,none⟩ v1).cell? ⟨B,k,none⟩=u.cell? ⟨B,k,none⟩:=fun B k h=>World.cell?_of_block (by
   show ((u.setCell ⟨w.heap.size+1,0,none⟩ v0).setCell ⟨w.heap.size+1,1,none⟩ v1).heap[B]?=u.heap[B]?
   simp only [bJ h])
  simp only [e w.heap.size _ aF]
  exact h
 go_region_held3 (fun u=>u.cell? ⟨w.heap.size,0,none⟩=some (.int .i64 r)∧u.cell? ⟨w.heap.size,1,none⟩=some (.slice pa n cap)) (first
  | (with_reducible refine WK.out _ _ _ ?_;exact HS.out _ hB2)
  | (with_reducible refine HS.out _ ?_;first | with_reducible exact hB2 | with_reducible exact hB1 | with_reducible exact (Below.refl _ W).drew | with_reducible exact (Below.refl _ W))) (first
  | (go_at_call 171;have QD :=hB1;refine (HE2.out _ (bG HW.out hB1)).mono ?_;rintro e wb ⟨y2,rfl,hV2,hbb⟩;obtain ⟨a2,c2,rfl⟩:=aU hV2;have hB2:Below W.heap.size W wb:=bG hB1 hbb;have x0:=XF.out _ hB2 0 aL;have x1:=XF.out _ hB2 1 aL;simp at x0 x1;have xl:=aD (HH.out _ hB2).2;obtain ⟨x00,x01⟩:=x0;obtain ⟨x10,x11⟩:=x1)
  | (go_at_call 171;refine (SE.out _ (by first | exact HW.out.trans ((Below.refl _ W).drew.mono HW.out.size) | exact HW.out)).mono ?_;rintro e wa ⟨y1,rfl,hV1,hba⟩;obtain ⟨a1,c1,rfl⟩:=aU hV1;have hB1:Below W.heap.size W wa:=(by first | exact (Below.refl _ W).drew.trans hba | exact hba)))
 all_goals have hs1:=hB1.size
 all_goals have hsW:=HW.out.size
 all_goals have jU:=aB (aK (ownsRow_below hV1 hbb dD) (base' :=w.heap.size) (by (try simp);omega))
 all_goals have oG:=aB (aK hV2 (base' :=w.heap.size) (by (try simp);omega))
 all_goals have k0:=aG (i:=0) (.slice a1 n c1) (HH.out _ hB2).2
 all_goals have k1:=aG (i:=1) (.slice a2 n c2) k0
 all_goals have T1:=aI (o:=1) (u:=.slice a2 n c2) (aI (o:=0) (u:=.slice a1 n c1) jU.out (HH.out _ hB2).2 aL) k0 aL
 all_goals have T2:=aI (o:=1) (u:=.slice a2 n c2) (aI (o:=0) (u:=.slice a1 n c1) oG.out (HH.out _ hB2).2 aL) k0 aL
 all_goals have nA:=((bG HW.out hB2).setCell (p:=⟨w.heap.size+1,0,none⟩) aQ (.slice a1 n c1)).setCell (p:=⟨w.heap.size+1,1,none⟩) aQ (.slice a2 n c2)
 all_goals clear QD k0 hV1 hV2 x00 x01 x10 x11 hs1 hsW
 all_goals simp only [List.setIfInBounds_toArray,List.set_cons_zero,List.set_cons_succ] at k1
 all_goals go_wp2_with fail
 all_goals generalize ((wb.setCell ⟨w.heap.size+1,0,none⟩ (.slice a1 n c1)).setCell ⟨w.heap.size+1,1,none⟩ (.slice a2 n c2))=Wf at k1 T1 T2 nA ⊢
 all_goals have y0:=aA k1 0
 all_goals have y1:=aA k1 1
 all_goals simp at y0 y1
 all_goals exact bodyPost_ret (v:=(.agg #[.slice a1 n c1,.slice a2 n c2])) (by simp [results,Tryz.results129,go_sem,y0,y1]) rfl ⟨a1,c1,a2,c2,rfl,T1,T2,nA⟩
theorem aNN (ns:List Nd) (t:Tm):((List.range ns.length).map fun n=>aM (yS ns t) n&&aM (nC ns t) n)=wZ ns t:=by
 refine mK (by simp [wZ]) fun n hn=>?_
 have hn' :n<ns.length:=by simpa using hn
 obtain ⟨x,hx⟩:=bD hn'
 rw [mM _ hn', yS,nC,wZ,cZ hx,cZ hx,cZ hx]
theorem aSL (m B k:Nat) (rk kp:List Bool) (ka pa:Option Addr) (kc pc:Nat) (w:World) (h4:w.cell? ⟨B,4,none⟩=some (.slice ka k kc)) (h5:w.cell? ⟨B,5,none⟩=some (.slice pa k pc)) (hB:B<w.heap.size) (hk:aJ w ka rk) (hp:aJ w pa kp) (e1:rk.length=k) (e2:kp.length=k) (hm:m<k) :
 Calls Tryz.prog 199 #[.int .i64 m,.pointer (some ⟨B,0,none⟩)] w fun e w' =>e=.returned (.bool (aM kp m&&aM rk m))∧w' =w:=by
 obtain ⟨b3,o3,rfl,l3,v3⟩:=bT hk (k:=m) aF
 obtain ⟨b4,o4,rfl,l4,v4⟩:=bT hp (k:=m) aF
 have KW:(m:Int)<(k:Int):=by omega
 generalize aM rk m=R at v3 ⊢
 generalize aM kp m=K at v4 ⊢
 clear hk hp e1 e2
 cases K
 ·go_enter Tryz.func199,Tryz.ntmps199
  go_wp2
  go_ret
  exact ⟨rfl,rfl⟩
 ·go_enter Tryz.func199,Tryz.ntmps199
  go_wp2
  go_ret
  exact ⟨aO aQ,rfl⟩
theorem aXS (r:Int) (b off cap:Nat) (ns:List Nd) (t:Tm) (rb1 cK:Nat) (ka pa:Option Addr) (kc pc:Nat) (w:World) (hN:aH w b off ns) (hc:bM r ns=0) (hM:SM w ns t rb1 cK ka pa) :
 Calls Tryz.prog 166 #[.agg #[.int .i64 r,.slice (some ⟨b,off,none⟩) ns.length cap,.slice (some ⟨rb1,0,none⟩) ns.length ns.length,.slice (some ⟨cK,0,none⟩) ns.length ns.length,.slice ka ns.length kc,.slice pa ns.length pc]] w fun e w' =>∃ v,e=.returned v∧w'.ownsRow w.heap.size 4 1 v ns.length ((sV ns t).map Value.bool)∧Below w.heap.size w w' :=by
 have eg:∀ args w,(callFunc 199 args).run Tryz.prog w=.ok (.enter 199 args) w:=enters_of Tryz.func199 fJ rfl
 have hl:=(bB hc).1
 have hfc:vQ r ns (KZ ns t)=0:=BK hc (oM _) (lY _) (LW ns t) (xC ns t)
 obtain ⟨W,jU,hbA,hs⟩:=bx1 w (.cells #[.int .i64 r,.slice (some ⟨b,off,none⟩) ns.length cap,.slice (some ⟨rb1,0,none⟩) ns.length ns.length,.slice (some ⟨cK,0,none⟩) ns.length ns.length,.slice ka ns.length kc,.slice pa ns.length pc] 208)
 go_enter Tryz.func166,Tryz.ntmps166
 go_upto_region 1 with fail
 rw [jU.out]
 clear jU
 have hea:=lX (fun n=>aM (yS ns t) n&&aM (nC ns t) n) 199 #[.pointer (some ⟨w.heap.size,0,none⟩)] r (some ⟨b,off,none⟩) ns.length cap (.slice (some ⟨rb1,0,none⟩) ns.length ns.length) (.slice (some ⟨cK,0,none⟩) ns.length ns.length) (.slice ka ns.length kc) (.slice pa ns.length pc) W hl.2 eg (fun i hi U hU=>by
  have hs1:=bP hU hs
  have hm:=hM.below (bG hbA hU)
  refine (aSL i w.heap.size ns.length (nC ns t) (yS ns t) ka pa kc pc U (by rw [aA hs1];rfl) (by rw [aA hs1];rfl) (aD hs1) hm.rk hm.kp (uM ns t) (xC ns t) hi).mono ?_
  rintro e w' ⟨rfl,rfl⟩
  exact ⟨rfl,Below.refl _ _⟩)
 rw [aNN] at hea
 have HS:Hid (∀ u:World,Below W.heap.size W u→u.cell? ⟨w.heap.size,0,none⟩=some (.int .i64 r)∧u.cell? ⟨w.heap.size,1,none⟩=some (.slice (some ⟨b,off,none⟩) ns.length cap)∧u.cell? ⟨w.heap.size,2,none⟩=some (.slice (some ⟨rb1,0,none⟩) ns.length ns.length)∧u.cell? ⟨w.heap.size,3,none⟩=some (.slice (some ⟨cK,0,none⟩) ns.length ns.length)∧u.cell? ⟨w.heap.size,4,none⟩=some (.slice ka ns.length kc)∧u.cell? ⟨w.heap.size,5,none⟩=some (.slice pa ns.length pc)):=fun u h=>by
  have k1:=bP h hs
  refine ⟨?_,?_,?_,?_,?_,?_⟩
  ·rw [aA k1];rfl
  ·rw [aA k1];rfl
  ·rw [aA k1];rfl
  ·rw [aA k1];rfl
  ·rw [aA k1];rfl
  ·rw [aA k1];rfl
 have HSV:Hid (∀ (u:World),Below W.heap.size W u→∀ (na ya ba:Option Addr) (nc yc bc:Nat),aJ u na (EZ ns.length)→aJ u ya (sU ns.length)→aJ u ba (wZ ns t)→Calls Tryz.prog 196 #[.agg #[.int .i64 r,.slice (some ⟨b,off,none⟩) ns.length cap,.slice (some ⟨rb1,0,none⟩) ns.length ns.length,.slice (some ⟨cK,0,none⟩) ns.length ns.length,.slice ka ns.length kc,.slice pa ns.length pc],.agg #[.bool false,.bool false,.slice na ns.length nc,.slice ya ns.length yc,.slice ba ns.length bc,.slice pa ns.length pc]] u fun e w' =>∃ v,e=.returned v∧w'.ownsRow u.heap.size 4 1 v ns.length ((sV ns t).map Value.bool)∧Below u.heap.size u w'):=fun u h na ya ba nc yc bc h1 h2 h3=>by
  have hu:=bG hbA h
  have hm:=hM.below hu
  exact oN r b off cap ns (KZ ns t) na ya ba pa nc yc bc pc _ _ _ _ u (hN.below hu hN.lt) hfc h1 h2 h3 hm.kp
 have HW:=aB hbA
 have HEA:=aB hea
 have sl:=aD hs
 obtain ⟨s0,s1,s2,s3,s4,s5⟩:=HS.out _ (Below.refl _ W)
 clear hs hbA hM hN hc hfc hea
 go_upto_region 2 with (go_at_call 192;refine HEA.out.mono ?_;rintro e we ⟨ve,rfl,ET,hbe⟩;obtain ⟨ba,bc,rfl⟩:=aU ET)
 clear s0 s1 s2 s3 s4 s5 HEA
 go_region_held3 (fun u=>u.cell? ⟨w.heap.size,0,none⟩=some (.int .i64 r)∧u.cell? ⟨w.heap.size,1,none⟩=some (.slice (some ⟨b,off,none⟩) ns.length cap)∧u.cell? ⟨w.heap.size,2,none⟩=some (.slice (some ⟨rb1,0,none⟩) ns.length ns.length)∧u.cell? ⟨w.heap.size,3,none⟩=some (.slice (some ⟨cK,0,none⟩) ns.length ns.length)∧u.cell? ⟨w.heap.size,4,none⟩=some (.slice ka ns.length kc)∧u.cell? ⟨w.heap.size,5,none⟩=some (.slice pa ns.length pc)) (first
  | (with_reducible refine HS.out _ ?_;first | with_reducible exact hB3 | with_reducible exact hB2 | with_reducible exact hB1 | with_reducible exact hbe.drew | with_reducible exact hbe)) (first
  | (go_at_call 197;refine (xB r _ ns.length cap _ _ _ _ _ hl.2).mono ?_;rintro e wa ⟨va,rfl,hva,hba⟩;obtain ⟨na,nc,rfl⟩:=aU hva;have hE1:Below we.heap.size we wa:=(by first | exact (Below.refl _ we).drew.trans hba | exact hba);have hB1:Below W.heap.size W wa:=bG hbe hE1)
  | (go_at_call 198;refine (BJ r _ ns.length cap _ _ _ _ _ hl.2).mono ?_;rintro e wb ⟨vb,rfl,hvb,hbb⟩;obtain ⟨ya,yc,rfl⟩:=aU hvb;have hB2:Below W.heap.size W wb:=bG hB1 hbb)
  | (go_at_call 196;refine (HSV.out _ hB2 na ya ba nc yc bc (bC (ownsRow_below hva hbb dD) (oM _)) (bC hvb (lY _)) (bC (ownsRow_below (ownsRow_below ET hE1 dD) hbb dD) (LW ns t))).mono ?_;rintro e wd ⟨vd,rfl,hvd,hbd⟩;have hB3:Below W.heap.size W wd:=bG hB2 hbd))
 have HVD:=aB hvd
 have HB3:=aB hB3
 have hle:w.heap.size≤wb.heap.size:=Nat.le_trans HW.out.size hB2.size
 clear hvd hva hvb ET hba hbb hbd hbe hE1 hB1 hB2 hB3
 go_wp2
 go_ret
 exact ⟨_,rfl,aK HVD.out hle,bG HW.out HB3.out⟩
theorem aHO (r:Int) (b off cap:Nat) (ns:List Nd) (t:Tm) (rb1 cK:Nat) (ka pa ga:Option Addr) (kc pc gc:Nat) (g0 g1 g3 g4 g5:Value) (w:World) (hN:aH w b off ns) (hc:bM r ns=0) (hM:SM w ns t rb1 cK ka pa) (hG:aJ w ga (dA ns t)) :
 Calls Tryz.prog 168 #[.agg #[.int .i64 r,.slice (some ⟨b,off,none⟩) ns.length cap,.slice (some ⟨rb1,0,none⟩) ns.length ns.length,.slice (some ⟨cK,0,none⟩) ns.length ns.length,.slice ka ns.length kc,.slice pa ns.length pc],.agg #[g0,g1,.slice ga ns.length gc,g3,g4,g5]] w fun e w' =>∃ v,e=.returned v∧w'.ownsRow w.heap.size 4 1 v ns.length ((dH ns t).map Value.bool)∧Below w.heap.size w w' :=by
 have hl:=(bB hc).1
 have hfc:vQ r ns (eZ ns t)=0:=BK hc (by simp [dA,eZ]) (lY _) (oM _) (xD ns t)
 obtain ⟨W,oG,hbA,hs,hf⟩:=VP w (.cells #[.int .i64 r,.slice (some ⟨b,off,none⟩) ns.length cap,.slice (some ⟨rb1,0,none⟩) ns.length ns.length,.slice (some ⟨cK,0,none⟩) ns.length ns.length,.slice ka ns.length kc,.slice pa ns.length pc] 208) (.cells #[g0,g1,.slice ga ns.length gc,g3,g4,g5] 159)
 go_enter Tryz.func168,Tryz.ntmps168
 go_upto_region 1 with fail
 rw [oG.out]
 clear oG
 have HS:Hid (∀ u:World,Below W.heap.size W u→u.cell? ⟨w.heap.size,0,none⟩=some (.int .i64 r)∧u.cell? ⟨w.heap.size,1,none⟩=some (.slice (some ⟨b,off,none⟩) ns.length cap)∧u.cell? ⟨w.heap.size,2,none⟩=some (.slice (some ⟨rb1,0,none⟩) ns.length ns.length)∧u.cell? ⟨w.heap.size,3,none⟩=some (.slice (some ⟨cK,0,none⟩) ns.length ns.length)∧u.cell? ⟨w.heap.size,4,none⟩=some (.slice ka ns.length kc)∧u.cell? ⟨w.heap.size,5,none⟩=some (.slice pa ns.length pc)∧u.cell? ⟨w.heap.size+1,2,none⟩=some (.slice ga ns.length gc)):=fun u h=>by
  have k1:=bP h hs
  have k2:=bP h hf
  refine ⟨?_,?_,?_,?_,?_,?_,?_⟩
  ·rw [aA k1];rfl
  ·rw [aA k1];rfl
  ·rw [aA k1];rfl
  ·rw [aA k1];rfl
  ·rw [aA k1];rfl
  ·rw [aA k1];rfl
  ·rw [aA k2];rfl
 have HSV:Hid (∀ (u:World),Below W.heap.size W u→∀ (na ya qa:Option Addr) (nc yc qc:Nat),aJ u na (EZ ns.length)→aJ u ya (sU ns.length)→aJ u qa (yT ns t)→Calls Tryz.prog 196 #[.agg #[.int .i64 r,.slice (some ⟨b,off,none⟩) ns.length cap,.slice (some ⟨rb1,0,none⟩) ns.length ns.length,.slice (some ⟨cK,0,none⟩) ns.length ns.length,.slice ka ns.length kc,.slice pa ns.length pc],.agg #[.bool false,.bool false,.slice ga ns.length gc,.slice ya ns.length yc,.slice na ns.length nc,.slice qa ns.length qc]] u fun e w' =>∃ v,e=.returned v∧w'.ownsRow u.heap.size 4 1 v ns.length ((dH ns t).map Value.bool)∧Below u.heap.size u w'):=fun u h na ya qa nc yc qc h1 h2 h3=>by
  have hu:=bG hbA h
  exact oN r b off cap ns (eZ ns t) ga ya na qa gc yc nc qc _ _ _ _ u (hN.below hu hN.lt) hfc (hG.below hu) h2 h1 h3
 have HNR:Hid (∀ (u:World),Below W.heap.size W u→Calls Tryz.prog 202 #[.agg #[.int .i64 r,.slice (some ⟨b,off,none⟩) ns.length cap,.slice (some ⟨rb1,0,none⟩) ns.length ns.length,.slice (some ⟨cK,0,none⟩) ns.length ns.length,.slice ka ns.length kc,.slice pa ns.length pc]] u fun e w' =>∃ v,e=.returned v∧w'.ownsRow u.heap.size 4 1 v ns.length ((yT ns t).map Value.bool)∧Below u.heap.size u w'):=fun u h=>by
  have hm:=hM.below (bG hbA h)
  have:=qE r b off cap ns (nC ns t) ka kc (.slice (some ⟨rb1,0,none⟩) ns.length ns.length) (.slice (some ⟨cK,0,none⟩) ns.length ns.length) (.slice pa ns.length pc) u hm.rk (uM ns t) hl.2
  rw [aEF] at this
  exact this
 have HW:=aB hbA
 have sl:=aD hs
 have fl:=aD hf
 clear hs hf hbA hM hN hc hfc hG
 go_region_held3 (fun u=>u.cell? ⟨w.heap.size,0,none⟩=some (.int .i64 r)∧u.cell? ⟨w.heap.size,1,none⟩=some (.slice (some ⟨b,off,none⟩) ns.length cap)∧u.cell? ⟨w.heap.size,2,none⟩=some (.slice (some ⟨rb1,0,none⟩) ns.length ns.length)∧u.cell? ⟨w.heap.size,3,none⟩=some (.slice (some ⟨cK,0,none⟩) ns.length ns.length)∧u.cell? ⟨w.heap.size,4,none⟩=some (.slice ka ns.length kc)∧u.cell? ⟨w.heap.size,5,none⟩=some (.slice pa ns.length pc)∧u.cell? ⟨w.heap.size+1,2,none⟩=some (.slice ga ns.length gc)) (first
  | (with_reducible refine HS.out _ ?_;first | with_reducible exact hB4 | with_reducible exact hB3 | with_reducible exact hB2 | with_reducible exact hB1 | with_reducible exact (Below.refl _ W).drew | with_reducible exact (Below.refl _ W))) (first
  | (go_at_call 198;refine (BJ r _ ns.length cap _ _ _ _ _ hl.2).mono ?_;rintro e w1 ⟨v1,rfl,hv1,hb1⟩;obtain ⟨ya,yc,rfl⟩:=aU hv1;have hB1:Below W.heap.size W w1:=(by first | exact (Below.refl _ W).drew.trans hb1 | exact hb1))
  | (go_at_call 197;refine (xB r _ ns.length cap _ _ _ _ _ hl.2).mono ?_;rintro e w2 ⟨v2,rfl,hv2,hb2⟩;obtain ⟨na,nc,rfl⟩:=aU hv2;have hB2:Below W.heap.size W w2:=bG hB1 hb2)
  | (go_at_call 202;refine (HNR.out _ hB2).mono ?_;rintro e w3 ⟨v3,rfl,hv3,hb3⟩;obtain ⟨qa,qc,rfl⟩:=aU hv3;have hB3:Below W.heap.size W w3:=bG hB2 hb3)
  | (go_at_call 196;refine (HSV.out _ hB3 na ya qa nc yc qc (bC (ownsRow_below hv2 hb3 dD) (oM _)) (bC (ownsRow_below (ownsRow_below hv1 hb2 dD) hb3 dD) (lY _)) (bC hv3 (xD ns t))).mono ?_;rintro e wd ⟨vd,rfl,hvd,hbd⟩;have hB4:Below W.heap.size W wd:=bG hB3 hbd))
 have HVD:=aB hvd
 have kP:=aB hB4
 have hle:w.heap.size≤w3.heap.size:=Nat.le_trans HW.out.size hB3.size
 clear hvd hv1 hv2 hv3 hb1 hb2 hb3 hbd hB1 hB2 hB3 hB4
 go_wp2
 go_ret
 exact ⟨_,rfl,aK HVD.out hle,bG HW.out kP.out⟩
theorem aHP (r:Int) (b off cap:Nat) (ns:List Nd) (t:Tm) (rb1 cK:Nat) (ka pa ga:Option Addr) (kc pc gc:Nat) (g0 g1 g2 g3 g5:Value) (w:World) (hN:aH w b off ns) (hc:bM r ns=0) (hM:SM w ns t rb1 cK ka pa) (hG:aJ w ga (dI ns t)) :
 Calls Tryz.prog 170 #[.agg #[.int .i64 r,.slice (some ⟨b,off,none⟩) ns.length cap,.slice (some ⟨rb1,0,none⟩) ns.length ns.length,.slice (some ⟨cK,0,none⟩) ns.length ns.length,.slice ka ns.length kc,.slice pa ns.length pc],.agg #[g0,g1,g2,g3,.slice ga ns.length gc,g5]] w fun e w' =>∃ v,e=.returned v∧w'.ownsRow w.heap.size 4 1 v ns.length ((fA ns t).map Value.bool)∧Below w.heap.size w w' :=by
 have hl:=(bB hc).1
 have hfc:vQ r ns (fT ns t)=0:=BK hc (oM _) (lY _) (by simp [dI,fT]) (xD ns t)
 obtain ⟨W,yL,hbA,hs,hf⟩:=VP w (.cells #[.int .i64 r,.slice (some ⟨b,off,none⟩) ns.length cap,.slice (some ⟨rb1,0,none⟩) ns.length ns.length,.slice (some ⟨cK,0,none⟩) ns.length ns.length,.slice ka ns.length kc,.slice pa ns.length pc] 208) (.cells #[g0,g1,g2,g3,.slice ga ns.length gc,g5] 159)
 go_enter Tryz.func170,Tryz.ntmps170
 go_upto_region 1 with fail
 rw [yL.out]
 clear yL
 have HS:Hid (∀ u:World,Below W.heap.size W u→u.cell? ⟨w.heap.size,0,none⟩=some (.int .i64 r)∧u.cell? ⟨w.heap.size,1,none⟩=some (.slice (some ⟨b,off,none⟩) ns.length cap)∧u.cell? ⟨w.heap.size,2,none⟩=some (.slice (some ⟨rb1,0,none⟩) ns.length ns.length)∧u.cell? ⟨w.heap.size,3,none⟩=some (.slice (some ⟨cK,0,none⟩) ns.length ns.length)∧u.cell? ⟨w.heap.size,4,none⟩=some (.slice ka ns.length kc)∧u.cell? ⟨w.heap.size,5,none⟩=some (.slice pa ns.length pc)∧u.cell? ⟨w.heap.size+1,4,none⟩=some (.slice ga ns.length gc)):=fun u h=>by
  have k1:=bP h hs
  have k2:=bP h hf
  refine ⟨?_,?_,?_,?_,?_,?_,?_⟩
  ·rw [aA k1];rfl
  ·rw [aA k1];rfl
  ·rw [aA k1];rfl
  ·rw [aA k1];rfl
  ·rw [aA k1];rfl
  ·rw [aA k1];rfl
  ·rw [aA k2];rfl
 have HSV:Hid (∀ (u:World),Below W.heap.size W u→∀ (na ya qa:Option Addr) (nc yc qc:Nat),aJ u na (EZ ns.length)→aJ u ya (sU ns.length)→aJ u qa (yT ns t)→Calls Tryz.prog 196 #[.agg #[.int .i64 r,.slice (some ⟨b,off,none⟩) ns.length cap,.slice (some ⟨rb1,0,none⟩) ns.length ns.length,.slice (some ⟨cK,0,none⟩) ns.length ns.length,.slice ka ns.length kc,.slice pa ns.length pc],.agg #[.bool true,.bool true,.slice na ns.length nc,.slice ya ns.length yc,.slice ga ns.length gc,.slice qa ns.length qc]] u fun e w' =>∃ v,e=.returned v∧w'.ownsRow u.heap.size 4 1 v ns.length ((fA ns t).map Value.bool)∧Below u.heap.size u w'):=fun u h na ya qa nc yc qc h1 h2 h3=>by
  have hu:=bG hbA h
  exact oN r b off cap ns (fT ns t) na ya ga qa nc yc gc qc _ _ _ _ u (hN.below hu hN.lt) hfc h1 h2 (hG.below hu) h3
 have HNR:Hid (∀ (u:World),Below W.heap.size W u→Calls Tryz.prog 202 #[.agg #[.int .i64 r,.slice (some ⟨b,off,none⟩) ns.length cap,.slice (some ⟨rb1,0,none⟩) ns.length ns.length,.slice (some ⟨cK,0,none⟩) ns.length ns.length,.slice ka ns.length kc,.slice pa ns.length pc]] u fun e w' =>∃ v,e=.returned v∧w'.ownsRow u.heap.size 4 1 v ns.length ((yT ns t).map Value.bool)∧Below u.heap.size u w'):=fun u h=>by
  have hm:=hM.below (bG hbA h)
  have:=qE r b off cap ns (nC ns t) ka kc (.slice (some ⟨rb1,0,none⟩) ns.length ns.length) (.slice (some ⟨cK,0,none⟩) ns.length ns.length) (.slice pa ns.length pc) u hm.rk (uM ns t) hl.2
  rw [aEF] at this
  exact this
 have HW:=aB hbA
 have sl:=aD hs
 have fl:=aD hf
 clear hs hf hbA hM hN hc hfc hG
 go_region_held3 (fun u=>u.cell? ⟨w.heap.size,0,none⟩=some (.int .i64 r)∧u.cell? ⟨w.heap.size,1,none⟩=some (.slice (some ⟨b,off,none⟩) ns.length cap)∧u.cell? ⟨w.heap.size,2,none⟩=some (.slice (some ⟨rb1,0,none⟩) ns.length ns.length)∧u.cell? ⟨w.heap.size,3,none⟩=some (.slice (some ⟨cK,0,none⟩) ns.length ns.length)∧u.cell? ⟨w.heap.size,4,none⟩=some (.slice ka ns.length kc)∧u.cell? ⟨w.heap.size,5,none⟩=some (.slice pa ns.length pc)∧u.cell? ⟨w.heap.size+1,4,none⟩=some (.slice ga ns.length gc)) (first
  | (with_reducible refine HS.out _ ?_;first | with_reducible exact hB4 | with_reducible exact hB3 | with_reducible exact hB2 | with_reducible exact hB1 | with_reducible exact (Below.refl _ W).drew | with_reducible exact (Below.refl _ W))) (first
  | (go_at_call 197;refine (xB r _ ns.length cap _ _ _ _ _ hl.2).mono ?_;rintro e w1 ⟨v1,rfl,hv1,hb1⟩;obtain ⟨na,nc,rfl⟩:=aU hv1;have hB1:Below W.heap.size W w1:=(by first | exact (Below.refl _ W).drew.trans hb1 | exact hb1))
  | (go_at_call 198;refine (BJ r _ ns.length cap _ _ _ _ _ hl.2).mono ?_;rintro e w2 ⟨v2,rfl,hv2,hb2⟩;obtain ⟨ya,yc,rfl⟩:=aU hv2;have hB2:Below W.heap.size W w2:=bG hB1 hb2)
  | (go_at_call 202;refine (HNR.out _ hB2).mono ?_;rintro e w3 ⟨v3,rfl,hv3,hb3⟩;obtain ⟨qa,qc,rfl⟩:=aU hv3;have hB3:Below W.heap.size W w3:=bG hB2 hb3)
  | (go_at_call 196;refine (HSV.out _ hB3 na ya qa nc yc qc (bC (ownsRow_below (ownsRow_below hv1 hb2 dD) hb3 dD) (oM _)) (bC (ownsRow_below hv2 hb3 dD) (lY _)) (bC hv3 (xD ns t))).mono ?_;rintro e wd ⟨vd,rfl,hvd,hbd⟩;have hB4:Below W.heap.size W wd:=bG hB3 hbd))
 have HVD:=aB hvd
 have kP:=aB hB4
 have hle:w.heap.size≤w3.heap.size:=Nat.le_trans HW.out.size hB3.size
 clear hvd hv1 hv2 hv3 hb1 hb2 hb3 hbd hB1 hB2 hB3 hB4
 go_wp2
 go_ret
 exact ⟨_,rfl,aK HVD.out hle,bG HW.out kP.out⟩
theorem vH (R:Int→Bool) (g:Nat) (cb:Array Value) (a:Option Addr) (cap:Nat) (zs:List Int) (w:World) (hz:dW w a zs) (hl:zs.length≤140737488351232)
 (eg:∀ args w,(callFunc g args).run Tryz.prog w=.ok (.enter g args) w)
 (hg:∀ z∈zs,Calls Tryz.prog g (#[.int .i64 z]++cb) w fun e w' =>e=.returned (.bool (R z))∧w' =w) :
 Calls Tryz.prog 13 #[.slice a zs.length cap,.func (.func g) #[] cb] w fun e w' =>e=.returned (.bool (zs.all R))∧w' =w:=by
 go_enter Tryz.func13,Tryz.ntmps13
 have HG:=aB hg
 clear hg
 go_wp2
 go_loopw [9] (fun i wr=>∃ k:Nat,k≤zs.length∧i=.int .i64 k∧Hid ((zs.take k).all R=true)∧wr=w) (fun i _=>zs.length-(intOf i).toNat)
 case atStart=>exact ⟨0,Nat.zero_le _,rfl,rfl,rfl⟩
 case round =>
  obtain ⟨k,hk,rfl,hA,rfl⟩:=hrel
  by_cases hlt:k<zs.length
  ·obtain ⟨z,hz'⟩:=bD hlt
   obtain ⟨b,off,rfl,hbl,hc⟩:=hz.at hlt
   have c0:=hc k z hz'
   have HX:Hid (zs[k]?=some z):=hz'
   have hm:z∈zs:=List.mem_of_getElem? hz'
   clear hz' hc
   go_wp2_with fail
   refine (HG.out z hm).mono ?_
   rintro e w1 ⟨rfl,rfl⟩
   cases hR:R z
   ·go_wp2
    go_ret
    exact ⟨aO (dQ R HX.out hR).symm,rfl⟩
   ·go_wp2
    go_roundw
    case rel=>exact ⟨k+1,aF,by go_num,(by show _=_;rw [fE _ HX.out,hA.out,hR];rfl),trivial⟩
    case measure=>simp [intOf];omega
  ·go_wp2
   go_ret
   refine ⟨aO ?_,rfl⟩
   rw [← hA.out,fV aF]
theorem WX (m B k:Nat) (dl:List Bool) (da:Option Addr) (dc:Nat) (w:World) (h3:w.cell? ⟨B,3,none⟩=some (.slice da k dc)) (hB:B<w.heap.size) (hd:aJ w da dl) (e1:dl.length=k) (hm:m<k) :
 Calls Tryz.prog 203 #[.int .i64 m,.pointer (some ⟨B,0,none⟩)] w fun e w' =>e=.returned (.bool (aM dl m))∧w' =w:=by
 obtain ⟨b3,o3,rfl,l3,v3⟩:=bT hd (k:=m) aF
 have KW:(m:Int)<(k:Int):=by omega
 generalize aM dl m=P at v3 ⊢
 clear hd e1
 go_enter Tryz.func203,Tryz.ntmps203
 go_wp2
 go_ret
 exact ⟨rfl,rfl⟩
theorem WY (n FB SB GB k rb1:Nat) (F:Nat→List Nat) (dl rk:List Bool) (da ka:Option Addr) (dc kc:Nat) (w:World) (h3:w.cell? ⟨FB,3,none⟩=some (.slice da k dc)) (s4:w.cell? ⟨SB,4,none⟩=some (.slice ka k kc)) (s2:w.cell? ⟨SB,2,none⟩=some (.slice (some ⟨rb1,0,none⟩) k k)) (hg:w.cell? ⟨GB,0,none⟩=some (.func (.func 203) #[] #[.pointer (some ⟨FB,0,none⟩)]))
 (hF:FB<w.heap.size) (hS:SB<w.heap.size) (hG:GB<w.heap.size) (hd:aJ w da dl) (hk:aJ w ka rk) (hR:qC w rb1 k F) (e1:dl.length=k) (e2:rk.length=k) (hn:n<k) (hFl:∀ m,(F m).length≤k) (hFm:∀ m j,j∈F m→j<k) (hk256:k≤256) :
 Calls Tryz.prog 204 #[.int .i64 n,.pointer (some ⟨FB,0,none⟩),.pointer (some ⟨SB,0,none⟩),.pointer (some ⟨GB,0,none⟩)] w fun e w' =>e=.returned (.bool (aM dl n&&(aM rk n||!(F n).all fun m=>aM dl m)))∧Below w.heap.size w w' :=by
 have eg:∀ args w,(callFunc 203 args).run Tryz.prog w=.ok (.enter 203 args) w:=enters_of Tryz.func203 fJ rfl
 obtain ⟨ra,rc,hrc,hI⟩:=hR.row n hn
 have hrl:=hR.lt
 have hni:(n:Int)<(k:Int):=by omega
 have hev:∀ q,Calls Tryz.prog 13 #[.slice ra (F n).length rc,.func (.func 203) #[] #[.pointer (some ⟨FB,0,none⟩)]] (w.drewN q) fun e w' =>e=.returned (.bool ((F n).all fun m=>aM dl m))∧w' =w.drewN q:=fun q=>by
  have hb:=below_drewN (Below.refl w.heap.size w) q
  have h:=vH (fun z=>aM dl z.toNat) 203 #[.pointer (some ⟨FB,0,none⟩)] ra rc (ints (F n)) (w.drewN q) (hI.below hb) (by rw [bX];have:=hFl n;omega) eg (fun z hz=>by
   obtain ⟨m,hm,rfl⟩:=List.mem_map.1 hz
   exact WX m FB k dl da dc _ ((hb.cell (p:=⟨FB,3,none⟩) hF).trans h3) (Nat.lt_of_lt_of_le hF hb.size) (hd.below hb) e1 (hFm n m hm))
  rw [bX] at h
  have e:((ints (F n)).all fun z=>aM dl z.toNat)=(F n).all fun m=>aM dl m:=by simp [ints,List.all_map,Function.comp_def]
  rw [e] at h
  exact h
 obtain ⟨b3,o3,rfl,l3,v3⟩:=bT hd (k:=n) aF
 obtain ⟨b4,o4,rfl,l4,v4⟩:=bT hk (k:=n) aF
 generalize ((F n).all fun m=>aM dl m)=E at hev ⊢
 generalize aM dl n=D at v3 ⊢
 generalize aM rk n=K at v4 ⊢
 have HEV:=aB hev
 clear hev hI hR hd hk e1 e2 hFl hFm
 cases D
 ·go_enter Tryz.func204,Tryz.ntmps204
  go_wp2
  go_quiet (fail)
  go_wp2
  go_ret
  exact ⟨rfl,below_drewN (Below.refl _ _) _⟩
 ·cases K
  ·go_enter Tryz.func204,Tryz.ntmps204
   go_wp2
   go_quiet (first | (go_at_call 13;exact Calls.quiet_of_same (HEV.out _)))
   go_wp2
   go_ret
   exact ⟨aO aQ,below_drewN (Below.refl _ _) _⟩
  ·go_enter Tryz.func204,Tryz.ntmps204
   go_wp2
   go_quiet (fail)
   go_wp2
   go_ret
   exact ⟨aO aQ,below_drewN (Below.refl _ _) _⟩
theorem aBX (r:Int) (b off cap:Nat) (ns:List Nd) (t:Tm) (rb1 cK:Nat) (ka pa da:Option Addr) (kc pc dc:Nat) (g0 g1 g2 g4 g5:Value) (w:World) (hl:ns.length≤256) (hM:SM w ns t rb1 cK ka pa) (hd:aJ w da (dH ns t)) :
 Calls Tryz.prog 169 #[.agg #[.int .i64 r,.slice (some ⟨b,off,none⟩) ns.length cap,.slice (some ⟨rb1,0,none⟩) ns.length ns.length,.slice (some ⟨cK,0,none⟩) ns.length ns.length,.slice ka ns.length kc,.slice pa ns.length pc],.agg #[g0,g1,g2,.slice da ns.length dc,g4,g5]] w fun e w' =>∃ v,e=.returned v∧w'.ownsRow w.heap.size 4 1 v ns.length ((dI ns t).map Value.bool)∧Below w.heap.size w w' :=by
 have eg:∀ args w,(callFunc 204 args).run Tryz.prog w=.ok (.enter 204 args) w:=enters_of Tryz.func204 fJ rfl
 obtain ⟨W,zW,hbA,hs,hf,hg⟩:=JE w (.cells #[.int .i64 r,.slice (some ⟨b,off,none⟩) ns.length cap,.slice (some ⟨rb1,0,none⟩) ns.length ns.length,.slice (some ⟨cK,0,none⟩) ns.length ns.length,.slice ka ns.length kc,.slice pa ns.length pc] 208) (.cells #[g0,g1,g2,.slice da ns.length dc,g4,g5] 159) (.cells #[.func (.func 203) #[] #[.pointer (some ⟨w.heap.size+1,0,none⟩)]] 38)
 rw [show w.heap.size+2=w.heap.size+1+1 from rfl] at hg
 go_enter Tryz.func169,Tryz.ntmps169
 go_upto_region 2 with fail
 rw [zW.out]
 clear zW
 have hea:=lX (fun n=>aM (dH ns t) n&&(aM (nC ns t) n||!(iQ ns n).all fun m=>aM (dH ns t) m)) 204 #[.pointer (some ⟨w.heap.size+1,0,none⟩),.pointer (some ⟨w.heap.size,0,none⟩),.pointer (some ⟨w.heap.size+1+1,0,none⟩)] r (some ⟨b,off,none⟩) ns.length cap (.slice (some ⟨rb1,0,none⟩) ns.length ns.length) (.slice (some ⟨cK,0,none⟩) ns.length ns.length) (.slice ka ns.length kc) (.slice pa ns.length pc) W hl eg (fun i hi U hU=>by
  have k1:=bP hU hs
  have k2:=bP hU hf
  have k3:=bP hU hg
  have hu:=bG hbA hU
  have hm:=hM.below hu
  exact WY i (w.heap.size+1) w.heap.size (w.heap.size+1+1) ns.length rb1 (iQ ns) (dH ns t) (nC ns t) da ka dc kc U (by rw [aA k2];rfl) (by rw [aA k1];rfl) (by rw [aA k1];rfl) (by rw [aA k3];rfl) (aD k2) (aD k1) (aD k3) (hd.below hu) hm.rk hm.nx (fI ns _) (uM ns t) hi (uK ns) (fun m j h=>(iY.1 h).1) hl)
 have s0:=aA hs 0
 have s1:=aA hs 1
 have s2:=aA hs 2
 have s3:=aA hs 3
 have s4:=aA hs 4
 have s5:=aA hs 5
 simp at s0 s1 s2 s3 s4 s5
 have sl:=aD hs
 have HEA:=aB hea
 have HW:=aB hbA
 clear hea hs hf hg hbA hM hd
 go_wp2_with fail
 refine HEA.out.mono ?_
 rintro e w1 ⟨v,rfl,hv,hb1⟩
 have HV:=aB hv
 clear hv
 go_wp2
 go_ret
 exact ⟨_,rfl,aK HV.out HW.out.size,bG HW.out hb1⟩
theorem aBY (m SB FB k:Nat) (kp dl ul:List Bool) (pa da ua:Option Addr) (pc dc uc:Nat) (w:World) (s5:w.cell? ⟨SB,5,none⟩=some (.slice pa k pc)) (f0:w.cell? ⟨FB,0,none⟩=some (.slice da k dc)) (f1:w.cell? ⟨FB,1,none⟩=some (.slice ua k uc)) (hS:SB<w.heap.size) (hF:FB<w.heap.size) (hp:aJ w pa kp) (hd:aJ w da dl) (hu:aJ w ua ul) (e1:kp.length=k) (e2:dl.length=k) (e3:ul.length=k) (hm:m<k) :
 Calls Tryz.prog 200 #[.int .i64 m,.pointer (some ⟨SB,0,none⟩),.pointer (some ⟨FB,0,none⟩)] w fun e w' =>e=.returned (.bool (aM kp m&&(aM dl m||aM ul m)))∧w' =w:=by
 obtain ⟨b3,o3,rfl,l3,v3⟩:=bT hp (k:=m) aF
 obtain ⟨b4,o4,rfl,l4,v4⟩:=bT hd (k:=m) aF
 obtain ⟨b5,o5,rfl,l5,v5⟩:=bT hu (k:=m) aF
 have KW:(m:Int)<(k:Int):=by omega
 generalize aM kp m=K at v3 ⊢
 generalize aM dl m=D at v4 ⊢
 generalize aM ul m=U at v5 ⊢
 clear hp hd hu e1 e2 e3
 cases K
 ·go_enter Tryz.func200,Tryz.ntmps200
  go_wp2
  go_ret
  exact ⟨rfl,rfl⟩
 ·cases D
  ·go_enter Tryz.func200,Tryz.ntmps200
   go_wp2
   go_ret
   exact ⟨aO aQ,rfl⟩
  ·go_enter Tryz.func200,Tryz.ntmps200
   go_wp2
   go_ret
   exact ⟨rfl,rfl⟩
theorem aBZ (n FB SB GB k cK:Nat) (F:Nat→List Nat) (kp dl ul:List Bool) (pa da ua:Option Addr) (pc dc uc:Nat) (w:World) (s5:w.cell? ⟨SB,5,none⟩=some (.slice pa k pc)) (s3:w.cell? ⟨SB,3,none⟩=some (.slice (some ⟨cK,0,none⟩) k k)) (f0:w.cell? ⟨FB,0,none⟩=some (.slice da k dc)) (f1:w.cell? ⟨FB,1,none⟩=some (.slice ua k uc)) (hg:w.cell? ⟨GB,0,none⟩=some (.func (.func 200) #[] #[.pointer (some ⟨SB,0,none⟩),.pointer (some ⟨FB,0,none⟩)]))
 (hF:FB<w.heap.size) (hS:SB<w.heap.size) (hG:GB<w.heap.size) (hp:aJ w pa kp) (hd:aJ w da dl) (hu:aJ w ua ul) (hR:qC w cK k F) (e1:kp.length=k) (e2:dl.length=k) (e3:ul.length=k) (hn:n<k) (hFl:∀ m,(F m).length≤k) (hFm:∀ m j,j∈F m→j<k) (hk256:k≤256) :
 Calls Tryz.prog 201 #[.int .i64 n,.pointer (some ⟨FB,0,none⟩),.pointer (some ⟨SB,0,none⟩),.pointer (some ⟨GB,0,none⟩)] w fun e w' =>e=.returned (.bool (aM dl n&&((F n).isEmpty||!(F n).all fun m=>aM kp m&&(aM dl m||aM ul m))))∧Below w.heap.size w w' :=by
 have eg:∀ args w,(callFunc 200 args).run Tryz.prog w=.ok (.enter 200 args) w:=enters_of Tryz.func200 fJ rfl
 obtain ⟨ra,rc,hrc,hI⟩:=hR.row n hn
 have hrl:=hR.lt
 have hni:(n:Int)<(k:Int):=by omega
 have hev:∀ q,Calls Tryz.prog 13 #[.slice ra (F n).length rc,.func (.func 200) #[] #[.pointer (some ⟨SB,0,none⟩),.pointer (some ⟨FB,0,none⟩)]] (w.drewN q) fun e w' =>e=.returned (.bool ((F n).all fun m=>aM kp m&&(aM dl m||aM ul m)))∧w' =w.drewN q:=fun q=>by
  have hb:=below_drewN (Below.refl w.heap.size w) q
  have h:=vH (fun z=>aM kp z.toNat&&(aM dl z.toNat||aM ul z.toNat)) 200 #[.pointer (some ⟨SB,0,none⟩),.pointer (some ⟨FB,0,none⟩)] ra rc (ints (F n)) (w.drewN q) (hI.below hb) (by rw [bX];have:=hFl n;omega) eg (fun z hz=>by
   obtain ⟨m,hm,rfl⟩:=List.mem_map.1 hz
   exact aBY m SB FB k kp dl ul pa da ua pc dc uc _ ((hb.cell (p:=⟨SB,5,none⟩) hS).trans s5) ((hb.cell (p:=⟨FB,0,none⟩) hF).trans f0) ((hb.cell (p:=⟨FB,1,none⟩) hF).trans f1) (Nat.lt_of_lt_of_le hS hb.size) (Nat.lt_of_lt_of_le hF hb.size) (hp.below hb) (hd.below hb) (hu.below hb) e1 e2 e3 (hFm n m hm))
  rw [bX] at h
  have e:((ints (F n)).all fun z=>aM kp z.toNat&&(aM dl z.toNat||aM ul z.toNat))=(F n).all fun m=>aM kp m&&(aM dl m||aM ul m):=by simp [ints,List.all_map,Function.comp_def]
  rw [e] at h
  exact h
 have HE:Hid ((F n).isEmpty=decide ((F n).length=0)):=by show _=_;cases F n <;> simp
 obtain ⟨b3,o3,rfl,l3,v3⟩:=bT hd (k:=n) aF
 generalize ((F n).all fun m=>aM kp m&&(aM dl m||aM ul m))=E at hev ⊢
 generalize (F n).isEmpty=Z at HE ⊢
 generalize (F n).length=len at HE hev hrc
 generalize aM dl n=D at v3 ⊢
 have HEV:=aB hev
 clear hev hI hR hd hp hu e1 e2 e3 hFl hFm
 cases D
 ·go_enter Tryz.func201,Tryz.ntmps201
  go_wp2
  go_quiet (fail)
  go_wp2
  go_ret
  exact ⟨rfl,below_drewN (Below.refl _ _) _⟩
 ·rcases Nat.eq_zero_or_pos len with rfl | hpos
  ·obtain rfl:Z=true:=by rw [HE.out];simp
   go_enter Tryz.func201,Tryz.ntmps201
   go_wp2
   go_quiet (fail)
   go_wp2
   go_ret
   exact ⟨aO aQ,below_drewN (Below.refl _ _) _⟩
  ·obtain rfl:Z=false:=by rw [HE.out];simp;omega
   have hz0:¬ len=0:=by omega
   have hdl:decide (len=0)=false:=by simp [hz0]
   have hdm:((len:Int)==0)=false:=by rw [beq_eq_false_iff_ne];omega
   have hdn:(len==0)=false:=by rw [beq_eq_false_iff_ne];exact hz0
   go_enter Tryz.func201,Tryz.ntmps201
   go_wp2
   go_quiet (first | (go_at_call 13;exact Calls.quiet_of_same (HEV.out _)))
   go_wp2
   go_ret
   exact ⟨aO aQ,below_drewN (Below.refl _ _) _⟩
theorem QE (r:Int) (b off cap:Nat) (ns:List Nd) (t:Tm) (rb1 cK:Nat) (ka pa da ua:Option Addr) (kc pc dc uc:Nat) (g2 g3 g4 g5:Value) (w:World) (hl:ns.length≤256) (hM:SM w ns t rb1 cK ka pa) (hd:aJ w da (dG ns t)) (hup:aJ w ua (sV ns t)) :
 Calls Tryz.prog 167 #[.agg #[.int .i64 r,.slice (some ⟨b,off,none⟩) ns.length cap,.slice (some ⟨rb1,0,none⟩) ns.length ns.length,.slice (some ⟨cK,0,none⟩) ns.length ns.length,.slice ka ns.length kc,.slice pa ns.length pc],.agg #[.slice da ns.length dc,.slice ua ns.length uc,g2,g3,g4,g5]] w fun e w' =>∃ v,e=.returned v∧w'.ownsRow w.heap.size 4 1 v ns.length ((dA ns t).map Value.bool)∧Below w.heap.size w w' :=by
 have eg:∀ args w,(callFunc 201 args).run Tryz.prog w=.ok (.enter 201 args) w:=enters_of Tryz.func201 fJ rfl
 obtain ⟨W,HV5,hbA,hs,hf,hg⟩:=JE w (.cells #[.int .i64 r,.slice (some ⟨b,off,none⟩) ns.length cap,.slice (some ⟨rb1,0,none⟩) ns.length ns.length,.slice (some ⟨cK,0,none⟩) ns.length ns.length,.slice ka ns.length kc,.slice pa ns.length pc] 208) (.cells #[.slice da ns.length dc,.slice ua ns.length uc,g2,g3,g4,g5] 159) (.cells #[.func (.func 200) #[] #[.pointer (some ⟨w.heap.size,0,none⟩),.pointer (some ⟨w.heap.size+1,0,none⟩)]] 38)
 rw [show w.heap.size+2=w.heap.size+1+1 from rfl] at hg
 go_enter Tryz.func167,Tryz.ntmps167
 go_upto_region 2 with fail
 rw [HV5.out]
 clear HV5
 have hea:=lX (fun n=>aM (dG ns t) n&&((gJ ns n).isEmpty||!(gJ ns n).all fun m=>aM (yS ns t) m&&(aM (dG ns t) m||aM (sV ns t) m))) 201 #[.pointer (some ⟨w.heap.size+1,0,none⟩),.pointer (some ⟨w.heap.size,0,none⟩),.pointer (some ⟨w.heap.size+1+1,0,none⟩)] r (some ⟨b,off,none⟩) ns.length cap (.slice (some ⟨rb1,0,none⟩) ns.length ns.length) (.slice (some ⟨cK,0,none⟩) ns.length ns.length) (.slice ka ns.length kc) (.slice pa ns.length pc) W hl eg (fun i hi U hU=>by
  have k1:=bP hU hs
  have k2:=bP hU hf
  have k3:=bP hU hg
  have hu:=bG hbA hU
  have hm:=hM.below hu
  exact aBZ i (w.heap.size+1) w.heap.size (w.heap.size+1+1) ns.length cK (gJ ns) (yS ns t) (dG ns t) (sV ns t) pa da ua pc dc uc U (by rw [aA k1];rfl) (by rw [aA k1];rfl) (by rw [aA k2];rfl) (by rw [aA k2];rfl) (by rw [aA k3];rfl) (aD k2) (aD k1) (aD k3) hm.kp (hd.below hu) (hup.below hu) hm.ah (xC ns t) (fI ns _) (fI ns _) hi (uL ns) (fun m j h=>(lH.1 h).1) hl)
 have s0:=aA hs 0
 have s1:=aA hs 1
 have s2:=aA hs 2
 have s3:=aA hs 3
 have s4:=aA hs 4
 have s5:=aA hs 5
 simp at s0 s1 s2 s3 s4 s5
 have sl:=aD hs
 have HEA:=aB hea
 have HW:=aB hbA
 clear hea hs hf hg hbA hM hd hup
 go_wp2_with fail
 refine HEA.out.mono ?_
 rintro e w1 ⟨v,rfl,hv,hb1⟩
 have HV:=aB hv
 clear hv
 go_wp2
 go_ret
 exact ⟨_,rfl,aK HV.out HW.out.size,bG HW.out hb1⟩
def iP (r:Int) (ns:List Nd) (t:Tm):Int:=if bM r ns=0 then (if 3≤t.op∧t.op≤8 then (if (0≤t.a∧t.a<r)∧(0≤t.b∧t.b<r) then 0 else 3) else 4) else bM r ns
theorem aCA (z r:Int) (B:Nat) (w:World) (h0:w.cell? ⟨B,0,none⟩=some (.int .i64 r)) (hB:B<w.heap.size) :
 Calls Tryz.prog 191 #[.int .i64 z,.pointer (some ⟨B,0,none⟩)] w fun e w' =>e=.returned (.bool (decide (0≤z∧z<r)))∧w' =w:=by
 by_cases h1:0≤z
 ·by_cases h2:z<r
  ·go_enter Tryz.func191,Tryz.ntmps191
   go_wp2
   go_ret
   exact ⟨aO (by simp [h1,h2]),rfl⟩
  ·go_enter Tryz.func191,Tryz.ntmps191
   go_wp2
   go_ret
   exact ⟨aO (by simp [h2]),rfl⟩
 ·go_enter Tryz.func191,Tryz.ntmps191
  go_wp2
  go_ret
  exact ⟨aO (by have hz:¬ (0≤z):=by omega
                simp [hz]),rfl⟩
theorem FW (r:Int) (a:Option Addr) (cap:Nat) (ns:List Nd) (t:Tm) (w:World) (hN:pI w a ns) :
 Calls Tryz.prog 163 #[.agg #[.int .i64 r,.slice a ns.length cap],.agg #[.int .i64 t.op,.int .i64 t.a,.int .i64 t.b]] w fun e w' =>e=.returned (.int .i64 (iP r ns t))∧Below w.heap.size w w' :=by
 have eg:∀ args w,(callFunc 191 args).run Tryz.prog w=.ok (.enter 191 args) w:=enters_of Tryz.func191 fJ rfl
 have HF:Hid (iP r ns t=if bM r ns=0 then (if 3≤t.op∧t.op≤8 then (if (0≤t.a∧t.a<r)∧(0≤t.b∧t.b<r) then 0 else 3) else 4) else bM r ns):=rfl
 generalize iP r ns t=C at HF ⊢
 have HN:=aB hN
 clear hN
 obtain ⟨W,HV6,hbA,hp,hq⟩:=VP w (.cells #[.int .i64 r,.slice a ns.length cap] 24) (.cells #[.int .i64 t.op,.int .i64 t.a,.int .i64 t.b] 59)
 go_enter Tryz.func163,Tryz.ntmps163
 go_upto_region 1 with fail
 rw [HV6.out]
 clear HV6
 have p0:=aA hp 0
 have p1:=aA hp 1
 simp at p0 p1
 have pl:=aD hp
 have ql:=aD hq
 have HB:=aB hbA
 have HP:=aB hp
 have HQ:=aB hq
 clear hbA hp hq
 go_upto_region 2 with (go_at_call 10;refine (fG r a cap ns _ (HN.out.below HB.out)).mono ?_;rintro e w1 ⟨rfl,hb1⟩)
 have hp1:=(hb1.block _ pl).trans HP.out
 have hq1:=(hb1.block _ ql).trans HQ.out
 have hB1:Below w.heap.size w w1:=bG HB.out hb1
 clear p0 p1 pl ql hb1 HP HQ HB
 by_cases hc:bM r ns=0
 ·rw [hc]
  have HC:=aB hc
  have z0:=aA hp1 0
  have y0:=aA hq1 0
  have y1:=aA hq1 1
  have y2:=aA hq1 2
  simp at z0 y0 y1 y2
  have pl:=aD hp1
  have ql:=aD hq1
  clear hp1 hq1 hc
  by_cases h3:t.op<3
  ·go_wp2
   go_ret
   refine ⟨bU ?_,hB1⟩
   rw [HF.out,if_pos HC.out,if_neg aF]
  ·by_cases h8:t.op>8
   ·go_wp2
    go_ret
    refine ⟨bU ?_,hB1⟩
    rw [HF.out,if_pos HC.out,if_neg aF]
   ·have H38:Hid (3≤t.op∧t.op≤8):=⟨aF,aF⟩
    go_wp2_with fail
    obtain ⟨W2,HV7,hbE,hn⟩:=bx1 w1 (.cells #[.int .i64 t.a,.int .i64 t.b] 3)
    rw [HV7.out]
    clear HV7
    have hz2:=(hbE.cell (p:=⟨w.heap.size,0,none⟩) pl).trans z0
    have hl2:=Nat.lt_of_lt_of_le pl hbE.size
    refine (rE (fun z=>decide (0≤z∧z<r)) 191 #[.pointer (some ⟨w.heap.size,0,none⟩)] (some ⟨w1.heap.size,0,none⟩) 2 [t.a,t.b] W2 (Or.inr ⟨w1.heap.size,0,rfl,aD hn,fun j z hj=>?_⟩) aQ eg (fun z hz U hU=>?_)).mono ?_
    ·rw [Nat.zero_add,aA hn]
     match j,hj with
     | 0,hj | 1,hj=>simp at hj;subst hj;rfl
     | j+2,hj=>simp at hj
    ·refine (aCA z r w.heap.size U ((hU.cell (p:=⟨w.heap.size,0,none⟩) hl2).trans hz2) (Nat.lt_of_lt_of_le hl2 hU.size)).mono ?_
     rintro e w' ⟨rfl,rfl⟩
     exact ⟨rfl,Below.refl _ _⟩
    rintro e w3 ⟨rfl,hb3⟩
    have hB3:Below w.heap.size w w3:=hB1.trans ((bG hbE hb3).mono hB1.size)
    have HA:Hid (([t.a,t.b].all fun z=>decide (0≤z∧z<r))=decide ((0≤t.a∧t.a<r)∧(0≤t.b∧t.b<r))):=by show _=_;simp
    clear hbE hn hz2 hl2 hb3 z0 y0 y1 y2
    generalize ([t.a,t.b].all fun z=>decide (0≤z∧z<r))=A at HA ⊢
    cases A
    ·go_wp2
     go_ret
     refine ⟨bU ?_,hB3⟩
     rw [HF.out,if_pos HC.out,if_pos H38.out,if_neg (of_decide_eq_false HA.out.symm)]
    ·go_wp2
     go_ret
     refine ⟨bU ?_,hB3⟩
     rw [HF.out,if_pos HC.out,if_pos H38.out,if_pos (of_decide_eq_true HA.out.symm)]
 ·have HC:=aB hc
  have hne:¬ (bM r ns=0):=hc
  clear hp1 hq1
  go_wp2
  go_ret
  refine ⟨bU ?_,hB1⟩
  rw [HF.out,if_neg HC.out]
end Go.Proofs.YtegloodcbfalfaaGreatDoor
