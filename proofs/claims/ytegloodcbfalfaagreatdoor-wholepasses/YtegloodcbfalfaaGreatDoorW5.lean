/-
  Of the proof of WholePasses: GW, TK, TW, TX, TZ, TM, LO, LD, LH.
-/
import Derived.Test.YtegloodcbfalfaaGreatDoorW1
import Derived.Test.YtegloodcbfalfaaGreatDoorW2
import Derived.Test.YtegloodcbfalfaaGreatDoorW3
import Derived.Test.YtegloodcbfalfaaGreatDoorW4
import Derived.Deep.RegionWith
import Derived.Deep.CutRange
import Derived.RangeFuncBox
import Derived.Deep.RegionHeld3
import Derived.Laws.AppendOwn
import Derived.OrdersIn
import Derived.ControlIn
import Derived.Laws.MakeOwn
import Derived.Stop.RegionWithIn
import Derived.Sort.CutIn
set_option linter.unusedVariables false
set_option linter.unusedSimpArgs false
set_option maxHeartbeats 40000000
set_option maxRecDepth 100000
namespace Go.Proofs.YtegloodcbfalfaaGreatDoor
open Go.RowKit
def sQ (w:World) (a:Option Addr) (l:List Ct):Prop :=
 l=[]∨∃ b off,a=some ⟨b,off,none⟩∧b<w.heap.size∧∀ (j:Nat) (c:Ct),l[j]?=some c→w.cell? ⟨b,off+j*4,none⟩=some (.int .i64 c.t.op)∧w.cell? ⟨b,off+j*4+1,none⟩=some (.int .i64 c.t.a)∧w.cell? ⟨b,off+j*4+2,none⟩=some (.int .i64 c.t.b)∧w.cell? ⟨b,off+j*4+3,none⟩=some (.int .i64 c.n)
theorem sQ.below {w w' :World} {a:Option Addr} {l:List Ct} (h:sQ w a l) (hb:Below w.heap.size w w'):sQ w' a l:=by
 rcases h with h | ⟨b,off,rfl,hlt,h⟩
 ·exact Or.inl h
 ·refine Or.inr ⟨b,off,rfl,Nat.lt_of_lt_of_le hlt hb.size,fun j t ht=>?_⟩
  rw [hb.cell (p:=⟨b,_,none⟩) hlt,hb.cell (p:=⟨b,_,none⟩) hlt,hb.cell (p:=⟨b,_,none⟩) hlt,hb.cell (p:=⟨b,_,none⟩) hlt]
  exact h j t ht
theorem sQ.at {w:World} {a:Option Addr} {l:List Ct} (h:sQ w a l) {k:Nat} {c:Ct} (hk:l[k]?=some c):∃ b off,a=some ⟨b,off,none⟩∧b<w.heap.size∧w.cell? ⟨b,off+k*4,none⟩=some (.int .i64 c.t.op)∧w.cell? ⟨b,off+k*4+1,none⟩=some (.int .i64 c.t.a)∧w.cell? ⟨b,off+k*4+2,none⟩=some (.int .i64 c.t.b)∧w.cell? ⟨b,off+k*4+3,none⟩=some (.int .i64 c.n):=by
 rcases h with h | ⟨b,off,rfl,hlt,h⟩
 ·subst h;simp at hk
 ·exact ⟨b,off,rfl,hlt,h k c hk⟩
theorem zQ {w:World} {base:Nat} {e:TypeId} {v:Value} {l:List Ct} (h:w.ownsRow base e 4 v l.length (l.flatMap fP)):∃ a cap,v=.slice a l.length cap∧sQ w a l:=by
 have hc:∀ g,v.ownBlock=some g→∀ j u,(l.flatMap fP)[j]?=some u→w.cell? ((⟨g,0,none⟩:Addr).add j)=some u:=fun g hg=>h.cells hg
 obtain ⟨_,h⟩:=h
 rcases h with ⟨rfl,h0⟩ | ⟨g,cap,cur,rfl,h1,h2,h3,h4,h5,h6⟩
 ·have:l=[]:=List.eq_nil_of_length_eq_zero h0
  subst this
  exact ⟨none,0,rfl,Or.inl rfl⟩
 ·refine ⟨_,cap,rfl,Or.inr ⟨g,0,rfl,(Array.getElem?_eq_some_iff.1 h2).1,?_⟩⟩
  intro j t ht
  have e:∀ i,(⟨g,0,none⟩:Addr).add i=⟨g,0+i,none⟩:=by intro i;cases i <;> simp [Addr.add]
  have f:∀ i,i<4→∀ u,(fP t)[i]?=some u→w.cell? ⟨g,0+(j*4+i),none⟩=some u:=by
   intro i hi u hu
   have:=hc g rfl (j*4+i) u (by rw [aMB l j i t ht hi];exact hu)
   rwa [e] at this
  exact ⟨f 0 aF _ rfl,f 1 aF _ rfl,f 2 aF _ rfl,f 3 aF _ rfl⟩
def tmo (l:List Ct) (t:Tm):Int:=(jZ l t).getD 0
theorem aAX {l:List Ct} {t:Tm} {k:Nat} {c:Ct} (h:∀ d∈l.take k,d.t≠t) (hk:l[k]?=some c) (hc:c.t=t):jZ l t=some c.n:=by
 induction l generalizing k with
 | nil=>simp at hk
 | cons d l ih =>
  cases k with
  | zero=>simp at hk;subst hk;rw [fH,if_pos hc]
  | succ k =>
   simp at hk
   rw [fH,if_neg (h d aQ),ih (k:=k) (fun e he=>h e (by simp [he])) hk]
theorem aMG {l:List Ct} {t:Tm} (h:∀ d∈l,d.t≠t):jZ l t=none:=by
 induction l with
 | nil=>rfl
 | cons d l ih=>rw [fH,if_neg (h d aQ),ih fun e he=>h e (by simp [he])]
theorem aGN {l:List Ct} {t:Tm} {k:Nat} {c:Ct} (h:∀ d∈l.take k,d.t≠t) (hk:l[k]?=some c) (hc:c.t≠t):∀ d∈l.take (k+1),d.t≠t:=by
 rw [List.take_add_one,hk]
 intro d hd
 rw [List.mem_append] at hd
 rcases hd with hd | hd
 ·exact h d hd
 ·simp at hd;subst hd;exact hc
theorem aGO (v0 v1 v2 v3:Value) (a:Option Addr) (cap:Nat) (l:List Ct) (t:Tm) (w:World) (hC:sQ w a l) (hl:l.length≤9223372036854775807) :
 Calls Tryz.prog 29 #[.agg #[v0,v1,v2,v3,.slice a l.length cap],.agg #[.int .i64 t.op,.int .i64 t.a,.int .i64 t.b]] w fun e w' =>e=.returned (.int .i64 (tmo l t))∧Below w.heap.size w w' :=by
 go_enter Tryz.func29,Tryz.ntmps29
 go_wp2
 have hb0:Below w.heap.size w ((w.alloc (.cells #[v0,v1,v2,v3,.slice a l.length cap] 53)).alloc (.cells #[.int .i64 t.op,.int .i64 t.a,.int .i64 t.b] 59)):=(dY).alloc aQ _
 have hs0:((w.alloc (.cells #[v0,v1,v2,v3,.slice a l.length cap] 53)).alloc (.cells #[.int .i64 t.op,.int .i64 t.a,.int .i64 t.b] 59)).heap.size=w.heap.size+2:=by simp
 have hk0:((w.alloc (.cells #[v0,v1,v2,v3,.slice a l.length cap] 53)).alloc (.cells #[.int .i64 t.op,.int .i64 t.a,.int .i64 t.b] 59)).heap[w.heap.size+1]?=some (.cells #[.int .i64 t.op,.int .i64 t.a,.int .i64 t.b] 59 (0,0)):=kL aQ
 generalize (w.alloc (.cells #[v0,v1,v2,v3,.slice a l.length cap] 53)).alloc (.cells #[.int .i64 t.op,.int .i64 t.a,.int .i64 t.b] 59)=W0 at hb0 hs0 hk0 ⊢
 have HC:=aB (hC.below hb0)
 clear hC
 go_loopw [10] (fun i wr=>∃ k:Nat,k≤l.length∧i=.int .i64 k∧(∀ d∈l.take k,d.t≠t)∧Below W0.heap.size W0 wr) (fun i _=>l.length-(intOf i).toNat)
 case atStart=>exact ⟨0,Nat.zero_le _,rfl,aQ,Below.refl _ _⟩
 case round =>
  obtain ⟨k,hk,rfl,hn,hb⟩:=hrel
  have HN:=aB hn
  clear hn
  have t0:wr.cell? ⟨w.heap.size+1,0,none⟩=some (.int .i64 t.op):=by rw [hb.cell (p:=⟨w.heap.size+1,0,none⟩) bF,aA hk0];rfl
  have t1:wr.cell? ⟨w.heap.size+1,1,none⟩=some (.int .i64 t.a):=by rw [hb.cell (p:=⟨w.heap.size+1,1,none⟩) bF,aA hk0];rfl
  have t2:wr.cell? ⟨w.heap.size+1,2,none⟩=some (.int .i64 t.b):=by rw [hb.cell (p:=⟨w.heap.size+1,2,none⟩) bF,aA hk0];rfl
  have hsr:=hb.size
  have hBw:Below w.heap.size w wr:=bG hb0 hb
  have HB:=aB hBw
  have HBr:=aB hb
  have hwr:w.heap.size+1<wr.heap.size:=by omega
  clear hb hBw hk0
  by_cases hlt:k<l.length
  ·obtain ⟨c,hc⟩:∃ c,l[k]?=some c:=⟨l[k],List.getElem?_eq_getElem hlt⟩
   obtain ⟨b,off,rfl,hbl,c0,c1,c2,c3⟩:=(HC.out.below HBr.out).at hc
   have hlt' :(k:Int)<(l.length:Int):=by omega
   by_cases e:c.t=t
   ·subst e
    go_wp2
    go_ret
    refine ⟨bU ?_,HB.out.alloc aF _⟩
    rw [tmo,aAX HN.out hc rfl];rfl
   ·have HE:=aB e
    have HX:=aB hc
    clear e hc
    go_wp2
    all_goals first
     | refine ⟨⟨k+1,aF,by go_num,aGN HN.out HX.out HE.out,HBr.out.alloc aF _⟩,by simp [intOf];omega⟩
     | skip
    exfalso
    apply HE.out
    cases t;cases hct:c.t
    simp_all
  ·have hlt' :¬ (k:Int)<(l.length:Int):=by omega
   go_wp2
   go_ret
   refine ⟨bU ?_,HB.out⟩
   rw [tmo,aMG (fun d hd=>HN.out d (by rw [List.take_of_length_le aF];exact hd))]
   rfl
theorem aWQ {w:World} {b:Nat} {x y:Int} (hb:b<w.heap.size) (h0:w.cell? ⟨b,0,none⟩=some (.int .i64 x)) (h1:w.cell? ⟨b,1,none⟩=some (.int .i64 y)):AJ w w.heap.size (some ⟨b,0,none⟩) [x,y]:=by
 refine Or.inr ⟨b,0,rfl,hb,?_⟩
 intro j z hz
 match j,hz with
 | 0,hz=>simp at hz;subst hz;exact h0
 | 1,hz=>simp at hz;subst hz;exact h1
 | j+2,hz=>simp at hz
theorem aRX (r:Int) (nb aV cap:Nat) (ns:List Nd) (ia:Option Addr) (ic:Nat) (inp:List Int) (fuel:Int) (w:World) (hN:aH w nb aV ns) (hI:AJ w w.heap.size ia inp) (hic:inp.length≤ic) (hw:uT r ns inp.length fuel=0) :
 Calls Tryz.prog 27 #[.agg #[.int .i64 r,.slice (some ⟨nb,aV,none⟩) ns.length cap],.slice ia inp.length ic,.int .i64 fuel] w fun e w' =>∃ ao co ac cc,e=.returned (.tuple #[.agg #[.slice ao (fin r ns inp fuel).out.length co,.int .i64 (fin r ns inp fuel).ret,.bool (fin r ns inp fuel).ended,.int .i64 (fin r ns inp fuel).steps,.slice ac (fin r ns inp fuel).cts.length cc],.int .i64 0]) ∧
  dW w' ao (fin r ns inp fuel).out∧sQ w' ac (fin r ns inp fuel).cts∧Below w.heap.size w w' ∧(fin r ns inp fuel).out.length≤co∧∀ (A:List Nat) (u:World),bR A w' u→(∀ x∈A,x<w.heap.size)→dW u ao (fin r ns inp fuel).out∧sQ u ac (fin r ns inp fuel).cts:=by
 refine (aWP r nb aV cap ns ia ic inp fuel w hN hI hic hw).mono ?_
 rintro e w' ⟨vo,vc,rfl,h1,h2,hb⟩
 have hle:∀ a c,vo=.slice a (fin r ns inp fuel).out.length c→(fin r ns inp fuel).out.length≤c:=by
  intro a c hv
  rcases h1.2 with ⟨q,h0⟩ | ⟨g,cap', cur,q,_,_,q2,_⟩
  ·omega
  ·rw [q] at hv;injection hv with e1 e2 e3;omega
 obtain ⟨ao,co,rfl,hI'⟩:=mP h1
 obtain ⟨ac,cc,rfl,hC⟩:=zQ h2
 refine ⟨ao,co,ac,cc,rfl,hI', hC,hb,hle _ _ rfl,fun A u K hA=>?_⟩
 obtain ⟨a1,c1,e1,hI1⟩:=mP (K.owns h1 hA)
 obtain ⟨a2,c2,e2,hC2⟩:=zQ (K.owns h2 hA)
 injection e1 with e1
 injection e2 with e2
 subst e1 e2
 exact ⟨hI1,hC2⟩
theorem aMH {w0:World} (a:Option Addr) (ca:Nat) (x:Int) (W:World) (hI:dW w0 a [x]) (hB:Below w0.heap.size w0 W) :
 Calls Tryz.prog 28 #[.slice a 1 ca,.slice (some ⟨W.heap.size,0,none⟩) 1 1] (W.alloc (.cells #[.int .i64 x] 3)) fun e w' =>e=.returned (.bool true)∧Below w0.heap.size w0 w' :=by
 have hB1:Below w0.heap.size w0 (W.alloc (.cells #[.int .i64 x] 3)):=hB.alloc hB.size _
 have hJ:dW (W.alloc (.cells #[.int .i64 x] 3)) (some ⟨W.heap.size,0,none⟩) [x]:=by
  refine Or.inr ⟨_,_,rfl,aQ,?_⟩
  intro j z hz
  match j,hz with
  | 0,hz=>simp at hz;subst hz;simp
  | j+1,hz=>simp at hz
 refine (OV a _ ca 1 [x] [x] _ (hI.below hB1) hJ aQ aQ).mono ?_
 rintro e w' ⟨rfl,n,rfl⟩
 exact ⟨aQ,below_drewN hB1 n⟩
theorem aGP {w0:World} (v0 v1 v2 v3:Value) (a:Option Addr) (cap:Nat) (n:Int) (W:World) (hC:sQ w0 a [⟨⟨3,0,1⟩,n⟩]) (hB:Below w0.heap.size w0 W) :
 Calls Tryz.prog 29 #[.agg #[v0,v1,v2,v3,.slice a 1 cap],.agg #[.int .i64 3,.int .i64 0,.int .i64 1]] W fun e w' =>e=.returned (.int .i64 n)∧Below w0.heap.size w0 w' :=by
 refine (aGO v0 v1 v2 v3 a cap [⟨⟨3,0,1⟩,n⟩] ⟨3,0,1⟩ W (hC.below hB) aQ).mono ?_
 rintro e w' ⟨rfl,hb⟩
 exact ⟨by simp [tmo,jZ],bG hB hb⟩
def res (r:Int) (ns:List Nd) (inp:List Int) (fuel:Int):St:=if uT r ns inp.length fuel=0 then fin r ns inp fuel else st0 0 []
end Go.Proofs.YtegloodcbfalfaaGreatDoor
namespace Go.Proofs.YtegloodcbfalfaaGreatDoor
open Go
section
variable {P:Program} {ops:Array Oper} {Q:Exit→Act→World→Prop} {md:Region.Mode} {S:World→Prop} {fuel:Nat} {listed:Array Bool} {a:Act} {w:World}
theorem zR (i:Nat) (oi:Oper) (h:wpAnyH P md ops Q S fuel (listed.setIfInBounds i true) (a.put oi.dst undef) w) (hQ:∀ c a w,Q (.panic c) (a.put oi.dst undef) w→Q (.panic c) a w:=by exact fun _ _ _ h=>h) (hi:ops[i]?=some oi:=by rfl)
 (hs:Region.noSelect ops=true:=by as_aux_lemma=>kernel_rfl) (hf:Region.free md ops listed i=true:=by as_aux_lemma=>kernel_rfl) (hr:(Region.ready md ops listed).contains i=true:=by as_aux_lemma=>kernel_rfl) (hw:Region.wanted oi (yielded ops a.tmps)=false:=by as_aux_lemma=>rfl) (hS:S w:=by assumption):wpAnyH P md ops Q S (fuel+1) listed a w :=
 wpAnyH_take (v:=undef) hi hs hf hr hQ (Or.inr ⟨hw,rfl⟩) hS h
theorem wV (i:Nat) (oi:Oper) {v:Value} (hv:∀ w,S w→(execOp a.eval oi).run P w=.ok (.value v) w) (h:wpAnyH P md ops Q S fuel (listed.setIfInBounds i true) (a.put oi.dst v) w) (hQ:∀ c a w,Q (.panic c) (a.put oi.dst v) w→Q (.panic c) a w:=by exact fun _ _ _ h=>h) (hi:ops[i]?=some oi:=by rfl)
 (hs:Region.noSelect ops=true:=by as_aux_lemma=>kernel_rfl) (hf:Region.free md ops listed i=true:=by as_aux_lemma=>kernel_rfl) (hr:(Region.ready md ops listed).contains i=true:=by as_aux_lemma=>kernel_rfl) (hw:Region.wanted oi (yielded ops a.tmps)=true:=by as_aux_lemma=>rfl) (hS:S w:=by assumption):wpAnyH P md ops Q S (fuel+1) listed a w :=
 wpAnyH_take hi hs hf hr hQ (Or.inl ⟨hw,hv⟩) hS h
end
theorem EH {α:Type} (l:List α) (i:Nat) (a:α):l.toArray.setIfInBounds i a=(l.set i a).toArray:=List.setIfInBounds_toArray l i a
theorem EI {α:Type} {x a:α} {xs:List α}:(x::xs).set 0 a=a::xs:=rfl
theorem EJ {α:Type} {x a:α} {i:Nat} {xs:List α}:(x::xs).set (i+1) a=x::xs.set i a:=rfl
theorem AR {w:World} {b b' i j:Nat} {v:Value} (h:b≠b'):(w.setCell ⟨b', j,none⟩ v).cell? ⟨b,i,none⟩=w.cell? ⟨b,i,none⟩:=World.cell?_of_block (by simp [World.setCell,Array.getElem?_modify,Ne.symm h])
section
variable {P:Program} {ops:Array Oper} {Q:Exit→Act→World→Prop} {md:Region.Mode} {S:World→Prop} {fuel:Nat} {listed:Array Bool} {a a' :Act} {w:World} {oi:Oper} {v:Value}
theorem tkw (i:Nat) (h:wpAnyH P md ops Q S fuel (listed.setIfInBounds i true) a' w) (hi:ops[i]?=some oi:=by rfl) (hw:Region.wanted oi (yielded ops a.tmps)=true:=by as_aux_lemma=>rfl)
 (hv:∀ w,S w→(execOp a.eval oi).run P w=.ok (.value v) w:=by intro w hSw;(try dsimp only at hSw);go_simp;all_goals with_reducible rfl) (ha:a.put oi.dst v=a' :=by (try simp only [Act.put,EH,EI,EJ]);rfl)
 (hQ:∀ c a w,Q (.panic c) (a.put oi.dst v) w→Q (.panic c) a w:=by first | exact hQp _ _ | exact fun _ _ _ h=>h) (hs:Region.noSelect ops=true:=by as_aux_lemma=>kernel_rfl) (hf:Region.free md ops listed i=true:=by as_aux_lemma=>kernel_rfl) (hr:(Region.ready md ops listed).contains i=true:=by as_aux_lemma=>kernel_rfl) (hS:S w:=by assumption):wpAnyH P md ops Q S (fuel+1) listed a w :=
 wpAnyH_take hi hs hf hr hQ (Or.inl ⟨hw,hv⟩) hS (by rw [ha];exact h)
theorem tkx (i:Nat) (h:wpAnyH P md ops Q S fuel (listed.setIfInBounds i true) a' w) (hi:ops[i]?=some oi:=by rfl) (hw:Region.wanted oi (yielded ops a.tmps)=false:=by as_aux_lemma=>rfl) (ha:a.put oi.dst undef=a' :=by (try simp only [Act.put,EH,EI,EJ]);rfl)
 (hQ:∀ c a w,Q (.panic c) (a.put oi.dst undef) w→Q (.panic c) a w:=by first | exact hQp _ _ | exact fun _ _ _ h=>h) (hs:Region.noSelect ops=true:=by as_aux_lemma=>kernel_rfl) (hf:Region.free md ops listed i=true:=by as_aux_lemma=>kernel_rfl) (hr:(Region.ready md ops listed).contains i=true:=by as_aux_lemma=>kernel_rfl) (hS:S w:=by assumption):wpAnyH P md ops Q S (fuel+1) listed a w :=
 wpAnyH_take (v:=undef) hi hs hf hr hQ (Or.inr ⟨hw,rfl⟩) hS (by rw [ha];exact h)
theorem tkv {k:Nat} (h:wpAnyH P md ops Q S fuel ((listed.setIfInBounds k true).setIfInBounds (k+1) true) a' w) (hi:ops[k+1]?=some oi:=by rfl) (hw:Region.wanted oi (yielded ops a.tmps)=true:=by as_aux_lemma=>rfl)
 (hv:∀ w,S w→(execOp a.eval oi).run P w=.ok (.value v) w:=by intro w hSw;(try dsimp only at hSw);go_simp;all_goals with_reducible rfl) (ha:a.put oi.dst v=a' :=by (try simp only [Act.put,EH,EI,EJ]);rfl)
 (hQ:∀ c a w,Q (.panic c) (a.put oi.dst v) w→Q (.panic c) a w:=by first | exact hQp _ _ | exact fun _ _ _ h=>h) (hs:Region.noSelect ops=true:=by as_aux_lemma=>kernel_rfl) (hf:Region.free md ops (listed.setIfInBounds k true) (k+1)=true:=by as_aux_lemma=>kernel_rfl) (hr:(Region.ready md ops (listed.setIfInBounds k true)).contains (k+1)=true:=by as_aux_lemma=>kernel_rfl) (hS:S w:=by assumption):wpAnyH P md ops Q S (fuel+1) (listed.setIfInBounds k true) a w :=
 tkw (k+1) h hi hw hv ha hQ hs hf hr hS
theorem tku {k:Nat} (h:wpAnyH P md ops Q S fuel ((listed.setIfInBounds k true).setIfInBounds (k+1) true) a' w) (hi:ops[k+1]?=some oi:=by rfl) (hw:Region.wanted oi (yielded ops a.tmps)=false:=by as_aux_lemma=>rfl) (ha:a.put oi.dst undef=a' :=by (try simp only [Act.put,EH,EI,EJ]);rfl)
 (hQ:∀ c a w,Q (.panic c) (a.put oi.dst undef) w→Q (.panic c) a w:=by first | exact hQp _ _ | exact fun _ _ _ h=>h) (hs:Region.noSelect ops=true:=by as_aux_lemma=>kernel_rfl) (hf:Region.free md ops (listed.setIfInBounds k true) (k+1)=true:=by as_aux_lemma=>kernel_rfl) (hr:(Region.ready md ops (listed.setIfInBounds k true)).contains (k+1)=true:=by as_aux_lemma=>kernel_rfl) (hS:S w:=by assumption):wpAnyH P md ops Q S (fuel+1) (listed.setIfInBounds k true) a w :=
 tkx (k+1) h hi hw ha hQ hs hf hr hS
theorem tkr (i:Nat) (h:∀ K' :Act→World→Prop,Go.Shut (∀ a w,S w→(S w→wpAnyH P md ops Q S fuel (listed.setIfInBounds i true) a w)→K' a w)→if Region.wanted oi (yielded ops a.tmps)=true then Oper.wp P oi a w K' Q else K' (a.put oi.dst undef) w) (hi:ops[i]?=some oi:=by rfl) (hr:Region.ready md ops listed=[i]:=by as_aux_lemma=>kernel_rfl):wpAnyH P md ops Q S (fuel+1) listed a w :=
 wpAnyH_ready hr aQ (AllReadyH.cons hi h AllReadyH.nil)
end
section
variable {P:Program} {ops:Array Oper} {Q:Exit→Act→World→Prop} {md:Region.Mode} {S:World→Prop} {s:Nat}
def wpAnyL (P:Program) (md:Region.Mode) (ops:Array Oper) (Q:Exit→Act→World→Prop) (S:World→Prop) (s:Nat):Nat→Array Bool→Act→World→Prop
 | 0,listed,a,w=>Region.ready md ops listed=[]∧Q .normal a w
 | fuel+1,listed,a,w=>(Region.ready md ops listed=[]→Q .normal a w)∧∀ i∈Region.ready md ops listed,wpOp P ops Q i (fun a' w' =>((listed.setIfInBounds i true).getD s true=false→S w')∧wpAnyL P md ops Q S s fuel (listed.setIfInBounds i true) a' w') a w
theorem EK:∀ (fuel:Nat) (listed:Array Bool) (a:Act) (w:World),wpAnyL P md ops Q S s fuel listed a w→wpAny P md ops Q fuel listed a w
 | 0,_,_,_,h=>h
 | fuel+1,_,_,_,h=>⟨h.1,fun i hi=>wpOp_mono (fun a' w' h' =>EK fuel _ a' w' h'.2) (h.2 i hi)⟩
def waits (md:Region.Mode) (ops:Array Oper) (s i:Nat):Bool:=s != i&&match ops[s]? with
 | some o=>o.after.any fun e=>Region.binds md e&&e.on==i
 | none=>false
theorem wpAnyL_first {i:Nat} {oi:Oper} {v:Value} (hi:ops[i]?=some oi) (hsel:∀ (j:Nat) (o:Oper) cs b,ops[j]?=some o→o.op≠ .select cs b)
 (hQ:∀ c a w,Q (.panic c) (a.put oi.dst v) w→Q (.panic c) a w) (hw:waits md ops s i=true) :
 ∀ (fuel:Nat) (listed:Array Bool) (a:Act) (w:World),
  (∀ j oj,ops[j]?=some oj→j≠i→listed.getD j true=false→(∀ e∈oj.after,Region.binds md e=true→e.on≠i)→oi.apart ops oj=true) →
  i∈Region.ready md ops listed→YieldsIf P ops S oi v a→S w→listed.getD s true=false →
  wpAnyL P md ops Q S s fuel (listed.setIfInBounds i true) (a.put oi.dst v) w→wpAnyL P md ops Q S s (fuel+1) listed a w:=by
 have hsi:s≠i:=by simp only [waits,Bool.and_eq_true,bne_iff_ne] at hw;exact hw.1
 have aWR:∃ os,ops[s]?=some os∧∃ e∈os.after,Region.binds md e=true∧e.on=i:=by
  simp only [waits,Bool.and_eq_true] at hw
  have h2:=hw.2
  cases ho:ops[s]? with
  | none=>rw [ho] at h2;simp at h2
  | some os =>
   rw [ho] at h2
   simp only [Array.any_eq_true', Bool.and_eq_true,beq_iff_eq] at h2
   obtain ⟨e,he,hb,ho'⟩:=h2
   exact ⟨os,rfl,e,he,hb,ho'⟩
 intro fuel
 induction fuel with
 | zero =>
  intro listed a w _ hr hy hS _ H
  refine ⟨fun h=>(by rw [h] at hr;cases hr),fun j hj=>?_⟩
  by_cases hji:j=i
  ·subst hji;exact hy.wpOp hi hS ⟨fun _=>hS,H⟩
  ·have:=ready_mono hj hji
   rw [H.1] at this
   cases this
 | succ fuel ih =>
  intro listed a w hfree hr hy hS hun H
  refine ⟨fun h=>(by rw [h] at hr;cases hr),fun j hj=>?_⟩
  by_cases hji:j=i
  ·subst hji;exact hy.wpOp hi hS ⟨fun _=>hS,H⟩
  ·have h1:=H.2 j (ready_mono hj hji)
   obtain ⟨hjun,oj,hoj,hall⟩:=mem_ready.1 hj
   have hnot:∀ e∈oj.after,Region.binds md e=true→e.on≠i:=fun e he hb heq=>by
    have h1:=hall e he hb
    have h0:=(mem_ready.1 hr).1
    rw [heq] at h1
    rcases Nat.lt_or_ge i listed.size with h' | h'
    ·simp [h'] at h0 h1;rw [h0] at h1;cases h1
    ·simp [Array.getElem?_eq_none h'] at h1
   have hjs:j≠s:=fun e=>by
    subst e
    obtain ⟨os,ho,e,he,hb,he'⟩:=aWR
    rw [ho] at hoj
    cases hoj
    exact hnot e he hb he'
   have h2:=wpOp_putIf hoj (hfree j oj hoj hji hjun hnot) (fun cs b=>hsel i oi cs b hi) (fun cs b=>hsel j oj cs b hoj) hQ hy h1
   have hfree' :∀ k ok,ops[k]?=some ok→k≠i→(listed.setIfInBounds j true).getD k true=false →
    (∀ e∈ok.after,Region.binds md e=true→e.on≠i)→oi.apart ops ok=true:=fun k ok hk hki hun hno=>by
    refine hfree k ok hk hki ?_ hno
    by_cases hjk:j=k
    ·subst hjk;exact hjun
    ·rw [getD_set_ne true hjk] at hun;exact hun
   have hu1:(listed.setIfInBounds j true).getD s true=false:=by rw [getD_set_ne true hjs];exact hun
   have hu2:((listed.setIfInBounds i true).setIfInBounds j true).getD s true=false:=by rw [getD_set_ne true hjs,getD_set_ne true (Ne.symm hsi)];exact hun
   refine wpOp_mono (fun a' w' h3=>⟨fun _=>h3.2.1 hu2,ih (listed.setIfInBounds j true) a' w' hfree' (ready_mono hr (Ne.symm hji)) h3.1 (h3.2.1 hu2) hu1 ?_⟩) h2
   rw [Array.setIfInBounds_comm _ _ hji]
   exact h3.2.2
theorem gY (s:Nat) {id:Nat} {a:Act} {w:World} (hm:P.follows .mixedOrders=true) (hS:S w.drew)
 (h:S w.drew→wpAnyL P .any ops Q S s ops.size (Array.replicate ops.size false) a w.drew):(Code.region id ops true).wp P Q a w :=
 wp_region_any hm (EK _ _ _ _ (h hS))
variable {fuel:Nat} {listed:Array Bool} {a a' :Act} {w:World} {oi:Oper} {v:Value}
theorem tlw (i:Nat) (h:wpAnyL P md ops Q S s fuel (listed.setIfInBounds i true) a' w) (hi:ops[i]?=some oi:=by rfl) (hw:Region.wanted oi (yielded ops a.tmps)=true:=by as_aux_lemma=>kernel_rfl)
 (hv:∀ w,S w→(execOp a.eval oi).run P w=.ok (.value v) w:=by intro w hSw;(try dsimp only at hSw);go_simp;all_goals with_reducible rfl) (ha:a.put oi.dst v=a' :=by (try simp only [Act.put,EH,EI,EJ]);rfl)
 (hQ:∀ c a w,Q (.panic c) (a.put oi.dst v) w→Q (.panic c) a w:=by first | exact hQp _ _ | exact fun _ _ _ h=>h) (hs:(Region.noSelect ops&&Region.free md ops listed i&&(Region.ready md ops listed).contains i&&waits md ops s i&&!listed.getD s true)=true:=by as_aux_lemma=>kernel_rfl) (hS:S w:=by assumption):wpAnyL P md ops Q S s (fuel+1) listed a w:=by
 simp only [Bool.and_eq_true,Bool.not_eq_true'] at hs
 obtain ⟨⟨⟨⟨h1,h2⟩,h3⟩,h4⟩,h5⟩:=hs
 exact wpAnyL_first hi (Region.noSelect_spec h1) hQ h4 fuel listed a w (Region.free_spec hi h2) (by simpa using h3) (Or.inl ⟨hw,hv⟩) hS h5 (by rw [ha];exact h)
theorem tlx (i:Nat) (h:wpAnyL P md ops Q S s fuel (listed.setIfInBounds i true) a' w) (hi:ops[i]?=some oi:=by rfl) (hw:Region.wanted oi (yielded ops a.tmps)=false:=by as_aux_lemma=>kernel_rfl) (ha:a.put oi.dst undef=a' :=by (try simp only [Act.put,EH,EI,EJ]);rfl)
 (hQ:∀ c a w,Q (.panic c) (a.put oi.dst undef) w→Q (.panic c) a w:=by first | exact hQp _ _ | exact fun _ _ _ h=>h) (hs:(Region.noSelect ops&&Region.free md ops listed i&&(Region.ready md ops listed).contains i&&waits md ops s i&&!listed.getD s true)=true:=by as_aux_lemma=>kernel_rfl) (hS:S w:=by assumption):wpAnyL P md ops Q S s (fuel+1) listed a w:=by
 simp only [Bool.and_eq_true,Bool.not_eq_true'] at hs
 obtain ⟨⟨⟨⟨h1,h2⟩,h3⟩,h4⟩,h5⟩:=hs
 exact wpAnyL_first (v:=undef) hi (Region.noSelect_spec h1) hQ h4 fuel listed a w (Region.free_spec hi h2) (by simpa using h3) (Or.inr ⟨hw,rfl⟩) hS h5 (by rw [ha];exact h)
theorem tlv {k:Nat} (h:wpAnyL P md ops Q S s fuel ((listed.setIfInBounds k true).setIfInBounds (k+1) true) a' w) (hi:ops[k+1]?=some oi:=by rfl) (hw:Region.wanted oi (yielded ops a.tmps)=true:=by as_aux_lemma=>kernel_rfl)
 (hv:∀ w,S w→(execOp a.eval oi).run P w=.ok (.value v) w:=by intro w hSw;(try dsimp only at hSw);go_simp;all_goals with_reducible rfl) (ha:a.put oi.dst v=a' :=by (try simp only [Act.put,EH,EI,EJ]);rfl)
 (hQ:∀ c a w,Q (.panic c) (a.put oi.dst v) w→Q (.panic c) a w:=by first | exact hQp _ _ | exact fun _ _ _ h=>h) (hs:(Region.noSelect ops&&Region.free md ops (listed.setIfInBounds k true) (k+1)&&(Region.ready md ops (listed.setIfInBounds k true)).contains (k+1)&&waits md ops s (k+1)&&!(listed.setIfInBounds k true).getD s true)=true:=by as_aux_lemma=>kernel_rfl) (hS:S w:=by assumption):wpAnyL P md ops Q S s (fuel+1) (listed.setIfInBounds k true) a w :=
 tlw (k+1) h hi hw hv ha hQ hs hS
theorem tlu {k:Nat} (h:wpAnyL P md ops Q S s fuel ((listed.setIfInBounds k true).setIfInBounds (k+1) true) a' w) (hi:ops[k+1]?=some oi:=by rfl) (hw:Region.wanted oi (yielded ops a.tmps)=false:=by as_aux_lemma=>kernel_rfl) (ha:a.put oi.dst undef=a' :=by (try simp only [Act.put,EH,EI,EJ]);rfl)
 (hQ:∀ c a w,Q (.panic c) (a.put oi.dst undef) w→Q (.panic c) a w:=by first | exact hQp _ _ | exact fun _ _ _ h=>h) (hs:(Region.noSelect ops&&Region.free md ops (listed.setIfInBounds k true) (k+1)&&(Region.ready md ops (listed.setIfInBounds k true)).contains (k+1)&&waits md ops s (k+1)&&!(listed.setIfInBounds k true).getD s true)=true:=by as_aux_lemma=>kernel_rfl) (hS:S w:=by assumption):wpAnyL P md ops Q S s (fuel+1) (listed.setIfInBounds k true) a w :=
 tlx (k+1) h hi hw ha hQ hs hS
theorem tlr (i:Nat) (h:∀ K' :Act→World→Prop,Go.Shut (∀ a w,S w→(S w→wpAnyL P md ops Q S s fuel (listed.setIfInBounds i true) a w)→K' a w)→if Region.wanted oi (yielded ops a.tmps)=true then Oper.wp P oi a w K' Q else K' (a.put oi.dst undef) w) (hi:ops[i]?=some oi:=by rfl) (hr:Region.ready md ops listed=[i]:=by as_aux_lemma=>kernel_rfl):wpAnyL P md ops Q S s (fuel+1) listed a w:=by
 refine ⟨fun h0=>(by rw [hr] at h0;cases h0),fun j hj=>?_⟩
 rw [hr,List.mem_singleton] at hj
 subst hj
 exact wpOp_step hi (fun K' hK=>h K' (fun a w hS hW=>hK a w ⟨fun _=>hS,hW hS⟩))
theorem tls (i:Nat) (h:∀ K' :Act→World→Prop,Go.Shut (∀ a w,wpAnyL P md ops Q S i fuel (listed.setIfInBounds i true) a w→K' a w)→if Region.wanted oi (yielded ops a.tmps)=true then Oper.wp P oi a w K' Q else K' (a.put oi.dst undef) w) (hi:ops[i]?=some oi:=by rfl) (hr:Region.ready md ops listed=[i]:=by as_aux_lemma=>kernel_rfl):wpAnyL P md ops Q S i (fuel+1) listed a w:=by
 refine ⟨fun h0=>(by rw [hr] at h0;cases h0),fun j hj=>?_⟩
 rw [hr,List.mem_singleton] at hj
 subst hj
 exact wpOp_step hi (fun K' hK=>h K' (fun a w hW=>hK a w ⟨fun h0=>(by
  rw [Array.getD_eq_getD_getElem?,Array.getElem?_setIfInBounds,if_pos rfl] at h0
  split at h0 <;> cases h0),hW⟩))
theorem gB (hr:Region.ready md ops listed=[]) (h:Q .normal a w):∀ fuel,wpAnyL P md ops Q S s fuel listed a w
 | 0=>⟨hr,h⟩
 | _+1=>⟨fun _=>h,by rw [hr];simp⟩
end
def KV (Q:Exit→Act→World→Prop) (e:Exit) (a:Act) (w:World):Prop:=(∀ c,e≠ .panic c)∧Q e a w
theorem EL {P:Program} {ops:Array Oper} {Q:Exit→Act→World→Prop} {S:World→Prop} {id:Nat} {a:Act} {w:World} (hm:P.follows .mixedOrders=true) (hS:S w.drew)
 (h:(∀ (d:Option Nat) (v:Value) c a w,KV Q (.panic c) (a.put d v) w→KV Q (.panic c) a w)→S w.drew→wpAnyH P .any ops (KV Q) S ops.size (Array.replicate ops.size false) a w.drew):(Code.region id ops true).wp P Q a w :=
 Code.wp_mono (fun _ _ _ h=>h.2) (wp_region_held_drew hm hS (h fun _ _ c _ _ q=>absurd rfl (q.1 c)))
section
variable {F:Fence} {n:Nat} {P:Program} {ops:Array Oper} {Q:Exit→Act→World→Prop} {md:Region.Mode} {S:World→Prop} {s:Nat}
def BI (ops:Array Oper):Bool:=ops.all fun o=>match o.op with
 | .defer _=>false
 | _=>true
theorem vP (h:BI ops=true) {i:Nat} {o:Oper} (ho:ops[i]?=some o):∀ c,o.op≠ .defer c:=fun c e=>by
 have:=Array.all_eq_true_iff_forall_mem.1 h o (Array.mem_of_getElem? ho)
 rw [e] at this
 cases this
def jQ (P:Program) (ops:Array Oper) (S:World→Prop) (o:Oper) (v:Value) (a:Act):Prop:=YieldsIf P ops S o v a∧∀ w,o.about P w a.eval=none
theorem jQ.op {i:Nat} {o:Oper} {v:Value} {a:Act} (hd:∀ c,o.op≠ .defer c) (hi:ops[i]?=some o) (hy:jQ P ops S o v a) {K:Act→World→Prop} {w:World} (hS:S w) (h:K (a.put o.dst v) w):wpOpIn F n P ops Q i K a w:=by
 unfold wpOpIn
 simp only [hi]
 have hab:∀ f,o.about P w a.eval=some f→F.fn f:=fun f hf=>by rw [hy.2 w] at hf;cases hf
 rcases hy.1 with ⟨hw,hv⟩ | ⟨hw,rfl⟩
 ·simp only [hw,if_true,Oper.wpIn,Oper.semAt_eq _ _ _ hd,hv w hS,Oper.uponIn];exact ⟨hab,h⟩
 ·simp only [hw,Bool.false_eq_true,if_false];exact ⟨hab,h⟩
theorem jQ.same {o:Oper} {v:Value} {a a' :Act} (hy:jQ P ops S o v a) (he:execOp a'.eval o=execOp a.eval o) (hw:Region.wanted o (yielded ops a'.tmps)=Region.wanted o (yielded ops a.tmps)) (hb:∀ w,o.about P w a'.eval=o.about P w a.eval):jQ P ops S o v a' :=
 ⟨hy.1.of_same he hw,fun w=>by rw [hb w];exact hy.2 w⟩
theorem VL {j:Nat} {oi oj:Oper} {v:Value} (hdj:∀ c,oj.op≠ .defer c) (hj:ops[j]?=some oj) (hap:oi.apart ops oj=true) (hsi:∀ cs b,oi.op≠ .select cs b) (hsj:∀ cs b,oj.op≠ .select cs b)
 (hQ:∀ c a w,Q (.panic c) (a.put oi.dst v) w→Q (.panic c) a w) {K:Act→World→Prop} {a:Act} {w:World} (hy:jQ P ops S oi v a) (h:wpOpIn F n P ops Q j K (a.put oi.dst v) w):wpOpIn F n P ops Q j (fun a' w' =>jQ P ops S oi v a' ∧K (a'.put oi.dst v) w') a w:=by
 obtain ⟨h1,h2,h3⟩:=Oper.apart_spec hap
 have keep:∀ (a:Act),jQ P ops S oi v a→∀ u,jQ P ops S oi v (a.put oj.dst u):=fun a hy u=>hy.same (execOp_put oi hsi a oj.dst u h3) (wanted_put oi a oj.dst u h3) (fun w=>about_put oi w a oj.dst u h3)
 have keepD:∀ d,jQ P ops S oi v { a with defers:=d::a.defers }:=fun d=>hy.same rfl rfl (fun _=>rfl)
 unfold wpOpIn at *
 simp only [hj] at *
 rw [wanted_put oj a oi.dst v h1,about_put oj w a oi.dst v h1] at h
 split
 ·rename_i hw
  simp only [hw,if_true] at h
  unfold Oper.wpIn at *
  rw [about_put oj w a oi.dst v h1] at h
  refine ⟨h.1,?_⟩
  have h:=h.2
  rw [Oper.semAt_eq _ _ _ hdj,execOp_put oj hsj a oi.dst v h1] at h
  rw [Oper.semAt_eq _ _ _ hdj]
  generalize (execOp a.eval oj).run P w=r at *
  have hR:∀ (u:Value) (w'' :World),K ((a.put oi.dst v).put oj.dst u) w'' →jQ P ops S oi v (a.put oj.dst u)∧K ((a.put oj.dst u).put oi.dst v) w'' :=fun u w'' h=>⟨keep a hy u,by rw [← Act.put_comm a v u h2];exact h⟩
  cases r with
  | ok x w' =>
   cases x <;> simp only [Oper.uponIn] at h ⊢
   case value u=>exact hR _ _ h
   case skip=>exact hR _ _ h
   case defer d =>
    refine ⟨keep _ (keepD d) _,?_⟩
    rw [← Act.put_comm _ v undef h2,← Act.put_defers]
    exact h
   case enter f args =>
    refine ⟨h.1,CallsIn.mono h.2 fun e w'' he=>?_⟩
    cases e with
    | returned u=>exact hR _ _ he
    | panicked c=>exact hQ _ _ _ he
    | outgrown=>exact he
   case row row args=>exact ⟨h.1,RowsIn.mono h.2 fun u w'' he=>hR _ _ he⟩
   case round l f tmps assign body =>
    refine ⟨h.1,RoundIn.mono h.2 fun e w'' he=>?_⟩
    cases e with
    | returned u=>exact hR _ _ he
    | panicked c=>exact hQ _ _ _ he
    | outgrown=>exact he
  | halt x w' =>
   cases x <;> simp only [Oper.uponIn] at h ⊢
   case panic u=>exact hQ _ _ _ h
 ·rename_i hw
  simp only [hw] at h
  exact ⟨h.1,keep a hy _,by rw [← Act.put_comm a v undef h2];exact h.2⟩
def jG (F:Fence) (n:Nat) (P:Program) (md:Region.Mode) (ops:Array Oper) (Q:Exit→Act→World→Prop) (S:World→Prop) (s:Nat):Nat→Array Bool→Act→World→Prop
 | 0,listed,a,w=>Region.ready md ops listed=[]∧Q .normal a w
 | fuel+1,listed,a,w=>(Region.ready md ops listed=[]→Q .normal a w)∧∀ i∈Region.ready md ops listed,wpOpIn F n P ops Q i (fun a' w' =>((listed.setIfInBounds i true).getD s true=false→S w')∧jG F n P md ops Q S s fuel (listed.setIfInBounds i true) a' w') a w
theorem wW:∀ (fuel:Nat) (listed:Array Bool) (a:Act) (w:World),jG F n P md ops Q S s fuel listed a w→wpAnyIn F n P md ops Q fuel listed a w
 | 0,_,_,_,h=>h
 | fuel+1,_,_,_,h=>⟨h.1,fun i hi=>wpOpIn_mono (fun a' w' h' =>wW fuel _ a' w' h'.2) (h.2 i hi)⟩
theorem PR {i:Nat} {oi:Oper} {v:Value} (hnd:BI ops=true) (hi:ops[i]?=some oi) (hsel:∀ (j:Nat) (o:Oper) cs b,ops[j]?=some o→o.op≠ .select cs b)
 (hQ:∀ c a w,Q (.panic c) (a.put oi.dst v) w→Q (.panic c) a w) (hw:waits md ops s i=true) :
 ∀ (fuel:Nat) (listed:Array Bool) (a:Act) (w:World),
  (∀ j oj,ops[j]?=some oj→j≠i→listed.getD j true=false→(∀ e∈oj.after,Region.binds md e=true→e.on≠i)→oi.apart ops oj=true) →
  i∈Region.ready md ops listed→jQ P ops S oi v a→S w→listed.getD s true=false →
  jG F n P md ops Q S s fuel (listed.setIfInBounds i true) (a.put oi.dst v) w→jG F n P md ops Q S s (fuel+1) listed a w:=by
 have hsi:s≠i:=by simp only [waits,Bool.and_eq_true,bne_iff_ne] at hw;exact hw.1
 have aWR:∃ os,ops[s]?=some os∧∃ e∈os.after,Region.binds md e=true∧e.on=i:=by
  simp only [waits,Bool.and_eq_true] at hw
  have h2:=hw.2
  cases ho:ops[s]? with
  | none=>rw [ho] at h2;simp at h2
  | some os =>
   rw [ho] at h2
   simp only [Array.any_eq_true', Bool.and_eq_true,beq_iff_eq] at h2
   obtain ⟨e,he,hb,ho'⟩:=h2
   exact ⟨os,rfl,e,he,hb,ho'⟩
 intro fuel
 induction fuel with
 | zero =>
  intro listed a w _ hr hy hS _ H
  refine ⟨fun h=>(by rw [h] at hr;cases hr),fun j hj=>?_⟩
  by_cases hji:j=i
  ·subst hji;exact hy.op (vP hnd hi) hi hS ⟨fun _=>hS,H⟩
  ·have:=ready_mono hj hji
   rw [H.1] at this
   cases this
 | succ fuel ih =>
  intro listed a w hfree hr hy hS hun H
  refine ⟨fun h=>(by rw [h] at hr;cases hr),fun j hj=>?_⟩
  by_cases hji:j=i
  ·subst hji;exact hy.op (vP hnd hi) hi hS ⟨fun _=>hS,H⟩
  ·have h1:=H.2 j (ready_mono hj hji)
   obtain ⟨hjun,oj,hoj,hall⟩:=mem_ready.1 hj
   have hnot:∀ e∈oj.after,Region.binds md e=true→e.on≠i:=fun e he hb heq=>by
    have h1:=hall e he hb
    have h0:=(mem_ready.1 hr).1
    rw [heq] at h1
    rcases Nat.lt_or_ge i listed.size with h' | h'
    ·simp [h'] at h0 h1;rw [h0] at h1;cases h1
    ·simp [Array.getElem?_eq_none h'] at h1
   have hjs:j≠s:=fun e=>by
    subst e
    obtain ⟨os,ho,e,he,hb,he'⟩:=aWR
    rw [ho] at hoj
    cases hoj
    exact hnot e he hb he'
   have h2:=VL (vP hnd hoj) hoj (hfree j oj hoj hji hjun hnot) (fun cs b=>hsel i oi cs b hi) (fun cs b=>hsel j oj cs b hoj) hQ hy h1
   have hfree' :∀ k ok,ops[k]?=some ok→k≠i→(listed.setIfInBounds j true).getD k true=false→(∀ e∈ok.after,Region.binds md e=true→e.on≠i)→oi.apart ops ok=true:=fun k ok hk hki hun hno=>by
    refine hfree k ok hk hki ?_ hno
    by_cases hjk:j=k
    ·subst hjk;exact hjun
    ·rw [getD_set_ne true hjk] at hun;exact hun
   have hu1:(listed.setIfInBounds j true).getD s true=false:=by rw [getD_set_ne true hjs];exact hun
   have hu2:((listed.setIfInBounds i true).setIfInBounds j true).getD s true=false:=by rw [getD_set_ne true hjs,getD_set_ne true (Ne.symm hsi)];exact hun
   refine wpOpIn_mono (fun a' w' h3=>⟨fun _=>h3.2.1 hu2,ih (listed.setIfInBounds j true) a' w' hfree' (ready_mono hr (Ne.symm hji)) h3.1 (h3.2.1 hu2) hu1 ?_⟩) h2
   rw [Array.setIfInBounds_comm _ _ hji]
   exact h3.2.2
theorem vC (s:Nat) {id:Nat} {a:Act} {w:World} (hm:P.follows .mixedOrders=true) (hS:S w.drew) (h:(∀ (d:Option Nat) (v:Value) c a w,KV Q (.panic c) (a.put d v) w→KV Q (.panic c) a w)→S w.drew→jG F n P .any ops (KV Q) S s ops.size (Array.replicate ops.size false) a w.drew):(Code.region id ops true).wpIn F n P Q a w :=
 wpIn_mono (wpIn_region_any hm (wW _ _ _ _ (h (fun _ _ c _ _ q=>absurd rfl (q.1 c)) hS))) (fun _ _ _ h=>h.2)
variable {fuel:Nat} {listed:Array Bool} {a a' :Act} {w:World} {oi:Oper} {v:Value}
theorem tiw (i:Nat) (h:jG F n P md ops Q S s fuel (listed.setIfInBounds i true) a' w) (hi:ops[i]?=some oi:=by rfl) (hw:Region.wanted oi (yielded ops a.tmps)=true:=by as_aux_lemma=>kernel_rfl)
 (hv:∀ w,S w→(execOp a.eval oi).run P w=.ok (.value v) w:=by intro w hSw;(try dsimp only at hSw);go_simp;all_goals with_reducible rfl) (ha:a.put oi.dst v=a' :=by (try simp only [Act.put,EH,EI,EJ]);rfl) (hb:∀ w,oi.about P w a.eval=none:=by exact fun _=>rfl)
 (hQ:∀ c a w,Q (.panic c) (a.put oi.dst v) w→Q (.panic c) a w:=by first | exact hQp _ _ | exact fun _ _ _ h=>h) (hs:(Region.noSelect ops&&Region.free md ops listed i&&(Region.ready md ops listed).contains i&&waits md ops s i&&!listed.getD s true&&BI ops)=true:=by as_aux_lemma=>kernel_rfl) (hS:S w:=by assumption):jG F n P md ops Q S s (fuel+1) listed a w:=by
 simp only [Bool.and_eq_true,Bool.not_eq_true'] at hs
 obtain ⟨⟨⟨⟨⟨h1,h2⟩,h3⟩,h4⟩,h5⟩,h6⟩:=hs
 exact PR h6 hi (Region.noSelect_spec h1) hQ h4 fuel listed a w (Region.free_spec hi h2) (by simpa using h3) ⟨Or.inl ⟨hw,hv⟩,hb⟩ hS h5 (by rw [ha];exact h)
theorem tiv {k:Nat} (h:jG F n P md ops Q S s fuel ((listed.setIfInBounds k true).setIfInBounds (k+1) true) a' w) (hi:ops[k+1]?=some oi:=by rfl) (hw:Region.wanted oi (yielded ops a.tmps)=true:=by as_aux_lemma=>kernel_rfl)
 (hv:∀ w,S w→(execOp a.eval oi).run P w=.ok (.value v) w:=by intro w hSw;(try dsimp only at hSw);go_simp;all_goals with_reducible rfl) (ha:a.put oi.dst v=a' :=by (try simp only [Act.put,EH,EI,EJ]);rfl) (hb:∀ w,oi.about P w a.eval=none:=by exact fun _=>rfl)
 (hQ:∀ c a w,Q (.panic c) (a.put oi.dst v) w→Q (.panic c) a w:=by first | exact hQp _ _ | exact fun _ _ _ h=>h) (hs:(Region.noSelect ops&&Region.free md ops (listed.setIfInBounds k true) (k+1)&&(Region.ready md ops (listed.setIfInBounds k true)).contains (k+1)&&waits md ops s (k+1)&&!(listed.setIfInBounds k true).getD s true&&BI ops)=true:=by as_aux_lemma=>kernel_rfl) (hS:S w:=by assumption):jG F n P md ops Q S s (fuel+1) (listed.setIfInBounds k true) a w :=
 tiw (k+1) h hi hw hv ha hb hQ hs hS
theorem tir (i:Nat) (h:∀ K' :Act→World→Prop,Go.Shut (∀ a w,S w→(S w→jG F n P md ops Q S s fuel (listed.setIfInBounds i true) a w)→K' a w)→Oper.wpIn F n P oi a w K' Q) (hi:ops[i]?=some oi:=by rfl) (hw:Region.wanted oi (yielded ops a.tmps)=true:=by as_aux_lemma=>kernel_rfl) (hr:Region.ready md ops listed=[i]:=by as_aux_lemma=>kernel_rfl):jG F n P md ops Q S s (fuel+1) listed a w:=by
 refine ⟨fun h0=>(by rw [hr] at h0;cases h0),fun j hj=>?_⟩
 rw [hr,List.mem_singleton] at hj
 subst hj
 exact wpOpIn_step hi (fun K' hK=>by rw [if_pos hw];exact h K' (fun a w hS hW=>hK a w ⟨fun _=>hS,hW hS⟩))
theorem tia (i:Nat) {w' :World} {xv yv v' :Value} (x y:Operand) (t:TypeId) (hr:(Builtin.append_ #[t,t] oi.type #[xv,yv]).run P w=.ok v' w') (hS:S w') (h:S w' →jG F n P md ops Q S s fuel (listed.setIfInBounds i true) a' w') (hi:ops[i]?=some oi:=by rfl) (ho:oi.op=.call { callee:=.builtin .append,args:=#[x,y],argTypes:=#[t,t] }:=by rfl) (hx:a.eval x=xv:=by rfl) (hy:a.eval y=yv:=by rfl) (hw:Region.wanted oi (yielded ops a.tmps)=true:=by as_aux_lemma=>kernel_rfl) (ha:a.put oi.dst v' =a' :=by (try simp only [Act.put,EH,EI,EJ]);rfl) (hrd:Region.ready md ops listed=[i]:=by as_aux_lemma=>kernel_rfl):jG F n P md ops Q S s (fuel+1) listed a w:=by
 refine tir i (fun K hK=>?_) hi hw hrd
 unfold Oper.wpIn
 rw [Oper.semAt_eq _ _ _ (fun c e=>by rw [ho] at e;cases e)]
 refine ⟨fun f hf=>?_,?_⟩
 ·exfalso
  unfold Oper.about at hf
  simp [ho,resolve,Sem.run_pure] at hf
  cases hf
 unfold execOp
 simp only [ho,resolve,invoke,builtin,Sem.run_bind,Sem.run_pure,Result.andThen_ok,List.map_toArray,List.map_cons,List.map_nil,hx,hy,hr]
 show K (a.put oi.dst v') w'
 rw [ha]
 exact hK.out _ _ hS h
theorem tis (i:Nat) (h:∀ K' :Act→World→Prop,Go.Shut (∀ a w,jG F n P md ops Q S i fuel (listed.setIfInBounds i true) a w→K' a w)→Oper.wpIn F n P oi a w K' Q) (hi:ops[i]?=some oi:=by rfl) (hw:Region.wanted oi (yielded ops a.tmps)=true:=by as_aux_lemma=>kernel_rfl) (hr:Region.ready md ops listed=[i]:=by as_aux_lemma=>kernel_rfl):jG F n P md ops Q S i (fuel+1) listed a w:=by
 refine ⟨fun h0=>(by rw [hr] at h0;cases h0),fun j hj=>?_⟩
 rw [hr,List.mem_singleton] at hj
 subst hj
 exact wpOpIn_step hi (fun K' hK=>by
  rw [if_pos hw]
  exact h K' (fun a w hW=>hK a w ⟨fun h0=>(by
   rw [Array.getD_eq_getD_getElem?,Array.getElem?_setIfInBounds,if_pos rfl] at h0
   split at h0 <;> cases h0),hW⟩))
theorem zS (hr:Region.ready md ops listed=[]) (h:Q .normal a w):∀ fuel,jG F n P md ops Q S s fuel listed a w
 | 0=>⟨hr,h⟩
 | _+1=>⟨fun _=>h,by rw [hr];simp⟩
end
end Go.Proofs.YtegloodcbfalfaaGreatDoor
namespace Go.Proofs.YtegloodcbfalfaaGreatDoor
open Go.RowKit Go.Shelf
theorem EM (n:Nat) (b off cap:Nat) (ns:List Nd) (w:World) (hN:aH w b off ns) (hl:1≤ns.length∧ns.length≤512) :
 CallsIn Fence.wide n Tryz.prog 14 #[.slice (some ⟨b,off,none⟩) ns.length cap] w fun e w' =>∃ v,e=.returned v∧w'.ownsRow w.heap.size 42 6 v ns.length (ns.flatMap aP)∧Below w.heap.size w w' :=by
 obtain ⟨i0,hi0,hz0,hz1,hz2⟩:=info_parts jC
 have q22:∀ (w:World) (a:Option Addr) (n c n' c' :Nat),(binOp .eql 22 (.slice a n c) (.slice none n' c')).run Tryz.prog w=.ok (.bool a.isNone) w:=fun w a n c n' c' =>Lib.run_eql_slice_nil w _ _ a n c n' c' Tryz.underlying22
 refine callsIn_of_wp Tryz.func14 rfl trivial ?_ rfl
 simp only [Tryz.ntmps14,List.size_toArray,List.length_cons,List.length_nil,Nat.reduceAdd,Nat.reduceSub,Array.replicate_succ,Array.replicate_zero,List.push_toArray,List.append_toArray,List.nil_append,List.cons_append]
 have VM:Below w.heap.size w (w.alloc (.cells #[] 42)):=dY
 gi_wp2_with (gi_at_builtin;refine wpListIn_append_own _ rfl _ _ 22 rfl w.heap.size 42 i0 _ 6 48 Tryz.underlying22 hi0 hz0 hz1 hz2 rfl aL (.slice (some ⟨w.heap.size,0,none⟩) 0 0) 0 [] rfl ⟨rfl,Or.inr ⟨w.heap.size,0,#[],rfl,Nat.le_refl _,World.alloc_heap_new w _,Nat.le_refl _,aL,rfl,rfl⟩⟩ ⟨b,off,none⟩ ns.length cap (ns.flatMap aP) rfl (sM 6 aP dM ns) (EA (hN.below VM hN.lt)) (yN ns) (by unfold maxLen;omega) aF aQ ?_;intro v' w1 hown hgrow _)
 rw [Nat.zero_add,List.nil_append] at hown
 go_ret
 exact ⟨v', rfl,hown,VM.grown hgrow VM.size (fun k e=>by simp [Value.ownBlock] at e;omega)⟩
theorem aRZ (x:Nd) (fr tq:Int) (w:World) :
 Calls Tryz.prog 63 #[.agg #[.int .i64 x.op,.int .i64 x.d,.int .i64 x.a,.int .i64 x.b,.int .i64 x.t,.int .i64 x.e],.int .i64 fr,.int .i64 tq] w fun e w' =>e=.returned (.agg #[.int .i64 (oV x fr tq).op,.int .i64 (oV x fr tq).d,.int .i64 (oV x fr tq).a,.int .i64 (oV x fr tq).b,.int .i64 (oV x fr tq).t,.int .i64 (oV x fr tq).e])∧w' =(w.alloc (.cells (aP (oV x fr tq)).toArray 42)).alloc (.cells (aP (oV x fr tq)).toArray 42):=by
 obtain ⟨op,d,a,b,t,e⟩:=x
 go_enter Tryz.func63,Tryz.ntmps63
 go_wp2
 all_goals refine bodyPost_ret (v:=.agg #[.int .i64 (oV ⟨op,d,a,b,t,e⟩ fr tq).op,.int .i64 (oV ⟨op,d,a,b,t,e⟩ fr tq).d,.int .i64 (oV ⟨op,d,a,b,t,e⟩ fr tq).a,.int .i64 (oV ⟨op,d,a,b,t,e⟩ fr tq).b,.int .i64 (oV ⟨op,d,a,b,t,e⟩ fr tq).t,.int .i64 (oV ⟨op,d,a,b,t,e⟩ fr tq).e]) ?_ rfl ⟨rfl,?_⟩
 all_goals (rename_i h1 h2;simp only [beq_iff_eq,beq_eq_false_iff_ne,ne_eq] at h1 h2;simp [results,Tryz.results63,go_sem,oV,aP,h1,h2])
end Go.Proofs.YtegloodcbfalfaaGreatDoor
namespace Go.Proofs.YtegloodcbfalfaaGreatDoor
open Go.RowKit Go.Shelf
attribute [local go_sem] Oper.semAt_some
theorem aWS {r:Int} {ns:List Nd} (hc:bM r ns=0) {x:Nd} (hx:x∈ns) {m:Int} (hm:m∈jI x):0≤m∧m<ns.length:=by
 unfold jI at hm
 have hk:=aY.1 ((bB hc).2.2.1 x hx)
 split at hm
 ·rename_i h11
  have a:=then_ok hc hx aF
  have b:=OE hc hx h11
  split at hm
  ·simp at hm;omega
  ·simp at hm;omega
 ·split at hm
  ·rename_i h11 hw
   have:=aY.1 hw
   have a:=then_ok hc hx aF
   simp at hm;omega
  ·simp at hm
theorem uH:(Tryz.prog.info? 25).map (fun i=>(i.zero,i.size,i.bytes))=some (some (.slice none 0 0),1,24):=by kernel_rfl
theorem zU (ns:List Nd) (k:Nat) (l:List Int) (m:Nat):iA ns k (l++[(m:Int)]) m=iA ns k l m++[(k:Int)]:=by
 simp [iA,List.count_append,List.replicate_succ']
theorem VN (ns:List Nd) (k:Nat) (l:List Int) {m j:Nat} (h:j≠m):iA ns k (l++[(m:Int)]) j=iA ns k l j:=by
 have:List.count (j:Int) [(m:Int)]=0:=by
  rw [List.count_eq_zero];simp;omega
 simp only [iA,List.count_append,this,Nat.add_zero]
theorem uI (n:Nat):madeCells #[Value.slice none 0 0] n=(List.replicate n (Value.slice none 0 0)).toArray:=by
 apply Array.ext'
 rw [toList_madeCells_one]
theorem aMI {w:World} {base rb L:Nat} {ns:List Nd} (h:w.heap[rb]?=some (.cells (madeCells #[Value.slice none 0 0] L) 25 (0,0))):dS w base rb L (List.replicate L (.slice none 0 0)) (fun m=>pick (mF ns m) 0):=by
 refine ⟨by rw [h,uI],aQ,fun m v hv=>?_,fun m1 m2 v1 v2 g h1 h2 e1 e2=>?_⟩
 ·obtain rfl:=List.eq_of_mem_replicate (List.mem_of_getElem? hv)
  exact World.ownsRow_nil _ _ _ _
 ·obtain rfl:=List.eq_of_mem_replicate (List.mem_of_getElem? h1)
  simp [Value.ownBlock] at e1
theorem vD (n:Nat) (hn:4≤n) (r:Int) (b off cap:Nat) (ns:List Nd) (w:World) (hN:aH w b off ns) (hc:bM r ns=0) :
 CallsIn Fence.wide n Tryz.prog 61 #[.agg #[.int .i64 r,.slice (some ⟨b,off,none⟩) ns.length cap]] w fun e w' =>∃ rb vs,e=.returned (.slice (some ⟨rb,0,none⟩) ns.length ns.length)∧dS w' w.heap.size rb ns.length vs (fun m=>pick (mF ns m) ns.length)∧Below w.heap.size w w' :=by
 have h1:1≤n:=by omega
 have h2:1≤n-1-1:=by omega
 have hl:=(bB hc).1
 obtain ⟨i0,hi,hz0,hz1,hz2⟩:=info_parts fZ
 refine callsIn_of_wp_marks Tryz.func61 rfl trivial ?_ rfl
 simp only [Tryz.ntmps61,List.size_toArray,List.length_cons,List.length_nil,Nat.reduceAdd,Nat.reduceSub,Array.replicate_succ,Array.replicate_zero,List.push_toArray,List.append_toArray,List.nil_append,List.cons_append]
 have hms:∀ W:World,Sem.run Tryz.prog (Instr.makeSlice 71 (.int .i64 (ns.length:Int)) (.int .i64 (ns.length:Int))) W=.ok (.slice (some ⟨W.heap.size,0,none⟩) ns.length ns.length) (W.alloc (.cells (madeCells #[.slice none 0 0] ns.length) 25)):=fun W=>run_make_row' 71 25 _ 24 Tryz.underlying71 uH rfl .i64 .i64 ns.length aF aF W
 gi_wp2
 have hB0:Below w.heap.size w (((w.alloc (.cells #[.int .i64 r,.slice (some ⟨b,off,none⟩) ns.length cap] 24)).alloc (.cells (madeCells #[.slice none 0 0] ns.length) 25)).alloc (.cells #[.slice (some ⟨w.heap.size+1,0,none⟩) ns.length ns.length] 71)):=((dY).alloc aQ _).alloc bF _
 have hbx0:Boxed (((w.alloc (.cells #[.int .i64 r,.slice (some ⟨b,off,none⟩) ns.length cap] 24)).alloc (.cells (madeCells #[.slice none 0 0] ns.length) 25)).alloc (.cells #[.slice (some ⟨w.heap.size+1,0,none⟩) ns.length ns.length] 71)) (w.heap.size+1+1) 71 (.slice (some ⟨w.heap.size+1,0,none⟩) ns.length ns.length):=by
  have:=Boxed.new ((w.alloc (.cells #[.int .i64 r,.slice (some ⟨b,off,none⟩) ns.length cap] 24)).alloc (.cells (madeCells #[.slice none 0 0] ns.length) 25)) 71 (.slice (some ⟨w.heap.size+1,0,none⟩) ns.length ns.length)
  simpa only [World.size_alloc] using this
 have hR0:dS (((w.alloc (.cells #[.int .i64 r,.slice (some ⟨b,off,none⟩) ns.length cap] 24)).alloc (.cells (madeCells #[.slice none 0 0] ns.length) 25)).alloc (.cells #[.slice (some ⟨w.heap.size+1,0,none⟩) ns.length ns.length] 71)) w.heap.size (w.heap.size+1) ns.length (List.replicate ns.length (.slice none 0 0)) (fun m=>pick (mF ns m) 0):=by
  refine aMI ((Below.heap_alloc _ _ _ aQ).trans ?_)
  have:=World.alloc_heap_new (w.alloc (.cells #[.int .i64 r,.slice (some ⟨b,off,none⟩) ns.length cap] 24)) (.cells (madeCells #[.slice none 0 0] ns.length) 25)
  simpa only [World.size_alloc] using this
 generalize (((w.alloc (.cells #[.int .i64 r,.slice (some ⟨b,off,none⟩) ns.length cap] 24)).alloc (.cells (madeCells #[.slice none 0 0] ns.length) 25)).alloc (.cells #[.slice (some ⟨w.heap.size+1,0,none⟩) ns.length ns.length] 71))=W0 at hB0 hbx0 hR0 ⊢
 refine wpIn_loop (fun a W=>∃ (k:Nat) (u4 u5 u15 u16 u17 u18 u19 u20 u32:Value) (ds:List Nat),k≤ns.length∧(∃ vs,dS W w.heap.size (w.heap.size+1) ns.length vs (fun m=>pick (mF ns m) k))∧Boxed W (w.heap.size+1+1) 71 (.slice (some ⟨w.heap.size+1,0,none⟩) ns.length ns.length)∧Below w.heap.size w W∧Marks ds W∧(∀ D∈ds,w.heap.size≤D) ∧
  a={ tmps:=#[.agg #[.int .i64 r,.slice (some ⟨b,off,none⟩) ns.length cap],.pointer (some ⟨w.heap.size,0,none⟩),.slice none 0 0,.pointer (some ⟨w.heap.size+1+1,0,none⟩),u4,u5,undef,.pointer (some ⟨w.heap.size,1,none⟩),.slice (some ⟨b,off,none⟩) ns.length cap,.int .i64 ns.length,.slice (some ⟨w.heap.size+1,0,none⟩) ns.length ns.length,.pointer (some ⟨w.heap.size,1,none⟩),.slice (some ⟨b,off,none⟩) ns.length cap,.int .i64 ns.length,.int .i64 k,u15,u16,u17,u18,u19,u20,undef,undef,undef,undef,undef,undef,undef,undef,undef,undef,undef,u32,undef],defers:=ds.map aDT })
  (fun a _=>ns.length-(intOf (a.tmps.getD 14 undef)).toNat) ?atStart ?round
 case atStart=>exact ⟨0,_,_,_,_,_,_,_,_,_,[],Nat.zero_le _,⟨_,hR0⟩,hbx0,hB0,Marks.nil _,aQ,rfl⟩
 case round =>
  rintro _ wr ⟨k,u4,u5,u15,u16,u17,u18,u19,u20,u32,ds,hk,⟨vs,hR⟩,hbx,hB,hM,hD', rfl⟩
  have hcb:=hbx.cell
  have bIL:=hbx.lt
  by_cases hlt:k<ns.length
  ·obtain ⟨x,hx⟩:=bD hlt
   have hN1:=hN.below hB hN.lt
   have c0:=hN1.c0 k x hx
   have c1:=hN1.c1 k x hx
   have c2:=hN1.c2 k x hx
   have c3:=hN1.c3 k x hx
   have c4:=hN1.c4 k x hx
   have c5:=hN1.c5 k x hx
   have hblt:=hN1.lt
   have HX:=aR hx
   have HN:=aR hN1
   have HR:=aR hR
   clear hx hN1 hR
   gi_wp2_with (refine ⟨trivial,?_⟩;gi_at_call 62;refine (wR _ _ _ _ _ _ _ _).mono ?_;rintro e w' ⟨rfl,rfl⟩)
   have hBL:Below wr.heap.size wr (((wr.alloc (.cells #[.int .i64 k] 3)).alloc (.cells #[.int .i64 x.op,.int .i64 x.d,.int .i64 x.a,.int .i64 x.b,.int .i64 x.t,.int .i64 x.e] 42)).alloc (.cells #[.int .i64 x.op,.int .i64 x.d,.int .i64 x.a,.int .i64 x.b,.int .i64 x.t,.int .i64 x.e] 42)):=((dY).alloc aQ _).alloc bF _
   have hn4:Boxed (((wr.alloc (.cells #[.int .i64 k] 3)).alloc (.cells #[.int .i64 x.op,.int .i64 x.d,.int .i64 x.a,.int .i64 x.b,.int .i64 x.t,.int .i64 x.e] 42)).alloc (.cells #[.int .i64 x.op,.int .i64 x.d,.int .i64 x.a,.int .i64 x.b,.int .i64 x.t,.int .i64 x.e] 42)) wr.heap.size 3 (.int .i64 k):=((Boxed.new wr 3 (.int .i64 k)).alloc _).alloc _
   have hnb:bY (((wr.alloc (.cells #[.int .i64 k] 3)).alloc (.cells #[.int .i64 x.op,.int .i64 x.d,.int .i64 x.a,.int .i64 x.b,.int .i64 x.t,.int .i64 x.e] 42)).alloc (.cells #[.int .i64 x.op,.int .i64 x.d,.int .i64 x.a,.int .i64 x.b,.int .i64 x.t,.int .i64 x.e] 42)) (wr.heap.size+1+1) x:=by
    have:=lV ((wr.alloc (.cells #[.int .i64 k] 3)).alloc (.cells #[.int .i64 x.op,.int .i64 x.d,.int .i64 x.a,.int .i64 x.b,.int .i64 x.t,.int .i64 x.e] 42)) x
    simpa only [World.size_alloc] using this
   generalize (((wr.alloc (.cells #[.int .i64 k] 3)).alloc (.cells #[.int .i64 x.op,.int .i64 x.d,.int .i64 x.a,.int .i64 x.b,.int .i64 x.t,.int .i64 x.e] 42)).alloc (.cells #[.int .i64 x.op,.int .i64 x.d,.int .i64 x.a,.int .i64 x.b,.int .i64 x.t,.int .i64 x.e] 42))=WL at hBL hn4 hnb ⊢
   have a8B:Boxed WL (w.heap.size+1+1) 71 _:=(hBL.block _ hbx.lt).trans hbx
   have a8C :=bG hB hBL
   have hsL:=hBL.size
   have hsz:=hB.size
   have aMJ:=hnb.lt
   have hmk:=bB hc
   have hkx:=hmk.2.2.1 x (List.mem_of_getElem? HX.out)
   have hmx:∀ y:Ex x,0≤y.1∧y.1<ns.length:=fun y=>aWS hc (List.mem_of_getElem? HX.out) y.2
   clear hmk c0 c1 c2 c3 c4 c5 hcb
   refine wpIn_rangeFunc_ownG rfl h1 (gf:=98) (lb:=#[.pointer (some ⟨wr.heap.size+1+1,0,none⟩)]) rfl trivial (enters_of Tryz.func98 fJ rfl)
    (oJ (n-1) aF (wr.heap.size+1+1) x _ hnb) KT.trans (KT.putObj aMJ) (Below.refl _ _) (fun _=>rfl)
    (fun pre W=>((∃ vs,dS W w.heap.size (w.heap.size+1) ns.length vs (iA ns k (pre.map (·.1)))∧∀ (j:Nat) (v:Value),vs[j]?=some v→v.ownBlock≠some wr.heap.size)∧Boxed W (w.heap.size+1+1) 71 (.slice (some ⟨w.heap.size+1,0,none⟩) ns.length ns.length)∧Boxed W wr.heap.size 3 (.int .i64 k)∧bY W (wr.heap.size+1+1) x∧Marks ds W)∧Below w.heap.size w W)
    (fun _ _ _=>False)
    (OwnFrom.and ?own (ownFrom_below aF aF))
    (fun _ _ _ _ _ hs _ _=>hs)
    ⟨⟨⟨vs,by rw [show iA ns k (([]:List (Ex x)).map (·.1))=fun m=>pick (mF ns m) k from aAR ns k];exact HR.out.below hBL,fun j v hj e=>by have:=((HR.out.own j v hj).lt _ e).2;omega⟩,a8B,hn4,hnb,hM.below hBL⟩,a8C⟩
    (fun y=>{ tmps:=#[.agg #[.int .i64 r,.slice (some ⟨b,off,none⟩) ns.length cap],.pointer (some ⟨w.heap.size,0,none⟩),.slice none 0 0,.pointer (some ⟨w.heap.size+1+1,0,none⟩),.pointer (some ⟨wr.heap.size,0,none⟩),.pointer (some ⟨wr.heap.size+1,0,none⟩),.int .i64 y.1,.pointer (some ⟨w.heap.size,1,none⟩),.slice (some ⟨b,off,none⟩) ns.length cap,.int .i64 ns.length,.slice (some ⟨w.heap.size+1,0,none⟩) ns.length ns.length,.pointer (some ⟨w.heap.size,1,none⟩),.slice (some ⟨b,off,none⟩) ns.length cap,.int .i64 ns.length,.int .i64 k,.bool true,.int .i64 k,.pointer (some ⟨b,off+k*6,none⟩),.agg #[.int .i64 x.op,.int .i64 x.d,.int .i64 x.a,.int .i64 x.b,.int .i64 x.t,.int .i64 x.e],.agg #[.int .i64 x.op,.int .i64 x.d,.int .i64 x.a,.int .i64 x.b,.int .i64 x.t,.int .i64 x.e],.func (.func 98) #[] #[.pointer (some ⟨wr.heap.size+1+1,0,none⟩)],.int .i64 y.1,undef,undef,undef,undef,undef,undef,undef,undef,undef,undef,u32,undef],defers:=[] }) ?assign ?body ?done ?stop
   case own =>
    rintro pre A C row ⟨⟨vs,hvs,hno⟩,hb1,hb2,hb3,hm1⟩ hg hr
    have hcl:∀ (b:Nat) (o:Obj),A.heap[b]?=some o→o.isCells=true→some b≠row:=fun b o h1 h2 e=>by
     obtain ⟨_,o', h3,h4⟩:=hr b e.symm
     rw [h1] at h3;cases h3;rw [h2] at h4;cases h4
    exact ⟨⟨vs,hvs.kept hg (fun r e=>(hr r e).2),hno⟩,hb1.kept hg (hcl _ _ hb1 rfl),hb2.kept hg (hcl _ _ hb2 rfl),(hg.block _ hb3.lt (hcl _ _ hb3 rfl)).trans hb3,hm1.grown hg fun q e hq=>by
     have h1:=(hr q e).1
     have h2:=hM.lt hq
     omega⟩
   case assign =>
    intro l y W K hK
    gi_wp2
    exact hK
   case body =>
    rintro l pre y W ⟨⟨⟨vs,hvs,hno⟩,hb1,hb2,hb3,hm1⟩,hB1⟩ hpl
    obtain ⟨hm0,hm2⟩:=hmx y
    obtain ⟨m,hmy⟩:=Int.eq_ofNat_of_zero_le hm0
    have jP:m<ns.length:=by omega
    have a8D :m<vs.length:=by rw [hvs.len];exact jP
    obtain ⟨v,hv⟩:=bD a8D
    have hown:=hvs.own m v hv
    have hcb:=hb1.cell
    have hck:=hb2.cell
    have hrc:W.cell? ⟨w.heap.size+1,m,none⟩=some v:=by rw [aA hvs.blk];simpa using hv
    have aGQ:pre.length<2:=Nat.lt_of_lt_of_le hpl (wQ x)
    have hrl:=aAS ns k (pre.map (·.1)) m
    rw [List.length_map] at hrl
    obtain ⟨g,jM,w1,hrun,hown1,hgrow,hat,hgl⟩:=run_append_lies (P:=Tryz.prog) (W.drew.alloc (.cells #[.int .i64 k] 3)) 25 25 w.heap.size 3 i0 (.int .i64 0) 1 8 Tryz.underlying25 hi hz0 hz1 hz2 rfl aL v _ _ (World.ownsRow.alloc (show W.drew.ownsRow _ _ _ _ _ _ from hown) _) ⟨W.heap.size,0,none⟩ 1 1 [.int .i64 k] rfl (cell_one_new _ _ _) (by simp [Value.oneCell']) aL (by unfold maxLen;omega) aF (by have:=hB1.size;simp;omega) _ rfl
    have HO:=aR hown1
    have HG:=aR hgrow
    have HA:=aR hat
    have HV:=aR hvs
    have HM:=aR hm1
    have HH:=aR hv
    have HW:=aR hown
    have HNO:=aR hno
    have HB3:=aR hb3
    clear hno hb3
    have hb1' :Boxed w1 (w.heap.size+1+1) 71 (.slice (some ⟨w.heap.size+1,0,none⟩) ns.length ns.length):=Boxed.kept (Boxed.alloc (show Boxed W.drew _ _ _ from hb1) _) hgrow (dF hown hb1 aL)
    have hr1' :w1.heap[w.heap.size+1]?=some (.cells vs.toArray 25 (0,0)):=(hgrow.block _ (by have:=(Array.getElem?_eq_some_iff.1 hvs.blk).1;simp;omega) (dF hown hvs.blk aL)).trans ((Below.heap_alloc W.drew _ _ (Array.getElem?_eq_some_iff.1 hvs.blk).1).trans hvs.blk)
    have q1:=hb1'.cell
    have q2:=aC hr1' m
    have q3:=aA hr1' m
    have q3' :vs.toArray[m]?=some v:=by simpa using hv
    rw [q3'] at q3
    rw [hmy]
    have HR1:=aR hr1'
    have HB1:=aR hb1'
    clear hown1 hgrow hat hvs hm1 hv hown hr1' q3'
    have hlt1:(m:Int)<(ns.length:Int):=by omega
    have z1:=hb1.lt
    have z2:=hb2.lt
    have z3:w.heap.size+1<W.heap.size:=by omega
    generalize hN0:(iA ns k (List.map (fun x=>x.val) pre) m).length=N0 at hrun HO HW hrl
    have HN0:=aR hN0
    clear hN0
    gi_wp2
    have hcd:Boxed w1 wr.heap.size 3 (.int .i64 k):=Boxed.kept (Boxed.alloc (show Boxed W.drew _ _ _ from hb2) _) HG.out (fun e=>HNO.out m v HH.out e.symm)
    have q4:=hcd.cell
    have hbA:Below W.heap.size W (W.drew.alloc (.cells #[.int .i64 k] 3)):=(Below.refl _ W).drew.alloc dD _
    refine vC 10 (S:=fun u=>u.cell? ⟨w.heap.size+1+1,0,none⟩=some (.slice (some ⟨w.heap.size+1,0,none⟩) ns.length ns.length)∧u.cell? ⟨w.heap.size+1,m,none⟩=some v∧u.cell? ⟨wr.heap.size,0,none⟩=some (.int .i64 k)) fJ ⟨hcb,hrc,hck⟩ (fun hQp hHeld=>?_)
    refine tiw 0 ?_
    iterate 6 refine tiv ?_
    refine tir 7 (fun K hK=>?_)
    go_simp
    refine hK.out _ _ ⟨(hbA.cell (p:=⟨w.heap.size+1+1,0,none⟩) z1).trans hcb,(hbA.cell (p:=⟨w.heap.size+1,m,none⟩) z3).trans hrc,(hbA.cell (p:=⟨wr.heap.size,0,none⟩) z2).trans hck⟩ (fun hHeld=>?_)
    clear hK K
    refine tia 8 (.tmp 27) (.tmp 29) 25 hrun ⟨q1,q3,q4⟩ (fun hHeld=>?_)
    refine tiv ?_
    refine tis 10 (fun K hK=>?_)
    go_simp
    refine hK.out _ _ ?_
    clear hK K
    refine zS fJ ?_ _
    refine ⟨fun c e=>(by cases e),?_⟩
    have hown:=HW.out
    have hgrow:=HG.out
    have hvs:=HV.out
    have hv:=HH.out
    have hrowc:∀ (j:Nat) (o:Obj),v.ownBlock=some j→(W.drew.alloc (.cells #[.int .i64 k] 3)).heap[j]?=some o→w.heap.size≤j∧∃ cur,o=.cells cur 3 (0,0):=by
     intro j o ej hj
     rcases hown.2 with ⟨rfl,_⟩ | ⟨g', cap', cur', rfl,hb', hgb,_⟩
     ·simp [Value.ownBlock] at ej
     ·obtain rfl:g' =j:=by simpa [Value.ownBlock] using ej
      rw [Below.heap_alloc W.drew _ _ (Array.getElem?_eq_some_iff.1 hgb).1] at hj
      rw [show W.drew.heap[g']?=W.heap[g']? from rfl,hgb] at hj
      cases hj
      exact ⟨hb', _,rfl⟩
    have hsA:W.heap.size≤(W.drew.alloc (.cells #[.int .i64 k] 3)).heap.size:=hbA.size
    have hlive:∀ j,v.ownBlock=some j→∃ o,(W.drew.alloc (.cells #[.int .i64 k] 3)).heap[j]?=some o:=fun j ej=>by
     have:=(hown.lt j ej).2
     exact ⟨_,Array.getElem?_eq_getElem aF⟩
    have hKO:KeepsOthers W (w1.setCell ⟨w.heap.size+1,m,none⟩ (.slice (some ⟨g,0,none⟩) (N0+1) jM)):=by
     refine ((KeepsOthers.drew W).trans (KeepsOthers.alloc W.drew _)).trans ((KeepsOthers.of_grownBy hgrow fun j o ej hj=>?_).trans (KeepsOthers.setCell _ _ _))
     obtain ⟨_,cur,rfl⟩:=hrowc j o ej hj
     rfl
    have hgB:∀ j,v.ownBlock=some j→w.heap.size≤j:=fun j ej=>by
     obtain ⟨o,ho⟩:=hlive j ej
     exact (hrowc j o ej ho).1
    have nA:Below w.heap.size W (w1.setCell ⟨w.heap.size+1,m,none⟩ (.slice (some ⟨g,0,none⟩) (N0+1) jM)) :=
     ((hbA.mono aF).grown hgrow aF hgB).setCell (p:=⟨w.heap.size+1,m,none⟩) aQ _
    have hKT:KT (wr.heap.size+1+1) W (w1.setCell ⟨w.heap.size+1,m,none⟩ (.slice (some ⟨g,0,none⟩) (N0+1) jM)):=by
     refine ((KT.of_below hbA HB3.out.lt).trans (KT.grown hgrow (by have:=HB3.out.lt;omega) fun j ej=>?_)).trans (KT.setCell HR1.out aL aF _)
     obtain ⟨o,ho⟩:=hlive j ej
     obtain ⟨_,cur,rfl⟩:=hrowc j o ej ho
     exact ⟨fun e=>dF hown HB3.out aL (by rw [ej,e]),_,_,_,ho,aL⟩
    have hrw:dS (w1.setCell ⟨w.heap.size+1,m,none⟩ (.slice (some ⟨g,0,none⟩) (N0+1) jM)) w.heap.size (w.heap.size+1) ns.length (vs.set m (.slice (some ⟨g,0,none⟩) (N0+1) jM)) (iA ns k ((pre++[y]).map (·.1))):=by
     have e1:iA ns k ((pre++[y]).map (·.1))=iA ns k (pre.map (·.1)++[(m:Int)]):=by rw [List.map_append];simp [hmy]
     have e2:(iA ns k (pre.map (·.1)++[(m:Int)]) m).length=N0+1:=by rw [zU,List.length_append,HN0.out];rfl
     rw [e1,← e2]
     refine dS.grow (hvs.below hbA) hv hgrow ?_ ?_ fun j hj=>VN ns k _ hj
     ·rcases HA.out with h | h
      ·exact Or.inl h
      ·right;rw [h];exact Nat.le_refl _
     ·have:=HO.out
      rw [e2]
      rw [zU,List.map_append]
      exact this
    refine ⟨hKO.from _,hKT,⟨⟨_,hrw,fun j u hj e=>?_⟩,?_,?_,hKT.node HB3.out,HM.out.others hKO⟩,hB1.trans nA⟩
    ·rw [List.getElem?_set] at hj
     split at hj
     ·cases hj
      simp only [Value.ownBlock,Option.some.injEq] at e
      rcases HA.out with h | h
      ·exact HNO.out m v hv (by rw [h,e])
      ·have:=hb2.lt;omega
     ·exact HNO.out j u hj e
    ·exact (Below.heap_setCell _ _ _ _ aQ).trans HB1.out
    ·refine (Below.heap_setCell _ _ _ _ bF).trans ?_
     exact Boxed.kept (Boxed.alloc (show Boxed W.drew _ _ _ from hb2) _) hgrow (fun e=>HNO.out m v hv e.symm)
   case done =>
    rintro D ys W hD rfl ⟨⟨⟨vs,hvs,hno⟩,hb1,hb2,hb3,hm1⟩,hB1⟩ hK
    have hrow:=hvs
    rw [pQ,VE ns k HX.out hkx] at hrow
    have HRR:=aR hrow
    have qV:=aR (hm1.cons hK fun E hE=>by have:=hM.lt hE;omega)
    clear hvs hrow hm1
    gi_wp2
    refine ⟨⟨k+1,_,_,_,_,_,_,_,_,_,D::ds,aF,⟨vs,HRR.out⟩,hb1,hB1,qV.out,fun E hE=>?_,rfl⟩,?_⟩
    ·rcases List.mem_cons.1 hE with rfl | hE
     ·omega
     ·exact hD' E hE
    ·simp [intOf];omega
   case stop =>
    rintro D c pre W _ _ h _
    exact h.elim
  ·have ek:k=ns.length:=by omega
   have HK:=aR ek
   clear ek
   gi_wp2
   refine kK ds _ hM hD' fun W' hS=>?_
   refine ⟨_,results_tmp rfl _ _ _,w.heap.size+1,vs,rfl,?_,hB.trans hS.below⟩
   have:=hS.rows hR
   rw [HK.out] at this
   exact this
theorem aGR:(Tryz.prog.info? 4).map (fun i=>(i.zero,i.size,i.bytes))=some (some (.bool false),1,1):=by kernel_rfl
theorem aAZ (n:Nat):madeCells #[Value.bool false] n=((List.replicate n false).map Value.bool).toArray:=by
 apply Array.ext'
 rw [toList_madeCells_one]
 simp
structure RM (w:World) (base q cb L:Nat) (x:List Bool) (cs:List Int) (vc:Value):Prop where
 row:w.heap[q]?=some (.cells (x.map Value.bool).toArray 4 (0,0))
 rbx:Boxed w (q+1) 73 (.slice (some ⟨q,0,none⟩) L L)
 cbx:Boxed w cb 25 vc
 come:w.ownsRow base 3 1 vc cs.length (cs.map (Value.int .i64))
theorem RM.kept {w w' :World} {base q cb L:Nat} {x:List Bool} {cs:List Int} {vc:Value} (h:RM w base q cb L x cs vc) {row:Option Nat} (hg:w.grownBy w' row) (hr:∀ r,row=some r→∃ o:Obj,w.heap[r]?=some o∧o.isCells=false):RM w' base q cb L x cs vc:=by
 have hcl:∀ (b:Nat) (o:Obj),w.heap[b]?=some o→o.isCells=true→some b≠row:=fun b o h1 h2 e=>by
  obtain ⟨o', h3,h4⟩:=hr b e.symm
  rw [h1] at h3;cases h3;rw [h2] at h4;cases h4
 refine ⟨(hg.block q (aD h.row) (hcl _ _ h.row rfl)).trans h.row,h.rbx.kept hg (hcl _ _ h.rbx rfl),h.cbx.kept hg (hcl _ _ h.cbx rfl),h.come.kept hg ?_⟩
 rcases h.come.2 with ⟨rfl,_⟩ | ⟨g,cap,cur,rfl,_,hgb,_⟩
 ·exact .inl rfl
 ·exact .inr (by
   have:=hcl g _ hgb rfl
   simpa [Value.ownBlock] using this)
theorem RM.below {w w' :World} {base q cb L:Nat} {x:List Bool} {cs:List Int} {vc:Value} (h:RM w base q cb L x cs vc) (hb:Below w.heap.size w w'):RM w' base q cb L x cs vc:=h.kept (kI hb none) (fun r e=>by cases e)
theorem RM.set {w:World} {base q cb L:Nat} {x:List Bool} {cs:List Int} {vc:Value} (h:RM w base q cb L x cs vc) (m:Nat):RM (w.setCell ⟨q,m,none⟩ (.bool true)) base q cb L (x.set m true) cs vc:=by
 refine ⟨?_,?_,?_,aI h.come h.row aL⟩
 ·rw [aG _ h.row];simp [List.map_set]
 ·exact (Below.heap_setCell _ _ _ _ (fD h.rbx h.row aL)).trans h.rbx
 ·exact (Below.heap_setCell _ _ _ _ (fD h.cbx h.row aL)).trans h.cbx
theorem aMK (r:Int) (b off cap:Nat) (ns:List Nd) (w:World) (hN:aH w b off ns) (hc:bM r ns=0) :
 CallsIn Fence.wide 5 Tryz.prog 71 #[.agg #[.int .i64 r,.slice (some ⟨b,off,none⟩) ns.length cap]] w fun e w' =>∃ v,e=.returned (.tuple #[v,.int .i64 0])∧w'.ownsRow w.heap.size 4 1 v ns.length ((bA ns).map Value.bool)∧Below w.heap.size w w' :=by
 have hl:=(bB hc).1
 obtain ⟨i0,hi0,hz0,hz1,hz2⟩:=info_parts fZ
 refine callsIn_of_wp_marks Tryz.func71 rfl trivial ?_ rfl
 simp only [Tryz.ntmps71,List.size_toArray,List.length_cons,List.length_nil,Nat.reduceAdd,Nat.reduceSub,Array.replicate_succ,Array.replicate_zero,List.push_toArray,List.append_toArray,List.nil_append,List.cons_append]
 have hb0:Below w.heap.size w (w.alloc (.cells #[.int .i64 r,.slice (some ⟨b,off,none⟩) ns.length cap] 24)):=dY
 have hck:=fG r (some ⟨b,off,none⟩) cap ns _ (Or.inr ⟨b,off,rfl,hN.below hb0 hN.lt⟩:pI (w.alloc (.cells #[.int .i64 r,.slice (some ⟨b,off,none⟩) ns.length cap] 24)) _ ns)
 rw [hc] at hck
 have wX:=aR hck
 clear hck
 have h15:1≤5:=by decide
 gi_wp2_with (refine ⟨trivial,?_⟩;gi_at_call 10;refine (callsIn_wide.2 wX.out).mono ?_)
 rintro e w1 ⟨rfl,hb1⟩
 have hs1:=hb1.size
 simp only [World.size_alloc] at hs1 hb1
 have hB1:Below w.heap.size w w1:=hb0.trans (hb1.mono aF)
 have p1:w1.cell? ⟨w.heap.size,1,none⟩=some (.slice (some ⟨b,off,none⟩) ns.length cap):=by rw [hb1.cell (p:=⟨w.heap.size,1,none⟩) aQ];simp
 have hlt1:w.heap.size<w1.heap.size:=by omega
 have hms:∀ W:World,Sem.run Tryz.prog (Instr.makeSlice 73 (.int .i64 (ns.length:Int)) (.int .i64 (ns.length:Int))) W=.ok (.slice (some ⟨W.heap.size,0,none⟩) ns.length ns.length) (W.alloc (.cells (madeCells #[.bool false] ns.length) 4)):=fun W=>run_make_row' 73 4 _ 1 Tryz.underlying73 aGR rfl .i64 .i64 ns.length aF aF W
 have hpos:(0:Int)<(ns.length:Int):=by omega
 have aDY:0<ns.length:=by omega
 clear hb1 hb0
 gi_upto_region 5 with fail
 have hr0:((w1.alloc (.cells (madeCells #[.bool false] ns.length) 4)).alloc (.cells #[.slice (some ⟨w1.heap.size,0,none⟩) ns.length ns.length] 73)).heap[w1.heap.size]?=some (.cells ((List.replicate ns.length false).map Value.bool).toArray 4 (0,0)):=by
  rw [Below.heap_alloc _ _ _ aQ,World.alloc_heap_new,aAZ]
 have hx0:Boxed ((w1.alloc (.cells (madeCells #[.bool false] ns.length) 4)).alloc (.cells #[.slice (some ⟨w1.heap.size,0,none⟩) ns.length ns.length] 73)) (w1.heap.size+1) 73 (.slice (some ⟨w1.heap.size,0,none⟩) ns.length ns.length):=by
  have:=Boxed.new (w1.alloc (.cells (madeCells #[.bool false] ns.length) 4)) 73 (.slice (some ⟨w1.heap.size,0,none⟩) ns.length ns.length)
  simpa only [World.size_alloc] using this
 have hbA:Below w1.heap.size w1 ((w1.alloc (.cells (madeCells #[.bool false] ns.length) 4)).alloc (.cells #[.slice (some ⟨w1.heap.size,0,none⟩) ns.length ns.length] 73)):=(dY).alloc aQ _
 have hsA:Hid (((w1.alloc (.cells (madeCells #[.bool false] ns.length) 4)).alloc (.cells #[.slice (some ⟨w1.heap.size,0,none⟩) ns.length ns.length] 73)).heap.size=w1.heap.size+2):=by show _=_;simp
 generalize ((w1.alloc (.cells (madeCells #[.bool false] ns.length) 4)).alloc (.cells #[.slice (some ⟨w1.heap.size,0,none⟩) ns.length ns.length] 73))=WA at hr0 hx0 hbA hsA ⊢
 have xc:=hx0.cell
 have rc0:=aA hr0 0
 have rf0:=aC hr0 0
 have rc1:((List.replicate ns.length false).map Value.bool).toArray[0]?=some (.bool false):=by
  rw [List.getElem?_toArray,List.getElem?_map,List.getElem?_replicate,if_pos aDY];rfl
 rw [rc1] at rc0
 gi_upto_region 6 with fail
 have hM0:RM (((WA.setCell ⟨w1.heap.size,0,none⟩ (.bool true)).alloc (.cells #[.int .i64 0] 3)).alloc (.cells #[.slice (some ⟨WA.heap.size,0,none⟩) 1 1] 25)) w1.heap.size w1.heap.size (WA.heap.size+1) ns.length ((List.replicate ns.length false).set 0 true) [0] (.slice (some ⟨WA.heap.size,0,none⟩) 1 1):=by
  have e1:(WA.setCell ⟨w1.heap.size,0,none⟩ (.bool true)).heap.size=WA.heap.size:=by simp
  have h1:(WA.setCell ⟨w1.heap.size,0,none⟩ (.bool true)).heap[w1.heap.size]?=some (.cells (((List.replicate ns.length false).set 0 true).map Value.bool).toArray 4 (0,0)):=by
   rw [aG _ hr0];simp only [List.map_set,List.setIfInBounds_toArray]
  have h2:Boxed (WA.setCell ⟨w1.heap.size,0,none⟩ (.bool true)) (w1.heap.size+1) 73 (.slice (some ⟨w1.heap.size,0,none⟩) ns.length ns.length):=(Below.heap_setCell _ _ _ _ (fD hx0 hr0 aL)).trans hx0
  have h3:=Boxed.new ((WA.setCell ⟨w1.heap.size,0,none⟩ (.bool true)).alloc (.cells #[.int .i64 0] 3)) 25 (.slice (some ⟨WA.heap.size,0,none⟩) 1 1)
  rw [World.size_alloc,e1] at h3
  have h4:=World.alloc_heap_new (WA.setCell ⟨w1.heap.size,0,none⟩ (.bool true)) (.cells #[.int .i64 0] 3)
  rw [e1] at h4
  refine ⟨(Below.heap_alloc _ _ _ (by have:=aD h1;simp at this ⊢;omega)).trans ((Below.heap_alloc _ _ _ (aD h1)).trans h1),(h2.alloc _).alloc _,h3,⟨rfl,Or.inr ⟨WA.heap.size,1,#[.int .i64 0],rfl,by have:=hbA.size;omega,?_,Nat.le_refl _,aL,rfl,rfl⟩⟩⟩
  exact (Below.heap_alloc _ _ _ aQ).trans h4
 have hB0:Below w1.heap.size w1 (((WA.setCell ⟨w1.heap.size,0,none⟩ (.bool true)).alloc (.cells #[.int .i64 0] 3)).alloc (.cells #[.slice (some ⟨WA.heap.size,0,none⟩) 1 1] 25)) :=
  ((hbA.setCell (p:=⟨w1.heap.size,0,none⟩) dD _).alloc (by have:=hbA.size;simp;omega) _).alloc (by have:=hbA.size;simp;omega) _
 have a8F:=hbA.size
 clear hr0 hx0 hbA xc rc0 rf0 rc1
 gi_upto_region 7 with fail
 generalize (((WA.setCell ⟨w1.heap.size,0,none⟩ (.bool true)).alloc (.cells #[.int .i64 0] 3)).alloc (.cells #[.slice (some ⟨WA.heap.size,0,none⟩) 1 1] 25))=W0 at hM0 hB0 ⊢
 gi_wp2
 have a8G:=OM.start (ns:=ns) aDY
 refine wpIn_loop (fun a W=>∃ (i:Nat) (x:List Bool) (cs:List Int) (vc u21 u22 u23 u24 u25 u26 u27 u28 u29 u30 u31 u32 u33 u34 u35:Value) (ds:List Nat),OM ns x cs i []∧i≤cs.length∧RM W w1.heap.size w1.heap.size (WA.heap.size+1) ns.length x cs vc∧Below w1.heap.size w1 W∧Marks ds W∧(∀ D∈ds,w1.heap.size≤D) ∧
  a={ tmps:=#[.agg #[.int .i64 r,.slice (some ⟨b,off,none⟩) ns.length cap],.pointer (some ⟨w.heap.size,0,none⟩),.slice none 0 0,.int .i64 0,.int .i64 0,.pointer (some ⟨w1.heap.size+1,0,none⟩),.pointer (some ⟨WA.heap.size+1,0,none⟩),.int .i64 i,undef,.agg #[.int .i64 r,.slice (some ⟨b,off,none⟩) ns.length cap],.int .i64 0,.int .i64 0,.bool false,undef,.pointer (some ⟨w.heap.size,1,none⟩),.slice (some ⟨b,off,none⟩) ns.length cap,.int .i64 ns.length,.slice (some ⟨w1.heap.size,0,none⟩) ns.length ns.length,.slice (some ⟨w1.heap.size,0,none⟩) ns.length ns.length,.pointer (some ⟨w1.heap.size,0,none⟩),.slice (some ⟨WA.heap.size,0,none⟩) 1 1,u21,u22,u23,u24,u25,u26,u27,u28,u29,u30,u31,u32,u33,u34,u35,undef,undef,undef,undef,undef,undef,undef,undef,undef,undef,undef,undef,undef,undef],defers:=ds.map aDT })
  (fun a _=>ns.length-(intOf (a.tmps.getD 7 undef)).toNat) ?atStart ?round
 case atStart=>exact ⟨0,_,[0],_,_,_,_,_,_,_,_,_,_,_,_,_,_,_,_,[],a8G,aQ,hM0,hB0,Marks.nil _,aQ,rfl⟩
 case round =>
  rintro _ wr ⟨i,x,cs,vc,u21,u22,u23,u24,u25,u26,u27,u28,u29,u30,u31,u32,u33,u34,u35,ds,hbf,hi,hM,hB,hMk,hD', rfl⟩
  have hcl:=hbf.aKF
  have xc:=hM.cbx.cell
  have xr:=hM.rbx.cell
  have p2:wr.cell? ⟨w.heap.size,1,none⟩=some (.slice (some ⟨b,off,none⟩) ns.length cap):=(hB.cell (p:=⟨w.heap.size,1,none⟩) hlt1).trans p1
  have a8H:=hB.size
  have a8I:w.heap.size<wr.heap.size:=by omega
  have hxl:=hM.rbx.lt
  have bIN:=hM.cbx.lt
  by_cases hlt:i<cs.length
  ·obtain ⟨c,hci⟩:=bD hlt
   have hcr:=hbf.rng c (List.mem_of_getElem? hci)
   obtain ⟨cn,rfl⟩:=Int.eq_ofNat_of_zero_le hcr.1
   obtain ⟨g,aWT,rfl,hbase,a8J⟩:=hM.come.form aF
   have hgc:wr.cell? ⟨g,i,none⟩=some (.int .i64 cn):=by
    have:=hM.come.cells (g:=g) rfl i (.int .i64 cn) (by simp [hci])
    have e:(⟨g,0,none⟩:Addr).add i=⟨g,i,none⟩:=by cases i <;> simp [Addr.add]
    rw [e] at this;exact this
   have hcn:cn<ns.length:=by omega
   obtain ⟨y,hy⟩:=bD hcn
   have hN1:=hN.below (hB1.trans (hB.mono aF)) hN.lt
   have c0:=hN1.c0 cn y hy
   have c1:=hN1.c1 cn y hy
   have c2:=hN1.c2 cn y hy
   have c3:=hN1.c3 cn y hy
   have c4:=hN1.c4 cn y hy
   have c5:=hN1.c5 cn y hy
   have hblt:=hN1.lt
   have HY:=aR hy
   have HN:=aR hN1
   have HM:=aR hM
   have HBF:=aR hbf
   have HCI:=aR hci
   clear hy hN1 hM hbf hci
   gi_wp2
   refine wpIn_wide.2 ?_
   refine EL (S:=fun u=>∀ p:Addr,p.block<wr.heap.size→u.cell? p=wr.cell? p) fJ (fun p hp=>rfl) (fun hQp hHeld=>?_)
   refine tkw 0 ?_
   iterate 7 (refine tkv ?_)
   refine tkr 8 (fun K hK=>?_)
   go_simp
   refine (callsIn_wide.1 (wR 0 _ _ _ _ _ _ _)).mono ?_
   rintro e w' ⟨rfl,rfl⟩
   refine hK.out _ _ (fun p hp=>((Below.refl wr.heap.size wr.drew).alloc dD _).cell hp) (fun hHeld=>?_)
   clear hK K hHeld
   refine wpAnyH_done fJ ⟨fun _=>Exit.noConfusion,?_⟩ _
   clear hQp
   rw [show ∀ o,wr.drew.alloc o=(wr.alloc o).drew from fun _=>rfl]
   gi_wp2
   have hBL:Below wr.heap.size wr ((wr.alloc (.cells #[.int .i64 y.op,.int .i64 y.d,.int .i64 y.a,.int .i64 y.b,.int .i64 y.t,.int .i64 y.e] 42)).drew):=(dY).drew
   have hnb:bY ((wr.alloc (.cells #[.int .i64 y.op,.int .i64 y.d,.int .i64 y.a,.int .i64 y.b,.int .i64 y.t,.int .i64 y.e] 42)).drew) wr.heap.size y:=lV wr y
   generalize (wr.alloc (.cells #[.int .i64 y.op,.int .i64 y.d,.int .i64 y.a,.int .i64 y.b,.int .i64 y.t,.int .i64 y.e] 42)).drew=WL at hBL hnb ⊢
   have hsL:=hBL.size
   have aMJ:=hnb.lt
   have aWU:=hMk.below hBL
   have hMl:∀ E∈ds,E<wr.heap.size:=fun E hE=>hMk.lt hE
   have hyn:nd ns cn=y:=jF HY.out
   have hmx:∀ z:Ex y,0≤z.1∧z.1<ns.length:=fun z=>by
    have:=nM (dJ hc hcn) (m:=z.1) (by rw [hyn];exact z.2)
    omega
   have HYN:=aR hyn
   clear hyn c0 c1 c2 c3 c4 c5 xc xr p2 hgc hMk
   refine wpIn_rangeFunc_ownG rfl aL (gf:=98) (lb:=#[.pointer (some ⟨wr.heap.size,0,none⟩)]) rfl trivial (enters_of Tryz.func98 fJ rfl)
    (oJ 4 aF wr.heap.size y _ hnb) KT.trans (KT.putObj aMJ) (Below.refl _ _) (fun _=>rfl)
    (fun pre W=>((∃ x cs vc,OM ns x cs i (pre.map (·.1))∧cs[i]?=some (cn:Int)∧RM W w1.heap.size w1.heap.size (WA.heap.size+1) ns.length x cs vc)∧bY W wr.heap.size y∧Marks ds W)∧Below w1.heap.size w1 W)
    (fun _ _ _=>False)
    (OwnFrom.and ?own (ownFrom_below aF aF))
    (fun _ _ _ _ _ hs _ _=>hs)
    ⟨⟨⟨x,cs,_,HBF.out,HCI.out,HM.out.below hBL⟩,hnb,aWU⟩,hB.trans (hBL.mono a8H)⟩
    (fun z=>{ tmps:=#[.agg #[.int .i64 r,.slice (some ⟨b,off,none⟩) ns.length cap],.pointer (some ⟨w.heap.size,0,none⟩),.slice none 0 0,.int .i64 0,.int .i64 0,.pointer (some ⟨w1.heap.size+1,0,none⟩),.pointer (some ⟨WA.heap.size+1,0,none⟩),.int .i64 i,.int .i64 z.1,.agg #[.int .i64 r,.slice (some ⟨b,off,none⟩) ns.length cap],.int .i64 0,.int .i64 0,.bool false,undef,.pointer (some ⟨w.heap.size,1,none⟩),.slice (some ⟨b,off,none⟩) ns.length cap,.int .i64 ns.length,.slice (some ⟨w1.heap.size,0,none⟩) ns.length ns.length,.slice (some ⟨w1.heap.size,0,none⟩) ns.length ns.length,.pointer (some ⟨w1.heap.size,0,none⟩),.slice (some ⟨WA.heap.size,0,none⟩) 1 1,.int .i64 i,.slice (some ⟨g,0,none⟩) cs.length aWT,.int .i64 cs.length,.bool true,u25,u26,.pointer (some ⟨w.heap.size,1,none⟩),.slice (some ⟨b,off,none⟩) ns.length cap,.slice (some ⟨g,0,none⟩) cs.length aWT,.int .i64 (i:Int),.pointer (some ⟨g,i,none⟩),.int .i64 (cn:Int),.pointer (some ⟨b,off+cn*6,none⟩),.agg #[.int .i64 y.op,.int .i64 y.d,.int .i64 y.a,.int .i64 y.b,.int .i64 y.t,.int .i64 y.e],.func (.func 98) #[] #[.pointer (some ⟨wr.heap.size,0,none⟩)],.int .i64 z.1,undef,undef,undef,undef,undef,undef,undef,undef,undef,undef,undef,undef,undef],defers:=[] }) ?assign ?body ?done ?stop
   case own =>
    rintro pre A C row ⟨⟨x,cs,vc,h1,h2,h3⟩,hb3,hm1⟩ hg hr
    have hcl:∀ (b:Nat) (o:Obj),A.heap[b]?=some o→o.isCells=true→some b≠row:=fun b o h1 h2 e=>by
     obtain ⟨_,o', h3,h4⟩:=hr b e.symm
     rw [h1] at h3;cases h3;rw [h2] at h4;cases h4
    exact ⟨⟨x,cs,vc,h1,h2,h3.kept hg (fun r e=>(hr r e).2)⟩,(hg.block _ hb3.lt (hcl _ _ hb3 rfl)).trans hb3,hm1.grown hg fun q e hq=>by
     have h1:=(hr q e).1
     have h2:=hMl q hq
     omega⟩
   case assign =>
    intro l z W K hK
    gi_wp2
    exact hK
   case body =>
    rintro l pre z W ⟨⟨⟨x,cs,vc,hbf,hci,hRM⟩,hb3,hm1⟩,hB2⟩ hpl
    obtain ⟨hm0,hm2⟩:=hmx z
    obtain ⟨m,hmz⟩:=Int.eq_ofNat_of_zero_le hm0
    have jP:m<ns.length:=by omega
    have a8K :m<x.length:=by rw [hbf.len];exact jP
    have a8L:=hRM.rbx.cell
    have hrc:W.cell? ⟨w1.heap.size,m,none⟩=some (.bool (aM x m)):=by
     rw [aA hRM.row]
     rw [List.getElem?_toArray,List.getElem?_map,kE a8K];rfl
    have hlt2:(m:Int)<(ns.length:Int):=by omega
    rw [hmz]
    cases hxm:aM x m
    ·rw [hxm] at hrc
     have hrf:=aC hRM.row m
     have hS:=hRM.set m
     have a2A:=hbf.new hc jP hxm hci (by rw [Int.toNat_natCast,HYN.out,← hmz];exact z.2)
     have hbS:Below w1.heap.size W (W.setCell ⟨w1.heap.size,m,none⟩ (.bool true)):=(Below.refl _ W).setCell (p:=⟨w1.heap.size,m,none⟩) dD _
     have hKS:KT wr.heap.size W (W.setCell ⟨w1.heap.size,m,none⟩ (.bool true)):=KT.setCell hRM.row aL (fD hRM.row hb3 aL) _
     have hOS:KeepsOthers W (W.setCell ⟨w1.heap.size,m,none⟩ (.bool true)):=KeepsOthers.setCell _ _ _
     have aGQ:=a2A.aKF
     have bIP:cs.length+1≤256:=by simp at aGQ;omega
     have HBN:=aR a2A
     have a2B:=aR hci
     gi_upto_region 14 with fail
     clear hRM a8L hrc hrf
     generalize W.setCell ⟨w1.heap.size,m,none⟩ (.bool true)=WS at hS hbS hKS hOS ⊢
     have hcb:=hS.cbx.cell
     have hsS:=hbS.size
     have aML:=hKS.node hb3
     gi_wp2_with (gi_at_builtin;refine wpListIn_append_own _ rfl _ _ 25 rfl w1.heap.size 3 i0 (.int .i64 0) 1 8 Tryz.underlying25 hi0 hz0 hz1 hz2 rfl aL _ _ _ rfl (hS.come.alloc _) ⟨WS.heap.size,0,none⟩ 1 1 [.int .i64 (m:Int)] rfl rfl (cell_one_new _ _ _) (by simp [Value.oneCell']) (by unfold maxLen;omega) aF (by have:=hB2.size;simp;omega) ?_;intro v' w5 hown' hgrow _;obtain ⟨g', cap', rfl⟩:=ownsRow_succ hown'; obtain ⟨hv1,hv2,hr2,hk2,hb2⟩:=hS.cbx.appended aL hS.come (by have:=hB2.size;omega) (by have:=a8F;omega) hown' hgrow;have hc1:=hv1.cell;have hf1:=hv1.frozen)
     have hgrow' :(WS.alloc (.cells #[.int .i64 (m:Int)] 3)).grownBy w5 vc.ownBlock:=hgrow
     have aMM :w5.heap[WA.heap.size+1]?=some (.cells #[vc] 25 (0,0)):=hv1
     have aUV:w5.heap[w1.heap.size]?=some (.cells ((x.set m true).map Value.bool).toArray 4 (0,0)):=(hgrow'.block _ (by have:=aD hS.row;simp;omega) (dF hS.come hS.row aL)).trans ((Below.heap_alloc _ _ _ (aD hS.row)).trans hS.row)
     have aUW:Boxed w5 (w1.heap.size+1) 73 (.slice (some ⟨w1.heap.size,0,none⟩) ns.length ns.length):=(hS.rbx.alloc _).kept hgrow' (hS.rbx.not_row aL hS.come)
     have hKA:KT wr.heap.size WS (w5.setCell ⟨WA.heap.size+1,0,none⟩ (.slice (some ⟨g', 0,none⟩) (cs.length+1) cap')):=by
      refine ((KT.of_below (dY) aML.lt).trans (KT.grown hgrow' (by have:=aML.lt;simp;omega) fun j ej=>?_)).trans (KT.setCell (o:=0) hv1 aL (fD hS.cbx aML aL) _)
      rcases (hS.come.alloc (.cells #[.int .i64 (m:Int)] 3)).2 with ⟨e,_⟩ | ⟨g9,aWV,aWW,e,hb9,aSA,_⟩
      ·rw [e] at ej;cases ej
      ·rw [e] at ej
       obtain rfl:g9=j:=by simpa [Value.ownBlock] using ej
       refine ⟨?_,_,_,_,aSA,aL⟩
       exact fD aSA ((Below.heap_alloc _ _ _ aML.lt).trans aML) aL
     have a8M:RM (w5.setCell ⟨WA.heap.size+1,0,none⟩ (.slice (some ⟨g', 0,none⟩) (cs.length+1) cap')) w1.heap.size w1.heap.size (WA.heap.size+1) ns.length (x.set m true) (cs++[(m:Int)]) (.slice (some ⟨g', 0,none⟩) (cs.length+1) cap'):=by
      refine ⟨(Below.heap_setCell _ _ _ _ (fD aUV aMM aL)).trans aUV,(Below.heap_setCell _ _ _ _ (fD aUW aMM aL)).trans aUW,hv2,?_⟩
      simpa using hr2
     refine ⟨(hOS.trans hk2).from _,hKS.trans hKA,⟨⟨_,_,_,?_,?_,a8M⟩,(hKS.trans hKA).node hb3,hm1.others (hOS.trans hk2)⟩,hB2.trans (hbS.trans hb2)⟩
     ·rw [List.map_append];simpa [hmz] using HBN.out
     ·rw [List.getElem?_append_left (List.getElem?_eq_some_iff.1 a2B.out).1];exact a2B.out
    ·rw [hxm] at hrc
     have a8N:=aR hbf
     have a8O:=aR hRM
     clear hbf hRM
     gi_wp2
     refine ⟨KeepsFrom.refl _ _,KT.refl _ _,⟨⟨x,cs,vc,?_,hci,a8O.out⟩,hb3,hm1⟩,hB2⟩
     rw [List.map_append]
     simpa [hmz] using a8N.out.hit jP hxm
   case done =>
    rintro D ys W hD rfl ⟨⟨⟨x,cs,vc,hbf,hci,hRM⟩,hb3,hm1⟩,hB2⟩ hK
    rw [pQ] at hbf
    have a2D:=OM.next (c:=(cn:Int)) (by rw [Int.toNat_natCast,HYN.out];exact hbf) hci
    have hil:=(List.getElem?_eq_some_iff.1 hci).1
    have a8P:=aR a2D
    have a8Q:=aR hRM
    have qV:=aR (hm1.cons hK fun E hE=>by have:=hMl E hE;omega)
    clear hbf a2D hRM hm1 hci
    gi_wp2
    refine ⟨⟨i+1,x,cs,vc,_,_,_,_,_,_,_,_,_,_,_,_,_,_,_,D::ds,a8P.out,hil,a8Q.out,hB2,qV.out,fun E hE=>?_,rfl⟩,?_⟩
    ·rcases List.mem_cons.1 hE with rfl | hE
     ·omega
     ·exact hD' E hE
    ·simp [intOf];omega
   case stop =>
    rintro D c pre W _ _ h _
    exact h.elim
  ·have ei:i=cs.length:=by omega
   obtain ⟨g,aWT,rfl,hbase,a8J⟩:=hM.come.form (List.length_pos_of_mem hbf.zero)
   have HEI:=aR ei
   have YZ:=aR hM
   have a8R:=aR hbf
   clear ei hM hbf
   gi_wp2
   refine kK ds _ hMk (fun D hD=>Nat.le_trans (Nat.le_of_lt hlt1) (hD' D hD)) fun W' hS=>?_
   refine ⟨.tuple #[.slice (some ⟨w1.heap.size,0,none⟩) ns.length ns.length,.int .i64 0],by simp [results,Tryz.results71,go_sem],_,rfl,?_,hB1.trans ((hB.mono aF).trans hS.below)⟩
   have hf:=a8R.out
   rw [HEI.out] at hf
   have hx:=hf.fin hc
   refine hS.owns ⟨by simp [nJ],Or.inr ⟨w1.heap.size,ns.length,_,rfl,aF,YZ.out.row,Nat.le_refl _,by unfold maxLen;omega,by simp [hf.len],?_⟩⟩
   rw [hx,Nat.mul_one]
   exact List.take_of_length_le (by simp [nJ])
end Go.Proofs.YtegloodcbfalfaaGreatDoor
