/-
  Of the proof of WholeSame: HB, LG, MC, MA, MB, MD, ME, MF, MG.
-/
import Derived.Test.YtkkolclmfcmfbaaGreatDoorW1
import Derived.Test.YtkkolclmfcmfbaaGreatDoorW2
import Derived.Test.YtkkolclmfcmfbaaGreatDoorW3
import Derived.Test.YtkkolclmfcmfbaaGreatDoorW4
import Derived.Test.YtkkolclmfcmfbaaGreatDoorW6
import Derived.Test.YtkkolclmfcmfbaaGreatDoorW8
import Derived.Test.YtkkolclmfcmfbaaGreatDoorSh
import Derived.Sort.OwnSortedInts
import Derived.Deep.DeepCutAuto
import Derived.Deep.Upon
set_option linter.unusedVariables false
set_option linter.unusedSimpArgs false
set_option maxHeartbeats 40000000
namespace Go.Proofs.YtkkolclmfcmfbaaGreatDoor
def tkN (ns:List Nd) (tak:List Bool) (h:Int) (n:Nat):Nd:=if bat tak n then ⟨2,(nd ns n).d,h,0,(nd ns n).t,0⟩ else nd ns n
def ptN (t:Tm) (h:Int) (b:Nat):Nd:=⟨t.op,h,t.a,t.b,b,0⟩
def apTo (ns:List Nd) (t:Tm) (put tak:List Bool) (h:Int) (k:Nat):List Nd :=
 ((List.range ns.length).map fun n=>if n<k∧bat put n=true then ptN t h (ns.length+(keptI put n).length) else tkN ns tak h n)++(keptI put k).map (tkN ns tak h)
def apN (ns:List Nd) (t:Tm) (put tak:List Bool) (h:Int):List Nd:=apTo ns t put tak h ns.length
theorem apTo_len (ns:List Nd) (t:Tm) (put tak:List Bool) (h:Int) (k:Nat):(apTo ns t put tak h k).length=ns.length+(keptI put k).length:=by simp [apTo]
theorem nd_apTo {ns:List Nd} {t:Tm} {put tak:List Bool} {h:Int} {k n:Nat} (hn:n<ns.length):nd (apTo ns t put tak h k) n=if n<k∧bat put n=true then ptN t h (ns.length+(keptI put n).length) else tkN ns tak h n:=by
 unfold apTo
 rw [nd_app_left (by simpa using hn)]
 simp [nd,hn]
theorem nd_apTo_new {ns:List Nd} {t:Tm} {put tak:List Bool} {h:Int} {k i n:Nat} (hi:(keptI put k)[i]?=some n):nd (apTo ns t put tak h k) (ns.length+i)=tkN ns tak h n:=by
 unfold apTo nd
 rw [List.getD_eq_getElem?_getD,List.getElem?_append_right (by simp)]
 simp [hi]
theorem apTo_zero (ns:List Nd) (t:Tm) (put tak:List Bool) (h:Int):apTo ns t put tak h 0=(List.range ns.length).map (tkN ns tak h):=by simp [apTo,keptI]
theorem apTo_no {ns:List Nd} {t:Tm} {put tak:List Bool} {h:Int} {k:Nat} (hp:bat put k=false):apTo ns t put tak h (k+1)=apTo ns t put tak h k:=by
 unfold apTo
 rw [keptI_no hp]
 congr 1
 refine List.map_congr_left fun n _=>?_
 by_cases e:n=k
 ·subst e;simp [hp]
 ·by_cases q:n<k
  ·simp [q,show n<k+1 by omega]
  ·simp [q,show ¬ n<k+1 by omega]
theorem apTo_yes {ns:List Nd} {t:Tm} {put tak:List Bool} {h:Int} {k:Nat} (hk:k<ns.length) (hp:bat put k=true):apTo ns t put tak h (k+1)=(apTo ns t put tak h k++[tkN ns tak h k]).set k (ptN t h (apTo ns t put tak h k).length):=by
 refine nd_ext (by simp [apTo_len,keptI_yes hp];omega) fun i hi=>?_
 rw [apTo_len,keptI_yes hp,List.length_append,List.length_singleton] at hi
 rw [nd_set _ (by simp [apTo_len];omega)]
 by_cases h1:i<ns.length
 ·rw [nd_apTo h1]
  by_cases e:i=k
  ·subst e;rw [if_pos ⟨by omega,hp⟩,if_pos rfl,apTo_len]
  ·rw [if_neg e,nd_app_left (by rw [apTo_len];omega),nd_apTo h1]
   by_cases q:i<k
   ·simp [q,show i<k+1 by omega]
   ·simp [q,show ¬ i<k+1 by omega]
 ·obtain ⟨j,rfl⟩:∃ j,i=ns.length+j:=⟨i-ns.length,by omega⟩
  rw [if_neg (by omega)]
  by_cases q:j<(keptI put k).length
  ·have hg:(keptI put k)[j]?=some (keptI put k)[j]:=List.getElem?_eq_getElem q
   rw [nd_apTo_new (n:=(keptI put k)[j]) (by rw [keptI_yes hp,List.getElem?_append_left q];exact hg),nd_app_left (by rw [apTo_len];omega),nd_apTo_new hg]
  ·have ej:j=(keptI put k).length:=by omega
   subst ej
   rw [nd_apTo_new (n:=k) (by rw [keptI_yes hp,List.getElem?_append_right (Nat.le_refl _)];simp)]
   have e2:ns.length+(keptI put k).length=(apTo ns t put tak h k).length:=(apTo_len ..).symm
   rw [e2,nd_app_last]
structure TmOk (r:Int) (t:Tm):Prop where
 op:3≤t.op∧t.op≤8
 a:0≤t.a∧t.a<r
 b:0≤t.b∧t.b<r
theorem rcB_iff {t:Tm} {x:Nd}:rcB t x=true↔x.op=t.op∧x.a=t.a∧x.b=t.b:=by
 simp [rcB,and_assoc]
def TakeOk (ns:List Nd) (t:Tm) (tak:List Bool):Prop:=∀ n,n<ns.length→bat tak n=true→rcB t (nd ns n)=true
theorem tk_full {r:Int} {len:Nat} {ns:List Nd} {t:Tm} {tak:List Bool} (ht:TmOk r t) (hT:TakeOk ns t tak) (hl:ns.length≤len) {n:Nat} (hn:n<ns.length) (hF:Full r ns.length (nd ns n)):Full (r+1) len (tkN ns tak r n):=by
 unfold tkN
 split
 ·rename_i q
  have hr:=rcB_iff.1 (hT n hn q)
  have hd:=hF.d (by have:=ht.op;omega) (by have:=ht.op;omega)
  have htt:=hF.t (by have:=ht.op;omega)
  have h0:=ht.a
  refine ⟨by simp,fun _ _=>by simp;omega,by simp,fun _ _ _=>by simp;omega,by simp,by simp,by simp,fun _=>by simp;omega,by simp,by simp,by simp⟩
 ·exact ⟨hF.op,fun a b=>by have:=hF.d a b;omega,hF.d0,fun a b c=>by have:=hF.a a b c;omega,hF.a0,fun a b=>by have:=hF.b a b;omega,hF.b0,fun a=>by have:=hF.t a;omega,hF.t0,fun a=>by have:=hF.e a;omega,hF.e0⟩
theorem ap_chk {r:Int} {ns:List Nd} (hc:chk r ns=0) {t:Tm} (ht:TmOk r t) {put tak:List Bool} (hT:TakeOk ns t tak) (hl:(apN ns t put tak r).length≤256) (hr:r+1≤64):chk (r+1) (apN ns t put tak r)=0:=by
 have hf:=chk_full hc
 have hlen:=apTo_len ns t put tak r ns.length
 change (apN ns t put tak r).length=_ at hlen
 refine chk_mk ⟨by omega,hl⟩ (by omega) fun y hy=>?_
 obtain ⟨i,hi⟩:=List.getElem?_of_mem hy
 have hlt:=(List.getElem?_eq_some_iff.1 hi).1
 have hy:y=nd (apN ns t put tak r) i:=(nd_get hi).symm
 subst hy
 by_cases h1:i<ns.length
 ·unfold apN at hlt ⊢
  rw [nd_apTo h1]
  split
  ·rename_i q
   have hk:=keptI_lt q.2 h1
   have:=ht.op
   have:=ht.a
   have:=ht.b
   refine ⟨by simp [ptN];omega,fun _ _=>by simp [ptN];omega,fun q=>by simp [ptN] at q;omega,fun _ _ _=>by simp [ptN];omega,fun q=>by simp [ptN] at q;omega,fun _ _=>by simp [ptN];omega,fun q=>by simp [ptN] at q;omega,fun _=>?_,fun q=>by simp [ptN] at q;omega,fun q=>by simp [ptN] at q;omega,by simp [ptN]⟩
   simp only [ptN,apTo_len];omega
  ·exact tk_full ht hT (by rw [apTo_len];omega) h1 (chk_at hc h1)
 ·obtain ⟨j,rfl⟩:∃ j,i=ns.length+j:=⟨i-ns.length,by omega⟩
  have hj:j<(keptI put ns.length).length:=by omega
  have hg:(keptI put ns.length)[j]?=some (keptI put ns.length)[j]:=List.getElem?_eq_getElem hj
  have hm:=(keptI_mem.1 (List.mem_of_getElem? hg)).1
  unfold apN
  rw [nd_apTo_new hg]
  exact tk_full ht hT (by rw [apTo_len];omega) hm (chk_at hc hm)
def tval (t:Tm) (l:List Int):Int:=rk t.op (getR l t.a) (getR l t.b)
structure Ext (r:Nat) (l k:List Int):Prop where
 llen:l.length=r
 klen:k.length=r+1
 same:∀ j,j<r→k.getD j 0=l.getD j 0
theorem Ext.get {r:Nat} {l k:List Int} (h:Ext r l k) {a:Int} (ha:0≤a∧a<r):getR k a=getR l a:=h.same a.toNat (by omega)
theorem Ext.set {r:Nat} {l k:List Int} (h:Ext r l k) {d:Int} (_hd:0≤d∧d<r) (v:Int):Ext r (setR l d v) (setR k d v):=by
 refine ⟨by simp [setR,h.llen],by simp [setR,h.klen],fun j hj=>?_⟩
 rw [getD_setR,getD_setR,h.llen,h.klen]
 by_cases e:j=d.toNat
 ·rw [if_pos ⟨e,by omega⟩,if_pos ⟨e,by omega⟩]
 ·rw [if_neg (fun q=>e q.1),if_neg (fun q=>e q.1)];exact h.same j hj
theorem Ext.put {r:Nat} {l k:List Int} (h:Ext r l k) (v:Int):Ext r l (setR k (r:Int) v):=by
 refine ⟨h.llen,by simp [setR,h.klen],fun j hj=>?_⟩
 rw [getD_setR,if_neg (fun q=>by have:=q.1;simp at this;omega)];exact h.same j hj
theorem get_put {r:Nat} {k:List Int} (hk:k.length=r+1) (v:Int):(setR k (r:Int) v).getD r 0=v:=by
 rw [getD_setR,if_pos ⟨by simp,by omega⟩]
theorem get_keep {r:Nat} {k:List Int} {d:Int} (hd:0≤d∧d<r) (v:Int):(setR k d v).getD r 0=k.getD r 0:=by
 rw [getD_setR,if_neg (fun q=>by have:=q.1;omega)]
theorem tval_set {t:Tm} {l:List Int} {d:Int} (h0:0≤d) (h1:0≤t.a) (h2:0≤t.b) (ha:d≠t.a) (hb:d≠t.b) (v:Int):tval t (setR l d v)=tval t l:=by
 unfold tval getR
 rw [getD_setR,getD_setR,if_neg (fun q=>by have:=q.1;omega),if_neg (fun q=>by have:=q.1;omega)]
theorem stp_ext {r:Nat} {len:Nat} {x:Nd} (hF:Full r len x) {t:Tm} (ht:TmOk r t) {s u:St} (hi:u.inp=s.inp) (ho:u.out=s.out) (hr:u.ret=s.ret) (he:u.ended=s.ended) (hE:Ext r s.regs u.regs) :
 (stp x u).inp=(stp x s).inp∧(stp x u).out=(stp x s).out∧(stp x u).ret=(stp x s).ret∧(stp x u).ended=(stp x s).ended∧(stp x u).pc=(stp x s).pc∧Ext r (stp x s).regs (stp x u).regs∧(stp x u).regs.getD r 0=u.regs.getD r 0∧(kpB t x=true→tval t (stp x s).regs=tval t s.regs) ∧
 ((stp x u).cts=u.cts∧(stp x s).cts=s.cts∨(stp x u).cts=omore u.cts (tmOf x)∧(stp x s).cts=omore s.cts (tmOf x)):=by
 have hop:=hF.op
 have hkp:wi x.op 1 9=true→kpB t x=true→x.d≠t.a∧x.d≠t.b:=fun h1 h2=>by
  unfold kpB at h2
  rw [h1] at h2
  simpa using h2
 have hta:=ht.a
 have htb:=ht.b
 unfold stp
 by_cases h0:x.op=0
 ·rw [if_pos h0,if_pos h0];exact ⟨hi,ho,hr,he,rfl,hE,rfl,fun _=>rfl,Or.inl ⟨rfl,rfl⟩⟩
 rw [if_neg h0,if_neg h0]
 by_cases h1:x.op=1
 ·rw [if_pos h1,if_pos h1]
  have hd:=hF.d (by omega) (by omega)
  exact ⟨hi,ho,hr,he,rfl,hE.set hd _,get_keep hd _,fun q=>by
   have:=hkp (wi_iff.2 (by omega)) q
   exact tval_set hd.1 hta.1 htb.1 this.1 this.2 _,Or.inl ⟨rfl,rfl⟩⟩
 rw [if_neg h1,if_neg h1]
 by_cases h2:x.op=2
 ·rw [if_pos h2,if_pos h2]
  have hd:=hF.d (by omega) (by omega)
  have e:=hE.get (hF.a (by omega) (by omega) (by omega))
  rw [e]
  exact ⟨hi,ho,hr,he,rfl,hE.set hd _,get_keep hd _,fun q=>by
   have:=hkp (wi_iff.2 (by omega)) q
   exact tval_set hd.1 hta.1 htb.1 this.1 this.2 _,Or.inl ⟨rfl,rfl⟩⟩
 rw [if_neg h2,if_neg h2]
 by_cases h9:x.op=9
 ·rw [if_pos h9,if_pos h9,hi]
  have hd:=hF.d (by omega) (by omega)
  exact ⟨rfl,ho,hr,he,rfl,hE.set hd _,get_keep hd _,fun q=>by
   have:=hkp (wi_iff.2 (by omega)) q
   exact tval_set hd.1 hta.1 htb.1 this.1 this.2 _,Or.inl ⟨rfl,rfl⟩⟩
 rw [if_neg h9,if_neg h9]
 by_cases h10:x.op=10
 ·rw [if_pos h10,if_pos h10]
  have e:=hE.get (hF.a (by omega) (by omega) (by omega))
  rw [e,ho];exact ⟨hi,rfl,hr,he,rfl,hE,rfl,fun _=>rfl,Or.inl ⟨rfl,rfl⟩⟩
 rw [if_neg h10,if_neg h10]
 by_cases h11:x.op=11
 ·rw [if_pos h11,if_pos h11]
  have e:=hE.get (hF.a (by omega) (by omega) (by omega))
  rw [e];exact ⟨hi,ho,hr,he,rfl,hE,rfl,fun _=>rfl,Or.inl ⟨rfl,rfl⟩⟩
 rw [if_neg h11,if_neg h11]
 by_cases h12:x.op=12
 ·rw [if_pos h12,if_pos h12]
  have e:=hE.get (hF.a (by omega) (by omega) (by omega))
  rw [e];exact ⟨hi,ho,rfl,rfl,rfl,hE,rfl,fun _=>rfl,Or.inl ⟨rfl,rfl⟩⟩
 rw [if_neg h12,if_neg h12]
 have hd:=hF.d (by omega) (by omega)
 have e:=hE.get (hF.a (by omega) (by omega) (by omega))
 have e' :=hE.get (hF.b (by omega) (by omega))
 rw [e,e']
 exact ⟨hi,ho,hr,he,rfl,hE.set hd _,get_keep hd _,fun q=>by
  have:=hkp (wi_iff.2 (by omega)) q
  exact tval_set hd.1 hta.1 htb.1 this.1 this.2 _,Or.inr ⟨rfl,rfl⟩⟩
theorem stp_next {r:Int} {ns:List Nd} (hc:chk r ns=0) {n:Nat} (hn:n<ns.length) (s:St):(nd ns n).op=12∧(stp (nd ns n) s).pc=0∨(nd ns n).op≠12∧(stp (nd ns n) s).pc∈nxl ns n:=by
 have hF:=chk_at hc hn
 by_cases h12:(nd ns n).op=12
 ·left
  refine ⟨h12,?_⟩
  have:=hF.t0 h12
  simp [stp,h12,this]
 ·right
  refine ⟨h12,?_⟩
  by_cases h11:(nd ns n).op=11
  ·have e:(stp (nd ns n) s).pc=(if getR s.regs (nd ns n).a=0 then (nd ns n).e else (nd ns n).t).toNat:=by simp [stp,h11]
   rw [e]
   split
   ·exact mem_else hc hn h11
   ·exact mem_then hc hn h12
  ·have e:(stp (nd ns n) s).pc=(nd ns n).t.toNat:=by
    unfold stp;repeat' split
    all_goals first | rfl | contradiction
   rw [e];exact mem_then hc hn h12
def mvF (ns:List Nd) (put:List Bool) (i:Nat):Nat:=if i<ns.length then i else (keptI put ns.length).getD (i-ns.length) 0
structure MvR (r:Nat) (ns:List Nd) (t:Tm) (put tak:List Bool) (A:Nat→Bool) (s u:St):Prop where
 inp:u.inp=s.inp
 out:u.out=s.out
 ret:u.ret=s.ret
 ended:u.ended=s.ended
 ext:Ext r s.regs u.regs
 pc:s.pc=mvF ns put u.pc
 lt:s.pc<ns.length
 mlt:u.pc<(apN ns t put tak r).length
 val:(ns.length≤u.pc∨A s.pc=true)→u.regs.getD r 0=tval t s.regs
 ss:Srt s.cts
 su:Srt u.cts
 oth:∀ t', t' ≠t→cnt u.cts t' =cnt s.cts t'
theorem mvF_lt {ns:List Nd} {put:List Bool} {i:Nat} (h:i<ns.length):mvF ns put i=i:=by rw [mvF,if_pos h]
theorem nd_ap {r:Nat} {ns:List Nd} {t:Tm} {put tak:List Bool} {i:Nat} (hi:i<(apN ns t put tak r).length) (hs:(decide (i<ns.length)&&bat put i)=false):nd (apN ns t put tak r) i=tkN ns tak r (mvF ns put i)∧(bat put (mvF ns put i)=true→ns.length≤i):=by
 have hlen:=apTo_len ns t put tak (r:Int) ns.length
 change (apN ns t put tak r).length=_ at hlen
 by_cases h1:i<ns.length
 ·have hp:bat put i=false:=by simpa [h1] using hs
  rw [mvF_lt h1]
  refine ⟨?_,fun q=>by rw [hp] at q;cases q⟩
  unfold apN
  rw [nd_apTo h1,if_neg (by rw [hp];simp)]
 ·obtain ⟨j,rfl⟩:∃ j,i=ns.length+j:=⟨i-ns.length,by omega⟩
  have hj:j<(keptI put ns.length).length:=by omega
  have hg:(keptI put ns.length)[j]?=some (keptI put ns.length)[j]:=List.getElem?_eq_getElem hj
  have e:mvF ns put (ns.length+j)=(keptI put ns.length)[j]:=by
   rw [mvF,if_neg h1,show ns.length+j-ns.length=j by omega,List.getD_eq_getElem?_getD,hg];rfl
  rw [e]
  exact ⟨by unfold apN;exact nd_apTo_new hg,fun _=>by omega⟩
theorem move_sim {r:Nat} {ns:List Nd} (hc:chk r ns=0) {t:Tm} (ht:TmOk r t) {put tak:List Bool} {A:Nat→Bool} (hS:Safe ns t (bat put) (bat tak) A) :
 Sim ns (apN ns t put tak r) (mvF ns put) (fun i=>decide (i<ns.length)&&bat put i) (fun i=>if (decide (i<ns.length)&&bat put i)=true then 1 else 0) 1 (MvR r ns t put tak A):=by
 have hlen:=apTo_len ns t put tak (r:Int) ns.length
 change (apN ns t put tak r).length=_ at hlen
 have hop:=ht.op
 have hta:=ht.a
 have htb:=ht.b
 refine ⟨fun s u h=>⟨h.pc,h.lt,h.mlt⟩,fun s u h=>⟨h.out,h.ended,h.ret⟩,?_,?_,fun n=>by split <;> omega⟩
 ·intro s u h he hs
  have hs' :u.pc<ns.length∧bat put u.pc=true:=by simpa using hs
  have heu:u.ended=false:=by rw [h.ended];exact he
  have hpc:s.pc=u.pc:=by rw [h.pc,mvF_lt hs'.1]
  have hk:=keptI_lt hs'.2 hs'.1
  have hnd:nd (apN ns t put tak r) u.pc=ptN t r (ns.length+(keptI put u.pc).length):=by
   unfold apN
   rw [nd_apTo hs'.1,if_pos ⟨hs'.1,hs'.2⟩]
  have hr1:run1 (apN ns t put tak r) u={ u with pc:=ns.length+(keptI put u.pc).length,steps:=u.steps+1,regs:=setR u.regs r (tval t s.regs),cts:=omore u.cts t }:=by
   rw [run1_at heu (get_nd h.mlt),hnd]
   have ea:=h.ext.get hta
   have eb:=h.ext.get htb
   unfold stp ptN tmOf
   simp only
   rw [if_neg (by omega),if_neg (by omega),if_neg (by omega),if_neg (by omega),if_neg (by omega),if_neg (by omega),if_neg (by omega),ea,eb]
   simp [tval]
   omega
  have hnew:¬ ns.length+(keptI put u.pc).length<ns.length:=by omega
  have hf:mvF ns put (ns.length+(keptI put u.pc).length)=u.pc:=by
   rw [mvF,if_neg hnew,show ns.length+(keptI put u.pc).length-ns.length=(keptI put u.pc).length by omega,List.getD_eq_getElem?_getD,keptI_get hs'.2 hs'.1];rfl
  rw [hr1]
  refine ⟨⟨h.inp,h.out,h.ret,h.ended,h.ext.put _,?_,h.lt,?_,fun _=>?_,h.ss,omore_srt h.su _,fun t' ht' =>?_⟩,?_⟩
  ·show s.pc=mvF ns put (ns.length+(keptI put u.pc).length)
   rw [hf,hpc]
  ·show ns.length+(keptI put u.pc).length<_
   omega
  ·exact get_put h.ext.klen _
  ·show cnt (omore u.cts t) t' =_
   rw [cnt_more h.su,if_neg ht'];simpa using h.oth t' ht'
  ·show (if (decide (ns.length+(keptI put u.pc).length<ns.length)&&bat put (ns.length+(keptI put u.pc).length))=true then 1 else 0)<(if (decide (u.pc<ns.length)&&bat put u.pc)=true then 1 else 0)
   rw [if_pos hs,if_neg (by simp;omega)];omega
 ·intro s u h he hs
  have heu:u.ended=false:=by rw [h.ended];exact he
  obtain ⟨hnd,hput⟩:=nd_ap h.mlt hs
  rw [← h.pc] at hnd hput
  have hn:=h.lt
  have hF:=chk_at hc hn
  have valid:bat put s.pc=true∨A s.pc=true→u.regs.getD r 0=tval t s.regs:=fun q=>h.val (q.imp hput id)
  rw [run1_at heu (get_nd h.mlt),run1_at he (get_nd hn),hnd]
  have keep:∀ m,m∈nxl ns s.pc→A m=true→(bat put s.pc=true∨A s.pc=true)∧kpB t (nd ns s.pc)=true:=fun m hm hA =>
   hS.edge s.pc m (mem_nxl.1 hm).1 (mem_ahl.2 ⟨hn,(mem_nxl.1 hm).2⟩) hA
  by_cases htk:bat tak s.pc=true
  ·obtain ⟨hpa,hrc⟩:=hS.take s.pc hn htk
   have hx:=rcB_iff.1 hrc
   have hd:=hF.d (by omega) (by omega)
   have hv:=valid hpa
   have eu:stp (tkN ns tak r s.pc) u={ u with pc:=(nd ns s.pc).t.toNat,steps:=u.steps+1,regs:=setR u.regs (nd ns s.pc).d (tval t s.regs) }:=by
    unfold tkN
    rw [if_pos htk]
    unfold stp
    simp only
    rw [if_neg (by omega),if_neg (by omega),if_pos trivial]
    have:getR u.regs (r:Int)=tval t s.regs:=by rw [← hv];simp [getR]
    rw [this]
   have es:stp (nd ns s.pc) s={ s with pc:=(nd ns s.pc).t.toNat,steps:=s.steps+1,regs:=setR s.regs (nd ns s.pc).d (tval t s.regs),cts:=omore s.cts t }:=by
    unfold stp tmOf
    rw [if_neg (by omega),if_neg (by omega),if_neg (by omega),if_neg (by omega),if_neg (by omega),if_neg (by omega),if_neg (by omega),hx.1,hx.2.1,hx.2.2]
    rfl
   have hm:=mem_then hc hn (show (nd ns s.pc).op≠12 by omega)
   have hml:=(mem_nxl.1 hm).1
   rw [eu,es]
   refine ⟨h.inp,h.out,h.ret,h.ended,h.ext.set hd _,?_,hml,?_,fun q=>?_,omore_srt h.ss _,h.su,fun t' ht' =>?_⟩
   ·show (nd ns s.pc).t.toNat=mvF ns put (nd ns s.pc).t.toNat
    rw [mvF_lt hml]
   ·show (nd ns s.pc).t.toNat<_
    omega
   ·rcases q with q | q
    ·exact absurd q (by show ¬ ns.length≤(nd ns s.pc).t.toNat;omega)
    ·obtain ⟨_,hkp⟩:=keep _ hm q
     have hne:(nd ns s.pc).d≠t.a∧(nd ns s.pc).d≠t.b:=by
      unfold kpB at hkp
      rw [show wi (nd ns s.pc).op 1 9=true from wi_iff.2 (by omega)] at hkp
      simpa using hkp
     show (setR u.regs (nd ns s.pc).d (tval t s.regs)).getD r 0=tval t (setR s.regs (nd ns s.pc).d (tval t s.regs))
     rw [get_keep hd,tval_set hd.1 hta.1 htb.1 hne.1 hne.2,hv]
   ·show cnt u.cts t' =cnt (omore s.cts t) t'
    rw [cnt_more h.ss,if_neg ht', h.oth t' ht'];omega
  ·have etk:tkN ns tak r s.pc=nd ns s.pc:=by unfold tkN;rw [if_neg htk]
   rw [etk]
   obtain ⟨a1,a2,a3,a4,a5,a6,a7,a8,a9⟩:=stp_ext hF ht h.inp h.out h.ret h.ended h.ext
   have hcts:Srt (stp (nd ns s.pc) s).cts∧Srt (stp (nd ns s.pc) u).cts∧∀ t', t' ≠t→cnt (stp (nd ns s.pc) u).cts t' =cnt (stp (nd ns s.pc) s).cts t' :=by
    rcases a9 with ⟨e1,e2⟩ | ⟨e1,e2⟩
    ·rw [e1,e2];exact ⟨h.ss,h.su,h.oth⟩
    ·rw [e1,e2]
     exact ⟨omore_srt h.ss _,omore_srt h.su _,fun t' ht' =>by rw [cnt_more h.su,cnt_more h.ss,h.oth t' ht']⟩
   rcases stp_next hc hn s with ⟨_,hp0⟩ | ⟨_,hm⟩
   ·have h0:0<ns.length:=by omega
    refine ⟨a1,a2,a3,a4,a6,?_,by rw [hp0];exact h0,by rw [a5,hp0];omega,fun q=>?_,hcts.1,hcts.2.1,hcts.2.2⟩
    ·rw [a5,hp0,mvF_lt h0]
    ·rw [a5,hp0] at q
     rcases q with q | q
     ·omega
     ·rw [hS.zero] at q;cases q
   ·have hml:=(mem_nxl.1 hm).1
    refine ⟨a1,a2,a3,a4,a6,?_,hml,by rw [a5];omega,fun q=>?_,hcts.1,hcts.2.1,hcts.2.2⟩
    ·rw [a5,mvF_lt hml]
    ·rcases q with q | q
     ·rw [a5] at q;omega
     ·obtain ⟨hpa,hkp⟩:=keep _ hm q
      rw [a7,a8 hkp,valid hpa]
theorem move_begin {r:Nat} {ns:List Nd} (hc:chk r ns=0) {t:Tm} {put tak:List Bool} {A:Nat→Bool} (hS:Safe ns t (bat put) (bat tak) A) (inp:List Int):MvR r ns t put tak A (st0 r inp) (st0 (r+1) inp):=by
 have h:=(chk_full hc).1
 have hlen:=apTo_len ns t put tak (r:Int) ns.length
 change (apN ns t put tak r).length=_ at hlen
 refine ⟨rfl,rfl,rfl,rfl,⟨by simp [st0],by simp [st0],fun j hj=>?_⟩,?_,?_,?_,fun q=>?_,List.Pairwise.nil,List.Pairwise.nil,fun _ _=>rfl⟩
 ·simp [st0,hj,show j<r+1 by omega]
 ·show 0=mvF ns put 0
  rw [mvF_lt (by omega)]
 ·show 0<ns.length
  omega
 ·show 0<_
  omega
 ·rcases q with q | q
  ·exact absurd q (by show ¬ ns.length≤0;omega)
  ·rw [show (st0 r inp).pc=0 from rfl,hS.zero] at q;cases q
end Go.Proofs.YtkkolclmfcmfbaaGreatDoor
namespace Go.Proofs.YtkkolclmfcmfbaaGreatDoor
open Go.RowKit Go.Shelf Go.Sort
attribute [local go_sem] Oper.semAt_some
theorem exl_sort (x:Nd):((exo x).mergeSort fun a b=>decide (a≤b))=exl x:=by
 unfold exo exl
 by_cases h11:x.op=11
 ·rw [if_pos h11,if_pos h11]
  by_cases he:x.e=x.t
  ·rw [if_pos he,if_pos he.symm,sort1]
  ·rw [if_neg he,if_neg (fun q=>he q.symm),sort2]
   by_cases hl:x.t<x.e
   ·rw [if_pos hl,if_pos (by omega)]
   ·rw [if_neg hl,if_neg (by omega)]
 ·rw [if_neg h11,if_neg h11]
  cases wi x.op 0 11
  ·simp
  ·simp
theorem exl_len (x:Nd):(exl x).length=(exo x).length:=by rw [← exl_sort,List.length_mergeSort]
set_option maxRecDepth 100000 in
theorem sorted_in (n:Nat) (hn:5≤n) (B:Nat) (x:Nd) (w:World) (hx:NodeBox w B x) :
 CallsIn Fence.wide n Tryz.prog 112 #[.func (.func 75) #[] #[.pointer (some ⟨B,0,none⟩)]] w fun e W' =>∃ v,e=.returned v∧W'.ownsRow w.heap.size 3 1 v (exl x).length ((exl x).map (Value.int .i64))∧Below w.heap.size w W' :=by
 have h1:1≤n:=by omega
 have hC:=collect_in (n-1) (by omega) B x w hx
 have hl2:=exo_len x
 refine callsIn_of_wp Tryz.func112 rfl trivial ?_ rfl
 simp only [Tryz.ntmps112,List.size_toArray,List.length_cons,List.length_nil,Nat.reduceAdd,Nat.reduceSub,Array.replicate_succ,Array.replicate_zero,List.push_toArray,List.append_toArray,List.nil_append,List.cons_append]
 gi_wp2_with (refine ⟨trivial,?_⟩;gi_at_call 142;refine hC.mono ?_;rintro e W ⟨v,rfl,hrow,hb⟩)
 rcases hrow.2 with ⟨rfl,hz⟩ | ⟨gb,cap,cur,rfl,hbase,hgb,r1,r2,r3,r4⟩
 ·have hsl:exl x=[]:=List.eq_nil_of_length_eq_zero (by rw [exl_len];exact hz)
  gi_wp2_with (refine ⟨trivial,?_⟩;gi_at_call 143;refine (callsIn_wide.2 (Tryz.slices_Sort_int_none none 0 W)).mono ?_;rintro e w' ⟨rfl,rfl⟩)
  go_ret
  exact ⟨.slice none 0 0,rfl,by rw [hsl];exact World.ownsRow_nil _ _ _ _,hb⟩
 ·have hH:Holds (Value.int .i64) W gb 0 (exo x).toArray:=holds_of_blockI hgb (by simpa using r4)
  have hS:=callsIn_wide (n:=n-1).2 (Tryz.slices_Sort_int gb 0 cap (exo x) W hH (Array.getElem?_eq_some_iff.1 hgb).1 (by omega))
  gi_wp2_with (refine ⟨trivial,?_⟩;gi_at_call 143;refine hS.mono ?_;rintro e w' ⟨rfl,q,os,rfl⟩)
  go_ret
  refine ⟨_,rfl,?_,hb.grown (grownBy_sortedI (w:=W) (g:=gb) (n:=q) (os:=os) _) hb.size (fun k e=>by cases e;exact hbase)⟩
  have h3:=ownsRow_sortedI (w:=W) (n:=q) (os:=os) (base:=w.heap.size) (ss:=exo x) (ts:=exl x) (exl_len x) hbase hgb r1 r2 r3
  rw [exl_len,exl_sort]
  exact h3
end Go.Proofs.YtkkolclmfcmfbaaGreatDoor
namespace Go.Proofs.YtkkolclmfcmfbaaGreatDoor
open Go.RowKit Go.Shelf
theorem linksAhead_any (r:Int) (b off cap:Nat) (ns:List Nd) (w:World) (hN:NodesAt w b off ns) (hc:chk r ns=0) :
 Calls Tryz.prog 49 #[.agg #[.int .i64 r,.slice (some ⟨b,off,none⟩) ns.length cap]] w fun e w' =>∃ rb vs,e=.returned (.slice (some ⟨rb,0,none⟩) ns.length ns.length)∧RowsAt w' w.heap.size rb ns.length vs (fun m=>pick (ahB ns m) ns.length)∧Below w.heap.size w w' :=
 callsIn_wide.1 (linksAhead_in 4 (by decide) r b off cap ns w hN hc)
def ints (l:List Nat):List Int:=l.map fun k:Nat=>(k:Int)
theorem ints_len (l:List Nat):(ints l).length=l.length:=by simp [ints]
structure RowsR (w:World) (rb L:Nat) (F:Nat→List Nat):Prop where
 lt:rb<w.heap.size
 row:∀ m,m<L→∃ a c,w.cell? ⟨rb,m,none⟩=some (.slice a (F m).length c)∧IntsAt w a (ints (F m))
theorem RowsR.below {w w' :World} {rb L:Nat} {F:Nat→List Nat} (h:RowsR w rb L F) (hb:Below w.heap.size w w'):RowsR w' rb L F :=
 ⟨Nat.lt_of_lt_of_le h.lt hb.size,fun m hm=>by
  obtain ⟨a,c,h1,h2⟩:=h.row m hm
  exact ⟨a,c,(hb.cell (p:=⟨rb,m,none⟩) h.lt).trans h1,h2.below hb⟩⟩
def RowsT (w:World) (rb L:Nat) (F:Nat→List Nat):Prop :=
 ∃ vs:List Value,w.heap[rb]?=some (.cells vs.toArray 25 (0,0))∧vs.length=L∧∀ (m:Nat) (v:Value),vs[m]?=some v→w.ownsRow 0 3 1 v (ints (F m)).length ((ints (F m)).map (Value.int .i64))
theorem RowsT.below {w w' :World} {rb L:Nat} {F:Nat→List Nat} (h:RowsT w rb L F) (hb:Below w.heap.size w w'):RowsT w' rb L F:=by
 obtain ⟨vs,h1,h2,h3⟩:=h
 exact ⟨vs,(hb.block _ (blk_lt h1)).trans h1,h2,fun m v hv=>ownsRow_below (h3 m v hv) hb (Nat.le_refl _)⟩
theorem RowsT.set {w:World} {rb L b o:Nat} {F:Nat→List Nat} {cs:Array Value} {t:TypeId} {u:Value} (h:RowsT w rb L F) (hb:w.heap[b]?=some (.cells cs t (0,0))) (h1:t≠25) (h2:t≠3):RowsT (w.setCell ⟨b,o,none⟩ u) rb L F:=by
 obtain ⟨vs,k1,k2,k3⟩:=h
 refine ⟨vs,?_,k2,fun m v hv=>owns_set (k3 m v hv) hb h2⟩
 refine (Below.heap_setCell _ _ _ _ ?_).trans k1
 rintro rfl
 rw [k1] at hb
 cases hb
 exact h1 rfl
theorem RowsT.read {w:World} {rb L:Nat} {F:Nat→List Nat} (h:RowsT w rb L F):RowsR w rb L F:=by
 obtain ⟨vs,k1,k2,k3⟩:=h
 refine ⟨blk_lt k1,fun m hm=>?_⟩
 have hl:m<vs.length:=by rw [k2];exact hm
 have hv:vs[m]?=some vs[m]:=List.getElem?_eq_getElem hl
 obtain ⟨a,c,e,hI⟩:=ints_of_owns (k3 m _ hv)
 rw [ints_len] at e
 exact ⟨a,c,by rw [blk_cell k1,List.getElem?_toArray,hv,e],hI⟩
theorem rowsT_of {w:World} {base rb L:Nat} {vs:List Value} {f:Nat→List Int} {F:Nat→List Nat} (h:RowsAt w base rb L vs f) (hf:∀ m,f m=ints (F m)):RowsT w rb L F :=
 ⟨vs,h.blk,h.len,fun m v hv=>by rw [← hf m];exact ownsRow_base (h.own m v hv) (Nat.zero_le _)⟩
theorem linksAhead_rows (r:Int) (b off cap:Nat) (ns:List Nd) (w:World) (hN:NodesAt w b off ns) (hc:chk r ns=0) :
 Calls Tryz.prog 49 #[.agg #[.int .i64 r,.slice (some ⟨b,off,none⟩) ns.length cap]] w fun e w' =>∃ rb,e=.returned (.slice (some ⟨rb,0,none⟩) ns.length ns.length)∧RowsT w' rb ns.length (ahl ns)∧Below w.heap.size w w' :=by
 refine (linksAhead_any r b off cap ns w hN hc).mono ?_
 rintro e w' ⟨rb,vs,rfl,hR,hB⟩
 exact ⟨rb,rfl,rowsT_of hR (fun m=>rfl),hB⟩
theorem pick_nxl {ns:List Nd} {n:Nat} {x:Nd} (hx:ns[n]?=some x):pick (ldB x) ns.length=ints (nxl ns n):=by
 simp only [pick,ints,nxl]
 congr 1
 refine List.filter_congr fun m _=>?_
 simp [ahB,hx]
set_option maxRecDepth 100000 in
theorem linksNext_rows (r:Int) (b off cap:Nat) (ns:List Nd) (w:World) (hN:NodesAt w b off ns) (hc:chk r ns=0) :
 Calls Tryz.prog 80 #[.agg #[.int .i64 r,.slice (some ⟨b,off,none⟩) ns.length cap]] w fun e w' =>∃ rb,e=.returned (.slice (some ⟨rb,0,none⟩) ns.length ns.length)∧RowsT w' rb ns.length (nxl ns)∧Below w.heap.size w w' :=by
 have hl:=(chk_zero hc).1
 have HC:=hide hc
 clear hc
 have hms:∀ W:World,Sem.run Tryz.prog (Instr.makeSlice 96 (.int .i64 (ns.length:Int)) (.int .i64 (ns.length:Int))) W=.ok (.slice (some ⟨W.heap.size,0,none⟩) ns.length ns.length) (W.alloc (.cells (madeCells #[.slice none 0 0] ns.length) 25)):=fun W=>run_make_row' 96 25 _ 24 Tryz.underlying96 info_ints rfl .i64 .i64 ns.length (by omega) (by omega) W
 go_enter Tryz.func80,Tryz.ntmps80
 go_wp2
 have hB0:Below w.heap.size w ((w.alloc (.cells #[.int .i64 r,.slice (some ⟨b,off,none⟩) ns.length cap] 24)).alloc (.cells (madeCells #[.slice none 0 0] ns.length) 25)):=((Below.refl _ w).alloc (Nat.le_refl _) _).alloc (by simp) _
 have hR0:((w.alloc (.cells #[.int .i64 r,.slice (some ⟨b,off,none⟩) ns.length cap] 24)).alloc (.cells (madeCells #[.slice none 0 0] ns.length) 25)).heap[w.heap.size+1]?=some (.cells (List.replicate ns.length (Value.slice none 0 0)).toArray 25 (0,0)):=by
  have:=World.alloc_heap_new (w.alloc (.cells #[.int .i64 r,.slice (some ⟨b,off,none⟩) ns.length cap] 24)) (.cells (madeCells #[.slice none 0 0] ns.length) 25)
  rw [made_rows] at this
  rw [made_rows]
  rwa [World.size_alloc] at this
 generalize ((w.alloc (.cells #[.int .i64 r,.slice (some ⟨b,off,none⟩) ns.length cap] 24)).alloc (.cells (madeCells #[.slice none 0 0] ns.length) 25))=W0 at hB0 hR0 ⊢
 have HR0:=hide hR0
 clear hR0 hms
 go_loopw [13] (fun i wr=>∃ k:Nat,k≤ns.length∧i=.int .i64 k∧(∃ vs:List Value,wr.heap[w.heap.size+1]?=some (.cells vs.toArray 25 (0,0))∧vs.length=ns.length∧∀ m,m<k→∃ v,vs[m]?=some v∧wr.ownsRow (w.heap.size+1) 3 1 v (ints (nxl ns m)).length ((ints (nxl ns m)).map (Value.int .i64)))∧Below w.heap.size w wr) (fun i _=>ns.length-(intOf i).toNat)
 case atStart=>exact ⟨0,Nat.zero_le _,rfl,⟨_,HR0.out,by simp,fun m hm=>absurd hm (by omega)⟩,hB0⟩
 case round =>
  obtain ⟨k,hk,rfl,⟨vs,hR,hvl,hrow⟩,hb⟩:=hrel
  have hsz:=hb.size
  have hRl:=blk_lt hR
  by_cases hlt:k<ns.length
  ·obtain ⟨x,hx⟩:=get_lt hlt
   have hN1:=hN.below hb hN.lt
   have c0:=hN1.c0 k x hx
   have c1:=hN1.c1 k x hx
   have c2:=hN1.c2 k x hx
   have c3:=hN1.c3 k x hx
   have c4:=hN1.c4 k x hx
   have c5:=hN1.c5 k x hx
   have hblt:=hN1.lt
   have HX:=hide hx
   have HR:=hide hR
   have HV:=hide hrow
   have hli:(k:Int)<(ns.length:Int):=by omega
   clear hx hN1 hR hrow
   go_wp2_with (go_at_call 50;refine (callsIn_wide.1 (exits_in 1 _ _ _ _ _ _ _)).mono ?_;rintro e w2 ⟨rfl,rfl⟩)
   have hbA:Below wr.heap.size wr ((wr.alloc (.cells #[.int .i64 x.op,.int .i64 x.d,.int .i64 x.a,.int .i64 x.b,.int .i64 x.t,.int .i64 x.e] 48)).alloc (.cells #[.int .i64 x.op,.int .i64 x.d,.int .i64 x.a,.int .i64 x.b,.int .i64 x.t,.int .i64 x.e] 48)):=((Below.refl _ wr).alloc (Nat.le_refl _) _).alloc (by simp) _
   have hnb:NodeBox ((wr.alloc (.cells #[.int .i64 x.op,.int .i64 x.d,.int .i64 x.a,.int .i64 x.b,.int .i64 x.t,.int .i64 x.e] 48)).alloc (.cells #[.int .i64 x.op,.int .i64 x.d,.int .i64 x.a,.int .i64 x.b,.int .i64 x.t,.int .i64 x.e] 48)) (wr.heap.size+1) x:=by
    have:=nodeBox_new (wr.alloc (.cells #[.int .i64 x.op,.int .i64 x.d,.int .i64 x.a,.int .i64 x.b,.int .i64 x.t,.int .i64 x.e] 48)) x
    rwa [World.size_alloc] at this
   generalize ((wr.alloc (.cells #[.int .i64 x.op,.int .i64 x.d,.int .i64 x.a,.int .i64 x.b,.int .i64 x.t,.int .i64 x.e] 48)).alloc (.cells #[.int .i64 x.op,.int .i64 x.d,.int .i64 x.a,.int .i64 x.b,.int .i64 x.t,.int .i64 x.e] 48))=W2 at hbA hnb ⊢
   have hsA:=hbA.size
   clear c0 c1 c2 c3 c4 c5
   refine (callsIn_wide.1 (sorted_in 5 (by decide) (wr.heap.size+1) x W2 hnb)).mono ?_
   rintro e w3 ⟨v,rfl,hown,hb3⟩
   obtain ⟨va,vc,rfl⟩:=owns_slice hown
   have hB3:Below wr.heap.size wr w3:=hbA.trans (hb3.mono hsA)
   have hR3:=(hB3.block _ hRl).trans HR.out
   have hR3l:=blk_lt hR3
   have hRc:w3.cell? ⟨w.heap.size+1,k,none⟩=some (vs[k]'(by omega)):=by
    rw [blk_cell hR3,List.getElem?_toArray];exact List.getElem?_eq_getElem _
   have hRf:=blk_frozen hR3 k
   have HO:=hide hown
   have HR3:=hide hR3
   have HB3:=hide hB3
   have e1:exl x=ints (nxl ns k):=by rw [← pick_nxl HX.out];exact exl_ok HC.out (List.mem_of_getElem? HX.out)
   rw [e1] at HO ⊢
   have hvk:k<vs.length:=by omega
   generalize vs[k]'hvk=vk at hRc
   clear hown hR3 hB3 hb3 hnb hbA e1
   go_wp2_with fail
   go_roundw
   case rel =>
    have hle:w.heap.size+1≤W2.heap.size:=by omega
    refine ⟨k+1,by omega,by go_num,⟨vs.set k (.slice va (ints (nxl ns k)).length vc),?_,by simp [hvl],fun m hm=>?_⟩,(hb.trans (HB3.out.mono hsz)).setCell (p:=⟨w.heap.size+1,k,none⟩) (by simp) _⟩
    ·rw [blk_set _ HR3.out];simp
    ·by_cases e:m=k
     ·subst e
      exact ⟨_,by rw [List.getElem?_set_self hvk],owns_set (ownsRow_base HO.out hle) HR3.out (by decide)⟩
     ·obtain ⟨u,h1,h2⟩:=HV.out m (by omega)
      exact ⟨u,by rw [List.getElem?_set_ne (fun q=>e q.symm)];exact h1,owns_set (ownsRow_below h2 HB3.out (Nat.le_refl _)) HR3.out (by decide)⟩
   case measure=>simp [intOf];omega
  ·have ek:k=ns.length:=by omega
   have HR:=hide hR
   have HV:=hide hrow
   clear hR hrow
   go_wp2
   go_ret
   refine ⟨_,rfl,⟨vs,HR.out,hvl,fun m v hv=>?_⟩,hb⟩
   obtain ⟨u,h1,h2⟩:=HV.out m (by have:=(List.getElem?_eq_some_iff.1 hv).1;omega)
   rw [h1] at hv
   cases hv
   exact ownsRow_base h2 (Nat.zero_le _)
set_option maxRecDepth 100000 in
theorem everyInt_any (R:Int→Bool) (g:Nat) (cb:Array Value) (a:Option Addr) (cap:Nat) (zs:List Int) (w:World) (hz:IntsAt w a zs) (hl:zs.length≤140737488351232)
 (eg:∀ args w,(callFunc g args).run Tryz.prog w=.ok (.enter g args) w)
 (hg:∀ z∈zs,∀ W:World,Below w.heap.size w W→Calls Tryz.prog g (#[.int .i64 z]++cb) W fun e w' =>e=.returned (.bool (R z))∧Below W.heap.size W w') :
 Calls Tryz.prog 14 #[.slice a zs.length cap,.func (.func g) #[] cb] w fun e w' =>e=.returned (.bool (zs.all R))∧Below w.heap.size w w' :=by
 go_enter Tryz.func14,Tryz.ntmps14
 have HG:=hide hg
 clear hg
 go_wp2
 go_loopw [9] (fun i wr=>∃ k:Nat,k≤zs.length∧i=.int .i64 k∧Hid ((zs.take k).all R=true)∧Below w.heap.size w wr) (fun i _=>zs.length-(intOf i).toNat)
 case atStart=>exact ⟨0,Nat.zero_le _,rfl,rfl,Below.refl _ _⟩
 case round =>
  obtain ⟨k,hk,rfl,hA,hb⟩:=hrel
  have hsz:=hb.size
  by_cases hlt:k<zs.length
  ·obtain ⟨z,hz'⟩:=get_lt hlt
   have hI:=hz.below hb
   obtain ⟨b,off,rfl,hbl,hc⟩:=hI.at hlt
   have c0:=hc k z hz'
   have HX:Hid (zs[k]?=some z):=hz'
   have hm:z∈zs:=List.mem_of_getElem? hz'
   clear hz' hc hI
   go_wp2_with fail
   refine (HG.out z hm _ hb).mono ?_
   rintro e w1 ⟨rfl,hb1⟩
   have hB:Below w.heap.size w w1:=hb.trans (hb1.mono hsz)
   cases hR:R z
   ·go_wp2
    go_ret
    exact ⟨ret_bool (all_false_at R HX.out hR).symm,hB⟩
   ·go_wp2
    go_roundw
    case rel=>exact ⟨k+1,by omega,by go_num,(by show _=_;rw [all_take_succ _ HX.out,hA.out,hR];rfl),hB⟩
    case measure=>simp [intOf];omega
  ·go_wp2
   go_ret
   refine ⟨ret_bool ?_,hb⟩
   rw [← hA.out,take_all_len (by omega)]
set_option maxRecDepth 100000 in
theorem everyRow_any (R:Int→Bool) (g:Nat) (cb:Array Value) (b cap:Nat) (vs:List (Option Addr × Nat × Nat)) (w:World) (hb0:b<w.heap.size) (hv:∀ (j:Nat) (v:Option Addr × Nat × Nat),vs[j]?=some v→w.cell? ⟨b,j,none⟩=some (.slice v.1 v.2.1 v.2.2)) (hl:vs.length≤140737488351232)
 (eg:∀ args w,(callFunc g args).run Tryz.prog w=.ok (.enter g args) w)
 (hg:∀ v∈vs,∀ W:World,Below w.heap.size w W→Calls Tryz.prog g (#[.slice v.1 v.2.1 v.2.2]++cb) W fun e w' =>e=.returned (.bool (R v.2.1))∧Below W.heap.size W w') :
 Calls Tryz.prog 204 #[.slice (some ⟨b,0,none⟩) vs.length cap,.func (.func g) #[] cb] w fun e w' =>e=.returned (.bool (vs.all fun v=>R v.2.1))∧Below w.heap.size w w' :=by
 go_enter Tryz.func204,Tryz.ntmps204
 have HG:=hide hg
 have HV:=hide hv
 clear hg hv
 go_wp2
 go_loopw [9] (fun i wr=>∃ k:Nat,k≤vs.length∧i=.int .i64 k∧Hid ((vs.take k).all (fun v=>R v.2.1)=true)∧Below w.heap.size w wr) (fun i _=>vs.length-(intOf i).toNat)
 case atStart=>exact ⟨0,Nat.zero_le _,rfl,rfl,Below.refl _ _⟩
 case round =>
  obtain ⟨k,hk,rfl,hA,hb⟩:=hrel
  have hsz:=hb.size
  by_cases hlt:k<vs.length
  ·obtain ⟨v,hv'⟩:=get_lt hlt
   have c0:=(hb.cell (p:=⟨b,k,none⟩) hb0).trans (HV.out k v hv')
   have hbl:b<wr.heap.size:=Nat.lt_of_lt_of_le hb0 hsz
   have HX:Hid (vs[k]?=some v):=hv'
   have hm:v∈vs:=List.mem_of_getElem? hv'
   clear hv'
   go_wp2_with fail
   refine (HG.out v hm _ hb).mono ?_
   rintro e w1 ⟨rfl,hb1⟩
   have hB:Below w.heap.size w w1:=hb.trans (hb1.mono hsz)
   cases hR:R v.2.1
   ·go_wp2
    go_ret
    exact ⟨ret_bool (all_false_at (fun v:Option Addr × Nat × Nat=>R v.2.1) HX.out hR).symm,hB⟩
   ·go_wp2
    go_roundw
    case rel=>exact ⟨k+1,by omega,by go_num,(by show _=_;rw [all_take_succ _ HX.out,hA.out,hR];rfl),hB⟩
    case measure=>simp [intOf];omega
  ·go_wp2
   go_ret
   refine ⟨ret_bool ?_,hb⟩
   rw [← hA.out,take_all_len (by omega)]
def fits (ns:List Nd) (f:Flw):Bool:=f.gen.length==ns.length&&(f.pass.length==ns.length&&(f.plus.length==ns.length&&f.lets.length==ns.length))
def fchk (r:Int) (ns:List Nd) (f:Flw):Int:=if chk r ns=0 then (if fits ns f then 0 else 1) else chk r ns
theorem fchk_zero {r:Int} {ns:List Nd} {f:Flw} (h:fchk r ns f=0):chk r ns=0∧f.gen.length=ns.length∧f.pass.length=ns.length∧f.plus.length=ns.length∧f.lets.length=ns.length:=by
 unfold fchk at h
 split at h
 ·rename_i hc
  split at h
  ·rename_i hf
   simp only [fits,Bool.and_eq_true,beq_iff_eq] at hf
   exact ⟨hc,hf.1,hf.2.1,hf.2.2.1,hf.2.2.2⟩
  ·cases h
 ·rename_i hc;exact absurd h hc
theorem fits1_any (va:Option Addr) (vn vc B:Nat) (a:Option Addr) (k cap:Nat) (w:World) (h1:w.cell? ⟨B,1,none⟩=some (.slice a k cap)) (hB:B<w.heap.size) :
 Calls Tryz.prog 203 #[.slice va vn vc,.pointer (some ⟨B,0,none⟩)] w fun e w' =>e=.returned (.bool (decide ((vn:Int)=(k:Int))))∧w' =w:=by
 go_enter Tryz.func203,Tryz.ntmps203
 go_wp2
 go_ret
 exact ⟨rfl,rfl⟩
set_option maxRecDepth 100000 in
theorem fcheck_any (r:Int) (a:Option Addr) (cap:Nat) (ns:List Nd) (f:Flw) (a1 a2 a3 a4:Option Addr) (c1 c2 c3 c4:Nat) (w:World) (hN:SlN w a ns) :
 Calls Tryz.prog 197 #[.agg #[.int .i64 r,.slice a ns.length cap],.agg #[.bool f.back,.bool f.empty,.slice a1 f.gen.length c1,.slice a2 f.pass.length c2,.slice a3 f.plus.length c3,.slice a4 f.lets.length c4]] w fun e w' =>e=.returned (.int .i64 (fchk r ns f))∧Below w.heap.size w w' :=by
 have eg1:∀ args w,(callFunc 203 args).run Tryz.prog w=.ok (.enter 203 args) w:=enters_of Tryz.func203 (by kernel_rfl) rfl
 have HF:Hid (fchk r ns f=if chk r ns=0 then (if fits ns f then 0 else 1) else chk r ns):=rfl
 generalize fchk r ns f=C at HF ⊢
 have HN:=hide hN
 clear hN
 go_enter Tryz.func197,Tryz.ntmps197
 go_upto_region 1 with fail
 have hb0:Below w.heap.size w ((w.alloc (.cells #[.int .i64 r,.slice a ns.length cap] 24)).alloc (.cells #[.bool f.back,.bool f.empty,.slice a1 f.gen.length c1,.slice a2 f.pass.length c2,.slice a3 f.plus.length c3,.slice a4 f.lets.length c4] 222)):=((Below.refl _ w).alloc (Nat.le_refl _) _).alloc (by simp) _
 have hp0:((w.alloc (.cells #[.int .i64 r,.slice a ns.length cap] 24)).alloc (.cells #[.bool f.back,.bool f.empty,.slice a1 f.gen.length c1,.slice a2 f.pass.length c2,.slice a3 f.plus.length c3,.slice a4 f.lets.length c4] 222)).heap[w.heap.size]?=some (.cells #[.int .i64 r,.slice a ns.length cap] 24 (0,0)):=(Below.heap_alloc _ _ _ (by simp)).trans (World.alloc_heap_new w _)
 have hq0:((w.alloc (.cells #[.int .i64 r,.slice a ns.length cap] 24)).alloc (.cells #[.bool f.back,.bool f.empty,.slice a1 f.gen.length c1,.slice a2 f.pass.length c2,.slice a3 f.plus.length c3,.slice a4 f.lets.length c4] 222)).heap[w.heap.size+1]?=some (.cells #[.bool f.back,.bool f.empty,.slice a1 f.gen.length c1,.slice a2 f.pass.length c2,.slice a3 f.plus.length c3,.slice a4 f.lets.length c4] 222 (0,0)):=by
  have:=World.alloc_heap_new (w.alloc (.cells #[.int .i64 r,.slice a ns.length cap] 24)) (.cells #[.bool f.back,.bool f.empty,.slice a1 f.gen.length c1,.slice a2 f.pass.length c2,.slice a3 f.plus.length c3,.slice a4 f.lets.length c4] 222)
  rwa [World.size_alloc] at this
 generalize ((w.alloc (.cells #[.int .i64 r,.slice a ns.length cap] 24)).alloc (.cells #[.bool f.back,.bool f.empty,.slice a1 f.gen.length c1,.slice a2 f.pass.length c2,.slice a3 f.plus.length c3,.slice a4 f.lets.length c4] 222))=W0 at hb0 hp0 hq0 ⊢
 have p0:=blk_cell hp0 0
 have p1:=blk_cell hp0 1
 have pl:=blk_lt hp0
 have ql:=blk_lt hq0
 simp at p0 p1
 have HB0:=hide hb0
 have HQ:=hide hq0
 have HP:=hide hp0
 clear hb0 hp0 hq0
 go_upto_region 2 with (go_at_call 11;refine (check_any r a cap ns _ (HN.out.below (HB0.out.mono (Nat.le_refl _)))).mono ?_;rintro e w1 ⟨rfl,hb1⟩)
 have hB1:Below w.heap.size w w1:=HB0.out.trans (hb1.mono HB0.out.size)
 have hp1:=(hb1.block _ pl).trans HP.out
 have hq1:=(hb1.block _ ql).trans HQ.out
 by_cases hc:chk r ns=0
 ·rw [hc]
  have z0:=blk_cell hp1 0
  have z1:=blk_cell hp1 1
  have y0:=blk_cell hq1 0
  have y1:=blk_cell hq1 1
  have y2:=blk_cell hq1 2
  have y3:=blk_cell hq1 3
  have y4:=blk_cell hq1 4
  have y5:=blk_cell hq1 5
  simp at z0 z1 y0 y1 y2 y3 y4 y5
  have pl1:=blk_lt hp1
  have ql1:=blk_lt hq1
  clear p0 p1 pl ql hb1 hp1 hq1
  go_wp2_with fail
  have hbA:Below w1.heap.size w1 (w1.alloc (.cells #[.slice a1 f.gen.length c1,.slice a2 f.pass.length c2,.slice a3 f.plus.length c3,.slice a4 f.lets.length c4] 116)):=(Below.refl _ w1).alloc (Nat.le_refl _) _
  have hn:(w1.alloc (.cells #[.slice a1 f.gen.length c1,.slice a2 f.pass.length c2,.slice a3 f.plus.length c3,.slice a4 f.lets.length c4] 116)).heap[w1.heap.size]?=some (.cells #[.slice a1 f.gen.length c1,.slice a2 f.pass.length c2,.slice a3 f.plus.length c3,.slice a4 f.lets.length c4] 116 (0,0)):=World.alloc_heap_new w1 _
  generalize (w1.alloc (.cells #[.slice a1 f.gen.length c1,.slice a2 f.pass.length c2,.slice a3 f.plus.length c3,.slice a4 f.lets.length c4] 116))=W2 at hbA hn ⊢
  have hcell:=(hbA.cell (p:=⟨w.heap.size,1,none⟩) pl1).trans z1
  have hpl2:w.heap.size<W2.heap.size:=Nat.lt_of_lt_of_le pl1 hbA.size
  refine (everyRow_any (fun z=>decide (z=(ns.length:Int))) 203 #[.pointer (some ⟨w.heap.size,0,none⟩)] w1.heap.size 4 [(a1,f.gen.length,c1),(a2,f.pass.length,c2),(a3,f.plus.length,c3),(a4,f.lets.length,c4)] W2 (blk_lt hn) ?_ (by simp) eg1 ?_).mono ?_
  ·intro j v hj
   rw [blk_cell hn]
   match j,hj with
   | 0,hj | 1,hj | 2,hj | 3,hj=>simp at hj;subst hj;rfl
   | j+4,hj=>simp at hj
  ·intro v hv W hW
   refine (fits1_any v.1 v.2.1 v.2.2 w.heap.size a ns.length cap W ((hW.cell (p:=⟨w.heap.size,1,none⟩) hpl2).trans hcell) (Nat.lt_of_lt_of_le hpl2 hW.size)).mono ?_
   rintro e w' ⟨rfl,rfl⟩
   exact ⟨rfl,Below.refl _ _⟩
  rintro e w3 ⟨rfl,hb3⟩
  have hB3:Below w.heap.size w w3:=hB1.trans ((hbA.trans (hb3.mono hbA.size)).mono hB1.size)
  have he:([(a1,f.gen.length,c1),(a2,f.pass.length,c2),(a3,f.plus.length,c3),(a4,f.lets.length,c4)].all fun v:Option Addr × Nat × Nat=>decide ((v.2.1:Int)=(ns.length:Int)))=fits ns f:=by
   have hd:∀ k:Nat,decide ((k:Int)=(ns.length:Int))=(k==ns.length):=fun k=>by
    by_cases q:k=ns.length
    ·simp [q]
    ·have q2:¬ ((k:Int)=(ns.length:Int)):=by omega
     simp [q,q2]
   simp only [List.all_cons,List.all_nil,Bool.and_true,hd,fits]
  rw [he]
  clear he hn hbA hb3 hcell z0 z1 y0 y1 y2 y3 y4 y5
  cases hf:fits ns f
  ·go_wp2
   go_ret
   refine ⟨ret_int ?_,hB3⟩
   rw [HF.out,if_pos hc,hf];rfl
  ·go_wp2
   go_ret
   refine ⟨ret_int ?_,hB3⟩
   rw [HF.out,if_pos hc,hf];rfl
 ·have HC:=hide hc
  clear p0 p1 pl ql hb1 hp1 hq1
  have hne:¬ (chk r ns=0):=hc
  go_wp2
  go_ret
  refine ⟨ret_int ?_,hB1⟩
  rw [HF.out,if_neg HC.out]
structure QM (w:World) (ns:List Nd) (f:Flw) (a1 a2 a3 a4:Option Addr) (rb1 rb2:Nat):Prop where
 g:BoolsAt w a1 f.gen
 p:BoolsAt w a2 f.pass
 q:BoolsAt w a3 f.plus
 l:BoolsAt w a4 f.lets
 gl:f.gen.length=ns.length
 pl:f.pass.length=ns.length
 ql:f.plus.length=ns.length
 ll:f.lets.length=ns.length
 asked:RowsR w rb1 ns.length (nbs ns f)
 askers:RowsR w rb2 ns.length (ask ns f)
theorem QM.below {w w' :World} {ns:List Nd} {f:Flw} {a1 a2 a3 a4:Option Addr} {rb1 rb2:Nat} (h:QM w ns f a1 a2 a3 a4 rb1 rb2) (hb:Below w.heap.size w w'):QM w' ns f a1 a2 a3 a4 rb1 rb2 :=
 ⟨h.g.below hb,h.p.below hb,h.q.below hb,h.l.below hb,h.gl,h.pl,h.ql,h.ll,h.asked.below hb,h.askers.below hb⟩
theorem bools_cell {w:World} {a:Option Addr} {zs:List Bool} (h:BoolsAt w a zs) {k:Nat} (hk:k<zs.length):∃ b off,a=some ⟨b,off,none⟩∧b<w.heap.size∧w.cell? ⟨b,off+k,none⟩=some (.bool (bat zs k)):=by
 obtain ⟨b,off,rfl,h1,h2⟩:=h.at hk
 exact ⟨b,off,rfl,h1,h2 k _ (get_bat hk)⟩
set_option maxRecDepth 100000 in
theorem around1_any (m B X k:Nat) (pl lt x:List Bool) (a3 a4 xa:Option Addr) (c3 c4 xc:Nat) (w:World) (h4:w.cell? ⟨B,4,none⟩=some (.slice a3 pl.length c3)) (h5:w.cell? ⟨B,5,none⟩=some (.slice a4 lt.length c4)) (hX:w.cell? ⟨X,0,none⟩=some (.slice xa x.length xc))
 (hB:B<w.heap.size) (hXl:X<w.heap.size) (hp:BoolsAt w a3 pl) (hl:BoolsAt w a4 lt) (hx:BoolsAt w xa x) (e1:pl.length=k) (e2:lt.length=k) (e3:x.length=k) (hm:m<k) :
 Calls Tryz.prog 207 #[.int .i64 m,.pointer (some ⟨B,0,none⟩),.pointer (some ⟨X,0,none⟩)] w fun e w' =>e=.returned (.bool (bat pl m||(bat lt m&&bat x m)))∧w' =w:=by
 obtain ⟨b3,o3,rfl,l3,v3⟩:=bools_cell hp (k:=m) (by omega)
 obtain ⟨b4,o4,rfl,l4,v4⟩:=bools_cell hl (k:=m) (by omega)
 obtain ⟨bx,ox,rfl,lx,vx⟩:=bools_cell hx (k:=m) (by omega)
 rw [e1] at h4
 rw [e2] at h5
 rw [e3] at hX
 have hmi:(m:Int)<(k:Int):=by omega
 generalize bat pl m=P at v3 ⊢
 generalize bat lt m=L at v4 ⊢
 generalize bat x m=Z at vx ⊢
 clear hp hl hx e1 e2 e3
 cases P
 ·cases L
  ·go_enter Tryz.func207,Tryz.ntmps207
   go_wp2
   go_ret
   exact ⟨rfl,rfl⟩
  ·go_enter Tryz.func207,Tryz.ntmps207
   go_wp2
   go_ret
   exact ⟨ret_bool (by simp),rfl⟩
 ·go_enter Tryz.func207,Tryz.ntmps207
  go_wp2
  go_ret
  exact ⟨rfl,rfl⟩
set_option maxRecDepth 100000 in
theorem around_any (ns:List Nd) (f:Flw) (a1 a2 a3 a4 xa:Option Addr) (c1 c2 c3 c4 xc rb1 rb2 n:Nat) (x:List Bool) (w:World) (hQ:QM w ns f a1 a2 a3 a4 rb1 rb2) (hx:BoolsAt w xa x) (hxl:x.length=ns.length) (hn:n<ns.length) (hl:ns.length≤256) :
 Calls Tryz.prog 205 #[.agg #[.bool f.back,.bool f.empty,.slice a1 f.gen.length c1,.slice a2 f.pass.length c2,.slice a3 f.plus.length c3,.slice a4 f.lets.length c4,.slice (some ⟨rb1,0,none⟩) ns.length ns.length,.slice (some ⟨rb2,0,none⟩) ns.length ns.length],.int .i64 n,.slice xa x.length xc] w fun e w' =>e=.returned (.bool (allOr f.empty (nbs ns f n) fun m=>bat f.plus m||(bat f.lets m&&bat x m)))∧Below w.heap.size w w' :=by
 have eg:∀ args w,(callFunc 207 args).run Tryz.prog w=.ok (.enter 207 args) w:=enters_of Tryz.func207 (by kernel_rfl) rfl
 obtain ⟨ra,rc,hrc,hI⟩:=hQ.asked.row n hn
 have hrl:=hQ.asked.lt
 have hni:(n:Int)<(ns.length:Int):=by omega
 have hbA:Below w.heap.size w ((w.alloc (.cells #[.bool f.back,.bool f.empty,.slice a1 f.gen.length c1,.slice a2 f.pass.length c2,.slice a3 f.plus.length c3,.slice a4 f.lets.length c4,.slice (some ⟨rb1,0,none⟩) ns.length ns.length,.slice (some ⟨rb2,0,none⟩) ns.length ns.length] 247)).alloc (.cells #[.slice xa x.length xc] 116)):=((Below.refl _ w).alloc (Nat.le_refl _) _).alloc (by simp) _
 have hq:((w.alloc (.cells #[.bool f.back,.bool f.empty,.slice a1 f.gen.length c1,.slice a2 f.pass.length c2,.slice a3 f.plus.length c3,.slice a4 f.lets.length c4,.slice (some ⟨rb1,0,none⟩) ns.length ns.length,.slice (some ⟨rb2,0,none⟩) ns.length ns.length] 247)).alloc (.cells #[.slice xa x.length xc] 116)).heap[w.heap.size]?=some (.cells #[.bool f.back,.bool f.empty,.slice a1 f.gen.length c1,.slice a2 f.pass.length c2,.slice a3 f.plus.length c3,.slice a4 f.lets.length c4,.slice (some ⟨rb1,0,none⟩) ns.length ns.length,.slice (some ⟨rb2,0,none⟩) ns.length ns.length] 247 (0,0)):=(Below.heap_alloc _ _ _ (by simp)).trans (World.alloc_heap_new w _)
 have hxb:((w.alloc (.cells #[.bool f.back,.bool f.empty,.slice a1 f.gen.length c1,.slice a2 f.pass.length c2,.slice a3 f.plus.length c3,.slice a4 f.lets.length c4,.slice (some ⟨rb1,0,none⟩) ns.length ns.length,.slice (some ⟨rb2,0,none⟩) ns.length ns.length] 247)).alloc (.cells #[.slice xa x.length xc] 116)).heap[w.heap.size+1]?=some (.cells #[.slice xa x.length xc] 116 (0,0)):=by
  have:=World.alloc_heap_new (w.alloc (.cells #[.bool f.back,.bool f.empty,.slice a1 f.gen.length c1,.slice a2 f.pass.length c2,.slice a3 f.plus.length c3,.slice a4 f.lets.length c4,.slice (some ⟨rb1,0,none⟩) ns.length ns.length,.slice (some ⟨rb2,0,none⟩) ns.length ns.length] 247)) (.cells #[.slice xa x.length xc] 116)
  rwa [World.size_alloc] at this
 have HQ:=hide hQ
 have HX:=hide hx
 have HXL:=hide hxl
 clear hQ hx hxl
 go_enter Tryz.func205,Tryz.ntmps205
 go_upto_region 1 with fail
 generalize ((w.alloc (.cells #[.bool f.back,.bool f.empty,.slice a1 f.gen.length c1,.slice a2 f.pass.length c2,.slice a3 f.plus.length c3,.slice a4 f.lets.length c4,.slice (some ⟨rb1,0,none⟩) ns.length ns.length,.slice (some ⟨rb2,0,none⟩) ns.length ns.length] 247)).alloc (.cells #[.slice xa x.length xc] 116))=W at hbA hq hxb ⊢
 have q0:=blk_cell hq 0
 have q1:=blk_cell hq 1
 have q2:=blk_cell hq 2
 have q3:=blk_cell hq 3
 have q4:=blk_cell hq 4
 have q5:=blk_cell hq 5
 have q6:=blk_cell hq 6
 have q7:=blk_cell hq 7
 have x0:=blk_cell hxb 0
 simp at q0 q1 q2 q3 q4 q5 q6 q7 x0
 have ql:=blk_lt hq
 have xl:=blk_lt hxb
 have hrW:=(hbA.cell (p:=⟨rb1,n,none⟩) hrl).trans hrc
 have hrlW:=Nat.lt_of_lt_of_le hrl hbA.size
 have HW:=hide hbA
 clear hq hxb hrc hrl hbA
 by_cases hz:(nbs ns f n).length=0
 ·have he:nbs ns f n=[]:=List.eq_nil_of_length_eq_zero hz
  rw [hz] at hrW
  have HE:=hide he
  clear he
  go_wp2
  go_ret
  refine ⟨ret_bool ?_,HW.out⟩
  rw [HE.out];rfl
 ·have hnz:((nbs ns f n).length:Int)≠0:=by omega
  have HI:=hide hI
  clear hI
  go_wp2_with fail
  have hev:=everyInt_any (fun z=>bat f.plus z.toNat||(bat f.lets z.toNat&&bat x z.toNat)) 207 #[.pointer (some ⟨w.heap.size,0,none⟩),.pointer (some ⟨w.heap.size+1,0,none⟩)] ra rc (ints (nbs ns f n)) W (HI.out.below HW.out) (by
   rw [ints_len]
   have:(nbs ns f n).length≤ns.length:=by
    unfold nbs;split
    ·exact nxl_len ns n
    ·exact ahl_len ns n
   omega) eg (fun z hzm U hU=>by
   obtain ⟨m,hm,rfl⟩:=List.mem_map.1 hzm
   have hmk:m<ns.length:=by
    unfold nbs at hm;split at hm
    ·exact (mem_nxl.1 hm).1
    ·exact (mem_ahl.1 hm).1
   have hWU:Below w.heap.size w U:=HW.out.trans (hU.mono HW.out.size)
   have hQU:=HQ.out.below hWU
   refine (around1_any m w.heap.size (w.heap.size+1) ns.length f.plus f.lets x a3 a4 xa c3 c4 xc U ((hU.cell (p:=⟨w.heap.size,4,none⟩) ql).trans q4) ((hU.cell (p:=⟨w.heap.size,5,none⟩) ql).trans q5) ((hU.cell (p:=⟨w.heap.size+1,0,none⟩) xl).trans x0) (Nat.lt_of_lt_of_le ql hU.size) (Nat.lt_of_lt_of_le xl hU.size) hQU.q hQU.l (HX.out.below hWU) hQU.ql hQU.ll HXL.out hmk).mono ?_
   rintro e w' ⟨rfl,rfl⟩
   exact ⟨ret_bool (by simp),Below.refl _ _⟩)
  rw [ints_len] at hev
  refine hev.mono ?_
  rintro e w1 ⟨rfl,hb1⟩
  clear hev
  have hB1:Below w.heap.size w w1:=HW.out.trans (hb1.mono HW.out.size)
  have hres:((ints (nbs ns f n)).all fun z=>bat f.plus z.toNat||(bat f.lets z.toNat&&bat x z.toNat))=allOr f.empty (nbs ns f n) fun m=>bat f.plus m||(bat f.lets m&&bat x m):=by
   have hne:(nbs ns f n).isEmpty=false:=by
    cases hh:nbs ns f n with
    | nil=>rw [hh] at hz;simp at hz
    | cons _ _=>rfl
   simp [allOr,hne,ints,List.all_map,Function.comp_def]
  rw [hres]
  clear hres
  generalize hR:(allOr f.empty (nbs ns f n) fun m=>bat f.plus m||(bat f.lets m&&bat x m))=R
  have HR:=hide hR
  clear hR
  go_wp2
  go_ret
  exact ⟨ret_bool HR.out.symm,hB1⟩
set_option maxRecDepth 100000 in
theorem says_any (ns:List Nd) (f:Flw) (a1 a2 a3 a4 xa:Option Addr) (c1 c2 c3 c4 xc rb1 rb2 n:Nat) (x:List Bool) (w:World) (hQ:QM w ns f a1 a2 a3 a4 rb1 rb2) (hx:BoolsAt w xa x) (hxl:x.length=ns.length) (hn:n<ns.length) (hl:ns.length≤256) :
 Calls Tryz.prog 199 #[.agg #[.bool f.back,.bool f.empty,.slice a1 f.gen.length c1,.slice a2 f.pass.length c2,.slice a3 f.plus.length c3,.slice a4 f.lets.length c4,.slice (some ⟨rb1,0,none⟩) ns.length ns.length,.slice (some ⟨rb2,0,none⟩) ns.length ns.length],.int .i64 n,.slice xa x.length xc] w fun e w' =>e=.returned (.bool (sayF ns f (bat x) n))∧Below w.heap.size w w' :=by
 have hni:(n:Int)<(ns.length:Int):=by omega
 obtain ⟨b1,o1,rfl,l1,v1⟩:=bools_cell hQ.g (k:=n) (by rw [hQ.gl];exact hn)
 obtain ⟨b2,o2,rfl,l2,v2⟩:=bools_cell hQ.p (k:=n) (by rw [hQ.pl];exact hn)
 have hbA:Below w.heap.size w (w.alloc (.cells #[.bool f.back,.bool f.empty,.slice (some ⟨b1,o1,none⟩) f.gen.length c1,.slice (some ⟨b2,o2,none⟩) f.pass.length c2,.slice a3 f.plus.length c3,.slice a4 f.lets.length c4,.slice (some ⟨rb1,0,none⟩) ns.length ns.length,.slice (some ⟨rb2,0,none⟩) ns.length ns.length] 247)):=(Below.refl _ w).alloc (Nat.le_refl _) _
 have hq:(w.alloc (.cells #[.bool f.back,.bool f.empty,.slice (some ⟨b1,o1,none⟩) f.gen.length c1,.slice (some ⟨b2,o2,none⟩) f.pass.length c2,.slice a3 f.plus.length c3,.slice a4 f.lets.length c4,.slice (some ⟨rb1,0,none⟩) ns.length ns.length,.slice (some ⟨rb2,0,none⟩) ns.length ns.length] 247)).heap[w.heap.size]?=some (.cells #[.bool f.back,.bool f.empty,.slice (some ⟨b1,o1,none⟩) f.gen.length c1,.slice (some ⟨b2,o2,none⟩) f.pass.length c2,.slice a3 f.plus.length c3,.slice a4 f.lets.length c4,.slice (some ⟨rb1,0,none⟩) ns.length ns.length,.slice (some ⟨rb2,0,none⟩) ns.length ns.length] 247 (0,0)):=World.alloc_heap_new w _
 have hS:sayF ns f (bat x) n=(bat f.gen n||(bat f.pass n&&allOr f.empty (nbs ns f n) fun m=>bat f.plus m||(bat f.lets m&&bat x m))):=rfl
 have har:=fun W (h:Below w.heap.size w W)=>around_any ns f (some ⟨b1,o1,none⟩) (some ⟨b2,o2,none⟩) a3 a4 xa c1 c2 c3 c4 xc rb1 rb2 n x W (hQ.below h) (hx.below h) hxl hn hl
 have hgi:(n:Int)<(f.gen.length:Int):=by rw [hQ.gl];exact hni
 have hpi:(n:Int)<(f.pass.length:Int):=by rw [hQ.pl];exact hni
 rw [hS]
 generalize (allOr f.empty (nbs ns f n) fun m=>bat f.plus m||(bat f.lets m&&bat x m))=R at har ⊢
 have HA:=hide har
 clear har hS hQ hx hxl
 go_enter Tryz.func199,Tryz.ntmps199
 go_upto_region 1 with fail
 generalize (w.alloc (.cells #[.bool f.back,.bool f.empty,.slice (some ⟨b1,o1,none⟩) f.gen.length c1,.slice (some ⟨b2,o2,none⟩) f.pass.length c2,.slice a3 f.plus.length c3,.slice a4 f.lets.length c4,.slice (some ⟨rb1,0,none⟩) ns.length ns.length,.slice (some ⟨rb2,0,none⟩) ns.length ns.length] 247))=W at hbA hq ⊢
 have q0:=blk_cell hq 0
 have q1:=blk_cell hq 1
 have q2:=blk_cell hq 2
 have q3:=blk_cell hq 3
 have q4:=blk_cell hq 4
 have q5:=blk_cell hq 5
 have q6:=blk_cell hq 6
 have q7:=blk_cell hq 7
 simp at q0 q1 q2 q3 q4 q5 q6 q7
 have ql:=blk_lt hq
 replace v1:=(hbA.cell (p:=⟨b1,o1+n,none⟩) l1).trans v1
 replace v2:=(hbA.cell (p:=⟨b2,o2+n,none⟩) l2).trans v2
 replace l1:=Nat.lt_of_lt_of_le l1 hbA.size
 replace l2:=Nat.lt_of_lt_of_le l2 hbA.size
 have HW:=hide hbA
 clear hq hbA
 cases hg:bat f.gen n
 ·rw [hg] at v1
  cases hp:bat f.pass n
  ·rw [hp] at v2
   go_wp2
   go_ret
   exact ⟨ret_bool (by simp [hg,hp]),HW.out⟩
  ·rw [hp] at v2
   go_wp2_with fail
   refine (HA.out W HW.out).mono ?_
   rintro e w1 ⟨rfl,hb1⟩
   go_wp2
   go_ret
   exact ⟨ret_bool (by simp [hg,hp]),HW.out.trans (hb1.mono HW.out.size)⟩
 ·rw [hg] at v1
  go_wp2
  go_ret
  exact ⟨ret_bool (by simp [hg]),HW.out⟩
theorem cells_set {w:World} {b k:Nat} (h:k≠b) (o:Nat) (v:Value):(w.setCell ⟨b,o,none⟩ v).heap[k]?=w.heap[k]? :=Below.heap_setCell _ _ _ _ h
set_option maxRecDepth 100000 in
theorem layOut_any (r:Int) (b off cap:Nat) (ns:List Nd) (f:Flw) (a1 a2 a3 a4:Option Addr) (c1 c2 c3 c4:Nat) (w:World) (hN:NodesAt w b off ns) (hc:fchk r ns f=0) (h1:BoolsAt w a1 f.gen) (h2:BoolsAt w a2 f.pass) (h3:BoolsAt w a3 f.plus) (h4:BoolsAt w a4 f.lets) :
 Calls Tryz.prog 198 #[.agg #[.int .i64 r,.slice (some ⟨b,off,none⟩) ns.length cap],.agg #[.bool f.back,.bool f.empty,.slice a1 f.gen.length c1,.slice a2 f.pass.length c2,.slice a3 f.plus.length c3,.slice a4 f.lets.length c4]] w fun e w' =>∃ rb1 rb2,e=.returned (.agg #[.bool f.back,.bool f.empty,.slice a1 f.gen.length c1,.slice a2 f.pass.length c2,.slice a3 f.plus.length c3,.slice a4 f.lets.length c4,.slice (some ⟨rb1,0,none⟩) ns.length ns.length,.slice (some ⟨rb2,0,none⟩) ns.length ns.length])∧QM w' ns f a1 a2 a3 a4 rb1 rb2∧Below w.heap.size w w' :=by
 have HC:=hide (fchk_zero hc)
 have HN:=hide hN
 have HBO:=hide (And.intro h1 (And.intro h2 (And.intro h3 h4)))
 clear hc hN h1 h2 h3 h4
 have hbA:Below w.heap.size w (((w.alloc (.cells #[.int .i64 r,.slice (some ⟨b,off,none⟩) ns.length cap] 24)).alloc (.cells #[.bool f.back,.bool f.empty,.slice a1 f.gen.length c1,.slice a2 f.pass.length c2,.slice a3 f.plus.length c3,.slice a4 f.lets.length c4] 222)).alloc (.cells #[.bool false,.bool false,.slice none 0 0,.slice none 0 0,.slice none 0 0,.slice none 0 0,.slice none 0 0,.slice none 0 0] 247)):=(((Below.refl _ w).alloc (Nat.le_refl _) _).alloc (by simp) _).alloc (by simp;omega) _
 have hp:(((w.alloc (.cells #[.int .i64 r,.slice (some ⟨b,off,none⟩) ns.length cap] 24)).alloc (.cells #[.bool f.back,.bool f.empty,.slice a1 f.gen.length c1,.slice a2 f.pass.length c2,.slice a3 f.plus.length c3,.slice a4 f.lets.length c4] 222)).alloc (.cells #[.bool false,.bool false,.slice none 0 0,.slice none 0 0,.slice none 0 0,.slice none 0 0,.slice none 0 0,.slice none 0 0] 247)).heap[w.heap.size]?=some (.cells #[.int .i64 r,.slice (some ⟨b,off,none⟩) ns.length cap] 24 (0,0)):=(Below.heap_alloc _ _ _ (by simp;omega)).trans ((Below.heap_alloc _ _ _ (by simp)).trans (World.alloc_heap_new w _))
 have hf:(((w.alloc (.cells #[.int .i64 r,.slice (some ⟨b,off,none⟩) ns.length cap] 24)).alloc (.cells #[.bool f.back,.bool f.empty,.slice a1 f.gen.length c1,.slice a2 f.pass.length c2,.slice a3 f.plus.length c3,.slice a4 f.lets.length c4] 222)).alloc (.cells #[.bool false,.bool false,.slice none 0 0,.slice none 0 0,.slice none 0 0,.slice none 0 0,.slice none 0 0,.slice none 0 0] 247)).heap[w.heap.size+1]?=some (.cells #[.bool f.back,.bool f.empty,.slice a1 f.gen.length c1,.slice a2 f.pass.length c2,.slice a3 f.plus.length c3,.slice a4 f.lets.length c4] 222 (0,0)):=by
  have:=World.alloc_heap_new (w.alloc (.cells #[.int .i64 r,.slice (some ⟨b,off,none⟩) ns.length cap] 24)) (.cells #[.bool f.back,.bool f.empty,.slice a1 f.gen.length c1,.slice a2 f.pass.length c2,.slice a3 f.plus.length c3,.slice a4 f.lets.length c4] 222)
  rw [World.size_alloc] at this
  exact (Below.heap_alloc _ _ _ (by simp)).trans this
 have hq:(((w.alloc (.cells #[.int .i64 r,.slice (some ⟨b,off,none⟩) ns.length cap] 24)).alloc (.cells #[.bool f.back,.bool f.empty,.slice a1 f.gen.length c1,.slice a2 f.pass.length c2,.slice a3 f.plus.length c3,.slice a4 f.lets.length c4] 222)).alloc (.cells #[.bool false,.bool false,.slice none 0 0,.slice none 0 0,.slice none 0 0,.slice none 0 0,.slice none 0 0,.slice none 0 0] 247)).heap[w.heap.size+1+1]?=some (.cells #[.bool false,.bool false,.slice none 0 0,.slice none 0 0,.slice none 0 0,.slice none 0 0,.slice none 0 0,.slice none 0 0] 247 (0,0)):=by
  have:=World.alloc_heap_new ((w.alloc (.cells #[.int .i64 r,.slice (some ⟨b,off,none⟩) ns.length cap] 24)).alloc (.cells #[.bool f.back,.bool f.empty,.slice a1 f.gen.length c1,.slice a2 f.pass.length c2,.slice a3 f.plus.length c3,.slice a4 f.lets.length c4] 222)) (.cells #[.bool false,.bool false,.slice none 0 0,.slice none 0 0,.slice none 0 0,.slice none 0 0,.slice none 0 0,.slice none 0 0] 247)
  rwa [World.size_alloc,World.size_alloc] at this
 go_enter Tryz.func198,Tryz.ntmps198
 go_upto_region 1 with fail
 generalize (((w.alloc (.cells #[.int .i64 r,.slice (some ⟨b,off,none⟩) ns.length cap] 24)).alloc (.cells #[.bool f.back,.bool f.empty,.slice a1 f.gen.length c1,.slice a2 f.pass.length c2,.slice a3 f.plus.length c3,.slice a4 f.lets.length c4] 222)).alloc (.cells #[.bool false,.bool false,.slice none 0 0,.slice none 0 0,.slice none 0 0,.slice none 0 0,.slice none 0 0,.slice none 0 0] 247))=W at hbA hp hf hq ⊢
 have y0:=blk_cell hf 0
 simp at y0
 have fl:=blk_lt hf
 have HH:Hid (∀ u:World,Below W.heap.size W u→u.heap[w.heap.size]?=some (.cells #[.int .i64 r,.slice (some ⟨b,off,none⟩) ns.length cap] 24 (0,0))∧u.heap[w.heap.size+1]?=some (.cells #[.bool f.back,.bool f.empty,.slice a1 f.gen.length c1,.slice a2 f.pass.length c2,.slice a3 f.plus.length c3,.slice a4 f.lets.length c4] 222 (0,0))∧u.heap[w.heap.size+1+1]?=some (.cells #[.bool false,.bool false,.slice none 0 0,.slice none 0 0,.slice none 0 0,.slice none 0 0,.slice none 0 0,.slice none 0 0] 247 (0,0))):=fun u h=>⟨(h.block _ (blk_lt hp)).trans hp,(h.block _ (blk_lt hf)).trans hf,(h.block _ (blk_lt hq)).trans hq⟩
 have HS:Hid (∀ u:World,Below W.heap.size W u→u.cell? ⟨w.heap.size,0,none⟩=some (.int .i64 r)∧u.cell? ⟨w.heap.size,1,none⟩=some (.slice (some ⟨b,off,none⟩) ns.length cap)∧u.cell? ⟨w.heap.size+1,0,none⟩=some (.bool f.back)∧u.cell? ⟨w.heap.size+1,1,none⟩=some (.bool f.empty)∧u.cell? ⟨w.heap.size+1,2,none⟩=some (.slice a1 f.gen.length c1)∧u.cell? ⟨w.heap.size+1,3,none⟩=some (.slice a2 f.pass.length c2)∧u.cell? ⟨w.heap.size+1,4,none⟩=some (.slice a3 f.plus.length c3)∧u.cell? ⟨w.heap.size+1,5,none⟩=some (.slice a4 f.lets.length c4)):=fun u h=>by
  obtain ⟨k1,k2,_⟩:=HH.out u h
  refine ⟨?_,?_,?_,?_,?_,?_,?_,?_⟩
  ·rw [blk_cell k1];rfl
  ·rw [blk_cell k1];rfl
  ·rw [blk_cell k2];rfl
  ·rw [blk_cell k2];rfl
  ·rw [blk_cell k2];rfl
  ·rw [blk_cell k2];rfl
  ·rw [blk_cell k2];rfl
  ·rw [blk_cell k2];rfl
 have HNN:Hid (∀ u:World,Below W.heap.size W u→NodesAt u b off ns):=fun u h=>HN.out.below (hbA.trans (h.mono hbA.size)) HN.out.lt
 have HW:=hide hbA
 have hCC:=HC.out.1
 clear hp hf hq hbA
 have XF:Hid (∀ u:World,Below W.heap.size W u→∀ k,k<8→u.cell? ⟨w.heap.size+1+1,k,none⟩=#[.bool false,.bool false,.slice none 0 0,.slice none 0 0,.slice none 0 0,.slice none 0 0,.slice none 0 0,.slice none 0 0][k]?∧u.frozen? ⟨w.heap.size+1+1,k,none⟩=false):=fun u h k _=>⟨blk_cell (HH.out u h).2.2 k,blk_frozen (HH.out u h).2.2 k⟩
 have HSet:Hid (∀ (u:World) (v0 v1 v2 v3 v4 v5 v6 v7:Value),(u.cell? ⟨w.heap.size,0,none⟩=some (.int .i64 r)∧u.cell? ⟨w.heap.size,1,none⟩=some (.slice (some ⟨b,off,none⟩) ns.length cap)∧u.cell? ⟨w.heap.size+1,0,none⟩=some (.bool f.back)∧u.cell? ⟨w.heap.size+1,1,none⟩=some (.bool f.empty)∧u.cell? ⟨w.heap.size+1,2,none⟩=some (.slice a1 f.gen.length c1)∧u.cell? ⟨w.heap.size+1,3,none⟩=some (.slice a2 f.pass.length c2)∧u.cell? ⟨w.heap.size+1,4,none⟩=some (.slice a3 f.plus.length c3)∧u.cell? ⟨w.heap.size+1,5,none⟩=some (.slice a4 f.lets.length c4))→(((((((((u).setCell ⟨w.heap.size+1+1,0,none⟩ v0).setCell ⟨w.heap.size+1+1,1,none⟩ v1).setCell ⟨w.heap.size+1+1,2,none⟩ v2).setCell ⟨w.heap.size+1+1,3,none⟩ v3).setCell ⟨w.heap.size+1+1,4,none⟩ v4).setCell ⟨w.heap.size+1+1,5,none⟩ v5).setCell ⟨w.heap.size+1+1,6,none⟩ v6).setCell ⟨w.heap.size+1+1,7,none⟩ v7).cell? ⟨w.heap.size,0,none⟩=some (.int .i64 r)∧(((((((((u).setCell ⟨w.heap.size+1+1,0,none⟩ v0).setCell ⟨w.heap.size+1+1,1,none⟩ v1).setCell ⟨w.heap.size+1+1,2,none⟩ v2).setCell ⟨w.heap.size+1+1,3,none⟩ v3).setCell ⟨w.heap.size+1+1,4,none⟩ v4).setCell ⟨w.heap.size+1+1,5,none⟩ v5).setCell ⟨w.heap.size+1+1,6,none⟩ v6).setCell ⟨w.heap.size+1+1,7,none⟩ v7).cell? ⟨w.heap.size,1,none⟩=some (.slice (some ⟨b,off,none⟩) ns.length cap)∧(((((((((u).setCell ⟨w.heap.size+1+1,0,none⟩ v0).setCell ⟨w.heap.size+1+1,1,none⟩ v1).setCell ⟨w.heap.size+1+1,2,none⟩ v2).setCell ⟨w.heap.size+1+1,3,none⟩ v3).setCell ⟨w.heap.size+1+1,4,none⟩ v4).setCell ⟨w.heap.size+1+1,5,none⟩ v5).setCell ⟨w.heap.size+1+1,6,none⟩ v6).setCell ⟨w.heap.size+1+1,7,none⟩ v7).cell? ⟨w.heap.size+1,0,none⟩=some (.bool f.back)∧(((((((((u).setCell ⟨w.heap.size+1+1,0,none⟩ v0).setCell ⟨w.heap.size+1+1,1,none⟩ v1).setCell ⟨w.heap.size+1+1,2,none⟩ v2).setCell ⟨w.heap.size+1+1,3,none⟩ v3).setCell ⟨w.heap.size+1+1,4,none⟩ v4).setCell ⟨w.heap.size+1+1,5,none⟩ v5).setCell ⟨w.heap.size+1+1,6,none⟩ v6).setCell ⟨w.heap.size+1+1,7,none⟩ v7).cell? ⟨w.heap.size+1,1,none⟩=some (.bool f.empty)∧(((((((((u).setCell ⟨w.heap.size+1+1,0,none⟩ v0).setCell ⟨w.heap.size+1+1,1,none⟩ v1).setCell ⟨w.heap.size+1+1,2,none⟩ v2).setCell ⟨w.heap.size+1+1,3,none⟩ v3).setCell ⟨w.heap.size+1+1,4,none⟩ v4).setCell ⟨w.heap.size+1+1,5,none⟩ v5).setCell ⟨w.heap.size+1+1,6,none⟩ v6).setCell ⟨w.heap.size+1+1,7,none⟩ v7).cell? ⟨w.heap.size+1,2,none⟩=some (.slice a1 f.gen.length c1)∧(((((((((u).setCell ⟨w.heap.size+1+1,0,none⟩ v0).setCell ⟨w.heap.size+1+1,1,none⟩ v1).setCell ⟨w.heap.size+1+1,2,none⟩ v2).setCell ⟨w.heap.size+1+1,3,none⟩ v3).setCell ⟨w.heap.size+1+1,4,none⟩ v4).setCell ⟨w.heap.size+1+1,5,none⟩ v5).setCell ⟨w.heap.size+1+1,6,none⟩ v6).setCell ⟨w.heap.size+1+1,7,none⟩ v7).cell? ⟨w.heap.size+1,3,none⟩=some (.slice a2 f.pass.length c2)∧(((((((((u).setCell ⟨w.heap.size+1+1,0,none⟩ v0).setCell ⟨w.heap.size+1+1,1,none⟩ v1).setCell ⟨w.heap.size+1+1,2,none⟩ v2).setCell ⟨w.heap.size+1+1,3,none⟩ v3).setCell ⟨w.heap.size+1+1,4,none⟩ v4).setCell ⟨w.heap.size+1+1,5,none⟩ v5).setCell ⟨w.heap.size+1+1,6,none⟩ v6).setCell ⟨w.heap.size+1+1,7,none⟩ v7).cell? ⟨w.heap.size+1,4,none⟩=some (.slice a3 f.plus.length c3)∧(((((((((u).setCell ⟨w.heap.size+1+1,0,none⟩ v0).setCell ⟨w.heap.size+1+1,1,none⟩ v1).setCell ⟨w.heap.size+1+1,2,none⟩ v2).setCell ⟨w.heap.size+1+1,3,none⟩ v3).setCell ⟨w.heap.size+1+1,4,none⟩ v4).setCell ⟨w.heap.size+1+1,5,none⟩ v5).setCell ⟨w.heap.size+1+1,6,none⟩ v6).setCell ⟨w.heap.size+1+1,7,none⟩ v7).cell? ⟨w.heap.size+1,5,none⟩=some (.slice a4 f.lets.length c4)):=fun u v0 v1 v2 v3 v4 v5 v6 v7 h=>by
  have e:∀ (B k:Nat),B≠w.heap.size+1+1→(((((((((u).setCell ⟨w.heap.size+1+1,0,none⟩ v0).setCell ⟨w.heap.size+1+1,1,none⟩ v1).setCell ⟨w.heap.size+1+1,2,none⟩ v2).setCell ⟨w.heap.size+1+1,3,none⟩ v3).setCell ⟨w.heap.size+1+1,4,none⟩ v4).setCell ⟨w.heap.size+1+1,5,none⟩ v5).setCell ⟨w.heap.size+1+1,6,none⟩ v6).setCell ⟨w.heap.size+1+1,7,none⟩ v7).cell? ⟨B,k,none⟩=u.cell? ⟨B,k,none⟩:=fun B k h=>World.cell?_of_block (by
   show (((((((((u).setCell ⟨w.heap.size+1+1,0,none⟩ v0).setCell ⟨w.heap.size+1+1,1,none⟩ v1).setCell ⟨w.heap.size+1+1,2,none⟩ v2).setCell ⟨w.heap.size+1+1,3,none⟩ v3).setCell ⟨w.heap.size+1+1,4,none⟩ v4).setCell ⟨w.heap.size+1+1,5,none⟩ v5).setCell ⟨w.heap.size+1+1,6,none⟩ v6).setCell ⟨w.heap.size+1+1,7,none⟩ v7).heap[B]?=u.heap[B]?
   simp only [cells_set h])
  simp only [e w.heap.size _ (by omega),e (w.heap.size+1) _ (by omega)]
  exact h
 have hor:f.back=false∨f.back=true:=by cases f.back <;> simp
 rcases hor with hback | hback
 ·rw [hback] at y0
  have HK:=hide hback
  clear hback
  go_upto_region 3 with fail
  go_region_held3 (fun u=>u.cell? ⟨w.heap.size,0,none⟩=some (.int .i64 r)∧u.cell? ⟨w.heap.size,1,none⟩=some (.slice (some ⟨b,off,none⟩) ns.length cap)∧u.cell? ⟨w.heap.size+1,0,none⟩=some (.bool f.back)∧u.cell? ⟨w.heap.size+1,1,none⟩=some (.bool f.empty)∧u.cell? ⟨w.heap.size+1,2,none⟩=some (.slice a1 f.gen.length c1)∧u.cell? ⟨w.heap.size+1,3,none⟩=some (.slice a2 f.pass.length c2)∧u.cell? ⟨w.heap.size+1,4,none⟩=some (.slice a3 f.plus.length c3)∧u.cell? ⟨w.heap.size+1,5,none⟩=some (.slice a4 f.lets.length c4)) (first
   | (with_reducible refine HSet.out _ _ _ _ _ _ _ _ _ ?_;exact HS.out _ hB2)
   | (with_reducible refine HS.out _ ?_;first | with_reducible exact hB2 | with_reducible exact hB1 | with_reducible exact (Below.refl _ W).drew | with_reducible exact (Below.refl _ W))) (first
   | (go_at_call 49;refine (linksAhead_rows r b off cap ns _ (by first | exact HNN.out _ (Below.refl _ W).drew | exact HNN.out _ (Below.refl _ W)) hCC).mono ?_;rintro e wa ⟨rb1,rfl,hR1,hba⟩;have hB1:Below W.heap.size W wa:=(by first | exact (Below.refl _ W).drew.trans hba | exact hba))
   | (go_at_call 80;refine (linksNext_rows r b off cap ns _ (HNN.out _ hB1) hCC).mono ?_;rintro e wb ⟨rb2,rfl,hR2,hbb⟩;have hB2:Below W.heap.size W wb:=hB1.trans (hbb.mono hB1.size);have x0:=XF.out _ hB2 0 (by decide);have x1:=XF.out _ hB2 1 (by decide);have x2:=XF.out _ hB2 2 (by decide);have x3:=XF.out _ hB2 3 (by decide);have x4:=XF.out _ hB2 4 (by decide);have x5:=XF.out _ hB2 5 (by decide);have x6:=XF.out _ hB2 6 (by decide);have x7:=XF.out _ hB2 7 (by decide);simp at x0 x1 x2 x3 x4 x5 x6 x7;have xl:=blk_lt (HH.out _ hB2).2.2))
  have k0:=blk_set (i:=0) (.bool f.back) (HH.out _ hB2).2.2
  have k1:=blk_set (i:=1) (.bool f.empty) k0
  have k2:=blk_set (i:=2) (.slice a1 f.gen.length c1) k1
  have k3:=blk_set (i:=3) (.slice a2 f.pass.length c2) k2
  have k4:=blk_set (i:=4) (.slice a3 f.plus.length c3) k3
  have k5:=blk_set (i:=5) (.slice a4 f.lets.length c4) k4
  have k6:=blk_set (i:=6) (.slice (some ⟨rb1,0,none⟩) ns.length ns.length) k5
  have k7:=blk_set (i:=7) (.slice (some ⟨rb2,0,none⟩) ns.length ns.length) k6
  have T1:=(((((((((hR1.below hbb).set (o:=0) (u:=.bool f.back) (HH.out _ hB2).2.2 (by decide) (by decide)).set (o:=1) (u:=.bool f.empty) k0 (by decide) (by decide)).set (o:=2) (u:=.slice a1 f.gen.length c1) k1 (by decide) (by decide)).set (o:=3) (u:=.slice a2 f.pass.length c2) k2 (by decide) (by decide)).set (o:=4) (u:=.slice a3 f.plus.length c3) k3 (by decide) (by decide)).set (o:=5) (u:=.slice a4 f.lets.length c4) k4 (by decide) (by decide)).set (o:=6) (u:=.slice (some ⟨rb1,0,none⟩) ns.length ns.length) k5 (by decide) (by decide)).set (o:=7) (u:=.slice (some ⟨rb2,0,none⟩) ns.length ns.length) k6 (by decide) (by decide))
  have T2:=((((((((hR2.set (o:=0) (u:=.bool f.back) (HH.out _ hB2).2.2 (by decide) (by decide)).set (o:=1) (u:=.bool f.empty) k0 (by decide) (by decide)).set (o:=2) (u:=.slice a1 f.gen.length c1) k1 (by decide) (by decide)).set (o:=3) (u:=.slice a2 f.pass.length c2) k2 (by decide) (by decide)).set (o:=4) (u:=.slice a3 f.plus.length c3) k3 (by decide) (by decide)).set (o:=5) (u:=.slice a4 f.lets.length c4) k4 (by decide) (by decide)).set (o:=6) (u:=.slice (some ⟨rb1,0,none⟩) ns.length ns.length) k5 (by decide) (by decide)).set (o:=7) (u:=.slice (some ⟨rb2,0,none⟩) ns.length ns.length) k6 (by decide) (by decide))
  have hBf:=((((((((HW.out.trans (hB2.mono HW.out.size)).setCell (p:=⟨w.heap.size+1+1,0,none⟩) (by simp;omega) (.bool f.back)).setCell (p:=⟨w.heap.size+1+1,1,none⟩) (by simp;omega) (.bool f.empty)).setCell (p:=⟨w.heap.size+1+1,2,none⟩) (by simp;omega) (.slice a1 f.gen.length c1)).setCell (p:=⟨w.heap.size+1+1,3,none⟩) (by simp;omega) (.slice a2 f.pass.length c2)).setCell (p:=⟨w.heap.size+1+1,4,none⟩) (by simp;omega) (.slice a3 f.plus.length c3)).setCell (p:=⟨w.heap.size+1+1,5,none⟩) (by simp;omega) (.slice a4 f.lets.length c4)).setCell (p:=⟨w.heap.size+1+1,6,none⟩) (by simp;omega) (.slice (some ⟨rb1,0,none⟩) ns.length ns.length)).setCell (p:=⟨w.heap.size+1+1,7,none⟩) (by simp;omega) (.slice (some ⟨rb2,0,none⟩) ns.length ns.length)
  clear k0 k1 k2 k3 k4 k5 k6 x0 x1 x2 x3 x4 x5 x6 x7 hR1 hR2
  simp only [List.setIfInBounds_toArray,List.set_cons_zero,List.set_cons_succ] at k7
  go_wp2_with fail
  generalize (((((((((wb).setCell ⟨w.heap.size+1+1,0,none⟩ (.bool f.back)).setCell ⟨w.heap.size+1+1,1,none⟩ (.bool f.empty)).setCell ⟨w.heap.size+1+1,2,none⟩ (.slice a1 f.gen.length c1)).setCell ⟨w.heap.size+1+1,3,none⟩ (.slice a2 f.pass.length c2)).setCell ⟨w.heap.size+1+1,4,none⟩ (.slice a3 f.plus.length c3)).setCell ⟨w.heap.size+1+1,5,none⟩ (.slice a4 f.lets.length c4)).setCell ⟨w.heap.size+1+1,6,none⟩ (.slice (some ⟨rb1,0,none⟩) ns.length ns.length)).setCell ⟨w.heap.size+1+1,7,none⟩ (.slice (some ⟨rb2,0,none⟩) ns.length ns.length))=Wf at k7 T1 T2 hBf ⊢
  have y0:=blk_cell k7 0
  have y1:=blk_cell k7 1
  have y2:=blk_cell k7 2
  have y3:=blk_cell k7 3
  have y4:=blk_cell k7 4
  have y5:=blk_cell k7 5
  have y6:=blk_cell k7 6
  have y7:=blk_cell k7 7
  simp at y0 y1 y2 y3 y4 y5 y6 y7
  obtain ⟨h1,h2,h3,h4⟩:=HBO.out
  have hw:∀ u,Below w.heap.size w u→BoolsAt u a1 f.gen∧BoolsAt u a2 f.pass∧BoolsAt u a3 f.plus∧BoolsAt u a4 f.lets:=fun u h=>⟨h1.below h,h2.below h,h3.below h,h4.below h⟩
  obtain ⟨g1,g2,g3,g4⟩:=hw _ hBf
  refine bodyPost_ret (v:=(.agg #[.bool f.back,.bool f.empty,.slice a1 f.gen.length c1,.slice a2 f.pass.length c2,.slice a3 f.plus.length c3,.slice a4 f.lets.length c4,.slice (some ⟨rb1,0,none⟩) ns.length ns.length,.slice (some ⟨rb2,0,none⟩) ns.length ns.length])) (by simp [results,Tryz.results198,go_sem,y0,y1,y2,y3,y4,y5,y6,y7]) rfl ⟨rb1,rb2,rfl,⟨g1,g2,g3,g4,HC.out.2.1,HC.out.2.2.1,HC.out.2.2.2.1,HC.out.2.2.2.2,?_,?_⟩,hBf⟩
  ·have e:nbs ns f=ahl ns:=by funext n;simp [nbs,HK.out]
   rw [e];exact T1.read
  ·have e:ask ns f=nxl ns:=by funext n;simp [ask,HK.out]
   rw [e];exact T2.read
 ·rw [hback] at y0
  have HK:=hide hback
  clear hback
  go_upto_region 2 with fail
  go_region_held3 (fun u=>u.cell? ⟨w.heap.size,0,none⟩=some (.int .i64 r)∧u.cell? ⟨w.heap.size,1,none⟩=some (.slice (some ⟨b,off,none⟩) ns.length cap)∧u.cell? ⟨w.heap.size+1,0,none⟩=some (.bool f.back)∧u.cell? ⟨w.heap.size+1,1,none⟩=some (.bool f.empty)∧u.cell? ⟨w.heap.size+1,2,none⟩=some (.slice a1 f.gen.length c1)∧u.cell? ⟨w.heap.size+1,3,none⟩=some (.slice a2 f.pass.length c2)∧u.cell? ⟨w.heap.size+1,4,none⟩=some (.slice a3 f.plus.length c3)∧u.cell? ⟨w.heap.size+1,5,none⟩=some (.slice a4 f.lets.length c4)) (first
   | (with_reducible refine HSet.out _ _ _ _ _ _ _ _ _ ?_;exact HS.out _ hB2)
   | (with_reducible refine HS.out _ ?_;first | with_reducible exact hB2 | with_reducible exact hB1 | with_reducible exact (Below.refl _ W).drew | with_reducible exact (Below.refl _ W))) (first
   | (go_at_call 80;refine (linksNext_rows r b off cap ns _ (by first | exact HNN.out _ (Below.refl _ W).drew | exact HNN.out _ (Below.refl _ W)) hCC).mono ?_;rintro e wa ⟨rb1,rfl,hR1,hba⟩;have hB1:Below W.heap.size W wa:=(by first | exact (Below.refl _ W).drew.trans hba | exact hba))
   | (go_at_call 49;refine (linksAhead_rows r b off cap ns _ (HNN.out _ hB1) hCC).mono ?_;rintro e wb ⟨rb2,rfl,hR2,hbb⟩;have hB2:Below W.heap.size W wb:=hB1.trans (hbb.mono hB1.size);have x0:=XF.out _ hB2 0 (by decide);have x1:=XF.out _ hB2 1 (by decide);have x2:=XF.out _ hB2 2 (by decide);have x3:=XF.out _ hB2 3 (by decide);have x4:=XF.out _ hB2 4 (by decide);have x5:=XF.out _ hB2 5 (by decide);have x6:=XF.out _ hB2 6 (by decide);have x7:=XF.out _ hB2 7 (by decide);simp at x0 x1 x2 x3 x4 x5 x6 x7;have xl:=blk_lt (HH.out _ hB2).2.2))
  have k0:=blk_set (i:=0) (.bool f.back) (HH.out _ hB2).2.2
  have k1:=blk_set (i:=1) (.bool f.empty) k0
  have k2:=blk_set (i:=2) (.slice a1 f.gen.length c1) k1
  have k3:=blk_set (i:=3) (.slice a2 f.pass.length c2) k2
  have k4:=blk_set (i:=4) (.slice a3 f.plus.length c3) k3
  have k5:=blk_set (i:=5) (.slice a4 f.lets.length c4) k4
  have k6:=blk_set (i:=6) (.slice (some ⟨rb1,0,none⟩) ns.length ns.length) k5
  have k7:=blk_set (i:=7) (.slice (some ⟨rb2,0,none⟩) ns.length ns.length) k6
  have T1:=(((((((((hR1.below hbb).set (o:=0) (u:=.bool f.back) (HH.out _ hB2).2.2 (by decide) (by decide)).set (o:=1) (u:=.bool f.empty) k0 (by decide) (by decide)).set (o:=2) (u:=.slice a1 f.gen.length c1) k1 (by decide) (by decide)).set (o:=3) (u:=.slice a2 f.pass.length c2) k2 (by decide) (by decide)).set (o:=4) (u:=.slice a3 f.plus.length c3) k3 (by decide) (by decide)).set (o:=5) (u:=.slice a4 f.lets.length c4) k4 (by decide) (by decide)).set (o:=6) (u:=.slice (some ⟨rb1,0,none⟩) ns.length ns.length) k5 (by decide) (by decide)).set (o:=7) (u:=.slice (some ⟨rb2,0,none⟩) ns.length ns.length) k6 (by decide) (by decide))
  have T2:=((((((((hR2.set (o:=0) (u:=.bool f.back) (HH.out _ hB2).2.2 (by decide) (by decide)).set (o:=1) (u:=.bool f.empty) k0 (by decide) (by decide)).set (o:=2) (u:=.slice a1 f.gen.length c1) k1 (by decide) (by decide)).set (o:=3) (u:=.slice a2 f.pass.length c2) k2 (by decide) (by decide)).set (o:=4) (u:=.slice a3 f.plus.length c3) k3 (by decide) (by decide)).set (o:=5) (u:=.slice a4 f.lets.length c4) k4 (by decide) (by decide)).set (o:=6) (u:=.slice (some ⟨rb1,0,none⟩) ns.length ns.length) k5 (by decide) (by decide)).set (o:=7) (u:=.slice (some ⟨rb2,0,none⟩) ns.length ns.length) k6 (by decide) (by decide))
  have hBf:=((((((((HW.out.trans (hB2.mono HW.out.size)).setCell (p:=⟨w.heap.size+1+1,0,none⟩) (by simp;omega) (.bool f.back)).setCell (p:=⟨w.heap.size+1+1,1,none⟩) (by simp;omega) (.bool f.empty)).setCell (p:=⟨w.heap.size+1+1,2,none⟩) (by simp;omega) (.slice a1 f.gen.length c1)).setCell (p:=⟨w.heap.size+1+1,3,none⟩) (by simp;omega) (.slice a2 f.pass.length c2)).setCell (p:=⟨w.heap.size+1+1,4,none⟩) (by simp;omega) (.slice a3 f.plus.length c3)).setCell (p:=⟨w.heap.size+1+1,5,none⟩) (by simp;omega) (.slice a4 f.lets.length c4)).setCell (p:=⟨w.heap.size+1+1,6,none⟩) (by simp;omega) (.slice (some ⟨rb1,0,none⟩) ns.length ns.length)).setCell (p:=⟨w.heap.size+1+1,7,none⟩) (by simp;omega) (.slice (some ⟨rb2,0,none⟩) ns.length ns.length)
  clear k0 k1 k2 k3 k4 k5 k6 x0 x1 x2 x3 x4 x5 x6 x7 hR1 hR2
  simp only [List.setIfInBounds_toArray,List.set_cons_zero,List.set_cons_succ] at k7
  go_wp2_with fail
  generalize (((((((((wb).setCell ⟨w.heap.size+1+1,0,none⟩ (.bool f.back)).setCell ⟨w.heap.size+1+1,1,none⟩ (.bool f.empty)).setCell ⟨w.heap.size+1+1,2,none⟩ (.slice a1 f.gen.length c1)).setCell ⟨w.heap.size+1+1,3,none⟩ (.slice a2 f.pass.length c2)).setCell ⟨w.heap.size+1+1,4,none⟩ (.slice a3 f.plus.length c3)).setCell ⟨w.heap.size+1+1,5,none⟩ (.slice a4 f.lets.length c4)).setCell ⟨w.heap.size+1+1,6,none⟩ (.slice (some ⟨rb1,0,none⟩) ns.length ns.length)).setCell ⟨w.heap.size+1+1,7,none⟩ (.slice (some ⟨rb2,0,none⟩) ns.length ns.length))=Wf at k7 T1 T2 hBf ⊢
  have y0:=blk_cell k7 0
  have y1:=blk_cell k7 1
  have y2:=blk_cell k7 2
  have y3:=blk_cell k7 3
  have y4:=blk_cell k7 4
  have y5:=blk_cell k7 5
  have y6:=blk_cell k7 6
  have y7:=blk_cell k7 7
  simp at y0 y1 y2 y3 y4 y5 y6 y7
  obtain ⟨h1,h2,h3,h4⟩:=HBO.out
  have hw:∀ u,Below w.heap.size w u→BoolsAt u a1 f.gen∧BoolsAt u a2 f.pass∧BoolsAt u a3 f.plus∧BoolsAt u a4 f.lets:=fun u h=>⟨h1.below h,h2.below h,h3.below h,h4.below h⟩
  obtain ⟨g1,g2,g3,g4⟩:=hw _ hBf
  refine bodyPost_ret (v:=(.agg #[.bool f.back,.bool f.empty,.slice a1 f.gen.length c1,.slice a2 f.pass.length c2,.slice a3 f.plus.length c3,.slice a4 f.lets.length c4,.slice (some ⟨rb1,0,none⟩) ns.length ns.length,.slice (some ⟨rb2,0,none⟩) ns.length ns.length])) (by simp [results,Tryz.results198,go_sem,y0,y1,y2,y3,y4,y5,y6,y7]) rfl ⟨rb1,rb2,rfl,⟨g1,g2,g3,g4,HC.out.2.1,HC.out.2.2.1,HC.out.2.2.2.1,HC.out.2.2.2.2,?_,?_⟩,hBf⟩
  ·have e:nbs ns f=nxl ns:=by funext n;simp [nbs,HK.out]
   rw [e];exact T1.read
  ·have e:ask ns f=ahl ns:=by funext n;simp [ask,HK.out]
   rw [e];exact T2.read
theorem info_boolF:(Tryz.prog.info? 4).map (fun i=>(i.zero,i.size,i.bytes))=some (some (.bool false),1,1):=by kernel_rfl
theorem made_boolsF (n:Nat):madeCells #[Value.bool false] n=((List.replicate n false).map Value.bool).toArray:=by
 apply Array.ext'
 rw [toList_madeCells_one]
 simp
def trues (cs:Array Value):Nat:=(cs.toList.filter fun v=>match v with | .bool true=>true | _=>false).length
def truesAt (w:World) (b:Nat):Nat:=match w.heap[b]? with | some (.cells cs _ _)=>trues cs | _=>0
def lenV:Value→Nat | .slice _ n _=>n | _=>0
theorem trues_map (x:List Bool):trues (x.map Value.bool).toArray=yeses x:=by
 simp only [trues,yeses]
 induction x with
 | nil=>rfl
 | cons a l ih =>
  cases a
  ·simpa using ih
  ·simpa using ih
theorem truesAt_of {w:World} {b:Nat} {x:List Bool} {t:TypeId} {fr:Nat × Nat} (h:w.heap[b]?=some (.cells (x.map Value.bool).toArray t fr)):truesAt w b=yeses x:=by
 simp only [truesAt,h];exact trues_map x
theorem repl_set {k L:Nat} (h:k<L):(List.replicate k true++List.replicate (L-k) false).set k true=List.replicate (k+1) true++List.replicate (L-(k+1)) false:=by
 obtain ⟨d,hd⟩:∃ d,L-k=d+1:=⟨L-k-1,by omega⟩
 have e:L-(k+1)=d:=by omega
 rw [hd,e,List.replicate_succ,List.set_append_right _ _ (by simp)]
 simp [List.replicate_succ']
theorem repl_get {k L:Nat} (h:k<L):((List.replicate k true++List.replicate (L-k) false).map Value.bool).toArray[k]?=some (.bool false):=by
 obtain ⟨d,hd⟩:∃ d,L-k=d+1:=⟨L-k-1,by omega⟩
 rw [hd,List.getElem?_toArray,List.getElem?_map,List.getElem?_append_right (by simp)]
 simp
theorem ints_snoc (l:List Nat) (k:Nat):ints (l++[k])=ints l++[(k:Int)]:=by simp [ints]
theorem ints_append (l m:List Nat):ints (l++m)=ints l++ints m:=by simp [ints]
theorem owns_pop {w:World} {base:Nat} {e:TypeId} {g cap n:Nat} {xs:List Value} {v:Value} (h:w.ownsRow base e 1 (.slice (some ⟨g,0,none⟩) (n+1) cap) (n+1) (xs++[v])):w.ownsRow base e 1 (.slice (some ⟨g,0,none⟩) n cap) n xs:=by
 obtain ⟨hl,h⟩:=h
 simp only [List.length_append,List.length_singleton,Nat.mul_one] at hl
 refine ⟨by omega,?_⟩
 rcases h with ⟨q,_⟩ | ⟨g', cap', cur,q,a1,a2,a3,a4,a5,a6⟩
 ·cases q
 ·cases q
  refine Or.inr ⟨g,cap,cur,rfl,a1,a2,by omega,a4,a5,?_⟩
  simp only [Nat.mul_one] at a6 ⊢
  have h2:=congrArg (List.take n) a6
  rw [List.take_take,Nat.min_eq_left (by omega)] at h2
  rw [h2,List.take_append_of_le_length (by omega),List.take_of_length_le (by omega)]
theorem append_zero (w:World) (ty:TypeId) (base a:Option Addr) (sLen sCap c:Nat) (hle:sLen≤sCap) :
 (Builtin.append_ #[25,25] ty #[.slice base sLen sCap,.slice a 0 c]).run Tryz.prog w=.ok (.slice base sLen sCap) w:=by
 obtain ⟨i0,hi,hz0,hz1,hz2⟩:=info_parts info_int
 refine run_append_nothing w 25 25 ty 3 i0 Tryz.underlying25 hi base sLen sCap hle _ ⟨Or.inl ⟨_,Tryz.underlying25⟩,fun w' =>by simp [Builtin.lenOf],?_,?_,by simp,by simp⟩
 ·cases a <;> simp [Builtin.firstCells,loadCells,loadCellsFrom]
 ·cases a <;> simp [Builtin.firstCells,loadCells,loadCellsFrom]
theorem wpList_append_zero {w:World} {ops:Array Oper} {rest:List Oper} {o:Oper} {a:Act} {Q:Exit→Act→World→Prop} (hgd:o.guard=none) (s x:Operand)
 (ho:o.op=.call { callee:=.builtin .append,args:=#[s,x],argTypes:=#[25,25] }) (base ra:Option Addr) (sLen sCap c:Nat) (hs:a.eval s=.slice base sLen sCap) (hx:a.eval x=.slice ra 0 c) (hle:sLen≤sCap)
 (h:wpList Tryz.prog ops Q rest (a.put o.dst (.slice base sLen sCap)) w):wpList Tryz.prog ops Q (o::rest) a w:=by
 refine wpList_plain hgd fun K hK=>?_
 have hr:=append_zero w o.type base ra sLen sCap c hle
 unfold Oper.wp execOp
 simp only [ho,resolve,invoke,builtin,Sem.run_bind,Sem.run_pure,Result.andThen_ok,List.map_toArray,List.map_cons,List.map_nil,hs,hx,hr]
 exact hK _ _ h
theorem addr_add (b o j:Nat):(⟨b,o,none⟩:Addr).add j=⟨b,o+j,none⟩:=by
 cases j <;> simp [Addr.add]
set_option maxRecDepth 100000 in
theorem solve_right (r:Int) (b off cap:Nat) (ns:List Nd) (f:Flw) (a1 a2 a3 a4:Option Addr) (c1 c2 c3 c4:Nat) (w:World) (hN:NodesAt w b off ns) (hc:fchk r ns f=0) (h1:BoolsAt w a1 f.gen) (h2:BoolsAt w a2 f.pass) (h3:BoolsAt w a3 f.plus) (h4:BoolsAt w a4 f.lets) :
 Calls Tryz.prog 182 #[.agg #[.int .i64 r,.slice (some ⟨b,off,none⟩) ns.length cap],.agg #[.bool f.back,.bool f.empty,.slice a1 f.gen.length c1,.slice a2 f.pass.length c2,.slice a3 f.plus.length c3,.slice a4 f.lets.length c4]] w fun e w' =>∃ v,e=.returned (.tuple #[v,.int .i64 0])∧w'.ownsRow w.heap.size 4 1 v ns.length ((solve ns f).map Value.bool)∧Below w.heap.size w w' :=by
 obtain ⟨i0,hi,hz0,hz1,hz2⟩:=info_parts info_int
 have hbA:Below w.heap.size w ((w.alloc (.cells #[.int .i64 r,.slice (some ⟨b,off,none⟩) ns.length cap] 24)).alloc (.cells #[.bool f.back,.bool f.empty,.slice a1 f.gen.length c1,.slice a2 f.pass.length c2,.slice a3 f.plus.length c3,.slice a4 f.lets.length c4] 222)):=((Below.refl _ w).alloc (Nat.le_refl _) _).alloc (by simp) _
 have hck:=fun W (h:Below w.heap.size w W)=>fcheck_any r (some ⟨b,off,none⟩) cap ns f a1 a2 a3 a4 c1 c2 c3 c4 W (Or.inr ⟨b,off,rfl,hN.below h hN.lt⟩)
 have hlo:=fun W (h:Below w.heap.size w W)=>layOut_any r b off cap ns f a1 a2 a3 a4 c1 c2 c3 c4 W (hN.below h hN.lt) hc (h1.below h) (h2.below h) (h3.below h) (h4.below h)
 rw [hc] at hck
 have hl:=(chk_zero (fchk_zero hc).1).1
 have HCK:=hide hck
 have HLO:=hide hlo
 clear hck hlo hc h1 h2 h3 h4 hN
 go_enter Tryz.func182,Tryz.ntmps182
 go_upto_region 1 with fail
 generalize HG:((w.alloc (.cells #[.int .i64 r,.slice (some ⟨b,off,none⟩) ns.length cap] 24)).alloc (.cells #[.bool f.back,.bool f.empty,.slice a1 f.gen.length c1,.slice a2 f.pass.length c2,.slice a3 f.plus.length c3,.slice a4 f.lets.length c4] 222))=W
 have hp:W.heap[w.heap.size]?=some (.cells #[.int .i64 r,.slice (some ⟨b,off,none⟩) ns.length cap] 24 (0,0)):=by rw [← HG];exact (Below.heap_alloc _ _ _ (by simp)).trans (World.alloc_heap_new w _)
 have hf:W.heap[w.heap.size+1]?=some (.cells #[.bool f.back,.bool f.empty,.slice a1 f.gen.length c1,.slice a2 f.pass.length c2,.slice a3 f.plus.length c3,.slice a4 f.lets.length c4] 222 (0,0)):=by
  rw [← HG]
  have:=World.alloc_heap_new (w.alloc (.cells #[.int .i64 r,.slice (some ⟨b,off,none⟩) ns.length cap] 24)) (.cells #[.bool f.back,.bool f.empty,.slice a1 f.gen.length c1,.slice a2 f.pass.length c2,.slice a3 f.plus.length c3,.slice a4 f.lets.length c4] 222)
  rwa [World.size_alloc] at this
 rw [HG] at hbA
 clear HG
 have p0:=blk_cell hp 0
 have p1:=blk_cell hp 1
 have q0:=blk_cell hf 0
 have q1:=blk_cell hf 1
 have q2:=blk_cell hf 2
 have q3:=blk_cell hf 3
 have q4:=blk_cell hf 4
 have q5:=blk_cell hf 5
 simp at p0 p1 q0 q1 q2 q3 q4 q5
 have pl:=blk_lt hp
 have ql:=blk_lt hf
 have HW:=hide hbA
 have HP:=hide hp
 have HF:=hide hf
 clear hp hf hbA
 go_wp2_with fail
 refine (HCK.out _ HW.out).mono ?_
 rintro e w1 ⟨rfl,hb1⟩
 have HW1:=hide (HW.out.trans (hb1.mono HW.out.size))
 have hp1:=(hb1.block _ pl).trans HP.out
 have hf1:=(hb1.block _ ql).trans HF.out
 clear p0 p1 q0 q1 q2 q3 q4 q5 pl ql hb1 HP HF HW HCK
 have p0:=blk_cell hp1 0
 have p1:=blk_cell hp1 1
 have q0:=blk_cell hf1 0
 have q1:=blk_cell hf1 1
 have q2:=blk_cell hf1 2
 have q3:=blk_cell hf1 3
 have q4:=blk_cell hf1 4
 have q5:=blk_cell hf1 5
 simp at p0 p1 q0 q1 q2 q3 q4 q5
 have pl:=blk_lt hp1
 have ql:=blk_lt hf1
 have HP:=hide hp1
 clear hp1 hf1
 have hms:∀ W:World,Sem.run Tryz.prog (Instr.makeSlice 116 (.int .i64 (ns.length:Int)) (.int .i64 (ns.length:Int))) W=.ok (.slice (some ⟨W.heap.size,0,none⟩) ns.length ns.length) (W.alloc (.cells (madeCells #[.bool false] ns.length) 4)):=fun W=>run_make_row' 116 4 _ 1 Tryz.underlying116 info_boolF rfl .i64 .i64 ns.length (by omega) (by omega) W
 go_upto_region 5 with (go_at_call 198;refine (HLO.out _ HW1.out).mono ?_;rintro e w2 ⟨rb1,rb2,rfl,hQ,hb2⟩)
 have hbQ:Below w2.heap.size w2 (w2.alloc (.cells #[.bool f.back,.bool f.empty,.slice a1 f.gen.length c1,.slice a2 f.pass.length c2,.slice a3 f.plus.length c3,.slice a4 f.lets.length c4,.slice (some ⟨rb1,0,none⟩) ns.length ns.length,.slice (some ⟨rb2,0,none⟩) ns.length ns.length] 247)):=(Below.refl _ w2).alloc (Nat.le_refl _) _
 have hq:(w2.alloc (.cells #[.bool f.back,.bool f.empty,.slice a1 f.gen.length c1,.slice a2 f.pass.length c2,.slice a3 f.plus.length c3,.slice a4 f.lets.length c4,.slice (some ⟨rb1,0,none⟩) ns.length ns.length,.slice (some ⟨rb2,0,none⟩) ns.length ns.length] 247)).heap[w2.heap.size]?=some (.cells #[.bool f.back,.bool f.empty,.slice a1 f.gen.length c1,.slice a2 f.pass.length c2,.slice a3 f.plus.length c3,.slice a4 f.lets.length c4,.slice (some ⟨rb1,0,none⟩) ns.length ns.length,.slice (some ⟨rb2,0,none⟩) ns.length ns.length] 247 (0,0)):=World.alloc_heap_new w2 _
 generalize (w2.alloc (.cells #[.bool f.back,.bool f.empty,.slice a1 f.gen.length c1,.slice a2 f.pass.length c2,.slice a3 f.plus.length c3,.slice a4 f.lets.length c4,.slice (some ⟨rb1,0,none⟩) ns.length ns.length,.slice (some ⟨rb2,0,none⟩) ns.length ns.length] 247))=Wq at hbQ hq ⊢
 have hp2:=(hbQ.block _ (Nat.lt_of_lt_of_le pl hb2.size)).trans ((hb2.block _ pl).trans HP.out)
 have HQ:=hide (hQ.below hbQ)
 have HWq:=hide (HW1.out.trans ((hb2.trans (hbQ.mono hb2.size)).mono HW1.out.size))
 clear p0 p1 q0 q1 q2 q3 q4 q5 pl ql hQ HP hb2 hbQ HW1 HLO
 have p1:=blk_cell hp2 1
 simp at p1
 have pl:=blk_lt hp2
 have HQB:=hide hq
 clear hq hp2
 generalize w2.heap.size=QB at HQB ⊢
 go_wp2_with fail
 have hB0:Below Wq.heap.size Wq (Wq.alloc (.cells (madeCells #[.bool false] ns.length) 4)):=(Below.refl _ Wq).alloc (Nat.le_refl _) _
 have hX0:(Wq.alloc (.cells (madeCells #[.bool false] ns.length) 4)).heap[Wq.heap.size]?=some (.cells ((List.replicate 0 true++List.replicate (ns.length-0) false).map Value.bool).toArray 4 (0,0)):=by
  rw [World.alloc_heap_new,made_boolsF];simp
 generalize (Wq.alloc (.cells (madeCells #[.bool false] ns.length) 4))=W0 at hB0 hX0 ⊢
 have HX0:=hide hX0
 clear hX0 hms p1 pl
 go_loopw [9,27] (fun v i wr=>∃ k:Nat,k≤ns.length∧i=.int .i64 k∧wr.heap[Wq.heap.size]?=some (.cells ((List.replicate k true++List.replicate (ns.length-k) false).map Value.bool).toArray 4 (0,0))∧wr.ownsRow (Wq.heap.size+1) 3 1 v (ints (List.range k)).length ((ints (List.range k)).map (Value.int .i64))∧Below Wq.heap.size Wq wr) (fun _ i _=>ns.length-(intOf i).toNat)
 case atStart=>exact ⟨0,Nat.zero_le _,rfl,HX0.out,World.ownsRow_nil _ _ _ _,hB0⟩
 case round =>
  obtain ⟨k,hk,rfl,hX,hown,hb⟩:=hrel
  have hsz:=hb.size
  have hXl:=blk_lt hX
  by_cases hlt:k<ns.length
  ·have hxc:=blk_cell hX k
   rw [repl_get hlt] at hxc
   have hxf:=blk_frozen hX k
   have hli:(k:Int)<(ns.length:Int):=by omega
   have HX:=hide hX
   have HO:=hide hown
   have hlen:(ints (List.range k)).length=k:=by simp [ints]
   have HB:=hide hb
   clear hX hown hb
   have hown2:(wr.setCell ⟨Wq.heap.size,k,none⟩ (.bool true)).ownsRow (Wq.heap.size+1) 3 1 u9 (ints (List.range k)).length ((ints (List.range k)).map (Value.int .i64)):=owns_set HO.out HX.out (by decide)
   have HO2:=hide hown2
   have HLE:=hide hlen
   have hnew:=World.alloc_heap_new (wr.setCell ⟨Wq.heap.size,k,none⟩ (.bool true)) (.cells #[.int .i64 k] 3)
   rw [show (wr.setCell ⟨Wq.heap.size,k,none⟩ (.bool true)).heap.size=wr.heap.size by simp] at hnew
   have HNW:=hide hnew
   clear hnew
   clear hown2 hlen
   go_wp2_with (at_builtin;refine wpList_append_own _ rfl (.tmp 33) (.tmp 35) 25 rfl (Wq.heap.size+1) 3 i0 (.int .i64 0) 1 8 Tryz.underlying25 hi hz0 hz1 hz2 rfl (by decide) _ _ _ rfl (HO2.out.alloc _) ⟨wr.heap.size,0,none⟩ 1 1 [.int .i64 k] rfl rfl ?c1 ?c2 ?c3 ?c4 ?c5 ?_)
   case c1 =>
    intro j u hj
    match j,hj with
    | 0,hj=>simp at hj;subst hj;exact blk_cell HNW.out 0
   case c2=>intro u hu;simp at hu;subst hu;rfl
   case c3=>rw [HLE.out];unfold maxLen;omega
   case c4=>rw [HLE.out];omega
   case c5=>simp;omega
   intro v' w3 hown3 hg3 _
   have hlt3:=HO2.out.lt
   have hbS:Below Wq.heap.size Wq (wr.setCell ⟨Wq.heap.size,k,none⟩ (.bool true)):=HB.out.setCell (p:=⟨Wq.heap.size,k,none⟩) (by simp) _
   have hB3:Below Wq.heap.size Wq w3:=(hbS.alloc (by simpa using hsz) _).grown hg3 (by simp;omega) (fun k hk=>by have:=(hlt3 k hk).1;omega)
   have hX3:w3.heap[Wq.heap.size]?=some (.cells ((List.replicate (k+1) true++List.replicate (ns.length-(k+1)) false).map Value.bool).toArray 4 (0,0)):=by
    rw [hg3.block _ (by simp;omega) (fun e=>by have:=(hlt3 _ e.symm).1;omega),Below.heap_alloc _ _ _ (by simpa using hXl),blk_set _ HX.out,← repl_set hlt]
    simp only [List.map_set,List.setIfInBounds_toArray]
   have hown4:w3.ownsRow (Wq.heap.size+1) 3 1 v' (ints (List.range (k+1))).length ((ints (List.range (k+1))).map (Value.int .i64)):=by
    rw [List.range_succ,ints_snoc];simpa using hown3
   have H3:=hide (And.intro hX3 (And.intro hown4 hB3))
   clear hown3 hg3 hlt3 hbS hB3 hX3 hown4 HO HO2 HX HB
   go_wp2
   go_roundw
   case rel=>exact ⟨k+1,by omega,by go_num,H3.out.1,H3.out.2.1,H3.out.2.2⟩
   case measure=>simp [intOf];omega
  ·have ek:k=ns.length:=by omega
   subst ek
   have hS:=Stk.start (sayF ns f) ns.length
   have hX' :wr.heap[Wq.heap.size]?=some (.cells ((List.replicate ns.length true).map Value.bool).toArray 4 (0,0)):=by rw [hX];simp
   have HX:=hide hX'
   have HO:=hide hown
   have HB:=hide hb
   clear hX hX' hown hb
   go_wp2_with fail
   go_loopw [9] (fun v wr=>∃ x wk,Stk (sayF ns f) ns.length x wk∧wr.heap[Wq.heap.size]?=some (.cells (x.map Value.bool).toArray 4 (0,0))∧wr.ownsRow (Wq.heap.size+1) 3 1 v (ints wk).length ((ints wk).map (Value.int .i64))∧Below Wq.heap.size Wq wr) (fun v wr=>lenV v+truesAt wr Wq.heap.size*(ns.length+1))
   case atStart=>exact ⟨_,_,hS,HX.out,HO.out,HB.out⟩
   case round =>
    clear hS HX HO HB hXl hsz
    obtain ⟨x,wk,hS,hX,hown,hb⟩:=hrel
    have hXl:=blk_lt hX
    have hxl:=hS.on.len
    rcases List.eq_nil_or_concat wk with rfl | ⟨wk', n,rfl⟩
    ·obtain ⟨va,vc,rfl⟩:=owns_slice hown
     have HX:=hide hX
     have HS:=hide hS
     have HB:=hide hb
     clear hX hS hb hown
     go_wp2
     go_ret2
     have hG:=HS.out.done.eq_gr (sayF_mono ns f)
     refine ⟨_,rfl,?_,HWq.out.trans (HB.out.mono HWq.out.size)⟩
     rw [show solve ns f=x from hG.symm]
     exact ⟨by simp [hxl],Or.inr ⟨Wq.heap.size,ns.length,_,rfl,HWq.out.size,HX.out,Nat.le_refl _,by unfold maxLen;omega,by simp [hxl],by simp [List.take_of_length_le,hxl]⟩⟩
    ·rw [List.concat_eq_append] at hS hown
     have e:(ints (wk' ++[n])).length=wk'.length+1:=by simp [ints]
     rw [e,ints_snoc,List.map_append] at hown
     have hn:n<ns.length:=hS.lt n (by simp)
     obtain ⟨g,vc,rfl,hgb,hgl,hvc⟩:∃ g vc,u9=.slice (some ⟨g,0,none⟩) (wk'.length+1) vc∧Wq.heap.size+1≤g∧g<wr.heap.size∧wk'.length+1≤vc:=by
      rcases hown.2 with ⟨_,q⟩ | ⟨g,vc,cur,rfl,q1,q2,q3,_⟩
      ·omega
      ·exact ⟨g,vc,rfl,q1,blk_lt q2,q3⟩
     have hcell:wr.cell? ⟨g,wk'.length,none⟩=some (.int .i64 n):=by
      have h0:=hown.cells (g:=g) rfl wk'.length (.int .i64 n) (by rw [List.getElem?_append_right (by simp [ints])];simp [ints])
      rwa [addr_add,Nat.zero_add] at h0
     have hfew:wk'.length<70000:=by
      have h0:=hS.few
      have h5:ns.length*(ns.length+1)≤256*257:=Nat.mul_le_mul (by omega) (by omega)
      simp at h0
      omega
     have hwrap:IntKind.i64.wrap (((wk'.length+1:Nat):Int)-1)=(wk'.length:Int):=by
      rw [IntWalk.i64_left];unfold wrap64;omega
     have hmc:(wk'.length:Int)≤(vc:Int):=by omega
     have hni:(n:Int)<(ns.length:Int):=by omega
     have hxc:wr.cell? ⟨Wq.heap.size,n,none⟩=some (.bool (bat x n)):=by
      rw [blk_cell hX,List.getElem?_toArray,List.getElem?_map,get_bat (by omega)];rfl
     have hqr:=(hb.block QB (blk_lt HQB.out)).trans HQB.out
     have hql:=blk_lt hqr
     have q0:=blk_cell hqr 0
     have q1:=blk_cell hqr 1
     have q2:=blk_cell hqr 2
     have q3:=blk_cell hqr 3
     have q4:=blk_cell hqr 4
     have q5:=blk_cell hqr 5
     have q6:=blk_cell hqr 6
     have q7:=blk_cell hqr 7
     simp at q0 q1 q2 q3 q4 q5 q6 q7
     have hbx:BoolsAt wr (some ⟨Wq.heap.size,0,none⟩) x:=Or.inr ⟨Wq.heap.size,0,rfl,hXl,fun j z hz=>by rw [Nat.zero_add,blk_cell hX,List.getElem?_toArray,List.getElem?_map,hz];rfl⟩
     have hsy:=says_any ns f a1 a2 a3 a4 (some ⟨Wq.heap.size,0,none⟩) c1 c2 c3 c4 ns.length rb1 rb2 n x wr (HQ.out.below hb) hbx hxl hn hl.2
     rw [hxl] at hsy
     have HSY:=hide hsy
     have HX:=hide hX
     have HS:=hide hS
     have HB:=hide hb
     have HO:=hide hown
     have HQR:=hide hqr
     have hm0:(0:Int)<((wk'.length+1:Nat):Int):=by omega
     clear hsy hX hS hb hown hqr hbx e hxl
     cases hxn:bat x n
     ·rw [hxn] at hxc
      have HXN:=hide hxn
      clear hxn
      go_wp2_with fail
      go_roundw
      case rel=>exact ⟨x,wk', HS.out.pop (Or.inl HXN.out),HX.out,by rw [ints_len];exact owns_pop HO.out,HB.out⟩
      case measure=>simp [lenV]
     ·rw [hxn] at hxc
      have HXN:=hide hxn
      clear hxn
      go_wp2_with fail
      refine HSY.out.mono ?_
      rintro e w4 ⟨rfl,hb4⟩
      have hX4:=(hb4.block _ hXl).trans HX.out
      have hO4:=ownsRow_below HO.out hb4 (Nat.le_refl _)
      have hB4:=HB.out.trans (hb4.mono HB.out.size)
      cases hsay:sayF ns f (bat x) n
      ·have hxc4:=(hb4.cell (p:=⟨Wq.heap.size,n,none⟩) hXl).trans hxc
       have hxf4:=blk_frozen hX4 n
       have hXl4:=blk_lt hX4
       have HX4:=hide hX4
       have HO4:=hide hO4
       have HB4:=hide hB4
       have HSA:=hide hsay
       clear hX4 hO4 hB4 hsay q0 q1 q2 q3 q4 q5 q6 q7 hxc hcell hb4
       go_upto_region 18 with fail
       have hX5:=blk_set (i:=n) (.bool false) HX4.out
       have hX5' :(w4.setCell ⟨Wq.heap.size,n,none⟩ (.bool false)).heap[Wq.heap.size]?=some (.cells ((x.set n false).map Value.bool).toArray 4 (0,0)):=by
        rw [hX5];simp only [List.map_set,List.setIfInBounds_toArray]
       have hO5:(w4.setCell ⟨Wq.heap.size,n,none⟩ (.bool false)).ownsRow (Wq.heap.size+1) 3 1 (.slice (some ⟨g,0,none⟩) wk'.length vc) wk'.length ((ints wk').map (Value.int .i64)):=owns_set (owns_pop HO4.out) HX4.out (by decide)
       have hB5:Below Wq.heap.size Wq (w4.setCell ⟨Wq.heap.size,n,none⟩ (.bool false)):=HB4.out.setCell (p:=⟨Wq.heap.size,n,none⟩) (Nat.le_refl _) _
       generalize (w4.setCell ⟨Wq.heap.size,n,none⟩ (.bool false))=W5 at hX5' hO5 hB5 ⊢
       clear hX5 HX4 HO4 HB4 hxc4 hxf4 hXl4 HSY HQR
       have hS5:=HS.out.turn (sayF_mono ns f) (asks_of ns f) HXN.out HSA.out
       have hless:=HS.out.less (asks_of ns f) HXN.out
       have hfew5:(wk' ++ask ns f n).length<70000:=by
        have h0:=hS5.few
        have h5:ns.length*(ns.length+1)≤256*257:=Nat.mul_le_mul (by omega) (by omega)
        omega
       have hQ5:=HQ.out.below hB5
       obtain ⟨ra,rc,hrc,hrI⟩:=hQ5.askers.row n hn
       have hrl:=hQ5.askers.lt
       have hq5:=(hB5.block QB (blk_lt HQB.out)).trans HQB.out
       have q7:=blk_cell hq5 7
       simp at q7
       have ql5:=blk_lt hq5
       have HX5:=hide hX5'
       have HO5:=hide hO5
       have HB5:=hide hB5
       have HS5:=hide hS5
       have HL:=hide hless
       have HI:=hide hrI
       have hgl5:g<W5.heap.size:=(hO5.lt g rfl).2
       have HT:=hide (truesAt_of HX.out)
       clear hX5' hO5 hB5 hS5 hless hrI hQ5 hq5
       simp only [List.length_append] at hfew5
       by_cases hz:(ask ns f n).length=0
       ·rw [hz] at hrc
        have he:ask ns f n=[]:=List.eq_nil_of_length_eq_zero hz
        have HE:=hide he
        clear he hz
        go_wp2_with (at_builtin;refine wpList_append_zero rfl (.tmp 66) (.tmp 71) rfl (some ⟨g,0,none⟩) ra wk'.length vc rc rfl rfl (by omega) ?_)
        go_roundw
        case rel=>exact ⟨x.set n false,wk' ++ask ns f n,HS5.out,HX5.out,by rw [HE.out,List.append_nil,ints_len];exact HO5.out,HB5.out⟩
        case measure =>
         rw [truesAt_of HX5.out,HT.out]
         have:=HL.out
         rw [HE.out] at this
         simp [lenV] at this ⊢
         omega
       ·have hpos:0<(ints (ask ns f n)).length:=by rw [ints_len];omega
        obtain ⟨ab,ao,rfl,hal,hac⟩:=HI.out.at hpos
        have HAC:=hide hac
        clear hac
        have hfi:(ints (ask ns f n)).length=(ask ns f n).length:=ints_len _
        have HFI:=hide hfi
        clear hfi
        have hS0:=HB5.out.size
        go_wp2_with (at_builtin;refine wpList_append_own _ rfl (.tmp 66) (.tmp 71) 25 rfl (Wq.heap.size+1) 3 i0 (.int .i64 0) 1 8 Tryz.underlying25 hi hz0 hz1 hz2 rfl (by decide) _ _ _ rfl HO5.out ⟨ab,ao,none⟩ (ask ns f n).length rc ((ints (ask ns f n)).map (Value.int .i64)) rfl (by simp [ints]) ?c1 ?c2 ?c3 ?c4 ?c5 ?_)
        case c1 =>
         intro j u hj
         rw [List.getElem?_map] at hj
         cases hz2:(ints (ask ns f n))[j]? with
         | none=>rw [hz2] at hj;cases hj
         | some z=>rw [hz2] at hj;cases hj;rw [addr_add];exact HAC.out j z hz2
        case c2=>intro u hu;obtain ⟨z,_,rfl⟩:=List.mem_map.1 hu;rfl
        case c3=>unfold maxLen;omega
        case c4=>omega
        case c5=>have:=blk_lt HX5.out;omega
        intro v' w6 hown6 hg6 _
        have hlt6:=HO5.out.lt
        have hB6:Below Wq.heap.size Wq w6:=HB5.out.grown hg6 (by omega) (fun k hk=>by have:=(hlt6 k hk).1;omega)
        have hX6:=(hg6.block _ (blk_lt HX5.out) (fun e=>by have:=(hlt6 _ e.symm).1;omega)).trans HX5.out
        have hown7:w6.ownsRow (Wq.heap.size+1) 3 1 v' (ints (wk' ++ask ns f n)).length ((ints (wk' ++ask ns f n)).map (Value.int .i64)):=by
         rw [ints_append,List.map_append,List.length_append,ints_len,ints_len];exact hown6
        have hv:lenV v' =(wk' ++ask ns f n).length:=by
         obtain ⟨_,_,e⟩:=owns_slice hown7
         rw [e,lenV,ints_len]
        have H6:=hide (And.intro hX6 (And.intro hown7 (And.intro hB6 hv)))
        clear hown6 hg6 hlt6 hB6 hX6 hown7 hv
        go_wp2_with fail
        go_roundw
        case rel=>exact ⟨x.set n false,wk' ++ask ns f n,HS5.out,H6.out.1,H6.out.2.1,H6.out.2.2.1⟩
        case measure =>
         rw [truesAt_of H6.out.1,HT.out]
         have:=HL.out
         have:=H6.out.2.2.2
         simp [lenV] at *
         omega
      ·have HX4:=hide hX4
       have HO4:=hide hO4
       have HB4:=hide hB4
       have HSA:=hide hsay
       clear hX4 hO4 hB4 hsay q0 q1 q2 q3 q4 q5 q6 q7 hxc hcell
       go_wp2_with fail
       go_roundw
       case rel=>exact ⟨x,wk', HS.out.pop (Or.inr HSA.out),HX4.out,by rw [ints_len];exact owns_pop HO4.out,HB4.out⟩
       case measure =>
        rw [truesAt_of HX4.out,truesAt_of HX.out]
        simp [lenV]
end Go.Proofs.YtkkolclmfcmfbaaGreatDoor
