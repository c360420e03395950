/-
  Of the proof of WholeSame: TB, TC, TE, RA, C, D, F, RB, TF, TD, G, TG, TH, TI.
-/
import Derived.Test.YtkkolclmfcmfbaaGreatDoorW1
import Derived.Lib.Strings
import Derived.Maps.OwnSet
import Derived.Maps.RangeWalk
import Derived.StringKeys
import Derived.Shelf.Abstract
import Derived.Deep.QuietTactic
import Derived.BigQuiet
import Derived.Test.YtkkolclmfcmfbaaGreatDoorSh
import Derived.ChangeAgain
import Derived.Laws.OwnMore
import Derived.Deep.RegionWith
import Derived.Lib.AtoiAllCases
set_option linter.unusedVariables false
set_option linter.unusedSimpArgs false
set_option maxHeartbeats 40000000
namespace Go.Proofs.YtkkolclmfcmfbaaGreatDoor
def nmL:List (List UInt8):=[[115,107,105,112],[115,101,116],[99,111,112,121],[97,100,100],[115,117,98],[109,117,108],[97,110,100],[120,111,114],[108,101,115,115],[105,110],[111,117,116],[105,102],[101,110,100]]
def nmB (op:Int):List UInt8:=nmL.getD op.toNat []
def opOf (x:List UInt8):Option Nat:=nmL.findIdx? (·==x)
def regsW:List UInt8:=[114,101,103,115,32]
def toW:List UInt8:=[116,111]
def elW:List UInt8:=[101,108,115,101]
def hasD (op:Int):Bool:=wi op 1 9
def hasA (op:Int):Bool:=wi op 1 8||wi op 10 12
def hasB (op:Int):Bool:=wi op 3 8
def hasT (op:Int):Bool:=wi op 0 11
def hasE (op:Int):Bool:=op==11
def wordsB (x:Nd):List (List UInt8) :=
 nmB x.op::((if hasD x.op then [Lib.itoa x.d] else [])++((if hasA x.op then [Lib.itoa x.a] else [])++((if hasB x.op then [Lib.itoa x.b] else [])++((if hasT x.op then [toW,Lib.itoa x.t] else [])++(if hasE x.op then [elW,Lib.itoa x.e] else [])))))
def lineW (x:Nd):List UInt8:=Lib.join (wordsB x) [32]
def regsL (r:Int):List UInt8:=regsW++Lib.itoa r
def showB (r:Int) (ns:List Nd):List UInt8:=regsL r++10::ns.flatMap fun x=>lineW x++[10]
def rdOne (ws:List (List UInt8)) (k:Nat) (has lead:Bool):Option (Nat × Int) :=
 if has then
  match ws[if lead then k+1 else k]? with
  | none=>none
  | some x=>match Lib.atoiAll x with
   | .ok v=>some ((if lead then k+1 else k)+1,v)
   | _=>none
 else some (k,0)
def rdN (ws:List (List UInt8)):Option Nd :=
 match ws with
 | []=>none
 | x::_=>match opOf x with
  | none=>none
  | some o=>match rdOne ws 1 (hasD o) false with
   | none=>none
   | some (k1,d)=>match rdOne ws k1 (hasA o) false with
    | none=>none
    | some (k2,a)=>match rdOne ws k2 (hasB o) false with
     | none=>none
     | some (k3,b)=>match rdOne ws k3 (hasT o) true with
      | none=>none
      | some (k4,t)=>match rdOne ws k4 (hasE o) true with
       | none=>none
       | some (_,e)=>some ⟨o,d,a,b,t,e⟩
theorem opOf_nm {op:Int} (h:0≤op∧op≤12):opOf (nmB op)=some op.toNat:=by
 obtain ⟨k,rfl⟩:=Int.eq_ofNat_of_zero_le h.1
 have hk:k≤12:=by omega
 rw [Int.toNat_natCast]
 have:∀ j:Fin 13,opOf (nmB (j.1:Int))=some j.1:=by decide
 exact this ⟨k,by omega⟩
structure Fits (x:Nd):Prop where
 d: -9223372036854775808≤x.d∧x.d≤9223372036854775807
 a: -9223372036854775808≤x.a∧x.a≤9223372036854775807
 b: -9223372036854775808≤x.b∧x.b≤9223372036854775807
 t: -9223372036854775808≤x.t∧x.t≤9223372036854775807
 e: -9223372036854775808≤x.e∧x.e≤9223372036854775807
theorem rd_no (ws:List (List UInt8)) (k:Nat) (lead:Bool):rdOne ws k false lead=some (k,0):=rfl
theorem rd_plain {ws:List (List UInt8)} {k:Nat} {n:Int} (h:ws[k]?=some (Lib.itoa n)) (h0: -9223372036854775808≤n∧n≤9223372036854775807):rdOne ws k true false=some (k+1,n):=by
 simp [rdOne,h,atoi_itoa n h0.1 h0.2]
theorem rd_lead {ws:List (List UInt8)} {k:Nat} {n:Int} (h:ws[k+1]?=some (Lib.itoa n)) (h0: -9223372036854775808≤n∧n≤9223372036854775807):rdOne ws k true true=some (k+2,n):=by
 simp [rdOne,h,atoi_itoa n h0.1 h0.2]
theorem rd_step {pre rest:List (List UInt8)} {has lead:Bool} {lw:List UInt8} {n:Int} (k:Nat) (hk:pre.length=k) (h0: -9223372036854775808≤n∧n≤9223372036854775807) (hz:has=false→n=0) :
 rdOne (pre++((if has then (if lead then [lw,Lib.itoa n] else [Lib.itoa n]) else [])++rest)) k has lead=some (k+(if has then (if lead then 2 else 1) else 0),n):=by
 subst hk
 cases has
 ·rw [rd_no,hz rfl];rfl
 ·cases lead
  ·rw [rd_plain (n:=n) (by simp) h0];rfl
  ·rw [rd_lead (n:=n) (by simp) h0];rfl
theorem rdN_words {x:Nd} (hop:0≤x.op∧x.op≤12) (hf:Fits x) (hd:hasD x.op=false→x.d=0) (ha:hasA x.op=false→x.a=0) (hb:hasB x.op=false→x.b=0) (ht:hasT x.op=false→x.t=0) (he:hasE x.op=false→x.e=0):rdN (wordsB x)=some x:=by
 have ho:=opOf_nm hop
 have eo:((x.op.toNat:Nat):Int)=x.op:=by omega
 have s1:=rd_step (pre:=[nmB x.op]) (rest:=(if hasA x.op then [Lib.itoa x.a] else [])++((if hasB x.op then [Lib.itoa x.b] else [])++((if hasT x.op then [toW,Lib.itoa x.t] else [])++(if hasE x.op then [elW,Lib.itoa x.e] else [])))) (has:=hasD x.op) (lead:=false) (lw:=[]) 1 rfl hf.d hd
 have s2:=rd_step (pre:=[nmB x.op]++(if hasD x.op then [Lib.itoa x.d] else [])) (rest:=(if hasB x.op then [Lib.itoa x.b] else [])++((if hasT x.op then [toW,Lib.itoa x.t] else [])++(if hasE x.op then [elW,Lib.itoa x.e] else []))) (has:=hasA x.op) (lead:=false) (lw:=[]) (1+if hasD x.op=true then 1 else 0) (by cases hasD x.op <;> rfl) hf.a ha
 have s3:=rd_step (pre:=[nmB x.op]++(if hasD x.op then [Lib.itoa x.d] else [])++(if hasA x.op then [Lib.itoa x.a] else [])) (rest:=(if hasT x.op then [toW,Lib.itoa x.t] else [])++(if hasE x.op then [elW,Lib.itoa x.e] else [])) (has:=hasB x.op) (lead:=false) (lw:=[]) (1+(if hasD x.op=true then 1 else 0)+if hasA x.op=true then 1 else 0) (by cases hasD x.op <;> cases hasA x.op <;> rfl) hf.b hb
 have s4:=rd_step (pre:=[nmB x.op]++(if hasD x.op then [Lib.itoa x.d] else [])++(if hasA x.op then [Lib.itoa x.a] else [])++(if hasB x.op then [Lib.itoa x.b] else [])) (rest:=(if hasE x.op then [elW,Lib.itoa x.e] else [])) (has:=hasT x.op) (lead:=true) (lw:=toW) (1+(if hasD x.op=true then 1 else 0)+(if hasA x.op=true then 1 else 0)+if hasB x.op=true then 1 else 0) (by cases hasD x.op <;> cases hasA x.op <;> cases hasB x.op <;> rfl) hf.t ht
 have s5:=rd_step (pre:=[nmB x.op]++(if hasD x.op then [Lib.itoa x.d] else [])++(if hasA x.op then [Lib.itoa x.a] else [])++(if hasB x.op then [Lib.itoa x.b] else [])++(if hasT x.op then [toW,Lib.itoa x.t] else [])) (rest:=[]) (has:=hasE x.op) (lead:=true) (lw:=elW) (1+(if hasD x.op=true then 1 else 0)+(if hasA x.op=true then 1 else 0)+(if hasB x.op=true then 1 else 0)+if hasT x.op=true then 2 else 0) (by cases hasD x.op <;> cases hasA x.op <;> cases hasB x.op <;> cases hasT x.op <;> rfl) hf.e he
 simp only [Bool.false_eq_true,if_false,if_true,List.append_assoc,List.append_nil,List.cons_append,List.nil_append] at s1 s2 s3 s4 s5
 unfold rdN wordsB
 simp only [ho,eo]
 rw [s1]
 simp only
 rw [s2]
 simp only
 rw [s3]
 simp only
 rw [s4]
 simp only
 rw [s5]
def rdAll:List (List UInt8)→Option (List Nd)
 | []=>some []
 | l::r=>match rdN (cutC 32 l) with
  | none=>none
  | some x=>(rdAll r).map (x::·)
def trimB (s:List UInt8):List UInt8:=Lib.trimSuffix s [10]
def rdP (s:List UInt8):Option (Int × List Nd) :=
 if 16448<s.length then none else
 match cutC 10 (trimB s) with
 | []=>none
 | l::r=>if Lib.hasPrefix l regsW then match Lib.atoiAll (l.drop 5) with
  | .ok v=>(rdAll r).map fun ns=>(v,ns)
  | _=>none
  else none
structure TxOk (x:Nd):Prop where
 op:0≤x.op∧x.op≤12
 fits:Fits x
 d:hasD x.op=false→x.d=0
 a:hasA x.op=false→x.a=0
 b:hasB x.op=false→x.b=0
 t:hasT x.op=false→x.t=0
 e:hasE x.op=false→x.e=0
 sd:0≤x.d∧x.d<1000
 sa:x.op≠1→0≤x.a∧x.a<1000
 sb:0≤x.b∧x.b<1000
 st:0≤x.t∧x.t<1000
 se:0≤x.e∧x.e<1000
theorem wi_no {n l h:Int} (q:wi n l h=false):¬ (l≤n∧n≤h):=fun z=>by rw [wi_iff.2 z] at q;cases q
theorem tx_of {r:Int} {ns:List Nd} (hc:chk r ns=0) {x:Nd} (hx:x∈ns) (ha: -9223372036854775808≤x.a∧x.a≤9223372036854775807):TxOk x:=by
 obtain ⟨hl,hr,hf⟩:=chk_full hc
 have hF:=hf x hx
 have hop:=hF.op
 have hb:=full_bounds hF hl.1
 have hd:0≤x.d∧x.d<1000:=by
  by_cases q:1≤x.op∧x.op≤9
  ·have:=hF.d q.1 q.2;omega
  ·have:=hF.d0 q;omega
 have hB:0≤x.b∧x.b<1000:=by
  by_cases q:3≤x.op∧x.op≤8
  ·have:=hF.b q.1 q.2;omega
  ·have:=hF.b0 q;omega
 refine ⟨hop,⟨by omega,ha,by omega,by omega,by omega⟩,fun q=>hF.d0 (wi_no q),?_,fun q=>hF.b0 (wi_no q),?_,?_,hd,?_,hB,by omega,by omega⟩
 ·intro q
  unfold hasA at q
  rw [Bool.or_eq_false_iff] at q
  have h1:=wi_no q.1
  have h2:=wi_no q.2
  exact hF.a0 (by omega)
 ·intro q
  have:=wi_no q
  exact hF.t0 (by omega)
 ·intro q
  unfold hasE at q
  exact hF.e0 (by simpa using q)
 ·intro q
  by_cases h0:x.op=0∨x.op=9
  ·have:=hF.a0 h0;omega
  ·have:=hF.a (by omega) (by omega) (by omega);omega
theorem tx_rd {x:Nd} (h:TxOk x):rdN (wordsB x)=some x:=rdN_words h.op h.fits h.d h.a h.b h.t h.e
theorem nm_mem {op:Int} {b:UInt8} (h:b∈nmB op):97≤b.toNat:=by
 have key:∀ x∈nmL,∀ b∈x,97≤b.toNat:=by decide
 unfold nmB at h
 by_cases hl:op.toNat<nmL.length
 ·have:nmL.getD op.toNat []∈nmL:=by
   rw [List.getD_eq_getElem?_getD,List.getElem?_eq_getElem hl]
   exact List.getElem_mem hl
  exact key _ this b h
 ·rw [List.getD_eq_getElem?_getD,List.getElem?_eq_none (by omega)] at h
  cases h
theorem no_low {c:UInt8} (hc:c.toNat<45) (x:Nd):∀ y∈wordsB x,c∉y:=by
 intro y hy
 unfold wordsB at hy
 have low:∀ n:Int,c∉Lib.itoa n:=fun n=>itoa_no hc n
 have hto:c∉toW:=by
  intro q
  have:∀ b∈toW,97≤b.toNat:=by decide
  have:=this c q;omega
 have hel:c∉elW:=by
  intro q
  have:∀ b∈elW,97≤b.toNat:=by decide
  have:=this c q;omega
 have hnm:c∉nmB x.op:=fun q=>by have:=nm_mem q;omega
 simp only [List.mem_cons,List.mem_append] at hy
 rcases hy with rfl | q | q | q | q | q
 ·exact hnm
 ·split at q <;> simp at q;subst q;exact low _
 ·split at q <;> simp at q;subst q;exact low _
 ·split at q <;> simp at q;subst q;exact low _
 ·split at q <;> simp at q
  rcases q with rfl | rfl
  ·exact hto
  ·exact low _
 ·split at q <;> simp at q
  rcases q with rfl | rfl
  ·exact hel
  ·exact low _
theorem words_ne (x:Nd):wordsB x≠[]:=by simp [wordsB]
theorem cut_line (x:Nd):cutC 32 (lineW x)=wordsB x:=cut_join 32 _ (words_ne x) (no_low (by decide) x)
theorem join_no {c s:UInt8} (hs:c≠s):∀ (ws:List (List UInt8)),(∀ x∈ws,c∉x)→c∉Lib.join ws [s]
 | [],_=>by simp [Lib.join_nil]
 | [x],h=>by rw [Lib.join_one];exact h x (by simp)
 | x::y::r,h=>by
  rw [join_cons]
  intro q
  rcases List.mem_append.1 q with q | q
  ·exact h x (by simp) q
  ·rcases List.mem_cons.1 q with q | q
   ·exact hs q
   ·exact join_no hs (y::r) (fun z hz=>h z (by simp [hz])) q
theorem line_no (x:Nd):(10:UInt8)∉lineW x:=join_no (by decide) _ (no_low (by decide) x)
theorem regs_no (r:Int):(10:UInt8)∉regsL r:=by
 unfold regsL
 intro q
 rcases List.mem_append.1 q with q | q
 ·revert q;decide
 ·exact itoa_no (by decide) r q
theorem rdAll_lines:∀ (ns:List Nd),(∀ x∈ns,TxOk x)→rdAll (ns.map lineW)=some ns
 | [],_=>rfl
 | x::ns,h=>by
  rw [List.map_cons,rdAll,cut_line,tx_rd (h x (by simp)),rdAll_lines ns fun y hy=>h y (by simp [hy])];rfl
theorem show_join (l:List UInt8):∀ (ns:List Nd),l++10::(ns.flatMap fun x=>lineW x++[10])=Lib.join (l::ns.map lineW) [10]++[10]
 | []=>by simp [Lib.join_one]
 | x::ns=>by
  rw [List.map_cons,join_cons,List.append_assoc,List.cons_append,← show_join (lineW x) ns]
  simp
theorem trim_show (r:Int) (ns:List Nd):trimB (showB r ns)=Lib.join (regsL r::ns.map lineW) [10]:=by
 unfold trimB showB
 rw [show_join]
 unfold Lib.trimSuffix Lib.hasSuffix
 rw [if_pos (by simp)]
 simp
theorem cut_show (r:Int) (ns:List Nd):cutC 10 (trimB (showB r ns))=regsL r::ns.map lineW:=by
 rw [trim_show]
 refine cut_join 10 _ (by simp) fun x hx=>?_
 rcases List.mem_cons.1 hx with rfl | hx
 ·exact regs_no r
 ·obtain ⟨y,_,rfl⟩:=List.mem_map.1 hx
  exact line_no y
theorem dec_len3 {u:Nat} (h:u<1000):(Lib.decDigits u).length≤3:=by
 rw [Lib.decDigits_length]
 by_cases h1:u<10
 ·rw [Lib.nDigits_small h1];omega
 ·rw [Lib.nDigits_big h1]
  by_cases h2:u / 10<10
  ·rw [Lib.nDigits_small h2];omega
  ·rw [Lib.nDigits_big h2,Lib.nDigits_small (by omega)]
   omega
theorem itoa_len3 {n:Int} (h:0≤n∧n<1000):(Lib.itoa n).length≤3:=by
 unfold Lib.itoa
 rw [if_neg (by omega)]
 exact dec_len3 (by omega)
theorem dec_len19:∀ (k u:Nat),u<10 ^ (k+1)→(Lib.decDigits u).length≤k+1
 | 0,u,h=>by rw [Lib.decDigits_length,Lib.nDigits_small (by simpa using h)];omega
 | k+1,u,h=>by
  rw [Lib.decDigits_length]
  by_cases h1:u<10
  ·rw [Lib.nDigits_small h1];omega
  ·rw [Lib.nDigits_big h1,← Lib.decDigits_length]
   have:=dec_len19 k (u / 10) (by rw [Nat.pow_succ] at h;omega)
   omega
theorem itoa_len20 {n:Int} (h: -9223372036854775808≤n∧n≤9223372036854775807):(Lib.itoa n).length≤20:=by
 unfold Lib.itoa
 split
 ·have:=dec_len19 18 n.natAbs (by omega)
  simp only [List.length_cons];omega
 ·have:=dec_len19 18 n.toNat (by omega)
  omega
theorem nm_len (op:Int):(nmB op).length≤4:=by
 have key:∀ x∈nmL,x.length≤4:=by decide
 unfold nmB
 by_cases hl:op.toNat<nmL.length
 ·have:nmL.getD op.toNat []∈nmL:=by
   rw [List.getD_eq_getElem?_getD,List.getElem?_eq_getElem hl]
   exact List.getElem_mem hl
  exact key _ this
 ·rw [List.getD_eq_getElem?_getD,List.getElem?_eq_none (by omega)]
  simp
theorem join_len (c:UInt8):∀ (ws:List (List UInt8)),(Lib.join ws [c]).length≤(ws.map fun x=>x.length+1).sum
 | []=>by simp [Lib.join_nil]
 | [x]=>by simp [Lib.join_one]
 | x::y::r=>by
  have:=join_len c (y::r)
  rw [join_cons]
  simp only [List.length_append,List.length_cons,List.map_cons,List.sum_cons] at this ⊢
  omega
theorem line_len {x:Nd} (h:TxOk x):(lineW x).length≤63:=by
 have h0:=join_len 32 (wordsB x)
 have hn:=nm_len x.op
 have hd:=itoa_len3 h.sd
 have hb:=itoa_len3 h.sb
 have ht:=itoa_len3 h.st
 have he:=itoa_len3 h.se
 have ha20:=itoa_len20 h.fits.a
 unfold lineW
 refine Nat.le_trans h0 ?_
 unfold wordsB
 simp only [List.map_cons,List.map_append,List.sum_cons,List.sum_append]
 have e1:((if hasD x.op=true then [Lib.itoa x.d] else []).map fun x=>x.length+1).sum≤4:=by split <;> simp;omega
 have e3:((if hasB x.op=true then [Lib.itoa x.b] else []).map fun x=>x.length+1).sum≤(if x.op=1 then 0 else 4):=by
  split
  ·rename_i q
   have:=wi_iff.1 q
   rw [if_neg (by omega)]
   simp;omega
  ·simp
 have e2:((if hasA x.op=true then [Lib.itoa x.a] else []).map fun x=>x.length+1).sum≤(if x.op=1 then 21 else 4):=by
  split
  ·split
   ·simp;omega
   ·rename_i q
    have:=itoa_len3 (h.sa q)
    simp;omega
  ·simp
 have e4:((if hasT x.op=true then [toW,Lib.itoa x.t] else []).map fun x=>x.length+1).sum≤7:=by split <;> simp [toW];omega
 have e5:((if hasE x.op=true then [elW,Lib.itoa x.e] else []).map fun x=>x.length+1).sum≤9:=by split <;> simp [elW];omega
 have k2:(if x.op=1 then 21 else 4)≤21:=by split <;> omega
 have k3:(if x.op=1 then 0 else 4)≤4:=by split <;> omega
 generalize ((if hasD x.op=true then [Lib.itoa x.d] else []).map fun x=>x.length+1).sum=s1 at *
 generalize ((if hasA x.op=true then [Lib.itoa x.a] else []).map fun x=>x.length+1).sum=s2 at *
 generalize ((if hasB x.op=true then [Lib.itoa x.b] else []).map fun x=>x.length+1).sum=s3 at *
 generalize ((if hasT x.op=true then [toW,Lib.itoa x.t] else []).map fun x=>x.length+1).sum=s4 at *
 generalize ((if hasE x.op=true then [elW,Lib.itoa x.e] else []).map fun x=>x.length+1).sum=s5 at *
 generalize (if x.op=1 then 21 else 4)=k21 at *
 generalize (if x.op=1 then 0 else 4)=k04 at *
 omega
theorem show_len {r:Int} (hr:0≤r∧r<1000):∀ (ns:List Nd),(∀ x∈ns,TxOk x)→(showB r ns).length≤64+64*ns.length:=by
 intro ns h
 have key:∀ (l:List Nd),(∀ x∈l,TxOk x)→(l.flatMap fun x=>lineW x++[10]).length≤64*l.length:=by
  intro l
  induction l with
  | nil=>intro _;simp
  | cons x l ih =>
   intro hl
   have h1:=ih fun y hy=>hl y (by simp [hy])
   have h2:=line_len (hl x (by simp))
   simp only [List.flatMap_cons,List.length_append,List.length_cons,List.length_nil]
   omega
 have h1:=key ns h
 have h2:=itoa_len3 hr
 unfold showB regsL
 simp only [List.length_append,List.length_cons,regsW,List.length_nil]
 omega
theorem rdP_show {r:Int} {ns:List Nd} (hc:chk r ns=0) (ha:∀ x∈ns,-9223372036854775808≤x.a∧x.a≤9223372036854775807):rdP (showB r ns)=some (r,ns):=by
 obtain ⟨hl,hr,_⟩:=chk_full hc
 have ht:∀ x∈ns,TxOk x:=fun x hx=>tx_of hc hx (ha x hx)
 have hlen:=show_len (r:=r) (by omega) ns ht
 unfold rdP
 rw [if_neg (by omega),cut_show]
 simp only
 have hp:Lib.hasPrefix (regsL r) regsW=true:=by unfold Lib.hasPrefix regsL;simp
 have hd:(regsL r).drop 5=Lib.itoa r:=by unfold regsL regsW;simp
 rw [hp,hd,atoi_itoa r (by omega) (by omega),rdAll_lines ns ht]
 rfl
def readB (s:List UInt8):Option (Int × List Nd) :=
 match rdP s with
 | none=>none
 | some (r,ns)=>if chk r ns=0∧showB r ns=s then some (r,ns) else none
end Go.Proofs.YtkkolclmfcmfbaaGreatDoor
namespace Go.Proofs.YtkkolclmfcmfbaaGreatDoor
open Go.RowKit Go.Maps Go.ChangeMaps
open Go.WideMaps (KeyLaw string_law keyOf_string_mk)
theorem wpList_insert_own {H:Type} {P:Program} (w:World) {ops:Array Oper} {rest:List Oper} {o:Oper} {a:Act} {Q:Exit→Act→World→Prop}
 (hg:o.guard=none) (m x v:Operand) (t:TypeId) (hop:o.op=Op.insert t m x v)
 (k e:TypeId) (K:Keyed P k) (ht:P.underlying t=some (.map k e)) (R:Value→Option (DataW H × List MemPlace)) (b n:Nat) (D:DataW H)
 (hm:a.eval m=.map (some b)) (hown:w.ownsMap P k R b n D) (hn:n<maxLen) (key val:Value) (kl:Lit) (hx:a.eval x=key) (hv:a.eval v=val) (hkey:keyOf P k key=some kl)
 (d:DataW H) (ps:List MemPlace) (hval:R val=some (d,ps))
 (hK:∀ w', w'.ownsMap P k R b (n+1) (D.put kl d)→w.grownBy w' (some b)→wpList P ops Q rest (a.put o.dst undef) w') :
 wpList P ops Q (o::rest) a w:=by
 refine wpList_plain hg fun K' hK' =>?_
 obtain ⟨w', hrun,r1,r2⟩:=hown.update K ht hn hkey hval
 unfold Oper.wp
 simp [execOp,hop,hm,hx,hv,hrun,Result.andThen]
 exact hK' _ _ (hK w' r1 r2)
theorem slaw:KeyLaw Tryz.prog 9:=string_law Tryz.underlying9
def opD:DataW Unit:=nmL.zipIdx.foldl (fun D p=>D.put (.string p.1) (.lit (.int .i64 (p.2:Nat)))) (.map [])
theorem opD_fold (x:List UInt8):∀ (l:List (List UInt8 × Nat)) (D:DataW Unit),IsMap D→(l.map (·.1)).Nodup →
 ∀ z,(l.foldl (fun D p=>D.put (.string p.1) (.lit (.int .i64 (p.2:Nat)))) D).atKey (.string x) z=match l.find? (fun p=>p.1==x) with
  | some p=>.lit (.int .i64 (p.2:Nat))
  | none=>D.atKey (.string x) z
 | [],D,hD,hn,z=>rfl
 | p::l,D,hD,hn,z=>by
  rw [List.foldl_cons,opD_fold x l _ (hD.put _ _) (List.nodup_cons.1 hn).2 z,List.find?_cons]
  by_cases e:p.1=x
  ·have hno:l.find? (fun q=>q.1==x)=none:=by
    rw [List.find?_eq_none]
    intro q hq he
    have:q.1=x:=by simpa using he
    exact (List.nodup_cons.1 hn).1 (by show p.1∈_;rw [e,← this];exact List.mem_map_of_mem hq)
   rw [hno]
   simp only [e,beq_self_eq_true]
   exact atKey_put_same hD (by trivial) _ _
  ·have:(p.1==x)=false:=by simpa using e
   rw [this]
   simp only
   split
   ·rfl
   ·exact atKey_put_other (by intro h;exact e (Lit.string.inj h).symm) _ _
theorem opD_at (x:List UInt8) (z:DataW Unit):opD.atKey (.string x) z=match opOf x with
 | some o=>.lit (.int .i64 (o:Nat))
 | none=>z:=by
 unfold opD
 rw [opD_fold x _ _ isMap_empty (by decide) z]
 unfold opOf
 have key:∀ (l:List (List UInt8)) (k:Nat),((l.zipIdx k).find? (fun p=>p.1==x)).map (·.2)=(l.findIdx? (·==x)).map (·+k):=by
  intro l
  induction l with
  | nil=>intro k;rfl
  | cons y l ih =>
   intro k
   rw [List.zipIdx_cons,List.find?_cons,List.findIdx?_cons]
   by_cases e:(y==x)=true
   ·simp [e]
   ·have e' :(y==x)=false:=by simpa using e
    simp only [e', if_false,Bool.false_eq_true]
    rw [ih]
    cases l.findIdx? (·==x) <;> simp <;> omega
 have k0:=key nmL 0
 cases e1:nmL.findIdx? (·==x) with
 | none =>
  rw [e1] at k0
  cases e2:nmL.zipIdx.find? (fun p=>p.1==x) with
  | none=>simp only;rfl
  | some p=>rw [e2] at k0;simp at k0
 | some o =>
  rw [e1] at k0
  cases e2:nmL.zipIdx.find? (fun p=>p.1==x) with
  | none=>rw [e2] at k0;simp at k0
  | some p=>rw [e2] at k0;simp at k0;simp only;rw [k0]
theorem opD_has (x:List UInt8):Maps.has opD (.string x)=(opOf x).isSome:=by
 cases e:opOf x with
 | none=>exact has_false_of_atKey fun z=>by rw [opD_at,e]
 | some o=>exact has_true_of_atKey (y:=.lit (.int .i64 (o:Nat))) fun z=>by rw [opD_at,e]
set_option maxRecDepth 100000 in
theorem operations_any (w:World):Calls Tryz.prog 60 #[] w fun e w' =>e=.returned (.map (some w.heap.size))∧w'.ownsMap Tryz.prog 9 (plainElem Tryz.prog 3) w.heap.size 13 opD∧Below w.heap.size w w' :=by
 have KK:=Keyed.of_law slaw
 have hown:=World.ownsMap_made (H:=Unit) w Tryz.prog 9 (plainElem Tryz.prog 3)
 have hB:Below w.heap.size w (w.alloc (.map #[] 0)):=(Below.refl _ _).alloc (Nat.le_refl _) _
 have hmk:∀ W:World,Sem.run Tryz.prog (Instr.makeMap 119 none) W=.ok (.map (some W.heap.size)) (W.alloc (.map #[] 0)):=fun W=>rfl
 have hml:13<maxLen:=by decide
 go_enter Tryz.func60,Tryz.ntmps60
 go_wp2_with (refine wpList_insert_own _ rfl _ _ _ 119 rfl 9 3 KK Tryz.underlying119 _ w.heap.size _ _ rfl hown (by omega) _ _ _ rfl rfl (keyOf_string_mk Tryz.underlying9 (by decide)) _ [] (plainElem_int Tryz.underlying3 (by decide)) ?_;have hlt:=hown.lt;clear hown;intro w1 hown hg1;replace hB:=hB.grown hg1 (by omega) (fun k hk=>by have:=Option.some.inj hk;omega);clear hg1 hlt)
 go_ret
 refine ⟨rfl,hown,hB⟩
end Go.Proofs.YtkkolclmfcmfbaaGreatDoor
namespace Go.Proofs.YtkkolclmfcmfbaaGreatDoor
open Go.RowKit
theorem value_any (op a b:Int) (w:World) :
 Calls Tryz.prog 71 #[.int .i64 op,.int .i64 a,.int .i64 b] w fun e w' =>e=.returned (.int .i64 (rk op a b))∧w' =w:=by
 go_enter Tryz.func71,Tryz.ntmps71
 go_wp2
 all_goals go_ret
 all_goals refine ⟨ret_int ?_,rfl⟩
 all_goals simp_all [rk]
theorem kindsKnown_any (r:Int) (b off cap:Nat) (ns:List Nd) (w:World) (hN:NodesAt w b off ns) (hl:ns.length≤256) :
 Calls Tryz.prog 27 #[.agg #[.int .i64 r,.slice (some ⟨b,off,none⟩) ns.length cap]] w fun e w' =>e=.returned (.bool (ns.all fun x=>kn x.op))∧Below w.heap.size w w' :=by
 go_enter Tryz.func27,Tryz.ntmps27
 go_wp2
 go_loopw [10] (fun i wr=>∃ k:Nat,k≤ns.length∧i=.int .i64 k∧Hid ((ns.take k).all (fun x=>kn x.op)=true)∧Below w.heap.size w wr) (fun i _=>ns.length-(intOf i).toNat)
 case atStart=>exact ⟨0,Nat.zero_le _,rfl,rfl,(Below.refl _ _).alloc (Nat.le_refl _) _⟩
 case round =>
  obtain ⟨k,hk,rfl,hA,hb⟩:=hrel
  have hN' :=hN.below hb hN.lt
  have hlt' :=hN'.lt
  have hsz:=hb.size
  by_cases hlt:k<ns.length
  ·obtain ⟨x,hx⟩:=get_lt hlt
   have c0:=hN'.c0 k x hx
   have c1:=hN'.c1 k x hx
   have c2:=hN'.c2 k x hx
   have c3:=hN'.c3 k x hx
   have c4:=hN'.c4 k x hx
   have c5:=hN'.c5 k x hx
   have HX:Hid (ns[k]?=some x):=hx
   clear hx hN'
   go_wp2_with fail
   refine (of_any _ _).mono ?_
   rintro e w1 ⟨rfl,hb1⟩
   have hs1:=hb1.size
   simp only [World.size_alloc] at hs1 hb1
   have hB:Below w.heap.size w w1:=(hb.alloc hsz _).trans (hb1.mono (by omega))
   clear hb1 c0 c1 c2 c3 c4 c5
   cases hkn:kn x.op
   ·go_wp2
    go_ret
    exact ⟨ret_bool (all_false_at (fun x:Nd=>kn x.op) HX.out hkn).symm,hB.alloc (by omega) _⟩
   ·go_wp2
    go_roundw
    case rel=>exact ⟨k+1,by omega,by go_num,(by show _=_;rw [all_take_succ _ HX.out,hA.out,hkn];rfl),hB.alloc (by omega) _⟩
    case measure=>simp [intOf];omega
  ·go_wp2
   go_ret
   refine ⟨ret_bool ?_,hb⟩
   rw [← hA.out,take_all_len (by omega)]
theorem idx5_0 (a0 a1 a2 a3 a4:Value) (w:World):(Instr.index 94 (.agg #[a0,a1,a2,a3,a4]) (.int .i64 0)).run Tryz.prog w=.ok a0 w:=by kernel_rfl
theorem idx5_1 (a0 a1 a2 a3 a4:Value) (w:World):(Instr.index 94 (.agg #[a0,a1,a2,a3,a4]) (.int .i64 1)).run Tryz.prog w=.ok a1 w:=by kernel_rfl
theorem idx5_2 (a0 a1 a2 a3 a4:Value) (w:World):(Instr.index 94 (.agg #[a0,a1,a2,a3,a4]) (.int .i64 2)).run Tryz.prog w=.ok a2 w:=by kernel_rfl
theorem idx5_3 (a0 a1 a2 a3 a4:Value) (w:World):(Instr.index 94 (.agg #[a0,a1,a2,a3,a4]) (.int .i64 3)).run Tryz.prog w=.ok a3 w:=by kernel_rfl
theorem idx5_4 (a0 a1 a2 a3 a4:Value) (w:World):(Instr.index 94 (.agg #[a0,a1,a2,a3,a4]) (.int .i64 4)).run Tryz.prog w=.ok a4 w:=by kernel_rfl
set_option maxRecDepth 100000 in
theorem eachField_any (R:Int→Int→Bool) (g:Nat) (cb:Array Value) (r:Int) (b off cap:Nat) (ns:List Nd) (w:World) (hN:NodesAt w b off ns) (hl:ns.length≤256)
 (eg:∀ args w,(callFunc g args).run Tryz.prog w=.ok (.enter g args) w)
 (hg:∀ (k v:Int) (W:World),Below w.heap.size w W→Calls Tryz.prog g (#[.int .i64 k,.int .i64 v]++cb) W fun e w' =>e=.returned (.bool (R k v))∧Below W.heap.size W w') :
 Calls Tryz.prog 29 #[.agg #[.int .i64 r,.slice (some ⟨b,off,none⟩) ns.length cap],.func (.func g) #[] cb] w fun e w' =>e=.returned (.bool (ns.all (fieldsOk R)))∧Below w.heap.size w w' :=by
 go_enter Tryz.func29,Tryz.ntmps29
 go_wp2
 go_loopw [14] (fun i wr=>∃ k:Nat,k≤ns.length∧i=.int .i64 k∧Hid ((ns.take k).all (fieldsOk R)=true)∧Below w.heap.size w wr) (fun i _=>ns.length-(intOf i).toNat)
 case atStart=>exact ⟨0,Nat.zero_le _,rfl,rfl,(Below.refl _ _).alloc (Nat.le_refl _) _⟩
 case round =>
  obtain ⟨k,hk,rfl,hA,hb⟩:=hrel
  have hN' :=hN.below hb hN.lt
  have hlt' :=hN'.lt
  have hsz:=hb.size
  by_cases hlt:k<ns.length
  ·obtain ⟨x,hx⟩:=get_lt hlt
   have c0:=hN'.c0 k x hx
   have c1:=hN'.c1 k x hx
   have c2:=hN'.c2 k x hx
   have c3:=hN'.c3 k x hx
   have c4:=hN'.c4 k x hx
   have c5:=hN'.c5 k x hx
   have HX:Hid (ns[k]?=some x):=hx
   clear hx hN'
   go_wp2_with fail
   refine (of_any _ _).mono ?_
   rintro e w1 ⟨rfl,hb1⟩
   have hs1:=hb1.size
   simp only [World.size_alloc] at hs1 hb1
   have hB:Below w.heap.size w w1:=(hb.alloc hsz _).trans (hb1.mono (by omega))
   have d:∀ o,o<6→w1.cell? ⟨wr.heap.size,o,none⟩=#[Value.int .i64 x.op,.int .i64 x.d,.int .i64 x.a,.int .i64 x.b,.int .i64 x.t,.int .i64 x.e][o]? :=by
    intro o _;rw [hb1.cell (p:=⟨wr.heap.size,o,none⟩) (by simp)];simp
   have d0:=d 0 (by omega)
   have d1:=d 1 (by omega)
   have d2:=d 2 (by omega)
   have d3:=d 3 (by omega)
   have d4:=d 4 (by omega)
   have d5:=d 5 (by omega)
   simp at d0 d1 d2 d3 d4 d5
   clear hb1 c0 c1 c2 c3 c4 c5 d
   have hw1:wr.heap.size<w1.heap.size:=by omega
   go_wp2_with fail
   refine (values_any _ _ _ _ _ _ _).mono ?_
   rintro e w2 ⟨rfl,hb2⟩
   have hs2:=hb2.size
   simp only [World.size_alloc] at hs2 hb2
   have hB2:Below w.heap.size w w2:=(hB.alloc (by omega) _).trans (hb2.mono (by omega))
   have kc:∀ o,w2.cell? ⟨w1.heap.size,o,none⟩=#[Value.int .i64 (k0 x.op),.int .i64 (k1 x.op),.int .i64 (k2 x.op),.int .i64 (k3 x.op),.int .i64 (k4 x.op)][o]? :=by
    intro o;rw [hb2.cell (p:=⟨w1.heap.size,o,none⟩) (by simp)];simp
   clear hb2 d0 d1 d2 d3 d4 d5
   have HG:=hide hg
   clear hg
   go_wp2
   go_loopw [26] (fun j wv=>∃ m:Nat,m≤5∧j=.int .i64 m∧Hid (((kvs x).take m).all (fun p=>R p.1 p.2)=true)∧Below (w1.heap.size+1) w2 wv) (fun j _=>5-(intOf j).toNat)
   case atStart=>exact ⟨0,Nat.zero_le _,rfl,rfl,Below.refl _ _⟩
   case round =>
    obtain ⟨m,hm,rfl,hM,hv⟩:=hrel
    have hvs:=hv.size
    have hBv:Below w.heap.size w wr:=hB2.trans (hv.mono (by omega))
    have kc' :∀ o,wr.cell? ⟨w1.heap.size,o,none⟩=#[Value.int .i64 (k0 x.op),.int .i64 (k1 x.op),.int .i64 (k2 x.op),.int .i64 (k3 x.op),.int .i64 (k4 x.op)][o]? :=by
     intro o;rw [hv.cell (p:=⟨w1.heap.size,o,none⟩) (by simp)];exact kc o
    have kc0:=kc' 0
    have kc1:=kc' 1
    have kc2:=kc' 2
    have kc3:=kc' 3
    have kc4:=kc' 4
    simp at kc0 kc1 kc2 kc3 kc4
    clear kc' kc
    match m,hm with
    | 0,_ =>
     have i0:=idx5_0
     go_wp2_with fail
     refine (HG.out _ _ _ hBv).mono ?_
     rintro e w3 ⟨rfl,hb3⟩
     have hs3:=hb3.size
     have hB3:Below w.heap.size w w3:=hBv.trans (hb3.mono (by omega))
     cases hR:R (k0 x.op) x.d
     ·go_wp2
      go_ret
      exact ⟨ret_bool (all_false_at (fieldsOk R) HX.out (by simp [fieldsOk,kvs,hR])).symm,hB3⟩
     ·go_wp2
      go_roundw
      case rel=>exact ⟨1,by omega,by go_num,(by show _=_;simp [kvs,hR]),hv.trans (hb3.mono (by omega))⟩
      case measure=>simp [intOf]
    | 1,_ =>
     have i1:=idx5_1
     go_wp2_with fail
     refine (HG.out _ _ _ hBv).mono ?_
     rintro e w3 ⟨rfl,hb3⟩
     have hs3:=hb3.size
     have hB3:Below w.heap.size w w3:=hBv.trans (hb3.mono (by omega))
     cases hR:R (k1 x.op) x.a
     ·go_wp2
      go_ret
      exact ⟨ret_bool (all_false_at (fieldsOk R) HX.out (by simp [fieldsOk,kvs,hR])).symm,hB3⟩
     ·go_wp2
      go_roundw
      case rel=>exact ⟨2,by omega,by go_num,(by have:=hM.out;show _=_;simp [kvs] at this ⊢;simp [this,hR]),hv.trans (hb3.mono (by omega))⟩
      case measure=>simp [intOf]
    | 2,_ =>
     have i2:=idx5_2
     go_wp2_with fail
     refine (HG.out _ _ _ hBv).mono ?_
     rintro e w3 ⟨rfl,hb3⟩
     have hs3:=hb3.size
     have hB3:Below w.heap.size w w3:=hBv.trans (hb3.mono (by omega))
     cases hR:R (k2 x.op) x.b
     ·go_wp2
      go_ret
      exact ⟨ret_bool (all_false_at (fieldsOk R) HX.out (by simp [fieldsOk,kvs,hR])).symm,hB3⟩
     ·go_wp2
      go_roundw
      case rel=>exact ⟨3,by omega,by go_num,(by have:=hM.out;show _=_;simp [kvs] at this ⊢;simp [this,hR]),hv.trans (hb3.mono (by omega))⟩
      case measure=>simp [intOf]
    | 3,_ =>
     have i3:=idx5_3
     go_wp2_with fail
     refine (HG.out _ _ _ hBv).mono ?_
     rintro e w3 ⟨rfl,hb3⟩
     have hs3:=hb3.size
     have hB3:Below w.heap.size w w3:=hBv.trans (hb3.mono (by omega))
     cases hR:R (k3 x.op) x.t
     ·go_wp2
      go_ret
      exact ⟨ret_bool (all_false_at (fieldsOk R) HX.out (by simp [fieldsOk,kvs,hR])).symm,hB3⟩
     ·go_wp2
      go_roundw
      case rel=>exact ⟨4,by omega,by go_num,(by have:=hM.out;show _=_;simp [kvs] at this ⊢;simp [this,hR]),hv.trans (hb3.mono (by omega))⟩
      case measure=>simp [intOf]
    | 4,_ =>
     have i4:=idx5_4
     go_wp2_with fail
     refine (HG.out _ _ _ hBv).mono ?_
     rintro e w3 ⟨rfl,hb3⟩
     have hs3:=hb3.size
     have hB3:Below w.heap.size w w3:=hBv.trans (hb3.mono (by omega))
     cases hR:R (k4 x.op) x.e
     ·go_wp2
      go_ret
      exact ⟨ret_bool (all_false_at (fieldsOk R) HX.out (by simp [fieldsOk,kvs,hR])).symm,hB3⟩
     ·go_wp2
      go_roundw
      case rel=>exact ⟨5,by omega,by go_num,(by have:=hM.out;show _=_;simp [kvs] at this ⊢;simp [this,hR]),hv.trans (hb3.mono (by omega))⟩
      case measure=>simp [intOf]
    | 5,_ =>
     go_wp2
     go_roundw
     case rel=>exact ⟨k+1,by omega,by go_num,(by have h5:=hM.out;show _=_;rw [all_take_succ _ HX.out,hA.out];simpa [fieldsOk,kvs] using h5),hBv⟩
     case measure=>simp [intOf];omega
    | n+6,hm=>omega
  ·go_wp2
   go_ret
   refine ⟨ret_bool ?_,hb⟩
   rw [← hA.out,take_all_len (by omega)]
def SlN (w:World) (a:Option Addr) (ns:List Nd):Prop:=ns=[]∨∃ b off,a=some ⟨b,off,none⟩∧NodesAt w b off ns
theorem SlN.below {w w' :World} {a:Option Addr} {ns:List Nd} (h:SlN w a ns) (hb:Below w.heap.size w w'):SlN w' a ns:=by
 rcases h with h | ⟨b,off,rfl,h⟩
 ·exact Or.inl h
 ·exact Or.inr ⟨b,off,rfl,h.below hb h.lt⟩
theorem SlN.some {w:World} {a:Option Addr} {ns:List Nd} (h:SlN w a ns) (h1:1≤ns.length):∃ b off,a=.some ⟨b,off,none⟩∧NodesAt w b off ns:=by
 rcases h with rfl | h
 ·simp at h1
 ·exact h
theorem check_many (r:Int) (a:Option Addr) (cap:Nat) (ns:List Nd) (w:World) (h:(wi ns.length 1 256&&wi r 1 64)=false) :
 Calls Tryz.prog 11 #[.agg #[.int .i64 r,.slice a ns.length cap]] w fun e w' =>e=.returned (.int .i64 2)∧Below w.heap.size w w' :=by
 cases h1:wi ns.length 1 256
 ·go_enter Tryz.func11,Tryz.ntmps11
  go_wp2_with (go_at_call 26;refine (pwithin_any _ _ _ _).mono ?_;rintro e w' ⟨rfl,rfl⟩)
  go_ret
  exact ⟨rfl,(Below.refl _ _).alloc (Nat.le_refl _) _⟩
 ·have h2:wi r 1 64=false:=by simpa [h1] using h
  clear h
  go_enter Tryz.func11,Tryz.ntmps11
  go_wp2_with (go_at_call 26;refine (pwithin_any _ _ _ _).mono ?_;rintro e w' ⟨rfl,rfl⟩)
  go_ret
  exact ⟨rfl,(Below.refl _ _).alloc (Nat.le_refl _) _⟩
set_option maxRecDepth 100000 in
theorem check_rest (r:Int) (b off cap:Nat) (ns:List Nd) (w:World) (hN:NodesAt w b off ns) (h1:wi ns.length 1 256=true) (h2:wi r 1 64=true) :
 Calls Tryz.prog 11 #[.agg #[.int .i64 r,.slice (some ⟨b,off,none⟩) ns.length cap]] w fun e w' =>e=.returned (.int .i64 (chk r ns))∧Below w.heap.size w w' :=by
 have b1:=wi_iff.1 h1
 have b2:=wi_iff.1 h2
 have hblt:=hN.lt
 have hl:ns.length≤256:=by omega
 have eg1:∀ args w,(callFunc 28 args).run Tryz.prog w=.ok (.enter 28 args) w:=enters_of Tryz.func28 (by kernel_rfl) rfl
 have eg2:∀ args w,(callFunc 30 args).run Tryz.prog w=.ok (.enter 30 args) w:=enters_of Tryz.func30 (by kernel_rfl) rfl
 have HC:Hid (chk r ns=if ns.all (fun x=>kn x.op) then if ns.all (fieldsOk (inB r ns.length)) then if ns.all (fieldsOk noF) then 0 else 1 else 3 else 4):=by
  show _=_;simp [chk,h1,h2]
 generalize chk r ns=C at HC ⊢
 go_enter Tryz.func11,Tryz.ntmps11
 go_wp2_with (go_at_call 26;refine (pwithin_any _ _ _ _).mono ?_;rintro e w' ⟨rfl,rfl⟩)
 have hNa:NodesAt (w.alloc (.cells #[.int .i64 r,.slice (some ⟨b,off,none⟩) ns.length cap] 24)) b off ns:=hN.below ((Below.refl w.heap.size w).alloc (Nat.le_refl _) _) hN.lt
 refine (kindsKnown_any r b off cap ns _ hNa hl).mono ?_
 rintro e w1 ⟨rfl,hb1⟩
 have hs1:=hb1.size
 simp only [World.size_alloc] at hs1 hb1
 have hB1:Below w.heap.size w w1:=((Below.refl _ _).alloc (Nat.le_refl _) _).trans (hb1.mono (by omega))
 cases hk:ns.all (fun x=>kn x.op)
 ·go_wp2
  go_ret
  refine ⟨ret_int ?_,hB1⟩
  rw [HC.out,hk];rfl
 have q0:w1.cell? ⟨w.heap.size,0,none⟩=some (.int .i64 r):=by rw [hb1.cell (p:=⟨w.heap.size,0,none⟩) (by simp)];simp
 have q1:w1.cell? ⟨w.heap.size,1,none⟩=some (.slice (some ⟨b,off,none⟩) ns.length cap):=by rw [hb1.cell (p:=⟨w.heap.size,1,none⟩) (by simp)];simp
 have hs1' :w.heap.size<w1.heap.size:=by omega
 have hN1:NodesAt w1 b off ns:=hN.below hB1 hN.lt
 go_wp2_with fail
 refine (eachField_any (inB r ns.length) 28 #[.pointer (some ⟨w.heap.size,0,none⟩)] r b off cap ns w1 hN1 hl eg1 ?_).mono ?_
 ·intro k v W hW
  refine (inb_any k v r w.heap.size (some ⟨b,off,none⟩) ns.length cap W b2 hl (by rw [hW.cell (p:=⟨w.heap.size,0,none⟩) hs1'];exact q0) (by rw [hW.cell (p:=⟨w.heap.size,1,none⟩) hs1'];exact q1)).mono ?_
  rintro e w' ⟨rfl,rfl⟩
  exact ⟨rfl,Below.refl _ _⟩
 rintro e w2 ⟨rfl,hb2⟩
 have hs2:=hb2.size
 have hB2:Below w.heap.size w w2:=hB1.trans (hb2.mono (by omega))
 cases hi:ns.all (fieldsOk (inB r ns.length))
 ·go_wp2
  go_ret
  refine ⟨ret_int ?_,hB2⟩
  rw [HC.out,hk,hi];rfl
 have p0:w2.cell? ⟨w.heap.size,0,none⟩=some (.int .i64 r):=by rw [hb2.cell (p:=⟨w.heap.size,0,none⟩) hs1'];exact q0
 have p1:w2.cell? ⟨w.heap.size,1,none⟩=some (.slice (some ⟨b,off,none⟩) ns.length cap):=by rw [hb2.cell (p:=⟨w.heap.size,1,none⟩) hs1'];exact q1
 have hN2:NodesAt w2 b off ns:=hN.below hB2 hN.lt
 have hs2' :w.heap.size<w2.heap.size:=by omega
 clear q0 q1
 go_wp2_with fail
 refine (eachField_any noF 30 #[] r b off cap ns w2 hN2 hl eg2 ?_).mono ?_
 ·intro k v W hW
  refine (nof_any k v W).mono ?_
  rintro e w' ⟨rfl,rfl⟩
  exact ⟨rfl,Below.refl _ _⟩
 rintro e w3 ⟨rfl,hb3⟩
 have hB3:Below w.heap.size w w3:=hB2.trans (hb3.mono (by omega))
 cases hf:ns.all (fieldsOk noF)
 ·go_wp2
  go_ret
  refine ⟨ret_int ?_,hB3⟩
  rw [HC.out,hk,hi,hf];rfl
 ·go_wp2
  go_ret
  refine ⟨ret_int ?_,hB3⟩
  rw [HC.out,hk,hi,hf];rfl
theorem check_any (r:Int) (a:Option Addr) (cap:Nat) (ns:List Nd) (w:World) (hN:SlN w a ns) :
 Calls Tryz.prog 11 #[.agg #[.int .i64 r,.slice a ns.length cap]] w fun e w' =>e=.returned (.int .i64 (chk r ns))∧Below w.heap.size w w' :=by
 cases h:(wi ns.length 1 256&&wi r 1 64)
 ·have e:chk r ns=2:=by simp [chk,h]
  rw [e];exact check_many r a cap ns w h
 ·rw [Bool.and_eq_true] at h
  obtain ⟨b,off,rfl,hN'⟩:=hN.some (by have:=(wi_iff.1 h.1).1;omega)
  exact check_rest r b off cap ns w hN' h.1 h.2
def IntsAt (w:World) (a:Option Addr) (zs:List Int):Prop :=
 zs=[]∨∃ b off,a=some ⟨b,off,none⟩∧b<w.heap.size∧∀ (j:Nat) (z:Int),zs[j]?=some z→w.cell? ⟨b,off+j,none⟩=some (.int .i64 z)
theorem IntsAt.below {w w' :World} {a:Option Addr} {zs:List Int} (h:IntsAt w a zs) (hb:Below w.heap.size w w'):IntsAt w' a zs:=by
 rcases h with h | ⟨b,off,rfl,hlt,h⟩
 ·exact Or.inl h
 ·exact Or.inr ⟨b,off,rfl,Nat.lt_of_lt_of_le hlt hb.size,fun j z hz=>by rw [hb.cell (p:=⟨b,_,none⟩) hlt];exact h j z hz⟩
theorem IntsAt.at {w:World} {a:Option Addr} {zs:List Int} (h:IntsAt w a zs) {k:Nat} (hk:k<zs.length):∃ b off,a=some ⟨b,off,none⟩∧b<w.heap.size∧∀ (j:Nat) (z:Int),zs[j]?=some z→w.cell? ⟨b,off+j,none⟩=some (.int .i64 z):=by
 rcases h with rfl | h
 ·simp at hk
 ·exact h
theorem list_ne_len {α:Type} [BEq α] [LawfulBEq α] {xs ys:List α} (h:xs.length≠ys.length):(xs==ys)=false:=by
 rw [beq_eq_false_iff_ne];intro e;exact h (by rw [e])
theorem list_ne_at {α:Type} [BEq α] [LawfulBEq α] {xs ys:List α} {k:Nat} {x y:α} (hx:xs[k]?=some x) (hy:ys[k]?=some y) (h:x≠y):(xs==ys)=false:=by
 rw [beq_eq_false_iff_ne];intro e;subst e;rw [hx] at hy;exact h (Option.some.inj hy)
theorem take_eq_succ {α:Type} {xs ys:List α} {k:Nat} {x y:α} (hx:xs[k]?=some x) (hy:ys[k]?=some y) (h:xs.take k=ys.take k) (e:x=y):xs.take (k+1)=ys.take (k+1):=by
 rw [take_succ_get hx,take_succ_get hy,h,e]
theorem sameInts_any (a b:Option Addr) (ca cb:Nat) (xs ys:List Int) (w:World) (hx:IntsAt w a xs) (hy:IntsAt w b ys) (hl:xs.length≤140737488351232) (hl' :ys.length≤140737488351232) :
 Calls Tryz.prog 20 #[.slice a xs.length ca,.slice b ys.length cb] w fun e w' =>e=.returned (.bool (xs==ys))∧∃ n,w' =w.drewN n:=by
 by_cases hne:xs.length=ys.length
 ·have HE:Hid (xs.length=ys.length):=hne
  have h1:((xs.length:Int) != (ys.length:Int))=false:=by simp [hne]
  have hle:xs.length≤ys.length:=by omega
  clear hne
  go_enter Tryz.func20,Tryz.ntmps20
  go_wp2
  go_loopw [5] (fun i wr=>∃ k:Nat,k≤xs.length∧i=.int .i64 k∧Hid (xs.take k=ys.take k)∧∃ n,wr=w.drewN n) (fun i _=>xs.length-(intOf i).toNat)
  case atStart=>exact ⟨0,Nat.zero_le _,rfl,by show _=_;simp,0,rfl⟩
  case round =>
   obtain ⟨k,hk,rfl,hT,n,rfl⟩:=hrel
   by_cases hlt:k<xs.length
   ·have hlt2:k<ys.length:=by omega
    obtain ⟨x,gx⟩:=get_lt hlt
    obtain ⟨y,gy⟩:=get_lt hlt2
    obtain ⟨ba,oa,rfl,ha,fa⟩:=hx.at hlt
    obtain ⟨bb,ob,rfl,hb,fb⟩:=hy.at hlt2
    have c1:=fa k x gx
    have c2:=fb k y gy
    have GX:=hide gx
    have GY:=hide gy
    clear gx gy fa fb
    go_wp2
    go_quiet (fail)
    by_cases hxy:x=y
    ·subst hxy
     go_wp2
     go_roundw
     case rel=>exact ⟨k+1,by omega,by go_num,take_eq_succ GX.out GY.out hT.out rfl,n+nq,by first | rfl | (simp only [World.drewN_drewN])⟩
     case measure=>simp [intOf];omega
    ·have hb' :(x != y)=true:=by simp [hxy]
     go_wp2
     go_ret
     exact ⟨ret_bool (list_ne_at GX.out GY.out hxy).symm,n+nq,by first | rfl | (simp only [World.drewN_drewN])⟩
   ·go_wp2
    go_ret
    refine ⟨ret_bool ?_,n,rfl⟩
    have e1:xs=ys:=by
     have h:=hT.out
     rw [List.take_of_length_le (by omega),List.take_of_length_le (by have:=HE.out;omega)] at h;exact h
    simp [e1]
 ·have h1:((xs.length:Int) != (ys.length:Int))=true:=by simp;omega
  have HE:Hid (¬ xs.length=ys.length):=hne
  clear hne
  go_enter Tryz.func20,Tryz.ntmps20
  go_wp2
  go_ret
  exact ⟨ret_bool (list_ne_len HE.out).symm,0,rfl⟩
theorem blk_set {w:World} {b i:Nat} {cs:Array Value} {t:TypeId} {fr:Nat × Nat} (v:Value) (h:w.heap[b]?=some (.cells cs t fr)):(w.setCell ⟨b,i,none⟩ v).heap[b]?=some (.cells (cs.setIfInBounds i v) t fr):=by
 simp [World.setCell,Array.getElem?_modify,h]
theorem blk_set_ne {w:World} {b b' i:Nat} {o:Obj} (v:Value) (h:w.heap[b]?=some o) (hne:b≠b'):(w.setCell ⟨b', i,none⟩ v).heap[b]?=some o:=by
 rw [Below.heap_setCell _ _ _ _ (by exact hne)];exact h
theorem blk_alloc {w:World} {b:Nat} {o:Obj} (o' :Obj) (h:w.heap[b]?=some o):(w.alloc o').heap[b]?=some o:=by
 rw [Below.heap_alloc _ _ _ (Array.getElem?_eq_some_iff.1 h).1];exact h
theorem blk_drew {w:World} {b:Nat} {o:Obj} (h:w.heap[b]?=some o):w.drew.heap[b]?=some o:=h
theorem blk_lt {w:World} {b:Nat} {o:Obj} (h:w.heap[b]?=some o):b<w.heap.size:=(Array.getElem?_eq_some_iff.1 h).1
theorem blk_cell {w:World} {b:Nat} {cs:Array Value} {t:TypeId} {fr:Nat × Nat} (h:w.heap[b]?=some (.cells cs t fr)) (i:Nat):w.cell? ⟨b,i,none⟩=cs[i]? :=by
 simp [World.cell?,h]
theorem blk_frozen {w:World} {b:Nat} {cs:Array Value} {t:TypeId} (h:w.heap[b]?=some (.cells cs t (0,0))) (i:Nat):w.frozen? ⟨b,i,none⟩=false:=by
 simp [World.frozen?,h]
def InAt (w:World) (B:Nat) (a:Option Addr) (zs:List Int):Prop :=
 zs=[]∨∃ b off,a=some ⟨b,off,none⟩∧b<B∧∀ (j:Nat) (z:Int),zs[j]?=some z→w.cell? ⟨b,off+j,none⟩=some (.int .i64 z)
theorem InAt.below {w w' :World} {B:Nat} {a:Option Addr} {zs:List Int} (h:InAt w B a zs) (hb:Below B w w'):InAt w' B a zs:=by
 rcases h with h | ⟨b,off,rfl,hlt,h⟩
 ·exact Or.inl h
 ·exact Or.inr ⟨b,off,rfl,hlt,fun j z hz=>by rw [hb.cell (p:=⟨b,_,none⟩) hlt];exact h j z hz⟩
theorem comeIn_nil (mb:Nat) (v0 v1 v2 v3 v4 v5 v6 v8 v9:Value) (ia:Option Addr) (ic:Nat) (w:World)
 (hm:w.heap[mb]?=some (.cells #[v0,v1,v2,v3,v4,v5,v6,.slice ia 0 ic,v8,v9] 61 (0,0))) :
 Calls Tryz.prog 41 #[.pointer (some ⟨mb,0,none⟩)] w fun e w' =>e=.returned (.int .i64 0)∧w' =w:=by
 have c7:=blk_cell hm 7
 simp at c7
 clear hm
 go_enter Tryz.func41,Tryz.ntmps41
 go_wp2
 go_ret
 exact ⟨rfl,rfl⟩
theorem comeIn_cons (mb:Nat) (v0 v1 v2 v3 v4 v5 v6 v8 v9:Value) (b off l ic:Nat) (z:Int) (w:World) (hl:l+1≤ic)
 (hm:w.heap[mb]?=some (.cells #[v0,v1,v2,v3,v4,v5,v6,.slice (some ⟨b,off,none⟩) (l+1) ic,v8,v9] 61 (0,0))) (hz:w.cell? ⟨b,off,none⟩=some (.int .i64 z)) :
 Calls Tryz.prog 41 #[.pointer (some ⟨mb,0,none⟩)] w fun e w' =>e=.returned (.int .i64 z)∧∃ ia ic', w' =w.setCell ⟨mb,7,none⟩ (.slice ia l ic')∧l≤ic' ∧(l=0∨ia=some ⟨b,off+1,none⟩):=by
 have c7:=blk_cell hm 7
 have f7:=blk_frozen hm 7
 simp at c7
 clear hm
 have hne:(((l+1:Nat):Int)==0)=false:=by simp;omega
 by_cases hc:ic=1
 ·subst hc
  have hl0:l=0:=by omega
  subst hl0
  go_enter Tryz.func41,Tryz.ntmps41
  go_wp2
  go_ret
  exact ⟨rfl,_,_,rfl,Nat.zero_le _,Or.inl (by first | rfl | trivial)⟩
 ·have hc1:(1:Nat)<ic:=by omega
  go_enter Tryz.func41,Tryz.ntmps41
  go_wp2
  go_ret
  exact ⟨rfl,_,ic-1,rfl,by omega,Or.inr rfl⟩
end Go.Proofs.YtkkolclmfcmfbaaGreatDoor
namespace Go.Proofs.YtkkolclmfcmfbaaGreatDoor
open Go.RowKit Go.Maps Go.ChangeMaps
open Go.WideMaps (KeyLaw string_law keyOf_string_mk string_of_keyOf)
theorem blkn {w:World} {o:Obj} {n:Nat} (h:w.heap.size=n):(w.alloc o).heap[n]?=some o:=by subst h;exact (MapKept.heap_alloc w o).1
def ba (x:List UInt8):ByteArray:=⟨x.toArray⟩
def tabL (left:Lit→Bool):List Value:=nmL.map fun x=>.string (if left (.string x) then ⟨#[]⟩ else ba x)
theorem nm_one:∀ i j:Fin 13,nmL.getD i.1 []=nmL.getD j.1 []→i=j:=by decide
theorem nm_uniq {i j:Nat} {x:List UInt8} (hi:nmL[i]?=some x) (hj:nmL[j]?=some x):i=j:=by
 have li:i<13:=(List.getElem?_eq_some_iff.1 hi).1
 have lj:j<13:=(List.getElem?_eq_some_iff.1 hj).1
 have:=nm_one ⟨i,li⟩ ⟨j,lj⟩ (by simp only [List.getD_eq_getElem?_getD,hi,hj])
 exact congrArg Fin.val this
theorem opOf_get {x:List UInt8} {o:Nat} (h:opOf x=some o):nmL[o]?=some x:=by
 unfold opOf at h
 obtain ⟨h1,h2,_⟩:=List.findIdx?_eq_some_iff_getElem.1 h
 rw [List.getElem?_eq_getElem h1]
 simpa using h2
theorem sameKey_str (x y:List UInt8):(Lit.string x).sameKey (.string y)=decide (x=y):=by
 by_cases e:x=y
 ·subst e;simp [Lit.sameKey]
 ·rw [sameKey_ne (fun h=>e (Lit.string.inj h))];simp [e]
theorem tab_more {left:Lit→Bool} {x:List UInt8} {o:Nat} (h:nmL[o]?=some x):tabL (fun z=>left z&&!z.sameKey (.string x))=(tabL left).set o (.string (ba x)):=by
 apply List.ext_getElem?
 intro i
 rw [List.getElem?_set]
 unfold tabL
 by_cases e:o=i
 ·subst e
  have:o<(nmL.map fun x=>Value.string (if left (.string x) then ⟨#[]⟩ else ba x)).length:=by
   rw [List.length_map];exact (List.getElem?_eq_some_iff.1 h).1
  rw [if_pos rfl,if_pos this,List.getElem?_map,h]
  simp [sameKey_str]
 ·rw [if_neg e,List.getElem?_map,List.getElem?_map]
  cases hi:nmL[i]? with
  | none=>rfl
  | some y =>
   have hne:y≠x:=fun q=>e (nm_uniq h (q ▸ hi))
   simp [sameKey_str,hne]
theorem tab_start:tabL (Maps.has opD)=List.replicate 13 (.string ⟨#[]⟩):=by
 have:∀ x∈nmL,Maps.has opD (.string x)=true:=by
  intro x hx
  rw [opD_has]
  have:∀ y∈nmL,(opOf y).isSome=true:=by decide
  exact this x hx
 unfold tabL
 rw [List.map_congr_left (g:=fun _=>Value.string ⟨#[]⟩) (fun x hx=>by rw [this x hx];rfl)]
 rfl
theorem tab_done {left:Lit→Bool} (h:∀ z,left z=false):tabL left=nmL.map fun x=>.string (ba x):=by
 unfold tabL
 exact List.map_congr_left (fun x hx=>by rw [h];rfl)
def names13:Array Value:=(nmL.map fun x=>Value.string (ba x)).toArray
theorem lead_any (i:Int) (w:World):Calls Tryz.prog 63 #[.int .i64 i] w fun e w' =>e=.returned (.string (if i=3 then ba toW else if i=4 then ba elW else ⟨#[]⟩))∧w' =w:=by
 by_cases h3:i=3
 ·subst h3
  go_enter Tryz.func63,Tryz.ntmps63
  go_wp2
  go_ret
  exact ⟨rfl,rfl⟩
 ·by_cases h4:i=4
  ·subst h4
   go_enter Tryz.func63,Tryz.ntmps63
   go_wp2
   go_ret
   exact ⟨rfl,rfl⟩
  ·rw [if_neg h3,if_neg h4]
   go_enter Tryz.func63,Tryz.ntmps63
   go_wp2
   go_ret
   exact ⟨rfl,rfl⟩
set_option maxRecDepth 100000 in
theorem nameTable_any (w:World):Calls Tryz.prog 35 #[] w fun e w' =>e=.returned (.agg names13)∧Below w.heap.size w w' :=by
 have KK:=Keyed.of_law slaw
 go_enter Tryz.func35,Tryz.ntmps35
 go_wp2_with fail
 refine (operations_any _).mono ?_
 rintro e w1 ⟨rfl,hown,hb1⟩
 have hs1:=hb1.size
 simp only [World.size_alloc] at hs1 hb1 hown
 have hp0:=(hb1.block w.heap.size (by omega)).trans (blk_alloc _ (blkn rfl))
 have hp1:=(hb1.block (w.heap.size+1) (by omega)).trans (blkn (by simp))
 have hB1:Below w.heap.size w w1:=((((Below.refl w.heap.size w).alloc (Nat.le_refl _) _).alloc (by simp) _)).trans (hb1.mono (by omega))
 have e13:(tabL (Maps.has opD)).toArray=#[.string ⟨#[]⟩,.string ⟨#[]⟩,.string ⟨#[]⟩,.string ⟨#[]⟩,.string ⟨#[]⟩,.string ⟨#[]⟩,.string ⟨#[]⟩,.string ⟨#[]⟩,.string ⟨#[]⟩,.string ⟨#[]⟩,.string ⟨#[]⟩,.string ⟨#[]⟩,.string ⟨#[]⟩]:=by rw [tab_start];rfl
 have hp1' :w1.heap[w.heap.size+1]?=some (.cells (tabL (Maps.has opD)).toArray 70 (0,0)):=by rw [e13];exact hp1
 clear hp1 e13
 go_wp2_with (first | (at_range;refine wpList_range_own _ rfl _ 119 rfl 9 3 KK Tryz.underlying119 _ (w.heap.size+1+1) 13 opD rfl hown ?_;intro w0 hrg0 hg0 hs0) | go_in)
 go_frame
 go_loopw [] (fun wr=>∃ left cnt,wr.ranges Tryz.prog 9 (plainElem Tryz.prog 3) (w.heap.size+1+1) w1.heap.size 13 opD left cnt∧wr.heap[w.heap.size+1]?=some (.cells (tabL left).toArray 70 (0,0))∧wr.heap[w.heap.size]?=w1.heap[w.heap.size]?∧Below w.heap.size w wr) (fun wr=>wr.rangeLeft (w.heap.size+1+1) w1.heap.size)
 case atStart=>exact ⟨Maps.has opD,Maps.size opD,hrg0,by rw [hg0.block _ (by omega) (by simp)];exact hp1', hg0.block _ (by omega) (by simp),hB1.grown hg0 (by omega) (by simp)⟩
 case round =>
  obtain ⟨left,cnt,hrg,hT,hZ,hB⟩:=hrel
  have hsz:=hB.size
  have hrlt:=hrg.lt
  clear hrg0 hg0 hs0 hp1'
  rw [hp0] at hZ
  have HW1:=hide hp0
  have HT:=hide hT
  have HZ:=hide hZ
  clear hT hZ hp0 hB1 hown hb1
  go_wp2_with (first | (at_next;refine wpList_next_ranges _ rfl _ rfl 9 KK (plainElem Tryz.prog 3) Value.string (Value.int .i64) (fun key kl hkey=>by obtain ⟨t,rfl,_⟩:=string_of_keyOf Tryz.underlying9 hkey;exact ⟨t,rfl⟩) (fun v y hv=>by obtain ⟨c,rfl,_⟩:=plainElem_int_inv Tryz.underlying3 hv;exact ⟨c,rfl⟩) (w.heap.size+1+1) w1.heap.size 13 opD left cnt rfl hrg ?_ ?_) | go_in)
  ·intro hc0 hl0
   have hT:=HT.out
   rw [tab_done hl0] at hT
   have HR:=hide (setRow_heap wr _ _ names13 _ _ HZ.out)
   have h1:names13.all (·.oneCell')=true:=by kernel_rfl
   have h2:names13.size=13:=rfl
   rw [show (nmL.map fun x=>Value.string (ba x)).toArray=names13 from rfl] at hT
   have hn:(Tryz.prog.info? 70).map (·.size)=some names13.size:=by kernel_rfl
   generalize hN:names13=N13 at hT HR hn h1 h2 ⊢
   go_wp2_with (first
    | (refine wpList_load_row rfl _ _ rfl _ rfl _ _ _ _ hT Tryz.underlying70 rfl hn ?_)
    | (refine wpList_plain rfl fun _ hK=>wp_store_row _ _ _ rfl _ _ rfl rfl _ _ HZ.out hn h2.symm h1 (hK _ _ ?_)))
   exact bodyPost_ret (results_cell_row Tryz.results35 _ _ _ _ _ _ _ rfl HR.out Tryz.underlying70 rfl hn) rfl ⟨by rw [hN],hB.trans ⟨rfl,rfl,rfl,by simp,fun k hk=>setRow_other _ _ _ _ (by omega)⟩⟩
  ·intro x c kl y1 y2 w2 cnt1 hkey hlk hv hat hrg1 hlt1 hg1 hs1 hen
   obtain ⟨x', ex,rfl,_⟩:=string_of_keyOf Tryz.underlying9 hkey
   cases ex
   obtain ⟨c', ec,ey,hcw⟩:=plainElem_int_inv Tryz.underlying3 hv
   cases ec
   have hat1:=hat (.lit (.int .i64 (c+1)))
   rw [opD_at,(Prod.mk.inj ey).1] at hat1
   obtain ⟨o,ho⟩:∃ o,opOf x.data.toList=some o:=by
    cases e:opOf x.data.toList with
    | none=>rw [e] at hat1;have:=(Lit.int.inj (DataW.lit.inj hat1)).2;omega
    | some o=>exact ⟨o,rfl⟩
   rw [ho] at hat1
   have hc:=(Lit.int.inj (DataW.lit.inj hat1)).2
   subst hc
   have hno:=opOf_get ho
   have ho13:o<13:=(List.getElem?_eq_some_iff.1 hno).1
   have hoi:(o:Int)<13:=by omega
   have eb:ba x.data.toList=x:=by cases x;simp [ba]
   have htm:=tab_more (left:=left) hno
   rw [eb] at htm
   have hT1:=(hg1.block _ (by omega) (by simp;omega)).trans HT.out
   have hZ1:=(hg1.block _ (by omega) (by simp;omega)).trans HZ.out
   have l13:(tabL left).length=13:=by simp [tabL,nmL]
   have q:=blk_cell hT1 o
   have gq:=blk_frozen hT1 o
   rw [List.getElem?_toArray,List.getElem?_eq_getElem (by omega)] at q
   generalize (tabL left)[o]'(by omega)=vq at q
   have hb2:Below w.heap.size w w2:=hB.trans ⟨hg1.os,hg1.tape,hg1.output,hg1.size,fun k hk=>hg1.block k (by omega) (by simp;omega)⟩
   have HX:=hide (And.intro hT1 (And.intro hZ1 (And.intro hb2 htm)))
   clear hT1 hZ1 hb2 htm hat1 hat hg1 HT HZ
   go_wp2_with fail
   have hk:(w2.setCell ⟨w.heap.size+1,o,none⟩ (.string x)).ranges Tryz.prog 9 (plainElem Tryz.prog 3) (w.heap.size+1+1) w1.heap.size 13 opD _ cnt1:=hrg1.kept (row:=some (w.heap.size+1)) ⟨rfl,rfl,rfl,by simp [World.setCell],fun k hk hn=>Below.heap_setCell _ _ _ _ (by simpa using fun e=>hn (by rw [e]))⟩ (by simp) (by simp;omega)
   go_roundw
   case rel =>
    obtain ⟨hT1,hZ1,hb2,htm⟩:=HX.out
    exact ⟨_,cnt1,hk,by rw [blk_set _ hT1,htm,List.setIfInBounds_toArray],by rw [blk_set_ne _ hZ1 (by omega),HW1.out],hb2.setCell (by simp) _⟩
   case measure=>rw [hk.left_eq,hrg.left_eq];exact hlt1
end Go.Proofs.YtkkolclmfcmfbaaGreatDoor
namespace Go.Proofs.YtkkolclmfcmfbaaGreatDoor
open Go.RowKit Go.Shelf
theorem bwrite_any (B b:Nat) (bs:List Value) (s:ByteArray) (w:World) (h:Lib.IsBuilder 75 5 B b bs w) (hlen:bs.length+s.size≤140737488355328) (hBw:B≤w.heap.size) :
 Calls Tryz.prog 36 #[.pointer (some ⟨b,0,none⟩),.string s] w fun e w' =>e=.returned (.tuple #[.int .i64 s.size,.nilIface])∧(Lib.BuilderAt 75 5 B b (.pointer (some ⟨b,0,none⟩)) (bs++Lib.strCells s) w' ∧Below B w w') :=
 Any.Builder_WriteString (ρ:=Tryz.lays156_ren) { Tryz.lays156 with } Tryz.Builder_Extra_156 B b bs s w h hlen hBw
end Go.Proofs.YtkkolclmfcmfbaaGreatDoor
namespace Go.Proofs.YtkkolclmfcmfbaaGreatDoor
open Go.RowKit
theorem ownsRow_below {w w' :World} {base:Nat} {e:TypeId} {size:Nat} {v:Value} {n:Nat} {xs:List Value} (h:w.ownsRow base e size v n xs) {B:Nat} (hb:Below B w w') (hB:w.heap.size≤B):w'.ownsRow base e size v n xs:=by
 obtain ⟨hl,h⟩:=h
 refine ⟨hl,?_⟩
 rcases h with h | ⟨g,cap,cur,rfl,h1,h2,h3,h4,h5,h6⟩
 ·exact Or.inl h
 ·refine Or.inr ⟨g,cap,cur,rfl,h1,?_,h3,h4,h5,h6⟩
  have hg:g<w.heap.size:=(Array.getElem?_eq_some_iff.1 h2).1
  rw [hb.block g (by omega)];exact h2
theorem ownsRow_base {w:World} {base base' :Nat} {e:TypeId} {size:Nat} {v:Value} {n:Nat} {xs:List Value} (h:w.ownsRow base e size v n xs) (hB:base' ≤base):w.ownsRow base' e size v n xs:=by
 obtain ⟨hl,h⟩:=h
 refine ⟨hl,?_⟩
 rcases h with h | ⟨g,cap,cur,rfl,h1,h2⟩
 ·exact Or.inl h
 ·exact Or.inr ⟨g,cap,cur,rfl,by omega,h2⟩
theorem ints_of_owns {w:World} {base:Nat} {e:TypeId} {v:Value} {zs:List Int} (h:w.ownsRow base e 1 v zs.length (zs.map (Value.int .i64))):∃ a cap,v=.slice a zs.length cap∧IntsAt w a zs:=by
 have hc:∀ g,v.ownBlock=some g→∀ j u,(zs.map (Value.int .i64))[j]?=some u→w.cell? ((⟨g,0,none⟩:Addr).add j)=some u:=fun g hg=>h.cells hg
 obtain ⟨_,h⟩:=h
 rcases h with ⟨rfl,h0⟩ | ⟨g,cap,cur,rfl,h1,h2,h3,h4,h5,h6⟩
 ·have:zs=[]:=by cases zs;rfl;simp at h0
  subst this
  exact ⟨none,0,rfl,Or.inl rfl⟩
 ·refine ⟨_,cap,rfl,Or.inr ⟨g,0,rfl,(Array.getElem?_eq_some_iff.1 h2).1,?_⟩⟩
  intro j z hz
  have:=hc g rfl j (.int .i64 z) (by simp [hz])
  have e:(⟨g,0,none⟩:Addr).add j=⟨g,0+j,none⟩:=by cases j <;> simp [Addr.add]
  rw [e] at this;exact this
theorem info_int:(Tryz.prog.info? 3).map (fun i=>(i.zero,i.size,i.bytes))=some (some (.int .i64 0),1,8):=by kernel_rfl
end Go.Proofs.YtkkolclmfcmfbaaGreatDoor
namespace Go.Proofs.YtkkolclmfcmfbaaGreatDoor
open Go.RowKit Go.Maps Go.ChangeMaps
theorem var_below {P:Program} {w w' :World} {n:String} {cs:Array Value} (h:w.var? P n=some cs) (hb:Below w.heap.size w w'):w'.var? P n=some cs:=by
 unfold World.var? at h ⊢
 cases hg:P.globalNamed n with
 | none=>rw [hg] at h;cases h
 | some g =>
  rw [hg] at h
  simp only [Option.bind_some] at h ⊢
  have hlt:g<w.heap.size:=by
   rcases Nat.lt_or_ge g w.heap.size with q | q
   ·exact q
   ·rw [Array.getElem?_eq_none q] at h;cases h
  rw [hb.block g hlt];exact h
theorem kept_below {w w' :World} (hb:Below w.heap.size w w'):w.keptBut w' (fun _=>False):=by
 refine ⟨hb.os,hb.output,fun i hi=>?_⟩
 rw [hb.block i hi]
 split
 ·rename_i e1 e2
  rw [e1] at e2
  have:=Option.some.inj e2
  injection this with a b c
  subst a b c
  exact ⟨rfl,rfl,rfl,fun _ _=>rfl⟩
 ·rename_i e1 e2
  rw [e1] at e2
  have:=Option.some.inj e2
  injection this with a b
  subst a b
  exact Or.inr ⟨rfl,rfl⟩
 ·rfl
structure Env (w:World):Prop where
 tab:Lib.TabIs Tryz.prog w "internal/strconv.uint64pow10" .u64 Lib.pow10Tab
 syn:∃ tp p,w.var? Tryz.prog "strconv.ErrSyntax" = some #[.iface tp p]
 rng:∃ tp p,w.var? Tryz.prog "strconv.ErrRange" = some #[.iface tp p]
 sh:w.ShapedOpen Tryz.prog
theorem Env.below {w w' :World} (h:Env w) (hb:Below w.heap.size w w'):Env w' :=by
 obtain ⟨h1,⟨t2,p2,h2⟩,⟨t3,p3,h3⟩,h4⟩:=h
 exact ⟨var_below h1 hb,⟨t2,p2,var_below h2 hb⟩,⟨t3,p3,var_below h3 hb⟩,h4.keptBut (kept_below hb) (fun _ q=>q.elim)⟩
open Go.Sort in
theorem below_gr (w:World) (k:Nat) (os:Array Obj):Below w.heap.size w (grow (w.drewN k) os) :=
 ⟨rfl,rfl,rfl,by simp [grow],fun i hi=>by
  show ((w.drewN k).heap++os)[i]?=_
  rw [Array.getElem?_append_left (by show i<w.heap.size;omega)]
  rfl⟩
def kOf (op:Int):Nat→Int
 | 0=>k0 op | 1=>k1 op | 2=>k2 op | 3=>k3 op | _=>k4 op
def vOf (x:Nd):Nat→Int
 | 0=>x.d | 1=>x.a | 2=>x.b | 3=>x.t | _=>x.e
def leadL (i:Nat):List (List UInt8):=if i=3 then [toW] else if i=4 then [elW] else []
def fw (x:Nd) (i:Nat):List (List UInt8):=if kOf x.op i=0 then [] else leadL i++[Lib.itoa (vOf x i)]
def wl (nm:List UInt8) (x:Nd) (i:Nat):List (List UInt8):=nm::(List.range i).flatMap (fw x)
theorem wl_succ (nm:List UInt8) (x:Nd) (i:Nat):wl nm x (i+1)=wl nm x i++fw x i:=by
 simp [wl,List.range_succ]
theorem wl_words (x:Nd):wl (nmB x.op) x 5=wordsB x:=by
 have e0:(k0 x.op=0)↔hasD x.op=false:=by unfold k0 hasD;cases wi x.op 1 9 <;> simp
 have e1:(k1 x.op=0)↔hasA x.op=false:=by
  unfold k1 hasA
  by_cases h:x.op=1
  ·rw [h];simp [wi]
  ·have q1:wi x.op 1 8=wi x.op 2 8:=by
    cases q:wi x.op 2 8
    ·have:=wi_no q
     cases q' :wi x.op 1 8
     ·rfl
     ·have:=wi_iff.1 q'; omega
    ·have:=wi_iff.1 q
     exact wi_iff.2 (by omega)
   rw [if_neg h,q1]
   cases (wi x.op 2 8||wi x.op 10 12) <;> simp
 have e2:(k2 x.op=0)↔hasB x.op=false:=by unfold k2 hasB;cases wi x.op 3 8 <;> simp
 have e3:(k3 x.op=0)↔hasT x.op=false:=by unfold k3 hasT;cases wi x.op 0 11 <;> simp
 have e4:(k4 x.op=0)↔hasE x.op=false:=by unfold k4 hasE;by_cases h:x.op=11 <;> simp [h]
 show nmB x.op::(fw x 0++(fw x 1++(fw x 2++(fw x 3++(fw x 4++[])))))=wordsB x
 unfold fw wordsB
 show nmB x.op::((if k0 x.op=0 then [] else [Lib.itoa x.d])++((if k1 x.op=0 then [] else [Lib.itoa x.a])++((if k2 x.op=0 then [] else [Lib.itoa x.b])++((if k3 x.op=0 then [] else [toW,Lib.itoa x.t])++((if k4 x.op=0 then [] else [elW,Lib.itoa x.e])++[])))))=_
 simp only [e0,e1,e2,e3,e4,List.append_nil]
 cases hasD x.op <;> cases hasA x.op <;> cases hasB x.op <;> cases hasT x.op <;> cases hasE x.op <;> rfl
theorem fit_v {x:Nd} (h:Fits x) (i:Nat): -9223372036854775808≤vOf x i∧vOf x i≤9223372036854775807:=by
 unfold vOf
 split
 ·exact h.d
 ·exact h.a
 ·exact h.b
 ·exact h.t
 ·exact h.e
theorem idx_of (x:Nd) {i:Nat} (h:i<5) (w:World):(Instr.index 94 (.agg #[.int .i64 x.d,.int .i64 x.a,.int .i64 x.b,.int .i64 x.t,.int .i64 x.e]) (.int .i64 (i:Nat))).run Tryz.prog w=.ok (.int .i64 (vOf x i)) w:=by
 match i,h with
 | 0,_=>exact idx5_0 _ _ _ _ _ w
 | 1,_=>exact idx5_1 _ _ _ _ _ w
 | 2,_=>exact idx5_2 _ _ _ _ _ w
 | 3,_=>exact idx5_3 _ _ _ _ _ w
 | 4,_=>exact idx5_4 _ _ _ _ _ w
theorem info_str:(Tryz.prog.info? 9).map (fun i=>(i.zero,i.size,i.bytes))=some (some (.string ⟨#[]⟩),1,16):=by kernel_rfl
def strs (l:List (List UInt8)):List Value:=l.map fun x=>.string (ba x)
theorem lead_two (i:Nat):(leadL i=[]∧(if (i:Int)=3 then ba toW else if (i:Int)=4 then ba elW else ⟨#[]⟩)=⟨#[]⟩)∨∃ y,leadL i=[y]∧(ba y).toList.isEmpty=false∧(if (i:Int)=3 then ba toW else if (i:Int)=4 then ba elW else ⟨#[]⟩)=ba y:=by
 unfold leadL
 by_cases h3:i=3
 ·subst h3;exact Or.inr ⟨toW,rfl,by kernel_rfl,rfl⟩
 ·by_cases h4:i=4
  ·subst h4;exact Or.inr ⟨elW,rfl,by kernel_rfl,rfl⟩
  ·rw [if_neg (show ¬ (i:Int)=3 by omega),if_neg (show ¬ (i:Int)=4 by omega),if_neg h3,if_neg h4];exact Or.inl ⟨rfl,rfl⟩
theorem wl_len (nm:List UInt8) (x:Nd):∀ i,(wl nm x i).length≤1+2*i
 | 0=>by simp [wl]
 | i+1=>by
  have h:=wl_len nm x i
  have:(fw x i).length≤2:=by
   unfold fw leadL
   split
   ·simp
   ·split
    ·simp
    ·split <;> simp
  rw [wl_succ,List.length_append]
  omega
theorem sum_21:∀ (l:List (List UInt8)),(∀ y∈l,y.length≤20)→(l.map fun y=>y.length+1).sum≤21*l.length
 | [],_=>by simp
 | y::l,h=>by
  have h1:=sum_21 l (fun z hz=>h z (List.mem_cons_of_mem _ hz))
  have h2:=h y (List.mem_cons_self ..)
  simp only [List.map_cons,List.sum_cons,List.length_cons]
  omega
theorem wl_bytes (nm:List UInt8) (x:Nd) (hf:Fits x) (hnm:nm.length≤4):(Lib.join (wl nm x 5) [32]).length≤231:=by
 have h1:=join_len 32 (wl nm x 5)
 have h2:=sum_21 (wl nm x 5) ?h
 case h =>
  intro y hy
  unfold wl at hy
  rcases List.mem_cons.1 hy with rfl | hy
  ·omega
  ·obtain ⟨i,_,hy⟩:=List.mem_flatMap.1 hy
   unfold fw at hy
   split at hy
   ·cases hy
   ·rcases List.mem_append.1 hy with hy | hy
    ·unfold leadL at hy
     split at hy
     ·simp at hy;subst hy;decide
     ·split at hy
      ·simp at hy;subst hy;decide
      ·cases hy
    ·simp at hy;subst hy
     exact itoa_len20 (fit_v hf i)
 have h3:=wl_len nm x 5
 omega
theorem own_ne {w:World} {base b:Nat} {e t:TypeId} {size:Nat} {v:Value} {n:Nat} {xs:List Value} {vs:Array Value} (h:w.ownsRow base e size v n xs) (hb:w.heap[b]?=some (.cells vs t (0,0))) (hte:t≠e):some b≠v.ownBlock:=by
 intro hq
 obtain ⟨_,⟨rfl,_⟩ | ⟨g,cap,cur,rfl,_,hg,_⟩⟩:=h
 ·simp [Value.ownBlock] at hq
 ·simp [Value.ownBlock] at hq
  subst hq
  rw [hb] at hg
  have:=Option.some.inj hg
  injection this with _ q _
  exact hte q
def kinds5 (op:Int):Array Value:=#[.int .i64 (k0 op),.int .i64 (k1 op),.int .i64 (k2 op),.int .i64 (k3 op),.int .i64 (k4 op)]
theorem kinds_at (op:Int) {i:Nat} (h:i<5):(kinds5 op)[i]?=some (.int .i64 (kOf op i)):=by
 match i,h with
 | 0,_=>rfl
 | 1,_=>rfl
 | 2,_=>rfl
 | 3,_=>rfl
 | 4,_=>rfl
set_option maxRecDepth 100000 in
theorem showNode_any (x:Nd) (nm:List UInt8) (w:World) (hE:Env w) (hf:Fits x) (hnm:nm.length≤4) :
 Calls Tryz.prog 38 #[.agg #[.int .i64 x.op,.int .i64 x.d,.int .i64 x.a,.int .i64 x.b,.int .i64 x.t,.int .i64 x.e],.string (ba nm)] w fun e w' =>e=.returned (.string (ba (Lib.join (wl nm x 5) [32])))∧Below w.heap.size w w' :=by
 obtain ⟨i0,hi,hz0,hz1,hz2⟩:=info_parts info_str
 go_enter Tryz.func38,Tryz.ntmps38
 go_wp2_with fail
 refine (of_any _ _).mono ?_
 rintro e w1 ⟨rfl,hb1⟩
 have hs1:=hb1.size
 simp only [World.size_alloc] at hs1 hb1
 have hp0:=(hb1.block w.heap.size (by omega)).trans (blk_alloc _ (blkn rfl))
 have hp1:=(hb1.block (w.heap.size+1) (by omega)).trans (blkn (by simp))
 have hB1:Below w.heap.size w w1:=((((Below.refl w.heap.size w).alloc (Nat.le_refl _) _).alloc (by simp) _)).trans (hb1.mono (by omega))
 have n0:=blk_cell hp0 0
 have n1:=blk_cell hp0 1
 have n2:=blk_cell hp0 2
 have n3:=blk_cell hp0 3
 have n4:=blk_cell hp0 4
 have n5:=blk_cell hp0 5
 simp at n0 n1 n2 n3 n4 n5
 have hlt0:w.heap.size<w1.heap.size:=by omega
 have HP1:=hide hp1
 have HB1:=hide hB1
 clear hp0 hp1 hb1 hB1
 go_wp2_with (go_at_call 48;refine (values_any _ _ _ _ _ _ _).mono ?_;rintro e w2 ⟨rfl,hb2⟩)
 have hs2:=hb2.size
 simp only [World.size_alloc] at hs2 hb2
 have hk2:w2.heap[w1.heap.size]?=some (.cells (kinds5 x.op) 91 (0,0)):=(hb2.block w1.heap.size (by omega)).trans (blkn rfl)
 have hp2:=(hb2.block (w.heap.size+1) (by omega)).trans (blk_alloc _ HP1.out)
 have hB2:Below w.heap.size w w2:=HB1.out.trans ((((Below.refl w1.heap.size w1).alloc (Nat.le_refl _) _).trans (hb2.mono (by omega))).mono (by omega))
 have hown2:w2.ownsRow (w.heap.size+1) 9 1 (.slice (some ⟨w.heap.size+1,0,none⟩) 1 1) (wl nm x 0).length (strs (wl nm x 0)):=⟨rfl,Or.inr ⟨_,1,_,rfl,Nat.le_refl _,hp2,Nat.le_refl _,by decide,rfl,rfl⟩⟩
 clear hb2 hp2 n0 n1 n2 n3 n4 n5 HP1
 go_loopw [5,21] (fun v5 v21 wr=>∃ i,i≤5∧v21=.int .i64 (i:Nat)∧wr.ownsRow (w.heap.size+1) 9 1 v5 (wl nm x i).length (strs (wl nm x i))∧wr.heap[w1.heap.size]?=some (.cells (kinds5 x.op) 91 (0,0))∧Below w.heap.size w wr) (fun _ v21 _=>(5-intOf v21).toNat)
 case atStart=>exact ⟨0,by omega,rfl,hown2,hk2,hB2⟩
 case round =>
  obtain ⟨i,hi5,rfl,hown,hK,hB⟩:=hrel
  clear hown2 hk2 hB2
  have hsz:=hB.size
  have hklt:=blk_lt hK
  by_cases hq5:i=5
  ·subst hq5
   obtain ⟨hl1,⟨_,h0⟩ | ⟨g,cap,cur,rfl,hg1,hg2,hg3,hg4,hg5,hg6⟩⟩:=hown
   ·simp [wl] at h0
   go_wp2_with fail
   have e5:(wl nm x 5).length=((wl nm x 5).map ba).length:=by simp
   have em:((wl nm x 5).map ba).map (·.data.toList)=wl nm x 5:=by rw [List.map_map];exact (List.map_congr_left fun y _=>rfl).trans (List.map_id _)
   have hj:=Tryz.strings_Join g 0 cap ((wl nm x 5).map ba) ⟨#[32]⟩ wr ?hc (blk_lt hg2) (by have:=wl_len nm x 5;rw [← e5];omega) (by rw [← e5];exact hg3) ?hl
   case hc =>
    intro j u hu
    rw [Nat.zero_add,blk_cell hg2 j]
    have hj:j<(wl nm x 5).length:=by rw [e5];exact (List.getElem?_eq_some_iff.1 hu).1
    have q:(strs (wl nm x 5))[j]?=some (.string u):=by
     unfold strs
     rw [show (fun y=>Value.string (ba y))=Value.string ∘ ba from rfl,← List.map_map,List.getElem?_map,hu];rfl
    rw [← hg6,List.getElem?_take] at q
    rw [if_pos (by omega)] at q
    simpa using q
   case hl=>rw [em];have:=wl_bytes nm x hf hnm;show (Lib.join (wl nm x 5) [32]).length≤_;omega
   rw [← e5,em] at hj
   refine hj.mono ?_
   rintro e w3 ⟨he3,hb3⟩
   have he4:e=.returned (.string (ba (Lib.join (wl nm x 5) [32]))):=he3
   clear he3 hj
   generalize hJ:ba (Lib.join (wl nm x 5) [32])=J at he4
   subst he4
   go_wp2_with fail
   rename_i v hv
   cases hv
   go_ret
   exact ⟨by rw [hJ];rfl,hB.trans (hb3.mono hsz)⟩
  ·have hlt:i<5:=by omega
   have hlti:(i:Int)<5:=by omega
   have hix:=idx_of x hlt
   have hkc:=(blk_cell hK i).trans (kinds_at x.op hlt)
   have HK:=hide hK
   have HB:=hide hB
   have hws:=wl_succ nm x i
   have hEr:=hE.below hB
   have hfv:=fit_v hf i
   generalize hv:vOf x i=V at hix hfv
   generalize hkv:kOf x.op i=K at hkc
   clear hK hB
   by_cases hk0:K=0
   ·subst hk0
    have hfw:fw x i=[]:=by unfold fw;rw [if_pos hkv]
    rw [hfw,List.append_nil] at hws
    go_wp2_with fail
    go_roundw
    case rel=>exact ⟨i+1,by omega,by simp,by rw [hws];exact hown,HK.out,HB.out⟩
    case measure=>simp [intOf];omega
   ·have hfw:fw x i=leadL i++[Lib.itoa V]:=by unfold fw;rw [if_neg (by rw [hkv];exact hk0),hv]
    rw [hfw] at hws
    rcases lead_two i with ⟨hl,hlw⟩ | ⟨y,hl,hyn,hlw⟩
    ·rw [hl,List.nil_append] at hws
     go_wp2_with fail
     refine (lead_any _ _).mono ?_
     rintro e w' ⟨rfl,rfl⟩
     rw [hlw]
     go_wp2_with fail
     refine (Tryz.strconv_Itoa V hfv.1 hfv.2 _ hEr.tab).mono ?_
     rintro e w3 ⟨rfl,k3,os3,hw3⟩
     have hb3:Below w'.heap.size w' w3:=by rw [hw3];exact below_gr _ _ _
     clear hw3
     have hs3:=hb3.size
     have hown3:=ownsRow_below hown hb3 (Nat.le_refl _)
     have HK3:=hide ((hb3.block _ hklt).trans HK.out)
     have HB3:=hide (HB.out.trans (hb3.mono hsz))
     clear hb3 HK HB hkc
     go_wp2_with (at_builtin;refine wpList_append_own _ rfl (.tmp 37) (.tmp 40) 121 rfl (w.heap.size+1) 9 i0 _ 1 16 Tryz.underlying121 hi hz0 hz1 hz2 rfl (by decide) _ _ _ rfl (hown3.alloc _) ⟨w3.heap.size,0,none⟩ 1 1 [.string (ba (Lib.itoa V))] rfl rfl ?c1 ?c2 ?c3 ?c4 ?c5 ?_)
     case c1 =>
      intro j u hj
      match j,hj with
      | 0,hj=>simp at hj;subst hj;simp [Addr.add,ba]
      | j+1,hj=>simp at hj
     case c2=>intro u hu;simp at hu;subst hu;rfl
     case c3=>have:=wl_len nm x i;unfold maxLen;omega
     case c4=>have:=wl_len nm x i;omega
     case c5=>simp;omega
     intro v' w4 hown5 hg4 _
     have hltb:=hown3.lt
     have hB4:Below w.heap.size w w4:=(HB3.out.alloc (by omega) _).grown hg4 (by simp;omega) (fun k hk=>by have:=(hltb k hk).1;omega)
     have hK4:=(hg4.block _ (by simp;omega) (own_ne hown3 HK3.out (by decide))).trans (blk_alloc _ HK3.out)
     have hown6:w4.ownsRow (w.heap.size+1) 9 1 v' (wl nm x (i+1)).length (strs (wl nm x (i+1))):=by
      rw [hws];simpa [strs] using hown5
     have HX:=hide (And.intro hB4 (And.intro hK4 hown6))
     clear hB4 hK4 hown6 hown5 hg4 hltb hown3 HK3 HB3
     go_wp2_with fail
     go_roundw
     case rel=>exact ⟨i+1,by omega,by simp,HX.out.2.2,HX.out.2.1,HX.out.1⟩
     case measure=>simp [intOf];omega
    ·rw [hl] at hws
     go_wp2_with fail
     refine (lead_any _ _).mono ?_
     rintro e w' ⟨rfl,rfl⟩
     rw [hlw]
     go_wp2_with (at_builtin;refine wpList_append_own _ rfl (.tmp 33) (.tmp 35) 121 rfl (w.heap.size+1) 9 i0 _ 1 16 Tryz.underlying121 hi hz0 hz1 hz2 rfl (by decide) _ _ _ rfl (hown.alloc _) ⟨w'.heap.size,0,none⟩ 1 1 [.string (ba y)] rfl rfl ?c1 ?c2 ?c3 ?c4 ?c5 ?_)
     case c1 =>
      intro j u hj
      match j,hj with
      | 0,hj=>simp at hj;subst hj;simp [Addr.add,ba]
      | j+1,hj=>simp at hj
     case c2=>intro u hu;simp at hu;subst hu;rfl
     case c3=>have:=wl_len nm x i;unfold maxLen;omega
     case c4=>have:=wl_len nm x i;omega
     case c5=>simp;omega
     intro v3 w3 hown3 hg3 _
     have hltb:=hown.lt
     have hs3:=hg3.size
     simp only [World.size_alloc] at hs3
     have hB3:Below w.heap.size w w3:=(HB.out.alloc (by omega) _).grown hg3 (by simp;omega) (fun k hk=>by have:=(hltb k hk).1;omega)
     have hK3:=(hg3.block _ (by simp;omega) (own_ne hown HK.out (by decide))).trans (blk_alloc _ HK.out)
     have hE3:=hE.below hB3
     have HX3:=hide (And.intro hB3 hK3)
     clear hB3 hK3 hg3 hltb hown HK HB hkc
     go_wp2_with fail
     refine (Tryz.strconv_Itoa V hfv.1 hfv.2 _ hE3.tab).mono ?_
     rintro e w4 ⟨rfl,k4,os4,hw4⟩
     have hb4:Below w3.heap.size w3 w4:=by rw [hw4];exact below_gr _ _ _
     clear hw4
     have hs4:=hb4.size
     have hown4:=ownsRow_below hown3 hb4 (Nat.le_refl _)
     have HK4:=hide ((hb4.block _ (by omega)).trans HX3.out.2)
     have HB4:=hide (HX3.out.1.trans (hb4.mono (by omega)))
     clear hb4 HX3 hown3
     go_wp2_with (at_builtin;refine wpList_append_own _ rfl (.tmp 37) (.tmp 40) 121 rfl (w.heap.size+1) 9 i0 _ 1 16 Tryz.underlying121 hi hz0 hz1 hz2 rfl (by decide) _ _ _ rfl (hown4.alloc _) ⟨w4.heap.size,0,none⟩ 1 1 [.string (ba (Lib.itoa V))] rfl rfl ?c1 ?c2 ?c3 ?c4 ?c5 ?_)
     case c1 =>
      intro j u hj
      match j,hj with
      | 0,hj=>simp at hj;subst hj;simp [Addr.add,ba]
      | j+1,hj=>simp at hj
     case c2=>intro u hu;simp at hu;subst hu;rfl
     case c3=>have:=wl_len nm x i;unfold maxLen;omega
     case c4=>have:=wl_len nm x i;omega
     case c5=>simp;omega
     intro v' w5 hown5 hg5 _
     have hltb:=hown4.lt
     have hB5:Below w.heap.size w w5:=(HB4.out.alloc (by omega) _).grown hg5 (by simp;omega) (fun k hk=>by have:=(hltb k hk).1;omega)
     have hK5:=(hg5.block _ (by simp;omega) (own_ne hown4 HK4.out (by decide))).trans (blk_alloc _ HK4.out)
     have hown6:w5.ownsRow (w.heap.size+1) 9 1 v' (wl nm x (i+1)).length (strs (wl nm x (i+1))):=by
      rw [hws];simpa [strs] using hown5
     have HX:=hide (And.intro hB5 (And.intro hK5 hown6))
     clear hB5 hK5 hown6 hown5 hg5 hltb hown4 HK4 HB4
     go_wp2_with fail
     go_roundw
     case rel=>exact ⟨i+1,by omega,by simp,HX.out.2.2,HX.out.2.1,HX.out.1⟩
     case measure=>simp [intOf];omega
theorem build_below {T e:TypeId} {B b:Nat} {p:Value} {bs:List Value} {w w' :World} (h:Lib.BuilderAt T e B b p bs w) (hb:Below w.heap.size w w'):Lib.BuilderAt T e B b p bs w' :=by
 obtain ⟨hB,v,h1,h2,h3⟩:=h
 exact ⟨hB,v,(hb.block b (blk_lt h1)).trans h1,ownsRow_below h2 hb (Nat.le_refl _),h3⟩
theorem nm_get {op:Int} (h:0≤op∧op≤12):names13[op.toNat]?=some (.string (ba (nmB op))):=by
 obtain ⟨k,rfl⟩:=Int.eq_ofNat_of_zero_le h.1
 have hk:k<13:=by omega
 have:∀ j:Fin 13,nmL[j.1]?=some (nmL.getD j.1 []):=by decide
 have h2:=this ⟨k,hk⟩
 unfold names13 nmB
 rw [List.getElem?_toArray,List.getElem?_map]
 simp only [Int.toNat_natCast] at h2 ⊢
 rw [h2];rfl
theorem ba_app (x y:List UInt8):(ba x++ba y:ByteArray)=ba (x++y):=by
 apply ByteArray.ext
 simp [ba,ByteArray.data_append]
theorem bcells_app (x y:List UInt8):Lib.byteCells x++Lib.byteCells y=Lib.byteCells (x++y):=by simp [Lib.byteCells]
theorem bcells_len (x:List UInt8):(Lib.byteCells x).length=x.length:=by simp [Lib.byteCells]
def shK (r:Int) (ns:List Nd) (k:Nat):List UInt8:=regsL r++10::(ns.take k).flatMap fun x=>lineW x++[10]
theorem shK_succ {r:Int} {ns:List Nd} {k:Nat} {x:Nd} (h:ns[k]?=some x):shK r ns (k+1)=shK r ns k++(lineW x++[10]):=by
 unfold shK
 rw [List.take_add_one,h]
 simp
theorem shK_all (r:Int) (ns:List Nd):shK r ns ns.length=showB r ns:=by
 unfold shK showB
 rw [List.take_length]
theorem shK_len {r:Int} {ns:List Nd} (hr:0≤r∧r<1000) (ht:∀ x∈ns,TxOk x) (k:Nat):(shK r ns k).length≤64+64*ns.length:=by
 have h:=show_len hr (ns.take k) (fun x hx=>ht x (List.mem_of_mem_take hx))
 have h2:(ns.take k).length≤ns.length:=by rw [List.length_take];omega
 show (showB r (ns.take k)).length≤_
 omega
theorem show_bad (r:Int) (a:Option Addr) (cap:Nat) (ns:List Nd) (w:World) (hN:SlN w a ns) (hc:chk r ns≠0) :
 Calls Tryz.prog 16 #[.agg #[.int .i64 r,.slice a ns.length cap]] w fun e w' =>e=.returned (.tuple #[.string ⟨#[]⟩,.int .i64 (chk r ns)])∧Below w.heap.size w w' :=by
 go_enter Tryz.func16,Tryz.ntmps16
 go_wp2_with fail
 refine (check_any r a cap ns _ (hN.below ((Below.refl w.heap.size w).alloc (Nat.le_refl _) _))).mono ?_
 rintro e w1 ⟨rfl,hb1⟩
 have hB1:Below w.heap.size w w1:=((Below.refl _ _).alloc (Nat.le_refl _) _).trans (hb1.mono (by simp))
 clear hb1
 generalize hC:chk r ns=C at hc ⊢
 go_wp2_with fail
 exact bodyPost_ret (v:=.tuple #[.string ⟨#[]⟩,.int .i64 C]) (by simp [results,Tryz.results16,go_sem]) rfl ⟨by rw [hC],hB1⟩
set_option maxRecDepth 100000 in
theorem show_ok (r:Int) (a:Option Addr) (cap:Nat) (ns:List Nd) (w:World) (hN:SlN w a ns) (hE:Env w) (ha:∀ x∈ns,-9223372036854775808≤x.a∧x.a≤9223372036854775807) (hc:chk r ns=0) :
 Calls Tryz.prog 16 #[.agg #[.int .i64 r,.slice a ns.length cap]] w fun e w' =>e=.returned (.tuple #[.string (ba (showB r ns)),.int .i64 0])∧Below w.heap.size w w' :=by
 obtain ⟨hl1,hr1,_⟩:=chk_full hc
 obtain ⟨b,off,rfl,hNN⟩:=hN.some hl1.1
 have hblt:=hNN.lt
 have HT:=hide (fun (x:Nd) (hx:x∈ns)=>tx_of hc hx (ha x hx))
 go_enter Tryz.func16,Tryz.ntmps16
 go_wp2_with fail
 refine (check_any r _ cap ns _ (hN.below ((Below.refl w.heap.size w).alloc (Nat.le_refl _) _))).mono ?_
 rintro e w1 ⟨he,hb1⟩
 rw [hc] at he
 subst he
 have hs1:=hb1.size
 simp only [World.size_alloc] at hs1 hb1
 have hp:=(hb1.block w.heap.size (by omega)).trans (blkn rfl)
 have hB1:Below w.heap.size w w1:=((Below.refl _ _).alloc (Nat.le_refl _) _).trans (hb1.mono (by omega))
 clear hb1 ha hN
 go_wp2_with fail
 refine (nameTable_any _).mono ?_
 rintro e w2 ⟨rfl,hb2⟩
 have hs2:=hb2.size
 have hp2:=(hb2.block w.heap.size (by omega)).trans hp
 have hB2:Below w.heap.size w w2:=hB1.trans (hb2.mono (by omega))
 have hE2:=hE.below hB2
 have h1:names13.all (·.oneCell')=true:=by kernel_rfl
 have h2:names13.size=13:=rfl
 have hn:(Tryz.prog.info? 70).map (·.size)=some names13.size:=by kernel_rfl
 have hg13:=fun (op:Int) (h:0≤op∧op≤12)=>@nm_get op h
 have HG:=hide hg13
 clear hg13
 have HP:=hide hp2
 have HB:=hide hB2
 clear hp hp2 hB1 hb2 hB2
 have hlt:w.heap.size<w2.heap.size:=by omega
 have hz:=@blkn w2 (.cells #[.string ⟨#[]⟩,.string ⟨#[]⟩,.string ⟨#[]⟩,.string ⟨#[]⟩,.string ⟨#[]⟩,.string ⟨#[]⟩,.string ⟨#[]⟩,.string ⟨#[]⟩,.string ⟨#[]⟩,.string ⟨#[]⟩,.string ⟨#[]⟩,.string ⟨#[]⟩,.string ⟨#[]⟩] 70 (0,0)) w2.heap.size rfl
 go_upto_region 5 with (refine wpList_plain rfl fun _ hK=>wp_store_row _ _ _ rfl _ names13 rfl rfl _ _ hz hn rfl h1 (hK _ _ ?_))
 have hz3:=setRow_heap _ _ _ names13 _ _ hz
 have hb3:Below w2.heap.size w2 ((w2.alloc (.cells #[.string ⟨#[]⟩,.string ⟨#[]⟩,.string ⟨#[]⟩,.string ⟨#[]⟩,.string ⟨#[]⟩,.string ⟨#[]⟩,.string ⟨#[]⟩,.string ⟨#[]⟩,.string ⟨#[]⟩,.string ⟨#[]⟩,.string ⟨#[]⟩,.string ⟨#[]⟩,.string ⟨#[]⟩] 70 (0,0))).setRow w2.heap.size names13):=((Below.refl _ _).alloc (Nat.le_refl _) _).trans ⟨rfl,rfl,rfl,by simp,fun k hk=>setRow_other _ _ _ _ (by omega)⟩
 generalize hw3:World.setRow _ w2.heap.size names13=w3 at hz3 hb3 ⊢
 clear hz hw3 hK h1 h2 hn
 have hs3:=blk_lt hz3
 have hp3:=(hb3.block _ hlt).trans HP.out
 have hB3:Below w.heap.size w w3:=HB.out.trans (hb3.mono (by omega))
 have c0:=blk_cell hp3 0
 have c1:=blk_cell hp3 1
 simp at c0 c1
 have HZ:=hide hz3
 have HP3:=hide hp3
 have HB3:=hide hB3
 have hlt3:w.heap.size<w3.heap.size:=by omega
 have hE4:Env (w3.alloc (.cells #[.pointer none,.slice none 0 0] 75)):=hE.below (hB3.alloc (by omega) _)
 have HE4:=hide hE4
 clear hz3 hp3 hB3 hb3 HP HB hE2 hE4
 go_wp2_with fail
 refine (Tryz.strconv_Itoa r (by omega) (by omega) _ HE4.out.tab).mono ?_
 rintro e w5 ⟨rfl,k5,os5,hw5⟩
 have hb5:Below (w3.heap.size+1) (w3.alloc (.cells #[.pointer none,.slice none 0 0] 75)) w5:=by rw [hw5];simpa using below_gr (w3.alloc (.cells #[.pointer none,.slice none 0 0] 75)) k5 os5
 clear hw5 HE4
 have hs5:=hb5.size
 simp only [World.size_alloc] at hs5
 have hbu:Lib.IsBuilder 75 5 w3.heap.size w3.heap.size [] w5:=Or.inl ⟨Nat.le_refl _,.slice none 0 0,(hb5.block _ (by omega)).trans (blkn rfl),World.ownsRow_nil _ _ _ _,by simp [Value.ownBlock]⟩
 have HB5:Hid (Below w.heap.size w w5):=(HB3.out.alloc (by omega) _).trans (hb5.mono (by omega))
 have HZ5:Hid (w5.heap[w2.heap.size]?=_):=(hb5.block _ (by omega)).trans (blk_alloc _ HZ.out)
 have HP5:Hid (w5.heap[w.heap.size]?=_):=(hb5.block _ (by omega)).trans (blk_alloc _ HP3.out)
 clear hb5 HZ HP3 HB3
 have hil:(Lib.itoa r).length≤3:=itoa_len3 (by omega)
 have h18:¬ 9223372036854775807<5+(Lib.itoa r).length:=by omega
 have h19:¬ 9223372036854775807<5+(Lib.itoa r).length+1:=by omega
 go_wp2_with fail
 have ebs:((⟨#[114,101,103,115,32]⟩:ByteArray)++⟨(Lib.itoa r).toArray⟩++⟨#[10]⟩)=ba (shK r ns 0):=by
  rw [show (⟨#[114,101,103,115,32]⟩:ByteArray)=ba regsW from rfl,show (⟨(Lib.itoa r).toArray⟩:ByteArray)=ba (Lib.itoa r) from rfl,show (⟨#[10]⟩:ByteArray)=ba [10] from rfl,ba_app,ba_app]
  rfl
 rw [ebs]
 have hsl0:=shK_len (r:=r) (ns:=ns) (by omega) HT.out 0
 refine (bwrite_any w3.heap.size w3.heap.size [] (ba (shK r ns 0)) w5 hbu (by show 0+(shK r ns 0).toArray.size≤_;simp;omega) (by omega)).mono ?_
 rintro e w6 ⟨rfl,hbu6,hb6⟩
 have hs6:=hb6.size
 have HBU:Hid (Lib.BuilderAt 75 5 w3.heap.size w3.heap.size (.pointer (some ⟨w3.heap.size,0,none⟩)) (Lib.byteCells (shK r ns 0)) w6):=hbu6
 have HB6:=hide (HB5.out.trans (hb6.mono (by omega)))
 have HZ6:=hide ((hb6.block _ (by omega)).trans HZ5.out)
 have hp6:=(hb6.block _ (by omega)).trans HP5.out
 have d0:=blk_cell hp6 0
 have d1:=blk_cell hp6 1
 simp at d0 d1
 have hlt6:w.heap.size<w6.heap.size:=by omega
 clear hb6 HB5 HZ5 HP5 hbu hbu6 hp6 ebs c0 c1
 go_wp2_with fail
 go_loopw [24] (fun v24 wr=>∃ k:Nat,k≤ns.length∧v24=.int .i64 k∧Hid (Lib.BuilderAt 75 5 w3.heap.size w3.heap.size (.pointer (some ⟨w3.heap.size,0,none⟩)) (Lib.byteCells (shK r ns k)) wr)∧Hid (wr.heap[w2.heap.size]?=some (.cells names13 70 (0,0)))∧Below w.heap.size w wr∧w3.heap.size<wr.heap.size) (fun i _=>ns.length-(intOf i).toNat)
 case atStart=>exact ⟨0,Nat.zero_le _,rfl,HBU,HZ6,HB6.out,by omega⟩
 case round =>
  obtain ⟨k,hk,rfl,HU,HZr,hb,hs8⟩:=hrel
  have hN' :=hNN.below hb hNN.lt
  have hlt' :=hN'.lt
  have hsz:=hb.size
  clear HBU HB6 HZ6 d0 d1
  by_cases hlt:k<ns.length
  ·obtain ⟨x,hx⟩:=get_lt hlt
   have c0:=hN'.c0 k x hx
   have c1:=hN'.c1 k x hx
   have c2:=hN'.c2 k x hx
   have c3:=hN'.c3 k x hx
   have c4:=hN'.c4 k x hx
   have c5:=hN'.c5 k x hx
   have htx:=HT.out x (List.mem_of_getElem? hx)
   have hfit:=htx.fits
   have hopx:=htx.op
   have hsu:=shK_succ (r:=r) hx
   have hsl:=shK_len (r:=r) (ns:=ns) (by omega) HT.out k
   have hll:=line_len htx
   have HX:Hid (ns[k]?=some x):=hx
   have hnm:=HG.out x.op hopx
   clear hx hN' htx
   have hop2:x.op<13:=by omega
   have hop1:0≤x.op:=hopx.1
   have HS:Hid (∀ u:World,Below (wr.heap.size+1) (wr.alloc (.cells #[.int .i64 x.op,.int .i64 x.d,.int .i64 x.a,.int .i64 x.b,.int .i64 x.t,.int .i64 x.e] 48)) u→u.cell? ⟨wr.heap.size,0,none⟩=some (.int .i64 x.op)∧u.cell? ⟨wr.heap.size,1,none⟩=some (.int .i64 x.d)∧u.cell? ⟨wr.heap.size,2,none⟩=some (.int .i64 x.a)∧u.cell? ⟨wr.heap.size,3,none⟩=some (.int .i64 x.b)∧u.cell? ⟨wr.heap.size,4,none⟩=some (.int .i64 x.t)∧u.cell? ⟨wr.heap.size,5,none⟩=some (.int .i64 x.e)∧u.cell? ⟨w2.heap.size,x.op.toNat,none⟩=some (.string (ba (nmB x.op)))):=fun u h=>by
    have k1:=(h.block wr.heap.size (by omega)).trans (blkn rfl)
    have k2:=(h.block w2.heap.size (by omega)).trans (blk_alloc _ HZr.out)
    refine ⟨?_,?_,?_,?_,?_,?_,?_⟩
    ·rw [blk_cell k1];rfl
    ·rw [blk_cell k1];rfl
    ·rw [blk_cell k1];rfl
    ·rw [blk_cell k1];rfl
    ·rw [blk_cell k1];rfl
    ·rw [blk_cell k1];rfl
    ·rw [blk_cell k2];exact hnm
   have HE8:=hide (hE.below (hb.alloc hsz (.cells #[.int .i64 x.op,.int .i64 x.d,.int .i64 x.a,.int .i64 x.b,.int .i64 x.t,.int .i64 x.e] 48)))
   go_upto_region 10 with fail
   clear c0 c1 c2 c3 c4 c5 hnm
   have hw8:(wr.alloc (.cells #[.int .i64 x.op,.int .i64 x.d,.int .i64 x.a,.int .i64 x.b,.int .i64 x.t,.int .i64 x.e] 48)).heap.size=wr.heap.size+1:=by simp
   have HB8:=hide (hb.alloc hsz (.cells #[.int .i64 x.op,.int .i64 x.d,.int .i64 x.a,.int .i64 x.b,.int .i64 x.t,.int .i64 x.e] 48))
   have HU8:=hide (build_below HU.out ((Below.refl wr.heap.size wr).alloc (Nat.le_refl _) (.cells #[.int .i64 x.op,.int .i64 x.d,.int .i64 x.a,.int .i64 x.b,.int .i64 x.t,.int .i64 x.e] 48)))
   have HZ8:=hide (blk_alloc (.cells #[.int .i64 x.op,.int .i64 x.d,.int .i64 x.a,.int .i64 x.b,.int .i64 x.t,.int .i64 x.e] 48) HZr.out)
   generalize (wr.alloc (.cells #[.int .i64 x.op,.int .i64 x.d,.int .i64 x.a,.int .i64 x.b,.int .i64 x.t,.int .i64 x.e] 48))=W8 at HS HE8 hw8 HB8 HU8 HZ8 ⊢
   have HSN:∀ u,Env u→Calls Tryz.prog 38 #[.agg #[.int .i64 x.op,.int .i64 x.d,.int .i64 x.a,.int .i64 x.b,.int .i64 x.t,.int .i64 x.e],.string (ba (nmB x.op))] u fun e w' =>e=.returned (.string (ba (lineW x)))∧Below u.heap.size u w' :=fun u hu=>by
    have:=showNode_any x (nmB x.op) u hu hfit (nm_len _)
    rw [wl_words] at this
    exact this
   have hLb:(ba (lineW x)).size=(lineW x).length:=by simp [ba,ByteArray.size]
   have hLd:Lib.strCells (ba (lineW x)++⟨#[10]⟩)=Lib.byteCells (lineW x++[10]):=by
    rw [show (⟨#[10]⟩:ByteArray)=ba [10] from rfl,ba_app];rfl
   generalize ba (lineW x)=L at HSN hLb hLd
   have hL1:¬ 9223372036854775807<L.size+1:=by omega
   have HLL:(Lib.byteCells (shK r ns k)).length+(L++⟨#[10]⟩).size≤140737488355328:=by
    rw [bcells_len,ByteArray.size_append]
    show _+(L.size+1)≤_
    omega
   obtain ⟨n0,n1,n2,n3,n4,n5,n6⟩:=HS.out W8 (Below.refl _ _)
   clear HS
   go_region_with (first
    | (go_at_call 38;refine (HSN _ (hE.below HB8.out.drew)).mono ?_;rintro e wa ⟨rfl,hba0⟩;have hba:Below (wr.heap.size+1) W8 wa:=(Below.refl _ _).drew.trans (by rw [← hw8];exact hba0))
    | (go_at_call 36;refine (bwrite_any w3.heap.size w3.heap.size _ _ _ (Or.inr (build_below HU8.out (by rw [hw8];exact hba))) HLL (by have:=hba.size;omega)).mono ?_;rintro e wb ⟨rfl,hub,hbb⟩))
   all_goals
    have hBb:Below w.heap.size w wb:=HB8.out.trans ((hba.mono (by omega)).trans (hbb.mono (by omega)))
    have hZb:=(hbb.block w2.heap.size (by omega)).trans ((hba.block w2.heap.size (by omega)).trans HZ8.out)
    have hUb:Lib.BuilderAt 75 5 w3.heap.size w3.heap.size (.pointer (some ⟨w3.heap.size,0,none⟩)) (Lib.byteCells (shK r ns (k+1))) wb:=by
     rw [hsu,← bcells_app,← hLd];exact hub
    have hsb:w3.heap.size<wb.heap.size:=by have:=hba.size;have:=hbb.size;omega
    have HXX:=hide (And.intro hUb (And.intro hZb hBb))
    clear hUb hZb hBb hub hba hbb n0 n1 n2 n3 n4 n5 n6
    go_wp2_with fail
    go_roundw
    case rel=>exact ⟨k+1,by omega,by go_num,HXX.out.1,HXX.out.2.1,HXX.out.2.2,hsb⟩
    case measure=>simp [intOf];omega
  ·have ek:k=ns.length:=by omega
   subst ek
   rw [shK_all] at HU
   go_wp2_with fail
   refine (Tryz.Builder_String_any _ _ _ _ (Or.inr HU.out) (by omega)).mono ?_
   rintro e w9 ⟨rfl,hb9⟩
   go_wp2_with fail
   exact bodyPost_ret (v:=.tuple #[.string (ba (showB r ns)),.int .i64 0]) (by simp [results,Tryz.results16,go_sem,ba]) rfl ⟨rfl,hb.trans (hb9.mono (by omega))⟩
theorem ba_data (s:ByteArray):ba s.data.toList=s:=by cases s;simp [ba]
theorem ba_list (l:List UInt8):(ba l).data.toList=l:=by simp [ba]
theorem split_any (c:UInt8) (l:List UInt8) (w:World) (hE:Env w) (hs:l.length≤16448) :
 Calls Tryz.prog 65 #[.string (ba l),.string ⟨#[c]⟩] w fun e w' =>e=.returned (.slice (some ⟨w.heap.size,0,none⟩) (cutC c l).length (cutC c l).length)∧w' =w.alloc (.cells (strs (cutC c l)).toArray 9):=by
 have h:=Tryz.strings_Split_shaped (ba l) ⟨#[c]⟩ w hE.sh (by show (ba l).data.size<_;simp [ba];omega) (by show 1≤(#[c]:Array UInt8).size;simp)
 have e1:(Lib.splitB ⟨#[c]⟩ 0 (Lib.countB (ba l) ⟨#[c]⟩) (ba l)).map (·.data.toList)=cutC c l:=by
  rw [Lib.splitB_data,ba_list]
  exact (splitK_cut c l)
 have e2:(Lib.splitB ⟨#[c]⟩ 0 (Lib.countB (ba l) ⟨#[c]⟩) (ba l)).map Value.string=strs (cutC c l):=by
  rw [← e1]
  unfold strs
  rw [List.map_map]
  exact List.map_congr_left fun s _=>by show Value.string s=Value.string (ba s.data.toList);rw [ba_data]
 have e3:Lib.countB (ba l) ⟨#[c]⟩+1=(cutC c l).length:=by
  have:=Lib.splitB_all ⟨#[c]⟩ (by show 1≤(#[c]:Array UInt8).size;simp) 0 _ (ba l) rfl
  rw [← e1,List.length_map,this]
 rw [e2,e3] at h
 exact h
theorem atoi_any (s:ByteArray) (w:World) (hE:Env w) (hs:s.size≤16448) :
 Calls Tryz.prog 68 #[.string s] w fun e w' =>∃ v er,e=.returned (.tuple #[.int .i64 v,er])∧(match Lib.atoiAll s.data.toList with | .ok u=>v=u∧er=.nilIface | _=>∃ N,er=.iface 184 (.pointer (some ⟨N,0,none⟩)))∧Below w.heap.size w w' :=by
 obtain ⟨t2,p2,h2⟩:=hE.syn
 obtain ⟨t3,p3,h3⟩:=hE.rng
 cases ha:Lib.atoiAll s.data.toList with
 | ok u =>
  refine (Tryz.strconv_Atoi_ok s (by omega) u ha w).mono ?_
  rintro e w' ⟨rfl,hw⟩
  refine ⟨u,_,rfl,⟨rfl,rfl⟩,?_⟩
  rcases hw with rfl | ⟨t,rfl⟩
  ·exact Below.refl _ _
  ·exact Lib.bytesWorld_below _ _ _
 | «syntax» =>
  refine (Tryz.strconv_Atoi_syntax_var s (by omega) ha t2 p2 w h2).mono ?_
  rintro e w' ⟨N,rfl,_,_,hb⟩
  exact ⟨_,_,rfl,⟨N,rfl⟩,hb⟩
 | range =>
  refine (Tryz.strconv_Atoi_range_var s (by omega) ha t3 p3 w h3).mono ?_
  rintro e w' ⟨N,rfl,_,_,hb⟩
  exact ⟨_,_,rfl,⟨N,rfl⟩,hb⟩
theorem node_any (op d a b t e:Int) (w:World):Calls Tryz.prog 91 #[.int .i64 op,.agg #[.int .i64 d,.int .i64 a,.int .i64 b,.int .i64 t,.int .i64 e]] w fun r w' =>r=.returned (.agg #[.int .i64 op,.int .i64 d,.int .i64 a,.int .i64 b,.int .i64 t,.int .i64 e])∧Below w.heap.size w w' :=by
 go_enter Tryz.func91,Tryz.ntmps91
 go_wp2
 exact bodyPost_ret (v:=.agg #[.int .i64 op,.int .i64 d,.int .i64 a,.int .i64 b,.int .i64 t,.int .i64 e]) (by simp [results,Tryz.results91,go_sem]) rfl ⟨rfl,((Below.refl _ _).alloc (Nat.le_refl _) _).alloc (by simp) _⟩
def rdK (ws:List (List UInt8)) (op:Int):Nat→Option (Nat × List Int)
 | 0=>some (1,[])
 | i+1=>match rdK ws op i with
  | none=>none
  | some (k,vs)=>match rdOne ws k (kOf op i != 0) (i==3||i==4) with
   | none=>none
   | some (k', v)=>some (k', vs++[v])
theorem has_k (op:Int):(kOf op 0 != 0)=hasD op∧(kOf op 1 != 0)=hasA op∧(kOf op 2 != 0)=hasB op∧(kOf op 3 != 0)=hasT op∧(kOf op 4 != 0)=hasE op:=by
 refine ⟨?_,?_,?_,?_,?_⟩
 ·show (k0 op != 0)=_;unfold k0 hasD;cases wi op 1 9 <;> rfl
 ·show (k1 op != 0)=_
  unfold k1 hasA
  by_cases h:op=1
  ·rw [h];decide
  ·have q1:wi op 1 8=wi op 2 8:=by
    cases q:wi op 2 8
    ·have:=wi_no q
     cases q' :wi op 1 8
     ·rfl
     ·have:=wi_iff.1 q'; omega
    ·have:=wi_iff.1 q
     exact wi_iff.2 (by omega)
   rw [if_neg h,q1]
   cases (wi op 2 8||wi op 10 12) <;> rfl
 ·show (k2 op != 0)=_;unfold k2 hasB;cases wi op 3 8 <;> rfl
 ·show (k3 op != 0)=_;unfold k3 hasT;cases wi op 0 11 <;> rfl
 ·show (k4 op != 0)=_
  unfold k4 hasE
  by_cases h:op=11
  ·rw [h];decide
  ·have h2:(op==11)=false:=by simpa using h
   rw [if_neg h,h2];rfl
theorem rdK_len (ws:List (List UInt8)) (op:Int):∀ i {k vs},rdK ws op i=some (k,vs)→vs.length=i
 | 0,k,vs,h=>by simp [rdK] at h;obtain ⟨rfl,rfl⟩:=h;rfl
 | i+1,k,vs,h=>by
  unfold rdK at h
  split at h
  ·cases h
  ·rename_i k1 vs1 h1
   have:=rdK_len ws op i h1
   split at h
   ·cases h
   ·simp at h;obtain ⟨_,rfl⟩:=h;simp [this]
def mkN (o:Nat) (vs:List Int):Nd:=⟨o,vs.getD 0 0,vs.getD 1 0,vs.getD 2 0,vs.getD 3 0,vs.getD 4 0⟩
theorem rdN_K {x:List UInt8} {r:List (List UInt8)} {o:Nat} (h:opOf x=some o):rdN (x::r)=(rdK (x::r) o 5).map fun p=>mkN o p.2:=by
 obtain ⟨h0,h1,h2,h3,h4⟩:=has_k (o:Int)
 unfold rdN
 simp only [h]
 simp only [rdK,h0,h1,h2,h3,h4]
 simp only [show ((0:Nat)==3||(0:Nat)==4)=false from rfl,show ((1:Nat)==3||(1:Nat)==4)=false from rfl,show ((2:Nat)==3||(2:Nat)==4)=false from rfl,show ((3:Nat)==3||(3:Nat)==4)=true from rfl,show ((4:Nat)==3||(4:Nat)==4)=true from rfl]
 cases rdOne (x::r) 1 (hasD o) false with
 | none=>rfl
 | some p =>
  obtain ⟨k1,d⟩:=p
  simp only
  cases rdOne (x::r) k1 (hasA o) false with
  | none=>rfl
  | some p =>
   obtain ⟨k2,a⟩:=p
   simp only
   cases rdOne (x::r) k2 (hasB o) false with
   | none=>rfl
   | some p =>
    obtain ⟨k3,b⟩:=p
    simp only
    cases rdOne (x::r) k3 (hasT o) true with
    | none=>rfl
    | some p =>
     obtain ⟨k4,t⟩:=p
     simp only
     cases rdOne (x::r) k4 (hasE o) true with
     | none=>rfl
     | some p=>rfl
def nodeV:Option Nd→Value
 | none=>.agg #[.int .i64 0,.int .i64 0,.int .i64 0,.int .i64 0,.int .i64 0,.int .i64 0]
 | some x=>.agg #[.int .i64 x.op,.int .i64 x.d,.int .i64 x.a,.int .i64 x.b,.int .i64 x.t,.int .i64 x.e]
theorem zero_intT (u:World):(zeroValue 3).run Tryz.prog u=.ok (.int .i64 0) u:=by kernel_rfl
theorem key_ba {x:List UInt8} (h:x.length≤16448):keyOf Tryz.prog 9 (.string (ba x))=some (.string x):=by
 have:=Go.WideMaps.keyOf_string_mk Tryz.underlying9 (s:=ba x) (by show (ba x).data.size≤_;simp [ba,maxLen];omega)
 rw [ba_list] at this
 exact this
end Go.Proofs.YtkkolclmfcmfbaaGreatDoor
