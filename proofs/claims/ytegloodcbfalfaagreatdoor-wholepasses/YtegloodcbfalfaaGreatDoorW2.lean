/-
  Of the proof of WholePasses: TE, RA, C, D, F, RB, TF, TD, G, TG, TH, TI, TJ, TL.
-/
import Derived.Test.YtegloodcbfalfaaGreatDoorW1
import Derived.Maps.OwnSet
import Derived.Maps.RangeWalk
import Derived.StringKeys
import Derived.Shelf.Abstract
import Derived.Deep.QuietTactic
import Derived.BigQuiet
import Derived.Test.YtegloodcbfalfaaGreatDoorSh
import Derived.ChangeAgain
import Derived.Laws.OwnMore
import Derived.Deep.RegionWith
import Derived.Lib.AtoiAllCases
set_option linter.unusedVariables false
set_option linter.unusedSimpArgs false
set_option maxHeartbeats 40000000
set_option maxRecDepth 100000
namespace Go.Proofs.YtegloodcbfalfaaGreatDoor
open Go.RowKit Go.Maps Go.ChangeMaps
open Go.WideMaps (KeyLaw string_law keyOf_string_mk)
theorem wL {H:Type} {P:Program} (w:World) {ops:Array Oper} {rest:List Oper} {o:Oper} {a:Act} {Q:Exit→Act→World→Prop}
 (hg:o.guard=none) (m x v:Operand) (t:TypeId) (hop:o.op=Op.insert t m x v)
 (k e:TypeId) (K:Keyed P k) (ht:P.underlying t=some (.map k e)) (R:Value→Option (DataW H × List MemPlace)) (b n:Nat) (D:DataW H)
 (hm:a.eval m=.map (some b)) (hown:w.ownsMap P k R b n D) (hn:n<maxLen) (key val:Value) (kl:Lit) (hx:a.eval x=key) (hv:a.eval v=val) (hkey:keyOf P k key=some kl)
 (d:DataW H) (ps:List MemPlace) (hval:R val=some (d,ps))
 (hK:∀ w', w'.ownsMap P k R b (n+1) (D.put kl d)→w.grownBy w' (some b)→wpList P ops Q rest (a.put o.dst undef) w') :
 wpList P ops Q (o::rest) a w:=by
 refine wpList_plain hg fun K' hK' =>?_
 obtain ⟨w', hrun,r1,r2⟩:=hown.update K ht hn hkey hval
 unfold Oper.wp
 simp [execOp,hop,hm,hx,hv,hrun,Result.andThen]
 exact hK' _ _ (hK w' r1 r2)
theorem aRI:KeyLaw Tryz.prog 9:=string_law Tryz.underlying9
def DD:DataW Unit:=rR.zipIdx.foldl (fun D p=>D.put (.string p.1) (.lit (.int .i64 (p.2:Nat)))) (.map [])
theorem UJ (x:List UInt8):∀ (l:List (List UInt8 × Nat)) (D:DataW Unit),IsMap D→(l.map (·.1)).Nodup →
 ∀ z,(l.foldl (fun D p=>D.put (.string p.1) (.lit (.int .i64 (p.2:Nat)))) D).atKey (.string x) z=match l.find? (fun p=>p.1==x) with
  | some p=>.lit (.int .i64 (p.2:Nat))
  | none=>D.atKey (.string x) z
 | [],D,hD,hn,z=>rfl
 | p::l,D,hD,hn,z=>by
  rw [List.foldl_cons,UJ x l _ (hD.put _ _) (List.nodup_cons.1 hn).2 z,List.find?_cons]
  by_cases e:p.1=x
  ·have hno:l.find? (fun q=>q.1==x)=none:=by
    rw [List.find?_eq_none]
    intro q hq he
    have:q.1=x:=by simpa using he
    exact (List.nodup_cons.1 hn).1 (by show p.1∈_;rw [e,← this];exact List.mem_map_of_mem hq)
   rw [hno]
   simp only [e,beq_self_eq_true]
   exact atKey_put_same hD (by trivial) _ _
  ·have:(p.1==x)=false:=by simpa using e
   rw [this]
   simp only
   split
   ·rfl
   ·exact atKey_put_other (by intro h;exact e (Lit.string.inj h).symm) _ _
theorem OQ (x:List UInt8) (z:DataW Unit):DD.atKey (.string x) z=match qZ x with
 | some o=>.lit (.int .i64 (o:Nat))
 | none=>z:=by
 unfold DD
 rw [UJ x _ _ isMap_empty aL z]
 unfold qZ
 have key:∀ (l:List (List UInt8)) (k:Nat),((l.zipIdx k).find? (fun p=>p.1==x)).map (·.2)=(l.findIdx? (·==x)).map (·+k):=by
  intro l
  induction l with
  | nil=>intro k;rfl
  | cons y l ih =>
   intro k
   rw [List.zipIdx_cons,List.find?_cons,List.findIdx?_cons]
   by_cases e:(y==x)=true
   ·simp [e]
   ·have e' :(y==x)=false:=by simpa using e
    simp only [e', if_false,Bool.false_eq_true]
    rw [ih]
    cases l.findIdx? (·==x) <;> simp <;> omega
 have k0:=key rR 0
 cases e1:rR.findIdx? (·==x) with
 | none =>
  rw [e1] at k0
  cases e2:rR.zipIdx.find? (fun p=>p.1==x) with
  | none=>simp only;rfl
  | some p=>rw [e2] at k0;simp at k0
 | some o =>
  rw [e1] at k0
  cases e2:rR.zipIdx.find? (fun p=>p.1==x) with
  | none=>rw [e2] at k0;simp at k0
  | some p=>rw [e2] at k0;simp at k0;simp only;rw [k0]
theorem OT (x:List UInt8):Maps.has DD (.string x)=(qZ x).isSome:=by
 cases e:qZ x with
 | none=>exact has_false_of_atKey fun z=>by rw [OQ,e]
 | some o=>exact has_true_of_atKey (y:=.lit (.int .i64 (o:Nat))) fun z=>by rw [OQ,e]
theorem sH (w:World):Calls Tryz.prog 84 #[] w fun e w' =>e=.returned (.map (some w.heap.size))∧w'.ownsMap Tryz.prog 9 (plainElem Tryz.prog 3) w.heap.size 13 DD∧Below w.heap.size w w' :=by
 have KK:=Keyed.of_law aRI
 have hown:=World.ownsMap_made (H:=Unit) w Tryz.prog 9 (plainElem Tryz.prog 3)
 have hB:Below w.heap.size w (w.alloc (.map #[] 0)):=dY
 have hmk:∀ W:World,Sem.run Tryz.prog (Instr.makeMap 136 none) W=.ok (.map (some W.heap.size)) (W.alloc (.map #[] 0)):=fun W=>rfl
 have jP:13<maxLen:=by decide
 go_enter Tryz.func84,Tryz.ntmps84
 go_wp2_with (refine wL _ rfl _ _ _ 136 rfl 9 3 KK Tryz.underlying136 _ w.heap.size _ _ rfl hown aF _ _ _ rfl rfl (keyOf_string_mk Tryz.underlying9 aL) _ [] (plainElem_int Tryz.underlying3 aL) ?_;have hlt:=hown.lt;clear hown;intro w1 hown hg1;replace hB:=hB.grown hg1 aF (fun k hk=>by have:=Option.some.inj hk;omega);clear hg1 hlt)
 go_ret
 refine ⟨rfl,hown,hB⟩
end Go.Proofs.YtegloodcbfalfaaGreatDoor
namespace Go.Proofs.YtegloodcbfalfaaGreatDoor
open Go.RowKit
theorem aFQ (op a b:Int) (w:World) :
 Calls Tryz.prog 120 #[.int .i64 op,.int .i64 a,.int .i64 b] w fun e w' =>e=.returned (.int .i64 (rk op a b))∧w' =w:=by
 go_enter Tryz.func120,Tryz.ntmps120
 go_wp2
 all_goals go_ret
 all_goals refine ⟨bU ?_,rfl⟩
 all_goals simp_all [rk]
theorem DF (r:Int) (b off cap:Nat) (ns:List Nd) (w:World) (hN:aH w b off ns) (hl:ns.length≤256) :
 Calls Tryz.prog 32 #[.agg #[.int .i64 r,.slice (some ⟨b,off,none⟩) ns.length cap]] w fun e w' =>e=.returned (.bool (ns.all fun x=>kn x.op))∧Below w.heap.size w w' :=by
 go_enter Tryz.func32,Tryz.ntmps32
 go_wp2
 go_loopw [10] (fun i wr=>∃ k:Nat,k≤ns.length∧i=.int .i64 k∧Hid ((ns.take k).all (fun x=>kn x.op)=true)∧Below w.heap.size w wr) (fun i _=>ns.length-(intOf i).toNat)
 case atStart=>exact ⟨0,Nat.zero_le _,rfl,rfl,dY⟩
 case round =>
  obtain ⟨k,hk,rfl,hA,hb⟩:=hrel
  have hN' :=hN.below hb hN.lt
  have hlt' :=hN'.lt
  have hsz:=hb.size
  by_cases hlt:k<ns.length
  ·obtain ⟨x,hx⟩:=bD hlt
   have c0:=hN'.c0 k x hx
   have c1:=hN'.c1 k x hx
   have c2:=hN'.c2 k x hx
   have c3:=hN'.c3 k x hx
   have c4:=hN'.c4 k x hx
   have c5:=hN'.c5 k x hx
   have HX:Hid (ns[k]?=some x):=hx
   clear hx hN'
   go_wp2_with fail
   refine (nE _ _).mono ?_
   rintro e w1 ⟨rfl,hb1⟩
   have hs1:=hb1.size
   simp only [World.size_alloc] at hs1 hb1
   have hB:Below w.heap.size w w1:=(hb.alloc hsz _).trans (hb1.mono aF)
   clear hb1 c0 c1 c2 c3 c4 c5
   cases hkn:kn x.op
   ·go_wp2
    go_ret
    exact ⟨aO (dQ (fun x:Nd=>kn x.op) HX.out hkn).symm,hB.alloc aF _⟩
   ·go_wp2
    go_roundw
    case rel=>exact ⟨k+1,aF,by go_num,(by show _=_;rw [fE _ HX.out,hA.out,hkn];rfl),hB.alloc aF _⟩
    case measure=>simp [intOf];omega
  ·go_wp2
   go_ret
   refine ⟨aO ?_,hb⟩
   rw [← hA.out,fV aF]
theorem aKQ (a0 a1 a2 a3 a4:Value) (w:World):(Instr.index 103 (.agg #[a0,a1,a2,a3,a4]) (.int .i64 0)).run Tryz.prog w=.ok a0 w:=by kernel_rfl
theorem aKR (a0 a1 a2 a3 a4:Value) (w:World):(Instr.index 103 (.agg #[a0,a1,a2,a3,a4]) (.int .i64 1)).run Tryz.prog w=.ok a1 w:=by kernel_rfl
theorem aKS (a0 a1 a2 a3 a4:Value) (w:World):(Instr.index 103 (.agg #[a0,a1,a2,a3,a4]) (.int .i64 2)).run Tryz.prog w=.ok a2 w:=by kernel_rfl
theorem aKT (a0 a1 a2 a3 a4:Value) (w:World):(Instr.index 103 (.agg #[a0,a1,a2,a3,a4]) (.int .i64 3)).run Tryz.prog w=.ok a3 w:=by kernel_rfl
theorem aKU (a0 a1 a2 a3 a4:Value) (w:World):(Instr.index 103 (.agg #[a0,a1,a2,a3,a4]) (.int .i64 4)).run Tryz.prog w=.ok a4 w:=by kernel_rfl
theorem uZ (R:Int→Int→Bool) (g:Nat) (cb:Array Value) (r:Int) (b off cap:Nat) (ns:List Nd) (w:World) (hN:aH w b off ns) (hl:ns.length≤256)
 (eg:∀ args w,(callFunc g args).run Tryz.prog w=.ok (.enter g args) w)
 (hg:∀ (k v:Int) (W:World),Below w.heap.size w W→Calls Tryz.prog g (#[.int .i64 k,.int .i64 v]++cb) W fun e w' =>e=.returned (.bool (R k v))∧Below W.heap.size W w') :
 Calls Tryz.prog 34 #[.agg #[.int .i64 r,.slice (some ⟨b,off,none⟩) ns.length cap],.func (.func g) #[] cb] w fun e w' =>e=.returned (.bool (ns.all (aX R)))∧Below w.heap.size w w' :=by
 go_enter Tryz.func34,Tryz.ntmps34
 go_wp2
 go_loopw [14] (fun i wr=>∃ k:Nat,k≤ns.length∧i=.int .i64 k∧Hid ((ns.take k).all (aX R)=true)∧Below w.heap.size w wr) (fun i _=>ns.length-(intOf i).toNat)
 case atStart=>exact ⟨0,Nat.zero_le _,rfl,rfl,dY⟩
 case round =>
  obtain ⟨k,hk,rfl,hA,hb⟩:=hrel
  have hN' :=hN.below hb hN.lt
  have hlt' :=hN'.lt
  have hsz:=hb.size
  by_cases hlt:k<ns.length
  ·obtain ⟨x,hx⟩:=bD hlt
   have c0:=hN'.c0 k x hx
   have c1:=hN'.c1 k x hx
   have c2:=hN'.c2 k x hx
   have c3:=hN'.c3 k x hx
   have c4:=hN'.c4 k x hx
   have c5:=hN'.c5 k x hx
   have HX:Hid (ns[k]?=some x):=hx
   clear hx hN'
   go_wp2_with fail
   refine (nE _ _).mono ?_
   rintro e w1 ⟨rfl,hb1⟩
   have hs1:=hb1.size
   simp only [World.size_alloc] at hs1 hb1
   have hB:Below w.heap.size w w1:=(hb.alloc hsz _).trans (hb1.mono aF)
   have d:∀ o,o<6→w1.cell? ⟨wr.heap.size,o,none⟩=#[Value.int .i64 x.op,.int .i64 x.d,.int .i64 x.a,.int .i64 x.b,.int .i64 x.t,.int .i64 x.e][o]? :=by
    intro o _;rw [hb1.cell (p:=⟨wr.heap.size,o,none⟩) aQ];simp
   have d0:=d 0 aF
   have d1:=d 1 aF
   have d2:=d 2 aF
   have d3:=d 3 aF
   have d4:=d 4 aF
   have d5:=d 5 aF
   simp at d0 d1 d2 d3 d4 d5
   clear hb1 c0 c1 c2 c3 c4 c5 d
   have hw1:wr.heap.size<w1.heap.size:=by omega
   go_wp2_with fail
   refine (CF _ _ _ _ _ _ _).mono ?_
   rintro e w2 ⟨rfl,hb2⟩
   have hs2:=hb2.size
   simp only [World.size_alloc] at hs2 hb2
   have hB2:Below w.heap.size w w2:=(hB.alloc aF _).trans (hb2.mono aF)
   have kc:∀ o,w2.cell? ⟨w1.heap.size,o,none⟩=#[Value.int .i64 (k0 x.op),.int .i64 (k1 x.op),.int .i64 (k2 x.op),.int .i64 (k3 x.op),.int .i64 (k4 x.op)][o]? :=by
    intro o;rw [hb2.cell (p:=⟨w1.heap.size,o,none⟩) aQ];simp
   clear hb2 d0 d1 d2 d3 d4 d5
   have HG:=aB hg
   clear hg
   go_wp2
   go_loopw [26] (fun j wv=>∃ m:Nat,m≤5∧j=.int .i64 m∧Hid (((IX x).take m).all (fun p=>R p.1 p.2)=true)∧Below (w1.heap.size+1) w2 wv) (fun j _=>5-(intOf j).toNat)
   case atStart=>exact ⟨0,Nat.zero_le _,rfl,rfl,Below.refl _ _⟩
   case round =>
    obtain ⟨m,hm,rfl,hM,hv⟩:=hrel
    have hvs:=hv.size
    have hBv:Below w.heap.size w wr:=hB2.trans (hv.mono aF)
    have kc' :∀ o,wr.cell? ⟨w1.heap.size,o,none⟩=#[Value.int .i64 (k0 x.op),.int .i64 (k1 x.op),.int .i64 (k2 x.op),.int .i64 (k3 x.op),.int .i64 (k4 x.op)][o]? :=by
     intro o;rw [hv.cell (p:=⟨w1.heap.size,o,none⟩) aQ];exact kc o
    have kc0:=kc' 0
    have kc1:=kc' 1
    have kc2:=kc' 2
    have kc3:=kc' 3
    have kc4:=kc' 4
    simp at kc0 kc1 kc2 kc3 kc4
    clear kc' kc
    match m,hm with
    | 0,_ =>
     have i0:=aKQ
     go_wp2_with fail
     refine (HG.out _ _ _ hBv).mono ?_
     rintro e w3 ⟨rfl,hb3⟩
     have hs3:=hb3.size
     have hB3:Below w.heap.size w w3:=hBv.trans (hb3.mono aF)
     cases hR:R (k0 x.op) x.d
     ·go_wp2
      go_ret
      exact ⟨aO (dQ (aX R) HX.out (by simp [aX,IX,hR])).symm,hB3⟩
     ·go_wp2
      go_roundw
      case rel=>exact ⟨1,aF,by go_num,(by show _=_;simp [IX,hR]),hv.trans (hb3.mono aF)⟩
      case measure=>simp [intOf]
    | 1,_ =>
     have i1:=aKR
     go_wp2_with fail
     refine (HG.out _ _ _ hBv).mono ?_
     rintro e w3 ⟨rfl,hb3⟩
     have hs3:=hb3.size
     have hB3:Below w.heap.size w w3:=hBv.trans (hb3.mono aF)
     cases hR:R (k1 x.op) x.a
     ·go_wp2
      go_ret
      exact ⟨aO (dQ (aX R) HX.out (by simp [aX,IX,hR])).symm,hB3⟩
     ·go_wp2
      go_roundw
      case rel=>exact ⟨2,aF,by go_num,(by have:=hM.out;show _=_;simp [IX] at this ⊢;simp [this,hR]),hv.trans (hb3.mono aF)⟩
      case measure=>simp [intOf]
    | 2,_ =>
     have i2:=aKS
     go_wp2_with fail
     refine (HG.out _ _ _ hBv).mono ?_
     rintro e w3 ⟨rfl,hb3⟩
     have hs3:=hb3.size
     have hB3:Below w.heap.size w w3:=hBv.trans (hb3.mono aF)
     cases hR:R (k2 x.op) x.b
     ·go_wp2
      go_ret
      exact ⟨aO (dQ (aX R) HX.out (by simp [aX,IX,hR])).symm,hB3⟩
     ·go_wp2
      go_roundw
      case rel=>exact ⟨3,aF,by go_num,(by have:=hM.out;show _=_;simp [IX] at this ⊢;simp [this,hR]),hv.trans (hb3.mono aF)⟩
      case measure=>simp [intOf]
    | 3,_ =>
     have i3:=aKT
     go_wp2_with fail
     refine (HG.out _ _ _ hBv).mono ?_
     rintro e w3 ⟨rfl,hb3⟩
     have hs3:=hb3.size
     have hB3:Below w.heap.size w w3:=hBv.trans (hb3.mono aF)
     cases hR:R (k3 x.op) x.t
     ·go_wp2
      go_ret
      exact ⟨aO (dQ (aX R) HX.out (by simp [aX,IX,hR])).symm,hB3⟩
     ·go_wp2
      go_roundw
      case rel=>exact ⟨4,aF,by go_num,(by have:=hM.out;show _=_;simp [IX] at this ⊢;simp [this,hR]),hv.trans (hb3.mono aF)⟩
      case measure=>simp [intOf]
    | 4,_ =>
     have i4:=aKU
     go_wp2_with fail
     refine (HG.out _ _ _ hBv).mono ?_
     rintro e w3 ⟨rfl,hb3⟩
     have hs3:=hb3.size
     have hB3:Below w.heap.size w w3:=hBv.trans (hb3.mono aF)
     cases hR:R (k4 x.op) x.e
     ·go_wp2
      go_ret
      exact ⟨aO (dQ (aX R) HX.out (by simp [aX,IX,hR])).symm,hB3⟩
     ·go_wp2
      go_roundw
      case rel=>exact ⟨5,aF,by go_num,(by have:=hM.out;show _=_;simp [IX] at this ⊢;simp [this,hR]),hv.trans (hb3.mono aF)⟩
      case measure=>simp [intOf]
    | 5,_ =>
     go_wp2
     go_roundw
     case rel=>exact ⟨k+1,aF,by go_num,(by have h5:=hM.out;show _=_;rw [fE _ HX.out,hA.out];simpa [aX,IX] using h5),hBv⟩
     case measure=>simp [intOf];omega
    | n+6,hm=>omega
  ·go_wp2
   go_ret
   refine ⟨aO ?_,hb⟩
   rw [← hA.out,fV aF]
def pI (w:World) (a:Option Addr) (ns:List Nd):Prop:=ns=[]∨∃ b off,a=some ⟨b,off,none⟩∧aH w b off ns
theorem pI.below {w w' :World} {a:Option Addr} {ns:List Nd} (h:pI w a ns) (hb:Below w.heap.size w w'):pI w' a ns:=by
 rcases h with h | ⟨b,off,rfl,h⟩
 ·exact Or.inl h
 ·exact Or.inr ⟨b,off,rfl,h.below hb h.lt⟩
theorem pI.some {w:World} {a:Option Addr} {ns:List Nd} (h:pI w a ns) (h1:1≤ns.length):∃ b off,a=.some ⟨b,off,none⟩∧aH w b off ns:=by
 rcases h with rfl | h
 ·simp at h1
 ·exact h
theorem aAB (r:Int) (a:Option Addr) (cap:Nat) (ns:List Nd) (w:World) (h:(wi ns.length 1 256&&wi r 1 64)=false) :
 Calls Tryz.prog 10 #[.agg #[.int .i64 r,.slice a ns.length cap]] w fun e w' =>e=.returned (.int .i64 2)∧Below w.heap.size w w' :=by
 cases h1:wi ns.length 1 256
 ·go_enter Tryz.func10,Tryz.ntmps10
  go_wp2_with (go_at_call 31;refine (lN _ _ _ _).mono ?_;rintro e w' ⟨rfl,rfl⟩)
  go_ret
  exact ⟨rfl,dY⟩
 ·have h2:wi r 1 64=false:=by simpa [h1] using h
  clear h
  go_enter Tryz.func10,Tryz.ntmps10
  go_wp2_with (go_at_call 31;refine (lN _ _ _ _).mono ?_;rintro e w' ⟨rfl,rfl⟩)
  go_ret
  exact ⟨rfl,dY⟩
theorem aAC (r:Int) (b off cap:Nat) (ns:List Nd) (w:World) (hN:aH w b off ns) (h1:wi ns.length 1 256=true) (h2:wi r 1 64=true) :
 Calls Tryz.prog 10 #[.agg #[.int .i64 r,.slice (some ⟨b,off,none⟩) ns.length cap]] w fun e w' =>e=.returned (.int .i64 (bM r ns))∧Below w.heap.size w w' :=by
 have b1:=aY.1 h1
 have b2:=aY.1 h2
 have hblt:=hN.lt
 have hl:ns.length≤256:=by omega
 have eg1:∀ args w,(callFunc 33 args).run Tryz.prog w=.ok (.enter 33 args) w:=enters_of Tryz.func33 fJ rfl
 have eg2:∀ args w,(callFunc 35 args).run Tryz.prog w=.ok (.enter 35 args) w:=enters_of Tryz.func35 fJ rfl
 have HC:Hid (bM r ns=if ns.all (fun x=>kn x.op) then if ns.all (aX (mG r ns.length)) then if ns.all (aX nH) then 0 else 1 else 3 else 4):=by
  show _=_;simp [bM,h1,h2]
 generalize bM r ns=C at HC ⊢
 go_enter Tryz.func10,Tryz.ntmps10
 go_wp2_with (go_at_call 31;refine (lN _ _ _ _).mono ?_;rintro e w' ⟨rfl,rfl⟩)
 have hNa:aH (w.alloc (.cells #[.int .i64 r,.slice (some ⟨b,off,none⟩) ns.length cap] 24)) b off ns:=hN.below ((Below.refl w.heap.size w).alloc dD _) hN.lt
 refine (DF r b off cap ns _ hNa hl).mono ?_
 rintro e w1 ⟨rfl,hb1⟩
 have hs1:=hb1.size
 simp only [World.size_alloc] at hs1 hb1
 have hB1:Below w.heap.size w w1:=(dY).trans (hb1.mono aF)
 cases hk:ns.all (fun x=>kn x.op)
 ·go_wp2
  go_ret
  refine ⟨bU ?_,hB1⟩
  rw [HC.out,hk];rfl
 have q0:w1.cell? ⟨w.heap.size,0,none⟩=some (.int .i64 r):=by rw [hb1.cell (p:=⟨w.heap.size,0,none⟩) aQ];simp
 have q1:w1.cell? ⟨w.heap.size,1,none⟩=some (.slice (some ⟨b,off,none⟩) ns.length cap):=by rw [hb1.cell (p:=⟨w.heap.size,1,none⟩) aQ];simp
 have UK :w.heap.size<w1.heap.size:=by omega
 have hN1:aH w1 b off ns:=hN.below hB1 hN.lt
 go_wp2_with fail
 refine (uZ (mG r ns.length) 33 #[.pointer (some ⟨w.heap.size,0,none⟩)] r b off cap ns w1 hN1 hl eg1 ?_).mono ?_
 ·intro k v W hW
  refine (aRD k v r w.heap.size (some ⟨b,off,none⟩) ns.length cap W b2 hl (by rw [hW.cell (p:=⟨w.heap.size,0,none⟩) UK];exact q0) (by rw [hW.cell (p:=⟨w.heap.size,1,none⟩) UK];exact q1)).mono ?_
  rintro e w' ⟨rfl,rfl⟩
  exact ⟨rfl,Below.refl _ _⟩
 rintro e w2 ⟨rfl,hb2⟩
 have hs2:=hb2.size
 have hB2:Below w.heap.size w w2:=hB1.trans (hb2.mono aF)
 cases hi:ns.all (aX (mG r ns.length))
 ·go_wp2
  go_ret
  refine ⟨bU ?_,hB2⟩
  rw [HC.out,hk,hi];rfl
 have p0:w2.cell? ⟨w.heap.size,0,none⟩=some (.int .i64 r):=by rw [hb2.cell (p:=⟨w.heap.size,0,none⟩) UK];exact q0
 have p1:w2.cell? ⟨w.heap.size,1,none⟩=some (.slice (some ⟨b,off,none⟩) ns.length cap):=by rw [hb2.cell (p:=⟨w.heap.size,1,none⟩) UK];exact q1
 have kQ:aH w2 b off ns:=hN.below hB2 hN.lt
 have bHJ :w.heap.size<w2.heap.size:=by omega
 clear q0 q1
 go_wp2_with fail
 refine (uZ nH 35 #[] r b off cap ns w2 kQ hl eg2 ?_).mono ?_
 ·intro k v W hW
  refine (aRE k v W).mono ?_
  rintro e w' ⟨rfl,rfl⟩
  exact ⟨rfl,Below.refl _ _⟩
 rintro e w3 ⟨rfl,hb3⟩
 have hB3:Below w.heap.size w w3:=hB2.trans (hb3.mono aF)
 cases hf:ns.all (aX nH)
 ·go_wp2
  go_ret
  refine ⟨bU ?_,hB3⟩
  rw [HC.out,hk,hi,hf];rfl
 ·go_wp2
  go_ret
  refine ⟨bU ?_,hB3⟩
  rw [HC.out,hk,hi,hf];rfl
theorem fG (r:Int) (a:Option Addr) (cap:Nat) (ns:List Nd) (w:World) (hN:pI w a ns) :
 Calls Tryz.prog 10 #[.agg #[.int .i64 r,.slice a ns.length cap]] w fun e w' =>e=.returned (.int .i64 (bM r ns))∧Below w.heap.size w w' :=by
 cases h:(wi ns.length 1 256&&wi r 1 64)
 ·have e:bM r ns=2:=by simp [bM,h]
  rw [e];exact aAB r a cap ns w h
 ·rw [Bool.and_eq_true] at h
  obtain ⟨b,off,rfl,hN'⟩:=hN.some (by have:=(aY.1 h.1).1;omega)
  exact aAC r b off cap ns w hN' h.1 h.2
def dW (w:World) (a:Option Addr) (zs:List Int):Prop :=
 zs=[]∨∃ b off,a=some ⟨b,off,none⟩∧b<w.heap.size∧∀ (j:Nat) (z:Int),zs[j]?=some z→w.cell? ⟨b,off+j,none⟩=some (.int .i64 z)
theorem dW.below {w w' :World} {a:Option Addr} {zs:List Int} (h:dW w a zs) (hb:Below w.heap.size w w'):dW w' a zs:=by
 rcases h with h | ⟨b,off,rfl,hlt,h⟩
 ·exact Or.inl h
 ·exact Or.inr ⟨b,off,rfl,Nat.lt_of_lt_of_le hlt hb.size,fun j z hz=>by rw [hb.cell (p:=⟨b,_,none⟩) hlt];exact h j z hz⟩
theorem dW.at {w:World} {a:Option Addr} {zs:List Int} (h:dW w a zs) {k:Nat} (hk:k<zs.length):∃ b off,a=some ⟨b,off,none⟩∧b<w.heap.size∧∀ (j:Nat) (z:Int),zs[j]?=some z→w.cell? ⟨b,off+j,none⟩=some (.int .i64 z):=by
 rcases h with rfl | h
 ·simp at hk
 ·exact h
theorem UL {α:Type} [BEq α] [LawfulBEq α] {xs ys:List α} (h:xs.length≠ys.length):(xs==ys)=false:=by
 rw [beq_eq_false_iff_ne];intro e;exact h (by rw [e])
theorem aAD {α:Type} [BEq α] [LawfulBEq α] {xs ys:List α} {k:Nat} {x y:α} (hx:xs[k]?=some x) (hy:ys[k]?=some y) (h:x≠y):(xs==ys)=false:=by
 rw [beq_eq_false_iff_ne];intro e;subst e;rw [hx] at hy;exact h (Option.some.inj hy)
theorem OU {α:Type} {xs ys:List α} {k:Nat} {x y:α} (hx:xs[k]?=some x) (hy:ys[k]?=some y) (h:xs.take k=ys.take k) (e:x=y):xs.take (k+1)=ys.take (k+1):=by
 rw [iH hx,iH hy,h,e]
theorem OV (a b:Option Addr) (ca cb:Nat) (xs ys:List Int) (w:World) (hx:dW w a xs) (hy:dW w b ys) (hl:xs.length≤140737488351232) (hl' :ys.length≤140737488351232) :
 Calls Tryz.prog 28 #[.slice a xs.length ca,.slice b ys.length cb] w fun e w' =>e=.returned (.bool (xs==ys))∧∃ n,w' =w.drewN n:=by
 by_cases hne:xs.length=ys.length
 ·have HE:Hid (xs.length=ys.length):=hne
  have h1:((xs.length:Int) != (ys.length:Int))=false:=by simp [hne]
  have hle:xs.length≤ys.length:=by omega
  clear hne
  go_enter Tryz.func28,Tryz.ntmps28
  go_wp2
  go_loopw [5] (fun i wr=>∃ k:Nat,k≤xs.length∧i=.int .i64 k∧Hid (xs.take k=ys.take k)∧∃ n,wr=w.drewN n) (fun i _=>xs.length-(intOf i).toNat)
  case atStart=>exact ⟨0,Nat.zero_le _,rfl,by show _=_;simp,0,rfl⟩
  case round =>
   obtain ⟨k,hk,rfl,hT,n,rfl⟩:=hrel
   by_cases hlt:k<xs.length
   ·have hlt2:k<ys.length:=by omega
    obtain ⟨x,gx⟩:=bD hlt
    obtain ⟨y,gy⟩:=bD hlt2
    obtain ⟨ba,oa,rfl,ha,fa⟩:=hx.at hlt
    obtain ⟨bb,ob,rfl,hb,fb⟩:=hy.at hlt2
    have c1:=fa k x gx
    have c2:=fb k y gy
    have GX:=aB gx
    have GY:=aB gy
    clear gx gy fa fb
    go_wp2
    go_quiet (fail)
    by_cases hxy:x=y
    ·subst hxy
     go_wp2
     go_roundw
     case rel=>exact ⟨k+1,aF,by go_num,OU GX.out GY.out hT.out rfl,n+nq,by first | rfl | (simp only [World.drewN_drewN])⟩
     case measure=>simp [intOf];omega
    ·have hb' :(x != y)=true:=by simp [hxy]
     go_wp2
     go_ret
     exact ⟨aO (aAD GX.out GY.out hxy).symm,n+nq,by first | rfl | (simp only [World.drewN_drewN])⟩
   ·go_wp2
    go_ret
    refine ⟨aO ?_,n,rfl⟩
    have e1:xs=ys:=by
     have h:=hT.out
     rw [List.take_of_length_le aF,List.take_of_length_le (by have:=HE.out;omega)] at h;exact h
    simp [e1]
 ·have h1:((xs.length:Int) != (ys.length:Int))=true:=by simp;omega
  have HE:Hid (¬ xs.length=ys.length):=hne
  clear hne
  go_enter Tryz.func28,Tryz.ntmps28
  go_wp2
  go_ret
  exact ⟨aO (UL HE.out).symm,0,rfl⟩
theorem aG {w:World} {b i:Nat} {cs:Array Value} {t:TypeId} {fr:Nat × Nat} (v:Value) (h:w.heap[b]?=some (.cells cs t fr)):(w.setCell ⟨b,i,none⟩ v).heap[b]?=some (.cells (cs.setIfInBounds i v) t fr):=by
 simp [World.setCell,Array.getElem?_modify,h]
theorem aN {w:World} {b b' i:Nat} {o:Obj} (v:Value) (h:w.heap[b]?=some o) (hne:b≠b'):(w.setCell ⟨b', i,none⟩ v).heap[b]?=some o:=by
 rw [Below.heap_setCell _ _ _ _ (by exact hne)];exact h
theorem aT {w:World} {b:Nat} {o:Obj} (o' :Obj) (h:w.heap[b]?=some o):(w.alloc o').heap[b]?=some o:=by
 rw [Below.heap_alloc _ _ _ (Array.getElem?_eq_some_iff.1 h).1];exact h
theorem lU {w:World} {b:Nat} {o:Obj} (h:w.heap[b]?=some o):w.drew.heap[b]?=some o:=h
theorem aD {w:World} {b:Nat} {o:Obj} (h:w.heap[b]?=some o):b<w.heap.size:=(Array.getElem?_eq_some_iff.1 h).1
theorem aA {w:World} {b:Nat} {cs:Array Value} {t:TypeId} {fr:Nat × Nat} (h:w.heap[b]?=some (.cells cs t fr)) (i:Nat):w.cell? ⟨b,i,none⟩=cs[i]? :=by
 simp [World.cell?,h]
theorem aC {w:World} {b:Nat} {cs:Array Value} {t:TypeId} (h:w.heap[b]?=some (.cells cs t (0,0))) (i:Nat):w.frozen? ⟨b,i,none⟩=false:=by
 simp [World.frozen?,h]
def AJ (w:World) (B:Nat) (a:Option Addr) (zs:List Int):Prop :=
 zs=[]∨∃ b off,a=some ⟨b,off,none⟩∧b<B∧∀ (j:Nat) (z:Int),zs[j]?=some z→w.cell? ⟨b,off+j,none⟩=some (.int .i64 z)
theorem AJ.below {w w' :World} {B:Nat} {a:Option Addr} {zs:List Int} (h:AJ w B a zs) (hb:Below B w w'):AJ w' B a zs:=by
 rcases h with h | ⟨b,off,rfl,hlt,h⟩
 ·exact Or.inl h
 ·exact Or.inr ⟨b,off,rfl,hlt,fun j z hz=>by rw [hb.cell (p:=⟨b,_,none⟩) hlt];exact h j z hz⟩
theorem aAE (mb:Nat) (v0 v1 v2 v3 v4 v5 v6 v8 v9:Value) (ia:Option Addr) (ic:Nat) (w:World)
 (hm:w.heap[mb]?=some (.cells #[v0,v1,v2,v3,v4,v5,v6,.slice ia 0 ic,v8,v9] 96 (0,0))) :
 Calls Tryz.prog 92 #[.pointer (some ⟨mb,0,none⟩)] w fun e w' =>e=.returned (.int .i64 0)∧w' =w:=by
 have c7:=aA hm 7
 simp at c7
 clear hm
 go_enter Tryz.func92,Tryz.ntmps92
 go_wp2
 go_ret
 exact ⟨rfl,rfl⟩
theorem UN (mb:Nat) (v0 v1 v2 v3 v4 v5 v6 v8 v9:Value) (b off l ic:Nat) (z:Int) (w:World) (hl:l+1≤ic)
 (hm:w.heap[mb]?=some (.cells #[v0,v1,v2,v3,v4,v5,v6,.slice (some ⟨b,off,none⟩) (l+1) ic,v8,v9] 96 (0,0))) (hz:w.cell? ⟨b,off,none⟩=some (.int .i64 z)) :
 Calls Tryz.prog 92 #[.pointer (some ⟨mb,0,none⟩)] w fun e w' =>e=.returned (.int .i64 z)∧∃ ia vN, w' =w.setCell ⟨mb,7,none⟩ (.slice ia l vN)∧l≤vN ∧(l=0∨ia=some ⟨b,off+1,none⟩):=by
 have c7:=aA hm 7
 have f7:=aC hm 7
 simp at c7
 clear hm
 have hne:(((l+1:Nat):Int)==0)=false:=by simp;omega
 by_cases hc:ic=1
 ·subst hc
  have hl0:l=0:=by omega
  subst hl0
  go_enter Tryz.func92,Tryz.ntmps92
  go_wp2
  go_ret
  exact ⟨rfl,_,_,rfl,Nat.zero_le _,Or.inl (by first | rfl | trivial)⟩
 ·have hc1:(1:Nat)<ic:=by omega
  go_enter Tryz.func92,Tryz.ntmps92
  go_wp2
  go_ret
  exact ⟨rfl,_,ic-1,rfl,aF,Or.inr rfl⟩
end Go.Proofs.YtegloodcbfalfaaGreatDoor
namespace Go.Proofs.YtegloodcbfalfaaGreatDoor
open Go.RowKit Go.Maps Go.ChangeMaps
open Go.WideMaps (KeyLaw string_law keyOf_string_mk string_of_keyOf)
theorem jA {w:World} {o:Obj} {n:Nat} (h:w.heap.size=n):(w.alloc o).heap[n]?=some o:=by subst h;exact (MapKept.heap_alloc w o).1
def ba (x:List UInt8):ByteArray:=⟨x.toArray⟩
def yH (left:Lit→Bool):List Value:=rR.map fun x=>.string (if left (.string x) then ⟨#[]⟩ else ba x)
theorem aVV:∀ i j:Fin 13,rR.getD i.1 []=rR.getD j.1 []→i=j:=by decide
theorem aDG {i j:Nat} {x:List UInt8} (hi:rR[i]?=some x) (hj:rR[j]?=some x):i=j:=by
 have li:i<13:=(List.getElem?_eq_some_iff.1 hi).1
 have lj:j<13:=(List.getElem?_eq_some_iff.1 hj).1
 have:=aVV ⟨i,li⟩ ⟨j,lj⟩ (by simp only [List.getD_eq_getElem?_getD,hi,hj])
 exact congrArg Fin.val this
theorem UO {x:List UInt8} {o:Nat} (h:qZ x=some o):rR[o]?=some x:=by
 unfold qZ at h
 obtain ⟨h1,h2,_⟩:=List.findIdx?_eq_some_iff_getElem.1 h
 rw [List.getElem?_eq_getElem h1]
 simpa using h2
theorem zM (x y:List UInt8):(Lit.string x).sameKey (.string y)=decide (x=y):=by
 by_cases e:x=y
 ·subst e;simp [Lit.sameKey]
 ·rw [sameKey_ne (fun h=>e (Lit.string.inj h))];simp [e]
theorem aFR {left:Lit→Bool} {x:List UInt8} {o:Nat} (h:rR[o]?=some x):yH (fun z=>left z&&!z.sameKey (.string x))=(yH left).set o (.string (ba x)):=by
 apply List.ext_getElem?
 intro i
 rw [List.getElem?_set]
 unfold yH
 by_cases e:o=i
 ·subst e
  have:o<(rR.map fun x=>Value.string (if left (.string x) then ⟨#[]⟩ else ba x)).length:=by
   rw [List.length_map];exact (List.getElem?_eq_some_iff.1 h).1
  rw [if_pos rfl,if_pos this,List.getElem?_map,h]
  simp [zM]
 ·rw [if_neg e,List.getElem?_map,List.getElem?_map]
  cases hi:rR[i]? with
  | none=>rfl
  | some y =>
   have hne:y≠x:=fun q=>e (aDG h (q ▸ hi))
   simp [zM,hne]
theorem aFS:yH (Maps.has DD)=List.replicate 13 (.string ⟨#[]⟩):=by
 have:∀ x∈rR,Maps.has DD (.string x)=true:=by
  intro x hx
  rw [OT]
  have:∀ y∈rR,(qZ y).isSome=true:=by decide
  exact this x hx
 unfold yH
 rw [List.map_congr_left (g:=fun _=>Value.string ⟨#[]⟩) (fun x hx=>by rw [this x hx];rfl)]
 rfl
theorem aKW {left:Lit→Bool} (h:∀ z,left z=false):yH left=rR.map fun x=>.string (ba x):=by
 unfold yH
 exact List.map_congr_left (fun x hx=>by rw [h];rfl)
def eY:Array Value:=(rR.map fun x=>Value.string (ba x)).toArray
theorem wM (i:Int) (w:World):Calls Tryz.prog 88 #[.int .i64 i] w fun e w' =>e=.returned (.string (if i=3 then ba toW else if i=4 then ba IZ else ⟨#[]⟩))∧w' =w:=by
 by_cases h3:i=3
 ·subst h3
  go_enter Tryz.func88,Tryz.ntmps88
  go_wp2
  go_ret
  exact ⟨rfl,rfl⟩
 ·by_cases h4:i=4
  ·subst h4
   go_enter Tryz.func88,Tryz.ntmps88
   go_wp2
   go_ret
   exact ⟨rfl,rfl⟩
  ·rw [if_neg h3,if_neg h4]
   go_enter Tryz.func88,Tryz.ntmps88
   go_wp2
   go_ret
   exact ⟨rfl,rfl⟩
theorem JB (w:World):Calls Tryz.prog 47 #[] w fun e w' =>e=.returned (.agg eY)∧Below w.heap.size w w' :=by
 have KK:=Keyed.of_law aRI
 go_enter Tryz.func47,Tryz.ntmps47
 go_wp2_with fail
 refine (sH _).mono ?_
 rintro e w1 ⟨rfl,hown,hb1⟩
 have hs1:=hb1.size
 simp only [World.size_alloc] at hs1 hb1 hown
 have hp0:=(hb1.block w.heap.size aF).trans (aT _ (jA rfl))
 have hp1:=(hb1.block (w.heap.size+1) aF).trans (jA aQ)
 have hB1:Below w.heap.size w w1:=((((Below.refl w.heap.size w).alloc dD _).alloc aQ _)).trans (hb1.mono aF)
 have e13:(yH (Maps.has DD)).toArray=#[.string ⟨#[]⟩,.string ⟨#[]⟩,.string ⟨#[]⟩,.string ⟨#[]⟩,.string ⟨#[]⟩,.string ⟨#[]⟩,.string ⟨#[]⟩,.string ⟨#[]⟩,.string ⟨#[]⟩,.string ⟨#[]⟩,.string ⟨#[]⟩,.string ⟨#[]⟩,.string ⟨#[]⟩]:=by rw [aFS];rfl
 have hp1' :w1.heap[w.heap.size+1]?=some (.cells (yH (Maps.has DD)).toArray 75 (0,0)):=by rw [e13];exact hp1
 clear hp1 e13
 go_wp2_with (first | (at_range;refine wpList_range_own _ rfl _ 136 rfl 9 3 KK Tryz.underlying136 _ (w.heap.size+1+1) 13 DD rfl hown ?_;intro w0 hrg0 hg0 hs0) | go_in)
 go_frame
 go_loopw [] (fun wr=>∃ left cnt,wr.ranges Tryz.prog 9 (plainElem Tryz.prog 3) (w.heap.size+1+1) w1.heap.size 13 DD left cnt∧wr.heap[w.heap.size+1]?=some (.cells (yH left).toArray 75 (0,0))∧wr.heap[w.heap.size]?=w1.heap[w.heap.size]?∧Below w.heap.size w wr) (fun wr=>wr.rangeLeft (w.heap.size+1+1) w1.heap.size)
 case atStart=>exact ⟨Maps.has DD,Maps.size DD,hrg0,by rw [hg0.block _ aF aQ];exact hp1', hg0.block _ aF aQ,hB1.grown hg0 aF aQ⟩
 case round =>
  obtain ⟨left,cnt,hrg,hT,hZ,hB⟩:=hrel
  have hsz:=hB.size
  have aFT:=hrg.lt
  clear hrg0 hg0 hs0 hp1'
  rw [hp0] at hZ
  have HW1:=aB hp0
  have HT:=aB hT
  have HZ:=aB hZ
  clear hT hZ hp0 hB1 hown hb1
  go_wp2_with (first | (at_next;refine wpList_next_ranges _ rfl _ rfl 9 KK (plainElem Tryz.prog 3) Value.string (Value.int .i64) (fun key kl hkey=>by obtain ⟨t,rfl,_⟩:=string_of_keyOf Tryz.underlying9 hkey;exact ⟨t,rfl⟩) (fun v y hv=>by obtain ⟨c,rfl,_⟩:=plainElem_int_inv Tryz.underlying3 hv;exact ⟨c,rfl⟩) (w.heap.size+1+1) w1.heap.size 13 DD left cnt rfl hrg ?_ ?_) | go_in)
  ·intro hc0 hl0
   have hT:=HT.out
   rw [aKW hl0] at hT
   have HR:=aB (setRow_heap wr _ _ eY _ _ HZ.out)
   have h1:eY.all (·.oneCell')=true:=by kernel_rfl
   have h2:eY.size=13:=rfl
   rw [show (rR.map fun x=>Value.string (ba x)).toArray=eY from rfl] at hT
   have hn:(Tryz.prog.info? 75).map (·.size)=some eY.size:=by kernel_rfl
   generalize hN:eY=N13 at hT HR hn h1 h2 ⊢
   go_wp2_with (first
    | (refine wpList_load_row rfl _ _ rfl _ rfl _ _ _ _ hT Tryz.underlying75 rfl hn ?_)
    | (refine wpList_plain rfl fun _ hK=>wp_store_row _ _ _ rfl _ _ rfl rfl _ _ HZ.out hn h2.symm h1 (hK _ _ ?_)))
   exact bodyPost_ret (results_cell_row Tryz.results47 _ _ _ _ _ _ _ rfl HR.out Tryz.underlying75 rfl hn) rfl ⟨by rw [hN],hB.trans ⟨rfl,rfl,rfl,aQ,fun k hk=>setRow_other _ _ _ _ aF⟩⟩
  ·intro x c kl y1 y2 w2 cnt1 hkey hlk hv hat hrg1 hlt1 hg1 hs1 hen
   obtain ⟨x', ex,rfl,_⟩:=string_of_keyOf Tryz.underlying9 hkey
   cases ex
   obtain ⟨c', ec,ey,hcw⟩:=plainElem_int_inv Tryz.underlying3 hv
   cases ec
   have aFU:=hat (.lit (.int .i64 (c+1)))
   rw [OQ,(Prod.mk.inj ey).1] at aFU
   obtain ⟨o,ho⟩:∃ o,qZ x.data.toList=some o:=by
    cases e:qZ x.data.toList with
    | none=>rw [e] at aFU;have:=(Lit.int.inj (DataW.lit.inj aFU)).2;omega
    | some o=>exact ⟨o,rfl⟩
   rw [ho] at aFU
   have hc:=(Lit.int.inj (DataW.lit.inj aFU)).2
   subst hc
   have hno:=UO ho
   have bHK:o<13:=(List.getElem?_eq_some_iff.1 hno).1
   have hoi:(o:Int)<13:=by omega
   have eb:ba x.data.toList=x:=by cases x;simp [ba]
   have htm:=aFR (left:=left) hno
   rw [eb] at htm
   have hT1:=(hg1.block _ aF bF).trans HT.out
   have hZ1:=(hg1.block _ aF bF).trans HZ.out
   have l13:(yH left).length=13:=by simp [yH,rR]
   have q:=aA hT1 o
   have gq:=aC hT1 o
   rw [List.getElem?_toArray,List.getElem?_eq_getElem aF] at q
   generalize (yH left)[o]'(by omega)=vq at q
   have hb2:Below w.heap.size w w2:=hB.trans ⟨hg1.os,hg1.tape,hg1.output,hg1.size,fun k hk=>hg1.block k aF bF⟩
   have HX:=aB (And.intro hT1 (And.intro hZ1 (And.intro hb2 htm)))
   clear hT1 hZ1 hb2 htm aFU hat hg1 HT HZ
   go_wp2_with fail
   have hk:(w2.setCell ⟨w.heap.size+1,o,none⟩ (.string x)).ranges Tryz.prog 9 (plainElem Tryz.prog 3) (w.heap.size+1+1) w1.heap.size 13 DD _ cnt1:=hrg1.kept (row:=some (w.heap.size+1)) ⟨rfl,rfl,rfl,by simp [World.setCell],fun k hk hn=>Below.heap_setCell _ _ _ _ (by simpa using fun e=>hn (by rw [e]))⟩ aQ bF
   go_roundw
   case rel =>
    obtain ⟨hT1,hZ1,hb2,htm⟩:=HX.out
    exact ⟨_,cnt1,hk,by rw [aG _ hT1,htm,List.setIfInBounds_toArray],by rw [aN _ hZ1 aF,HW1.out],hb2.setCell aQ _⟩
   case measure=>rw [hk.left_eq,hrg.left_eq];exact hlt1
end Go.Proofs.YtegloodcbfalfaaGreatDoor
namespace Go.Proofs.YtegloodcbfalfaaGreatDoor
open Go.RowKit Go.Shelf
theorem DI (B b:Nat) (bs:List Value) (s:ByteArray) (w:World) (h:Lib.IsBuilder 80 5 B b bs w) (hlen:bs.length+s.size≤140737488355328) (hBw:B≤w.heap.size) :
 Calls Tryz.prog 48 #[.pointer (some ⟨b,0,none⟩),.string s] w fun e w' =>e=.returned (.tuple #[.int .i64 s.size,.nilIface])∧(Lib.BuilderAt 80 5 B b (.pointer (some ⟨b,0,none⟩)) (bs++Lib.strCells s) w' ∧Below B w w') :=
 Any.Builder_WriteString (ρ:=Tryz.lays156_ren) { Tryz.lays156 with } Tryz.Builder_Extra_156 B b bs s w h hlen hBw
end Go.Proofs.YtegloodcbfalfaaGreatDoor
namespace Go.Proofs.YtegloodcbfalfaaGreatDoor
open Go.RowKit
theorem ownsRow_below {w w' :World} {base:Nat} {e:TypeId} {size:Nat} {v:Value} {n:Nat} {xs:List Value} (h:w.ownsRow base e size v n xs) {B:Nat} (hb:Below B w w') (hB:w.heap.size≤B):w'.ownsRow base e size v n xs:=by
 obtain ⟨hl,h⟩:=h
 refine ⟨hl,?_⟩
 rcases h with h | ⟨g,cap,cur,rfl,h1,h2,h3,h4,h5,h6⟩
 ·exact Or.inl h
 ·refine Or.inr ⟨g,cap,cur,rfl,h1,?_,h3,h4,h5,h6⟩
  have hg:g<w.heap.size:=(Array.getElem?_eq_some_iff.1 h2).1
  rw [hb.block g aF];exact h2
theorem aK {w:World} {base base' :Nat} {e:TypeId} {size:Nat} {v:Value} {n:Nat} {xs:List Value} (h:w.ownsRow base e size v n xs) (hB:base' ≤base):w.ownsRow base' e size v n xs:=by
 obtain ⟨hl,h⟩:=h
 refine ⟨hl,?_⟩
 rcases h with h | ⟨g,cap,cur,rfl,h1,h2⟩
 ·exact Or.inl h
 ·exact Or.inr ⟨g,cap,cur,rfl,aF,h2⟩
theorem mP {w:World} {base:Nat} {e:TypeId} {v:Value} {zs:List Int} (h:w.ownsRow base e 1 v zs.length (zs.map (Value.int .i64))):∃ a cap,v=.slice a zs.length cap∧dW w a zs:=by
 have hc:∀ g,v.ownBlock=some g→∀ j u,(zs.map (Value.int .i64))[j]?=some u→w.cell? ((⟨g,0,none⟩:Addr).add j)=some u:=fun g hg=>h.cells hg
 obtain ⟨_,h⟩:=h
 rcases h with ⟨rfl,h0⟩ | ⟨g,cap,cur,rfl,h1,h2,h3,h4,h5,h6⟩
 ·have:zs=[]:=by cases zs;rfl;simp at h0
  subst this
  exact ⟨none,0,rfl,Or.inl rfl⟩
 ·refine ⟨_,cap,rfl,Or.inr ⟨g,0,rfl,(Array.getElem?_eq_some_iff.1 h2).1,?_⟩⟩
  intro j z hz
  have:=hc g rfl j (.int .i64 z) (by simp [hz])
  have e:(⟨g,0,none⟩:Addr).add j=⟨g,0+j,none⟩:=by cases j <;> simp [Addr.add]
  rw [e] at this;exact this
theorem fZ:(Tryz.prog.info? 3).map (fun i=>(i.zero,i.size,i.bytes))=some (some (.int .i64 0),1,8):=by kernel_rfl
theorem KD (r:Int) (b off cap:Nat) (ns:List Nd) (n m:Nat) (x:Nd) (w:World) (hN:aH w b off ns) (hx:ns[n]?=some x) :
 Calls Tryz.prog 72 #[.agg #[.int .i64 r,.slice (some ⟨b,off,none⟩) ns.length cap],.int .i64 n,.int .i64 m] w fun e w' =>e=.returned (.bool (tY x m))∧Below w.heap.size w w' :=by
 have h:n<ns.length:=(List.getElem?_eq_some_iff.1 hx).1
 have hb:=hN.lt
 have c0:=hN.c0 n x hx
 have c1:=hN.c1 n x hx
 have c2:=hN.c2 n x hx
 have c3:=hN.c3 n x hx
 have c4:=hN.c4 n x hx
 have c5:=hN.c5 n x hx
 obtain ⟨op,d,a,bb,t,e⟩:=x
 simp only at c0 c1 c2 c3 c4 c5
 clear hx hN
 go_enter Tryz.func72,Tryz.ntmps72
 go_wp2
 all_goals go_ret
 all_goals refine ⟨aO ?_,(dY).alloc aQ _⟩
 all_goals simp [tY, *]
theorem aAG (r:Int) (b off cap:Nat) (ns:List Nd) (n:Nat) (x:Nd) (w:World) (hN:aH w b off ns) (hl:ns.length≤256) (hx:ns[n]?=some x) :
 Calls Tryz.prog 136 #[.agg #[.int .i64 r,.slice (some ⟨b,off,none⟩) ns.length cap],.int .i64 n] w fun e w' =>∃ v,e=.returned v∧w'.ownsRow w.heap.size 3 1 v (pick (tY x) ns.length).length ((pick (tY x) ns.length).map (Value.int .i64))∧Below w.heap.size w w' :=by
 have HX:=aB hx
 clear hx
 obtain ⟨i0,hi,hz0,hz1,hz2⟩:=info_parts fZ
 go_enter Tryz.func136,Tryz.ntmps136
 go_wp2
 have q0:(w.alloc (.cells #[.int .i64 r,.slice (some ⟨b,off,none⟩) ns.length cap] 24)).cell? ⟨w.heap.size,0,none⟩=some (.int .i64 r):=by simp
 have q1:(w.alloc (.cells #[.int .i64 r,.slice (some ⟨b,off,none⟩) ns.length cap] 24)).cell? ⟨w.heap.size,1,none⟩=some (.slice (some ⟨b,off,none⟩) ns.length cap):=by simp
 have hN1:aH (w.alloc (.cells #[.int .i64 r,.slice (some ⟨b,off,none⟩) ns.length cap] 24)) b off ns:=hN.below ((Below.refl w.heap.size w).alloc dD _) hN.lt
 have hB1:Below w.heap.size w (w.alloc (.cells #[.int .i64 r,.slice (some ⟨b,off,none⟩) ns.length cap] 24)):=(Below.refl w.heap.size w).alloc dD _
 have hS1:(w.alloc (.cells #[.int .i64 r,.slice (some ⟨b,off,none⟩) ns.length cap] 24)).heap.size=w.heap.size+1:=by simp
 have hblt:=hN.lt
 clear hN
 generalize w.alloc (.cells #[.int .i64 r,.slice (some ⟨b,off,none⟩) ns.length cap] 24)=W at q0 q1 hN1 hB1 hS1 ⊢
 go_loopw [5,6] (fun v i wr=>∃ k:Nat,k≤ns.length∧i=.int .i64 k∧wr.ownsRow (w.heap.size+1) 3 1 v (pick (tY x) k).length ((pick (tY x) k).map (Value.int .i64))∧Below (w.heap.size+1) W wr) (fun _ i _=>ns.length-(intOf i).toNat)
 case atStart=>exact ⟨0,Nat.zero_le _,rfl,World.ownsRow_nil _ _ _ _,Below.refl _ _⟩
 case round =>
  obtain ⟨k,hk,rfl,hown,hb⟩:=hrel
  have hsz:=hb.size
  have kQ:=hN1.below hb aF
  have p0:wr.cell? ⟨w.heap.size,0,none⟩=some (.int .i64 r):=by rw [hb.cell (p:=⟨w.heap.size,0,none⟩) aQ];exact q0
  have p1:wr.cell? ⟨w.heap.size,1,none⟩=some (.slice (some ⟨b,off,none⟩) ns.length cap):=by rw [hb.cell (p:=⟨w.heap.size,1,none⟩) aQ];exact q1
  have hsw:w.heap.size<wr.heap.size:=by omega
  by_cases hlt:k<ns.length
  ·go_wp2_with fail
   refine (KD r b off cap ns n k x wr kQ HX.out).mono ?_
   rintro e w1 ⟨rfl,hb1⟩
   have hs1:=hb1.size
   have hown1:=ownsRow_below hown hb1 dD
   have hB2:Below (w.heap.size+1) W w1:=hb.trans (hb1.mono aF)
   clear hown hb hb1 p0 p1 kQ
   cases hld:tY x k
   ·go_wp2
    go_roundw
    case rel=>exact ⟨k+1,aF,by go_num,by rw [tX hld];exact hown1,hB2⟩
    case measure=>simp [intOf];omega
   ·have hpl:=BZ (tY x) k
    go_wp2_with (at_builtin;refine wpList_append_own _ rfl (.tmp 18) (.tmp 20) 25 rfl (w.heap.size+1) 3 i0 (.int .i64 0) 1 8 Tryz.underlying25 hi hz0 hz1 hz2 rfl aL _ _ _ rfl (hown1.alloc _) ⟨w1.heap.size,0,none⟩ 1 1 [.int .i64 k] rfl rfl ?c1 ?c2 ?c3 ?c4 ?c5 ?_)
    case c1 =>
     intro j u hj
     match j,hj with
     | 0,hj=>simp at hj;subst hj;simp [Addr.add]
    case c2=>intro u hu;simp at hu;subst hu;rfl
    case c3=>unfold maxLen;omega
    case c4=>omega
    case c5=>simp;omega
    intro v' w2 hown2 hg2 _
    have hlt1:=hown1.lt
    have hB3:Below (w.heap.size+1) W w2:=(hB2.alloc aF _).grown hg2 bF (fun k hk=>(hlt1 k hk).1)
    have hown3:w2.ownsRow (w.heap.size+1) 3 1 v' (pick (tY x) (k+1)).length ((pick (tY x) (k+1)).map (Value.int .i64)):=by
     rw [sD hld];simpa using hown2
    clear hown2 hg2 hlt1 hown1
    go_wp2
    go_roundw
    case rel=>exact ⟨k+1,aF,by go_num,hown3,hB3⟩
    case measure=>simp [intOf];omega
  ·have ek:k=ns.length:=by omega
   have HK:=aB ek
   clear ek
   go_wp2
   go_ret
   refine ⟨_,rfl,?_,hB1.trans (hb.mono aF)⟩
   rw [← HK.out]
   exact aK hown aF
end Go.Proofs.YtegloodcbfalfaaGreatDoor
namespace Go.Proofs.YtegloodcbfalfaaGreatDoor
open Go.RowKit Go.Maps Go.ChangeMaps
theorem yI {P:Program} {w w' :World} {n:String} {cs:Array Value} (h:w.var? P n=some cs) (hb:Below w.heap.size w w'):w'.var? P n=some cs:=by
 unfold World.var? at h ⊢
 cases hg:P.globalNamed n with
 | none=>rw [hg] at h;cases h
 | some g =>
  rw [hg] at h
  simp only [Option.bind_some] at h ⊢
  have hlt:g<w.heap.size:=by
   rcases Nat.lt_or_ge g w.heap.size with q | q
   ·exact q
   ·rw [Array.getElem?_eq_none q] at h;cases h
  rw [hb.block g hlt];exact h
theorem aAH {w w' :World} (hb:Below w.heap.size w w'):w.keptBut w' (fun _=>False):=by
 refine ⟨hb.os,hb.output,fun i hi=>?_⟩
 rw [hb.block i hi]
 split
 ·rename_i e1 e2
  rw [e1] at e2
  have:=Option.some.inj e2
  injection this with a b c
  subst a b c
  exact ⟨rfl,rfl,rfl,fun _ _=>rfl⟩
 ·rename_i e1 e2
  rw [e1] at e2
  have:=Option.some.inj e2
  injection this with a b
  subst a b
  exact Or.inr ⟨rfl,rfl⟩
 ·rfl
structure Env (w:World):Prop where
 tab:Lib.TabIs Tryz.prog w "internal/strconv.uint64pow10" .u64 Lib.pow10Tab
 syn:∃ tp p,w.var? Tryz.prog "strconv.ErrSyntax" = some #[.iface tp p]
 rng:∃ tp p,w.var? Tryz.prog "strconv.ErrRange" = some #[.iface tp p]
 sh:w.ShapedOpen Tryz.prog
theorem Env.below {w w' :World} (h:Env w) (hb:Below w.heap.size w w'):Env w' :=by
 obtain ⟨h1,⟨t2,p2,h2⟩,⟨t3,p3,h3⟩,h4⟩:=h
 exact ⟨yI h1 hb,⟨t2,p2,yI h2 hb⟩,⟨t3,p3,yI h3 hb⟩,h4.keptBut (aAH hb) (fun _ q=>q.elim)⟩
open Go.Sort in
theorem DK (w:World) (k:Nat) (os:Array Obj):Below w.heap.size w (grow (w.drewN k) os) :=
 ⟨rfl,rfl,rfl,by simp [grow],fun i hi=>by
  show ((w.drewN k).heap++os)[i]?=_
  rw [Array.getElem?_append_left (by show i<w.heap.size;omega)]
  rfl⟩
def kOf (op:Int):Nat→Int
 | 0=>k0 op | 1=>k1 op | 2=>k2 op | 3=>k3 op | _=>k4 op
def vOf (x:Nd):Nat→Int
 | 0=>x.d | 1=>x.a | 2=>x.b | 3=>x.t | _=>x.e
def DL (i:Nat):List (List UInt8):=if i=3 then [toW] else if i=4 then [IZ] else []
def fw (x:Nd) (i:Nat):List (List UInt8):=if kOf x.op i=0 then [] else DL i++[Lib.itoa (vOf x i)]
def wl (nm:List UInt8) (x:Nd) (i:Nat):List (List UInt8):=nm::(List.range i).flatMap (fw x)
theorem aDH (nm:List UInt8) (x:Nd) (i:Nat):wl nm x (i+1)=wl nm x i++fw x i:=by
 simp [wl,List.range_succ]
theorem aKX (x:Nd):wl (BC x.op) x 5=gH x:=by
 have e0:(k0 x.op=0)↔kF x.op=false:=by unfold k0 kF;cases wi x.op 1 9 <;> simp
 have e1:(k1 x.op=0)↔kG x.op=false:=by
  unfold k1 kG
  by_cases h:x.op=1
  ·rw [h];simp [wi]
  ·have q1:wi x.op 1 8=wi x.op 2 8:=by
    cases q:wi x.op 2 8
    ·have:=zK q
     cases q' :wi x.op 1 8
     ·rfl
     ·have:=aY.1 q'; omega
    ·have:=aY.1 q
     exact aY.2 aF
   rw [if_neg h,q1]
   cases (wi x.op 2 8||wi x.op 10 12) <;> simp
 have e2:(k2 x.op=0)↔hasB x.op=false:=by unfold k2 hasB;cases wi x.op 3 8 <;> simp
 have e3:(k3 x.op=0)↔mO x.op=false:=by unfold k3 mO;cases wi x.op 0 11 <;> simp
 have e4:(k4 x.op=0)↔oF x.op=false:=by unfold k4 oF;by_cases h:x.op=11 <;> simp [h]
 show BC x.op::(fw x 0++(fw x 1++(fw x 2++(fw x 3++(fw x 4++[])))))=gH x
 unfold fw gH
 show BC x.op::((if k0 x.op=0 then [] else [Lib.itoa x.d])++((if k1 x.op=0 then [] else [Lib.itoa x.a])++((if k2 x.op=0 then [] else [Lib.itoa x.b])++((if k3 x.op=0 then [] else [toW,Lib.itoa x.t])++((if k4 x.op=0 then [] else [IZ,Lib.itoa x.e])++[])))))=_
 simp only [e0,e1,e2,e3,e4,List.append_nil]
 cases kF x.op <;> cases kG x.op <;> cases hasB x.op <;> cases mO x.op <;> cases oF x.op <;> rfl
theorem aUP {x:Nd} (h:Fits x) (i:Nat): -9223372036854775808≤vOf x i∧vOf x i≤9223372036854775807:=by
 unfold vOf
 split
 ·exact h.d
 ·exact h.a
 ·exact h.b
 ·exact h.t
 ·exact h.e
theorem aVW (x:Nd) {i:Nat} (h:i<5) (w:World):(Instr.index 103 (.agg #[.int .i64 x.d,.int .i64 x.a,.int .i64 x.b,.int .i64 x.t,.int .i64 x.e]) (.int .i64 (i:Nat))).run Tryz.prog w=.ok (.int .i64 (vOf x i)) w:=by
 match i,h with
 | 0,_=>exact aKQ _ _ _ _ _ w
 | 1,_=>exact aKR _ _ _ _ _ w
 | 2,_=>exact aKS _ _ _ _ _ w
 | 3,_=>exact aKT _ _ _ _ _ w
 | 4,_=>exact aKU _ _ _ _ _ w
theorem UQ:(Tryz.prog.info? 9).map (fun i=>(i.zero,i.size,i.bytes))=some (some (.string ⟨#[]⟩),1,16):=by kernel_rfl
def strs (l:List (List UInt8)):List Value:=l.map fun x=>.string (ba x)
theorem aKY (i:Nat):(DL i=[]∧(if (i:Int)=3 then ba toW else if (i:Int)=4 then ba IZ else ⟨#[]⟩)=⟨#[]⟩)∨∃ y,DL i=[y]∧(ba y).toList.isEmpty=false∧(if (i:Int)=3 then ba toW else if (i:Int)=4 then ba IZ else ⟨#[]⟩)=ba y:=by
 unfold DL
 by_cases h3:i=3
 ·subst h3;exact Or.inr ⟨toW,rfl,by kernel_rfl,rfl⟩
 ·by_cases h4:i=4
  ·subst h4;exact Or.inr ⟨IZ,rfl,by kernel_rfl,rfl⟩
  ·rw [if_neg (show ¬ (i:Int)=3 by omega),if_neg (show ¬ (i:Int)=4 by omega),if_neg h3,if_neg h4];exact Or.inl ⟨rfl,rfl⟩
theorem rA (nm:List UInt8) (x:Nd):∀ i,(wl nm x i).length≤1+2*i
 | 0=>by simp [wl]
 | i+1=>by
  have h:=rA nm x i
  have:(fw x i).length≤2:=by
   unfold fw DL
   split
   ·simp
   ·split
    ·simp
    ·split <;> simp
  rw [aDH,List.length_append]
  omega
theorem aKZ:∀ (l:List (List UInt8)),(∀ y∈l,y.length≤20)→(l.map fun y=>y.length+1).sum≤21*l.length
 | [],_=>by simp
 | y::l,h=>by
  have h1:=aKZ l (fun z hz=>h z (List.mem_cons_of_mem _ hz))
  have h2:=h y (List.mem_cons_self ..)
  simp only [List.map_cons,List.sum_cons,List.length_cons]
  omega
theorem aLA (nm:List UInt8) (x:Nd) (hf:Fits x) (hnm:nm.length≤4):(Lib.join (wl nm x 5) [32]).length≤231:=by
 have h1:=CY 32 (wl nm x 5)
 have h2:=aKZ (wl nm x 5) ?h
 case h =>
  intro y hy
  unfold wl at hy
  rcases List.mem_cons.1 hy with rfl | hy
  ·omega
  ·obtain ⟨i,_,hy⟩:=List.mem_flatMap.1 hy
   unfold fw at hy
   split at hy
   ·cases hy
   ·rcases List.mem_append.1 hy with hy | hy
    ·unfold DL at hy
     split at hy
     ·simp at hy;subst hy;decide
     ·split at hy
      ·simp at hy;subst hy;decide
      ·cases hy
    ·simp at hy;subst hy
     exact dV (aUP hf i)
 have h3:=rA nm x 5
 omega
theorem own_ne {w:World} {base b:Nat} {e t:TypeId} {size:Nat} {v:Value} {n:Nat} {xs:List Value} {vs:Array Value} (h:w.ownsRow base e size v n xs) (hb:w.heap[b]?=some (.cells vs t (0,0))) (hte:t≠e):some b≠v.ownBlock:=by
 intro hq
 obtain ⟨_,⟨rfl,_⟩ | ⟨g,cap,cur,rfl,_,hg,_⟩⟩:=h
 ·simp [Value.ownBlock] at hq
 ·simp [Value.ownBlock] at hq
  subst hq
  rw [hb] at hg
  have:=Option.some.inj hg
  injection this with _ q _
  exact hte q
def aAI (op:Int):Array Value:=#[.int .i64 (k0 op),.int .i64 (k1 op),.int .i64 (k2 op),.int .i64 (k3 op),.int .i64 (k4 op)]
theorem aLB (op:Int) {i:Nat} (h:i<5):(aAI op)[i]?=some (.int .i64 (kOf op i)):=by
 match i,h with
 | 0,_=>rfl
 | 1,_=>rfl
 | 2,_=>rfl
 | 3,_=>rfl
 | 4,_=>rfl
theorem OW (x:Nd) (nm:List UInt8) (w:World) (hE:Env w) (hf:Fits x) (hnm:nm.length≤4) :
 Calls Tryz.prog 50 #[.agg #[.int .i64 x.op,.int .i64 x.d,.int .i64 x.a,.int .i64 x.b,.int .i64 x.t,.int .i64 x.e],.string (ba nm)] w fun e w' =>e=.returned (.string (ba (Lib.join (wl nm x 5) [32])))∧Below w.heap.size w w' :=by
 obtain ⟨i0,hi,hz0,hz1,hz2⟩:=info_parts UQ
 go_enter Tryz.func50,Tryz.ntmps50
 go_wp2_with fail
 refine (nE _ _).mono ?_
 rintro e w1 ⟨rfl,hb1⟩
 have hs1:=hb1.size
 simp only [World.size_alloc] at hs1 hb1
 have hp0:=(hb1.block w.heap.size aF).trans (aT _ (jA rfl))
 have hp1:=(hb1.block (w.heap.size+1) aF).trans (jA aQ)
 have hB1:Below w.heap.size w w1:=((((Below.refl w.heap.size w).alloc dD _).alloc aQ _)).trans (hb1.mono aF)
 have n0:=aA hp0 0
 have n1:=aA hp0 1
 have n2:=aA hp0 2
 have n3:=aA hp0 3
 have n4:=aA hp0 4
 have n5:=aA hp0 5
 simp at n0 n1 n2 n3 n4 n5
 have aFV:w.heap.size<w1.heap.size:=by omega
 have kH:=aB hp1
 have HB1:=aB hB1
 clear hp0 hp1 hb1 hB1
 go_wp2_with (go_at_call 60;refine (CF _ _ _ _ _ _ _).mono ?_;rintro e w2 ⟨rfl,hb2⟩)
 have hs2:=hb2.size
 simp only [World.size_alloc] at hs2 hb2
 have hk2:w2.heap[w1.heap.size]?=some (.cells (aAI x.op) 100 (0,0)):=(hb2.block w1.heap.size aF).trans (jA rfl)
 have hp2:=(hb2.block (w.heap.size+1) aF).trans (aT _ kH.out)
 have hB2:Below w.heap.size w w2:=HB1.out.trans ((((Below.refl w1.heap.size w1).alloc dD _).trans (hb2.mono aF)).mono aF)
 have hown2:w2.ownsRow (w.heap.size+1) 9 1 (.slice (some ⟨w.heap.size+1,0,none⟩) 1 1) (wl nm x 0).length (strs (wl nm x 0)):=⟨rfl,Or.inr ⟨_,1,_,rfl,Nat.le_refl _,hp2,Nat.le_refl _,aL,rfl,rfl⟩⟩
 clear hb2 hp2 n0 n1 n2 n3 n4 n5 kH
 go_loopw [5,21] (fun v5 v21 wr=>∃ i,i≤5∧v21=.int .i64 (i:Nat)∧wr.ownsRow (w.heap.size+1) 9 1 v5 (wl nm x i).length (strs (wl nm x i))∧wr.heap[w1.heap.size]?=some (.cells (aAI x.op) 100 (0,0))∧Below w.heap.size w wr) (fun _ v21 _=>(5-intOf v21).toNat)
 case atStart=>exact ⟨0,aF,rfl,hown2,hk2,hB2⟩
 case round =>
  obtain ⟨i,hi5,rfl,hown,hK,hB⟩:=hrel
  clear hown2 hk2 hB2
  have hsz:=hB.size
  have a6W:=aD hK
  by_cases hq5:i=5
  ·subst hq5
   obtain ⟨hl1,⟨_,h0⟩ | ⟨g,cap,cur,rfl,hg1,hg2,hg3,hg4,hg5,hg6⟩⟩:=hown
   ·simp [wl] at h0
   go_wp2_with fail
   have e5:(wl nm x 5).length=((wl nm x 5).map ba).length:=by simp
   have em:((wl nm x 5).map ba).map (·.data.toList)=wl nm x 5:=by rw [List.map_map];exact (List.map_congr_left fun y _=>rfl).trans (List.map_id _)
   have hj:=Tryz.strings_Join g 0 cap ((wl nm x 5).map ba) ⟨#[32]⟩ wr ?hc (aD hg2) (by have:=rA nm x 5;rw [← e5];omega) (by rw [← e5];exact hg3) ?hl
   case hc =>
    intro j u hu
    rw [Nat.zero_add,aA hg2 j]
    have hj:j<(wl nm x 5).length:=by rw [e5];exact (List.getElem?_eq_some_iff.1 hu).1
    have q:(strs (wl nm x 5))[j]?=some (.string u):=by
     unfold strs
     rw [show (fun y=>Value.string (ba y))=Value.string ∘ ba from rfl,← List.map_map,List.getElem?_map,hu];rfl
    rw [← hg6,List.getElem?_take] at q
    rw [if_pos aF] at q
    simpa using q
   case hl=>rw [em];have:=aLA nm x hf hnm;show (Lib.join (wl nm x 5) [32]).length≤_;omega
   rw [← e5,em] at hj
   refine hj.mono ?_
   rintro e w3 ⟨he3,hb3⟩
   have he4:e=.returned (.string (ba (Lib.join (wl nm x 5) [32]))):=he3
   clear he3 hj
   generalize hJ:ba (Lib.join (wl nm x 5) [32])=J at he4
   subst he4
   go_wp2_with fail
   rename_i v hv
   cases hv
   go_ret
   exact ⟨by rw [hJ];rfl,hB.trans (hb3.mono hsz)⟩
  ·have hlt:i<5:=by omega
   have aRJ:(i:Int)<5:=by omega
   have hix:=aVW x hlt
   have hkc:=(aA hK i).trans (aLB x.op hlt)
   have HK:=aB hK
   have HB:=aB hB
   have hws:=aDH nm x i
   have hEr:=hE.below hB
   have hfv:=aUP hf i
   generalize hv:vOf x i=V at hix hfv
   generalize hkv:kOf x.op i=K at hkc
   clear hK hB
   by_cases hk0:K=0
   ·subst hk0
    have hfw:fw x i=[]:=by unfold fw;rw [if_pos hkv]
    rw [hfw,List.append_nil] at hws
    go_wp2_with fail
    go_roundw
    case rel=>exact ⟨i+1,aF,aQ,by rw [hws];exact hown,HK.out,HB.out⟩
    case measure=>simp [intOf];omega
   ·have hfw:fw x i=DL i++[Lib.itoa V]:=by unfold fw;rw [if_neg (by rw [hkv];exact hk0),hv]
    rw [hfw] at hws
    rcases aKY i with ⟨hl,hlw⟩ | ⟨y,hl,hyn,hlw⟩
    ·rw [hl,List.nil_append] at hws
     go_wp2_with fail
     refine (wM _ _).mono ?_
     rintro e w' ⟨rfl,rfl⟩
     rw [hlw]
     go_wp2_with fail
     refine (Tryz.strconv_Itoa V hfv.1 hfv.2 _ hEr.tab).mono ?_
     rintro e w3 ⟨rfl,k3,os3,hw3⟩
     have hb3:Below w'.heap.size w' w3:=by rw [hw3];exact DK _ _ _
     clear hw3
     have hs3:=hb3.size
     have hown3:=ownsRow_below hown hb3 dD
     have HK3:=aB ((hb3.block _ a6W).trans HK.out)
     have HB3:=aB (HB.out.trans (hb3.mono hsz))
     clear hb3 HK HB hkc
     go_wp2_with (at_builtin;refine wpList_append_own _ rfl (.tmp 37) (.tmp 40) 88 rfl (w.heap.size+1) 9 i0 _ 1 16 Tryz.underlying88 hi hz0 hz1 hz2 rfl aL _ _ _ rfl (hown3.alloc _) ⟨w3.heap.size,0,none⟩ 1 1 [.string (ba (Lib.itoa V))] rfl rfl ?c1 ?c2 ?c3 ?c4 ?c5 ?_)
     case c1 =>
      intro j u hj
      match j,hj with
      | 0,hj=>simp at hj;subst hj;simp [Addr.add,ba]
      | j+1,hj=>simp at hj
     case c2=>intro u hu;simp at hu;subst hu;rfl
     case c3=>have:=rA nm x i;unfold maxLen;omega
     case c4=>have:=rA nm x i;omega
     case c5=>simp;omega
     intro v' w4 hown5 hg4 _
     have hltb:=hown3.lt
     have hB4:Below w.heap.size w w4:=(HB3.out.alloc aF _).grown hg4 bF (fun k hk=>by have:=(hltb k hk).1;omega)
     have hK4:=(hg4.block _ bF (own_ne hown3 HK3.out aL)).trans (aT _ HK3.out)
     have hown6:w4.ownsRow (w.heap.size+1) 9 1 v' (wl nm x (i+1)).length (strs (wl nm x (i+1))):=by
      rw [hws];simpa [strs] using hown5
     have HX:=aB (And.intro hB4 (And.intro hK4 hown6))
     clear hB4 hK4 hown6 hown5 hg4 hltb hown3 HK3 HB3
     go_wp2_with fail
     go_roundw
     case rel=>exact ⟨i+1,aF,aQ,HX.out.2.2,HX.out.2.1,HX.out.1⟩
     case measure=>simp [intOf];omega
    ·rw [hl] at hws
     go_wp2_with fail
     refine (wM _ _).mono ?_
     rintro e w' ⟨rfl,rfl⟩
     rw [hlw]
     go_wp2_with (at_builtin;refine wpList_append_own _ rfl (.tmp 33) (.tmp 35) 88 rfl (w.heap.size+1) 9 i0 _ 1 16 Tryz.underlying88 hi hz0 hz1 hz2 rfl aL _ _ _ rfl (hown.alloc _) ⟨w'.heap.size,0,none⟩ 1 1 [.string (ba y)] rfl rfl ?c1 ?c2 ?c3 ?c4 ?c5 ?_)
     case c1 =>
      intro j u hj
      match j,hj with
      | 0,hj=>simp at hj;subst hj;simp [Addr.add,ba]
      | j+1,hj=>simp at hj
     case c2=>intro u hu;simp at hu;subst hu;rfl
     case c3=>have:=rA nm x i;unfold maxLen;omega
     case c4=>have:=rA nm x i;omega
     case c5=>simp;omega
     intro v3 w3 hown3 hg3 _
     have hltb:=hown.lt
     have hs3:=hg3.size
     simp only [World.size_alloc] at hs3
     have hB3:Below w.heap.size w w3:=(HB.out.alloc aF _).grown hg3 bF (fun k hk=>by have:=(hltb k hk).1;omega)
     have hK3:=(hg3.block _ bF (own_ne hown HK.out aL)).trans (aT _ HK.out)
     have hE3:=hE.below hB3
     have HX3:=aB (And.intro hB3 hK3)
     clear hB3 hK3 hg3 hltb hown HK HB hkc
     go_wp2_with fail
     refine (Tryz.strconv_Itoa V hfv.1 hfv.2 _ hE3.tab).mono ?_
     rintro e w4 ⟨rfl,k4,os4,hw4⟩
     have hb4:Below w3.heap.size w3 w4:=by rw [hw4];exact DK _ _ _
     clear hw4
     have hs4:=hb4.size
     have hown4:=ownsRow_below hown3 hb4 dD
     have HK4:=aB ((hb4.block _ aF).trans HX3.out.2)
     have kP:=aB (HX3.out.1.trans (hb4.mono aF))
     clear hb4 HX3 hown3
     go_wp2_with (at_builtin;refine wpList_append_own _ rfl (.tmp 37) (.tmp 40) 88 rfl (w.heap.size+1) 9 i0 _ 1 16 Tryz.underlying88 hi hz0 hz1 hz2 rfl aL _ _ _ rfl (hown4.alloc _) ⟨w4.heap.size,0,none⟩ 1 1 [.string (ba (Lib.itoa V))] rfl rfl ?c1 ?c2 ?c3 ?c4 ?c5 ?_)
     case c1 =>
      intro j u hj
      match j,hj with
      | 0,hj=>simp at hj;subst hj;simp [Addr.add,ba]
      | j+1,hj=>simp at hj
     case c2=>intro u hu;simp at hu;subst hu;rfl
     case c3=>have:=rA nm x i;unfold maxLen;omega
     case c4=>have:=rA nm x i;omega
     case c5=>simp;omega
     intro v' w5 hown5 hg5 _
     have hltb:=hown4.lt
     have hB5:Below w.heap.size w w5:=(kP.out.alloc aF _).grown hg5 bF (fun k hk=>by have:=(hltb k hk).1;omega)
     have hK5:=(hg5.block _ bF (own_ne hown4 HK4.out aL)).trans (aT _ HK4.out)
     have hown6:w5.ownsRow (w.heap.size+1) 9 1 v' (wl nm x (i+1)).length (strs (wl nm x (i+1))):=by
      rw [hws];simpa [strs] using hown5
     have HX:=aB (And.intro hB5 (And.intro hK5 hown6))
     clear hB5 hK5 hown6 hown5 hg5 hltb hown4 HK4 kP
     go_wp2_with fail
     go_roundw
     case rel=>exact ⟨i+1,aF,aQ,HX.out.2.2,HX.out.2.1,HX.out.1⟩
     case measure=>simp [intOf];omega
theorem zP {T e:TypeId} {B b:Nat} {p:Value} {bs:List Value} {w w' :World} (h:Lib.BuilderAt T e B b p bs w) (hb:Below w.heap.size w w'):Lib.BuilderAt T e B b p bs w' :=by
 obtain ⟨hB,v,h1,h2,h3⟩:=h
 exact ⟨hB,v,(hb.block b (aD h1)).trans h1,ownsRow_below h2 hb dD,h3⟩
theorem aLD {op:Int} (h:0≤op∧op≤12):eY[op.toNat]?=some (.string (ba (BC op))):=by
 obtain ⟨k,rfl⟩:=Int.eq_ofNat_of_zero_le h.1
 have hk:k<13:=by omega
 have:∀ j:Fin 13,rR[j.1]?=some (rR.getD j.1 []):=by decide
 have h2:=this ⟨k,hk⟩
 unfold eY BC
 rw [List.getElem?_toArray,List.getElem?_map]
 simp only [Int.toNat_natCast] at h2 ⊢
 rw [h2];rfl
theorem oW (x y:List UInt8):(ba x++ba y:ByteArray)=ba (x++y):=by
 apply ByteArray.ext
 simp [ba,ByteArray.data_append]
theorem aAJ (x y:List UInt8):Lib.byteCells x++Lib.byteCells y=Lib.byteCells (x++y):=by simp [Lib.byteCells]
theorem aAK (x:List UInt8):(Lib.byteCells x).length=x.length:=by simp [Lib.byteCells]
def OX (r:Int) (ns:List Nd) (k:Nat):List UInt8:=nN r++10::(ns.take k).flatMap fun x=>fO x++[10]
theorem UR {r:Int} {ns:List Nd} {k:Nat} {x:Nd} (h:ns[k]?=some x):OX r ns (k+1)=OX r ns k++(fO x++[10]):=by
 unfold OX
 rw [List.take_add_one,h]
 simp
theorem aDI (r:Int) (ns:List Nd):OX r ns ns.length=eX r ns:=by
 unfold OX eX
 rw [List.take_length]
theorem OY {r:Int} {ns:List Nd} (hr:0≤r∧r<1000) (ht:∀ x∈ns,JA x) (k:Nat):(OX r ns k).length≤64+64*ns.length:=by
 have h:=UG hr (ns.take k) (fun x hx=>ht x (List.mem_of_mem_take hx))
 have h2:(ns.take k).length≤ns.length:=by rw [List.length_take];omega
 show (eX r (ns.take k)).length≤_
 omega
theorem aLE (r:Int) (a:Option Addr) (cap:Nat) (ns:List Nd) (w:World) (hN:pI w a ns) (hc:bM r ns≠0) :
 Calls Tryz.prog 23 #[.agg #[.int .i64 r,.slice a ns.length cap]] w fun e w' =>e=.returned (.tuple #[.string ⟨#[]⟩,.int .i64 (bM r ns)])∧Below w.heap.size w w' :=by
 go_enter Tryz.func23,Tryz.ntmps23
 go_wp2_with fail
 refine (fG r a cap ns _ (hN.below ((Below.refl w.heap.size w).alloc dD _))).mono ?_
 rintro e w1 ⟨rfl,hb1⟩
 have hB1:Below w.heap.size w w1:=(dY).trans (hb1.mono aQ)
 clear hb1
 generalize hC:bM r ns=C at hc ⊢
 go_wp2_with fail
 exact bodyPost_ret (v:=.tuple #[.string ⟨#[]⟩,.int .i64 C]) (by simp [results,Tryz.results23,go_sem]) rfl ⟨by rw [hC],hB1⟩
theorem wN (r:Int) (a:Option Addr) (cap:Nat) (ns:List Nd) (w:World) (hN:pI w a ns) (hE:Env w) (ha:∀ x∈ns,-9223372036854775808≤x.a∧x.a≤9223372036854775807) (hc:bM r ns=0) :
 Calls Tryz.prog 23 #[.agg #[.int .i64 r,.slice a ns.length cap]] w fun e w' =>e=.returned (.tuple #[.string (ba (eX r ns)),.int .i64 0])∧Below w.heap.size w w' :=by
 obtain ⟨hl1,hr1,_⟩:=bE hc
 obtain ⟨b,off,rfl,RX⟩:=hN.some hl1.1
 have hblt:=RX.lt
 have HT:=aB (fun (x:Nd) (hx:x∈ns)=>aDC hc hx (ha x hx))
 go_enter Tryz.func23,Tryz.ntmps23
 go_wp2_with fail
 refine (fG r _ cap ns _ (hN.below ((Below.refl w.heap.size w).alloc dD _))).mono ?_
 rintro e w1 ⟨he,hb1⟩
 rw [hc] at he
 subst he
 have hs1:=hb1.size
 simp only [World.size_alloc] at hs1 hb1
 have hp:=(hb1.block w.heap.size aF).trans (jA rfl)
 have hB1:Below w.heap.size w w1:=(dY).trans (hb1.mono aF)
 clear hb1 ha hN
 go_wp2_with fail
 refine (JB _).mono ?_
 rintro e w2 ⟨rfl,hb2⟩
 have hs2:=hb2.size
 have hp2:=(hb2.block w.heap.size aF).trans hp
 have hB2:Below w.heap.size w w2:=hB1.trans (hb2.mono aF)
 have hE2:=hE.below hB2
 have h1:eY.all (·.oneCell')=true:=by kernel_rfl
 have h2:eY.size=13:=rfl
 have hn:(Tryz.prog.info? 75).map (·.size)=some eY.size:=by kernel_rfl
 have a1D:=fun (op:Int) (h:0≤op∧op≤12)=>@aLD op h
 have HG:=aB a1D
 clear a1D
 have HP:=aB hp2
 have HB:=aB hB2
 clear hp hp2 hB1 hb2 hB2
 have hlt:w.heap.size<w2.heap.size:=by omega
 have hz:=@jA w2 (.cells #[.string ⟨#[]⟩,.string ⟨#[]⟩,.string ⟨#[]⟩,.string ⟨#[]⟩,.string ⟨#[]⟩,.string ⟨#[]⟩,.string ⟨#[]⟩,.string ⟨#[]⟩,.string ⟨#[]⟩,.string ⟨#[]⟩,.string ⟨#[]⟩,.string ⟨#[]⟩,.string ⟨#[]⟩] 75 (0,0)) w2.heap.size rfl
 go_upto_region 5 with (refine wpList_plain rfl fun _ hK=>wp_store_row _ _ _ rfl _ eY rfl rfl _ _ hz hn rfl h1 (hK _ _ ?_))
 have hz3:=setRow_heap _ _ _ eY _ _ hz
 have hb3:Below w2.heap.size w2 ((w2.alloc (.cells #[.string ⟨#[]⟩,.string ⟨#[]⟩,.string ⟨#[]⟩,.string ⟨#[]⟩,.string ⟨#[]⟩,.string ⟨#[]⟩,.string ⟨#[]⟩,.string ⟨#[]⟩,.string ⟨#[]⟩,.string ⟨#[]⟩,.string ⟨#[]⟩,.string ⟨#[]⟩,.string ⟨#[]⟩] 75 (0,0))).setRow w2.heap.size eY):=(dY).trans ⟨rfl,rfl,rfl,aQ,fun k hk=>setRow_other _ _ _ _ aF⟩
 generalize hw3:World.setRow _ w2.heap.size eY=w3 at hz3 hb3 ⊢
 clear hz hw3 hK h1 h2 hn
 have hs3:=aD hz3
 have hp3:=(hb3.block _ hlt).trans HP.out
 have hB3:Below w.heap.size w w3:=HB.out.trans (hb3.mono aF)
 have c0:=aA hp3 0
 have c1:=aA hp3 1
 simp at c0 c1
 have HZ:=aB hz3
 have vB:=aB hp3
 have HB3:=aB hB3
 have hlt3:w.heap.size<w3.heap.size:=by omega
 have hE4:Env (w3.alloc (.cells #[.pointer none,.slice none 0 0] 80)):=hE.below (hB3.alloc aF _)
 have HE4:=aB hE4
 clear hz3 hp3 hB3 hb3 HP HB hE2 hE4
 go_wp2_with fail
 refine (Tryz.strconv_Itoa r aF aF _ HE4.out.tab).mono ?_
 rintro e w5 ⟨rfl,k5,os5,hw5⟩
 have hb5:Below (w3.heap.size+1) (w3.alloc (.cells #[.pointer none,.slice none 0 0] 80)) w5:=by rw [hw5];simpa using DK (w3.alloc (.cells #[.pointer none,.slice none 0 0] 80)) k5 os5
 clear hw5 HE4
 have hs5:=hb5.size
 simp only [World.size_alloc] at hs5
 have hbu:Lib.IsBuilder 80 5 w3.heap.size w3.heap.size [] w5:=Or.inl ⟨Nat.le_refl _,.slice none 0 0,(hb5.block _ aF).trans (jA rfl),World.ownsRow_nil _ _ _ _,by simp [Value.ownBlock]⟩
 have AL:Hid (Below w.heap.size w w5):=(HB3.out.alloc aF _).trans (hb5.mono aF)
 have HZ5:Hid (w5.heap[w2.heap.size]?=_):=(hb5.block _ aF).trans (aT _ HZ.out)
 have BD:Hid (w5.heap[w.heap.size]?=_):=(hb5.block _ aF).trans (aT _ vB.out)
 clear hb5 HZ vB HB3
 have hil:(Lib.itoa r).length≤3:=kX aF
 have h18:¬ 9223372036854775807<5+(Lib.itoa r).length:=by omega
 have h19:¬ 9223372036854775807<5+(Lib.itoa r).length+1:=by omega
 go_wp2_with fail
 have ebs:((⟨#[114,101,103,115,32]⟩:ByteArray)++⟨(Lib.itoa r).toArray⟩++⟨#[10]⟩)=ba (OX r ns 0):=by
  rw [show (⟨#[114,101,103,115,32]⟩:ByteArray)=ba lS from rfl,show (⟨(Lib.itoa r).toArray⟩:ByteArray)=ba (Lib.itoa r) from rfl,show (⟨#[10]⟩:ByteArray)=ba [10] from rfl,oW,oW]
  rfl
 rw [ebs]
 have hsl0:=OY (r:=r) (ns:=ns) aF HT.out 0
 refine (DI w3.heap.size w3.heap.size [] (ba (OX r ns 0)) w5 hbu (by show 0+(OX r ns 0).toArray.size≤_;simp;omega) aF).mono ?_
 rintro e w6 ⟨rfl,a1E,hb6⟩
 have hs6:=hb6.size
 have HBU:Hid (Lib.BuilderAt 80 5 w3.heap.size w3.heap.size (.pointer (some ⟨w3.heap.size,0,none⟩)) (Lib.byteCells (OX r ns 0)) w6):=a1E
 have HB6:=aB (AL.out.trans (hb6.mono aF))
 have HZ6:=aB ((hb6.block _ aF).trans HZ5.out)
 have hp6:=(hb6.block _ aF).trans BD.out
 have d0:=aA hp6 0
 have d1:=aA hp6 1
 simp at d0 d1
 have hlt6:w.heap.size<w6.heap.size:=by omega
 clear hb6 AL HZ5 BD hbu a1E hp6 ebs c0 c1
 go_wp2_with fail
 go_loopw [24] (fun v24 wr=>∃ k:Nat,k≤ns.length∧v24=.int .i64 k∧Hid (Lib.BuilderAt 80 5 w3.heap.size w3.heap.size (.pointer (some ⟨w3.heap.size,0,none⟩)) (Lib.byteCells (OX r ns k)) wr)∧Hid (wr.heap[w2.heap.size]?=some (.cells eY 75 (0,0)))∧Below w.heap.size w wr∧w3.heap.size<wr.heap.size) (fun i _=>ns.length-(intOf i).toNat)
 case atStart=>exact ⟨0,Nat.zero_le _,rfl,HBU,HZ6,HB6.out,aF⟩
 case round =>
  obtain ⟨k,hk,rfl,HU,HZr,hb,hs8⟩:=hrel
  have hN' :=RX.below hb RX.lt
  have hlt' :=hN'.lt
  have hsz:=hb.size
  clear HBU HB6 HZ6 d0 d1
  by_cases hlt:k<ns.length
  ·obtain ⟨x,hx⟩:=bD hlt
   have c0:=hN'.c0 k x hx
   have c1:=hN'.c1 k x hx
   have c2:=hN'.c2 k x hx
   have c3:=hN'.c3 k x hx
   have c4:=hN'.c4 k x hx
   have c5:=hN'.c5 k x hx
   have htx:=HT.out x (List.mem_of_getElem? hx)
   have hfit:=htx.fits
   have a1F:=htx.op
   have hsu:=UR (r:=r) hx
   have hsl:=OY (r:=r) (ns:=ns) aF HT.out k
   have hll:=DC htx
   have HX:Hid (ns[k]?=some x):=hx
   have hnm:=HG.out x.op a1F
   clear hx hN' htx
   have bHN:x.op<13:=by omega
   have a6Y:0≤x.op:=a1F.1
   have HS:Hid (∀ u:World,Below (wr.heap.size+1) (wr.alloc (.cells #[.int .i64 x.op,.int .i64 x.d,.int .i64 x.a,.int .i64 x.b,.int .i64 x.t,.int .i64 x.e] 42)) u→u.cell? ⟨wr.heap.size,0,none⟩=some (.int .i64 x.op)∧u.cell? ⟨wr.heap.size,1,none⟩=some (.int .i64 x.d)∧u.cell? ⟨wr.heap.size,2,none⟩=some (.int .i64 x.a)∧u.cell? ⟨wr.heap.size,3,none⟩=some (.int .i64 x.b)∧u.cell? ⟨wr.heap.size,4,none⟩=some (.int .i64 x.t)∧u.cell? ⟨wr.heap.size,5,none⟩=some (.int .i64 x.e)∧u.cell? ⟨w2.heap.size,x.op.toNat,none⟩=some (.string (ba (BC x.op)))):=fun u h=>by
    have k1:=(h.block wr.heap.size aF).trans (jA rfl)
    have k2:=(h.block w2.heap.size aF).trans (aT _ HZr.out)
    refine ⟨?_,?_,?_,?_,?_,?_,?_⟩
    ·rw [aA k1];rfl
    ·rw [aA k1];rfl
    ·rw [aA k1];rfl
    ·rw [aA k1];rfl
    ·rw [aA k1];rfl
    ·rw [aA k1];rfl
    ·rw [aA k2];exact hnm
   have HE8:=aB (hE.below (hb.alloc hsz (.cells #[.int .i64 x.op,.int .i64 x.d,.int .i64 x.a,.int .i64 x.b,.int .i64 x.t,.int .i64 x.e] 42)))
   go_upto_region 10 with fail
   clear c0 c1 c2 c3 c4 c5 hnm
   have hw8:(wr.alloc (.cells #[.int .i64 x.op,.int .i64 x.d,.int .i64 x.a,.int .i64 x.b,.int .i64 x.t,.int .i64 x.e] 42)).heap.size=wr.heap.size+1:=by simp
   have HB8:=aB (hb.alloc hsz (.cells #[.int .i64 x.op,.int .i64 x.d,.int .i64 x.a,.int .i64 x.b,.int .i64 x.t,.int .i64 x.e] 42))
   have HU8:=aB (zP HU.out ((Below.refl wr.heap.size wr).alloc dD (.cells #[.int .i64 x.op,.int .i64 x.d,.int .i64 x.a,.int .i64 x.b,.int .i64 x.t,.int .i64 x.e] 42)))
   have HZ8:=aB (aT (.cells #[.int .i64 x.op,.int .i64 x.d,.int .i64 x.a,.int .i64 x.b,.int .i64 x.t,.int .i64 x.e] 42) HZr.out)
   generalize (wr.alloc (.cells #[.int .i64 x.op,.int .i64 x.d,.int .i64 x.a,.int .i64 x.b,.int .i64 x.t,.int .i64 x.e] 42))=W8 at HS HE8 hw8 HB8 HU8 HZ8 ⊢
   have AP:∀ u,Env u→Calls Tryz.prog 50 #[.agg #[.int .i64 x.op,.int .i64 x.d,.int .i64 x.a,.int .i64 x.b,.int .i64 x.t,.int .i64 x.e],.string (ba (BC x.op))] u fun e w' =>e=.returned (.string (ba (fO x)))∧Below u.heap.size u w' :=fun u hu=>by
    have:=OW x (BC x.op) u hu hfit (aAA _)
    rw [aKX] at this
    exact this
   have hLb:(ba (fO x)).size=(fO x).length:=by simp [ba,ByteArray.size]
   have hLd:Lib.strCells (ba (fO x)++⟨#[10]⟩)=Lib.byteCells (fO x++[10]):=by
    rw [show (⟨#[10]⟩:ByteArray)=ba [10] from rfl,oW];rfl
   generalize ba (fO x)=L at AP hLb hLd
   have hL1:¬ 9223372036854775807<L.size+1:=by omega
   have uD:(Lib.byteCells (OX r ns k)).length+(L++⟨#[10]⟩).size≤140737488355328:=by
    rw [aAK,ByteArray.size_append]
    show _+(L.size+1)≤_
    omega
   obtain ⟨n0,n1,n2,n3,n4,n5,n6⟩:=HS.out W8 (Below.refl _ _)
   clear HS
   go_region_with (first
    | (go_at_call 50;refine (AP _ (hE.below HB8.out.drew)).mono ?_;rintro e wa ⟨rfl,a7A⟩;have hba:Below (wr.heap.size+1) W8 wa:=(Below.refl _ _).drew.trans (by rw [← hw8];exact a7A))
    | (go_at_call 48;refine (DI w3.heap.size w3.heap.size _ _ _ (Or.inr (zP HU8.out (by rw [hw8];exact hba))) uD (by have:=hba.size;omega)).mono ?_;rintro e wb ⟨rfl,hub,hbb⟩))
   all_goals
    have hBb:Below w.heap.size w wb:=HB8.out.trans ((hba.mono aF).trans (hbb.mono aF))
    have hZb:=(hbb.block w2.heap.size aF).trans ((hba.block w2.heap.size aF).trans HZ8.out)
    have hUb:Lib.BuilderAt 80 5 w3.heap.size w3.heap.size (.pointer (some ⟨w3.heap.size,0,none⟩)) (Lib.byteCells (OX r ns (k+1))) wb:=by
     rw [hsu,← aAJ,← hLd];exact hub
    have hsb:w3.heap.size<wb.heap.size:=by have:=hba.size;have:=hbb.size;omega
    have yJ:=aB (And.intro hUb (And.intro hZb hBb))
    clear hUb hZb hBb hub hba hbb n0 n1 n2 n3 n4 n5 n6
    go_wp2_with fail
    go_roundw
    case rel=>exact ⟨k+1,aF,by go_num,yJ.out.1,yJ.out.2.1,yJ.out.2.2,hsb⟩
    case measure=>simp [intOf];omega
  ·have ek:k=ns.length:=by omega
   subst ek
   rw [aDI] at HU
   go_wp2_with fail
   refine (Tryz.Builder_String_any _ _ _ _ (Or.inr HU.out) aF).mono ?_
   rintro e w9 ⟨rfl,hb9⟩
   go_wp2_with fail
   exact bodyPost_ret (v:=.tuple #[.string (ba (eX r ns)),.int .i64 0]) (by simp [results,Tryz.results23,go_sem,ba]) rfl ⟨rfl,hb.trans (hb9.mono aF)⟩
theorem aDJ (s:ByteArray):ba s.data.toList=s:=by cases s;simp [ba]
theorem jB (l:List UInt8):(ba l).data.toList=l:=by simp [ba]
theorem yK (c:UInt8) (l:List UInt8) (w:World) (hE:Env w) (hs:l.length≤16448) :
 Calls Tryz.prog 80 #[.string (ba l),.string ⟨#[c]⟩] w fun e w' =>e=.returned (.slice (some ⟨w.heap.size,0,none⟩) (dB c l).length (dB c l).length)∧w' =w.alloc (.cells (strs (dB c l)).toArray 9):=by
 have h:=Tryz.strings_Split_shaped (ba l) ⟨#[c]⟩ w hE.sh (by show (ba l).data.size<_;simp [ba];omega) (by show 1≤(#[c]:Array UInt8).size;simp)
 have e1:(Lib.splitB ⟨#[c]⟩ 0 (Lib.countB (ba l) ⟨#[c]⟩) (ba l)).map (·.data.toList)=dB c l:=by
  rw [Lib.splitB_data,jB]
  exact (CV c l)
 have e2:(Lib.splitB ⟨#[c]⟩ 0 (Lib.countB (ba l) ⟨#[c]⟩) (ba l)).map Value.string=strs (dB c l):=by
  rw [← e1]
  unfold strs
  rw [List.map_map]
  exact List.map_congr_left fun s _=>by show Value.string s=Value.string (ba s.data.toList);rw [aDJ]
 have e3:Lib.countB (ba l) ⟨#[c]⟩+1=(dB c l).length:=by
  have:=Lib.splitB_all ⟨#[c]⟩ (by show 1≤(#[c]:Array UInt8).size;simp) 0 _ (ba l) rfl
  rw [← e1,List.length_map,this]
 rw [e2,e3] at h
 exact h
theorem DN (s:ByteArray) (w:World) (hE:Env w) (hs:s.size≤16448) :
 Calls Tryz.prog 83 #[.string s] w fun e w' =>∃ v er,e=.returned (.tuple #[.int .i64 v,er])∧(match Lib.atoiAll s.data.toList with | .ok u=>v=u∧er=.nilIface | _=>∃ N,er=.iface 190 (.pointer (some ⟨N,0,none⟩)))∧Below w.heap.size w w' :=by
 obtain ⟨t2,p2,h2⟩:=hE.syn
 obtain ⟨t3,p3,h3⟩:=hE.rng
 cases ha:Lib.atoiAll s.data.toList with
 | ok u =>
  refine (Tryz.strconv_Atoi_ok s aF u ha w).mono ?_
  rintro e w' ⟨rfl,hw⟩
  refine ⟨u,_,rfl,⟨rfl,rfl⟩,?_⟩
  rcases hw with rfl | ⟨t,rfl⟩
  ·exact Below.refl _ _
  ·exact Lib.bytesWorld_below _ _ _
 | «syntax» =>
  refine (Tryz.strconv_Atoi_syntax_var s aF ha t2 p2 w h2).mono ?_
  rintro e w' ⟨N,rfl,_,_,hb⟩
  exact ⟨_,_,rfl,⟨N,rfl⟩,hb⟩
 | range =>
  refine (Tryz.strconv_Atoi_range_var s aF ha t3 p3 w h3).mono ?_
  rintro e w' ⟨N,rfl,_,_,hb⟩
  exact ⟨_,_,rfl,⟨N,rfl⟩,hb⟩
theorem aLF (op d a b t e:Int) (w:World):Calls Tryz.prog 116 #[.int .i64 op,.agg #[.int .i64 d,.int .i64 a,.int .i64 b,.int .i64 t,.int .i64 e]] w fun r w' =>r=.returned (.agg #[.int .i64 op,.int .i64 d,.int .i64 a,.int .i64 b,.int .i64 t,.int .i64 e])∧Below w.heap.size w w' :=by
 go_enter Tryz.func116,Tryz.ntmps116
 go_wp2
 exact bodyPost_ret (v:=.agg #[.int .i64 op,.int .i64 d,.int .i64 a,.int .i64 b,.int .i64 t,.int .i64 e]) (by simp [results,Tryz.results116,go_sem]) rfl ⟨rfl,(dY).alloc aQ _⟩
def RY (ws:List (List UInt8)) (op:Int):Nat→Option (Nat × List Int)
 | 0=>some (1,[])
 | i+1=>match RY ws op i with
  | none=>none
  | some (k,vs)=>match gP ws k (kOf op i != 0) (i==3||i==4) with
   | none=>none
   | some (k', v)=>some (k', vs++[v])
theorem a1G (op:Int):(kOf op 0 != 0)=kF op∧(kOf op 1 != 0)=kG op∧(kOf op 2 != 0)=hasB op∧(kOf op 3 != 0)=mO op∧(kOf op 4 != 0)=oF op:=by
 refine ⟨?_,?_,?_,?_,?_⟩
 ·show (k0 op != 0)=_;unfold k0 kF;cases wi op 1 9 <;> rfl
 ·show (k1 op != 0)=_
  unfold k1 kG
  by_cases h:op=1
  ·rw [h];decide
  ·have q1:wi op 1 8=wi op 2 8:=by
    cases q:wi op 2 8
    ·have:=zK q
     cases q' :wi op 1 8
     ·rfl
     ·have:=aY.1 q'; omega
    ·have:=aY.1 q
     exact aY.2 aF
   rw [if_neg h,q1]
   cases (wi op 2 8||wi op 10 12) <;> rfl
 ·show (k2 op != 0)=_;unfold k2 hasB;cases wi op 3 8 <;> rfl
 ·show (k3 op != 0)=_;unfold k3 mO;cases wi op 0 11 <;> rfl
 ·show (k4 op != 0)=_
  unfold k4 oF
  by_cases h:op=11
  ·rw [h];decide
  ·have h2:(op==11)=false:=by simpa using h
   rw [if_neg h,h2];rfl
theorem aDK (ws:List (List UInt8)) (op:Int):∀ i {k vs},RY ws op i=some (k,vs)→vs.length=i
 | 0,k,vs,h=>by simp [RY] at h;obtain ⟨rfl,rfl⟩:=h;rfl
 | i+1,k,vs,h=>by
  unfold RY at h
  split at h
  ·cases h
  ·rename_i k1 vs1 h1
   have:=aDK ws op i h1
   split at h
   ·cases h
   ·simp at h;obtain ⟨_,rfl⟩:=h;simp [this]
def mkN (o:Nat) (vs:List Int):Nd:=⟨o,vs.getD 0 0,vs.getD 1 0,vs.getD 2 0,vs.getD 3 0,vs.getD 4 0⟩
theorem a1H {x:List UInt8} {r:List (List UInt8)} {o:Nat} (h:qZ x=some o):OP (x::r)=(RY (x::r) o 5).map fun p=>mkN o p.2:=by
 obtain ⟨h0,h1,h2,h3,h4⟩:=a1G (o:Int)
 unfold OP
 simp only [h]
 simp only [RY,h0,h1,h2,h3,h4]
 simp only [show ((0:Nat)==3||(0:Nat)==4)=false from rfl,show ((1:Nat)==3||(1:Nat)==4)=false from rfl,show ((2:Nat)==3||(2:Nat)==4)=false from rfl,show ((3:Nat)==3||(3:Nat)==4)=true from rfl,show ((4:Nat)==3||(4:Nat)==4)=true from rfl]
 cases gP (x::r) 1 (kF o) false with
 | none=>rfl
 | some p =>
  obtain ⟨k1,d⟩:=p
  simp only
  cases gP (x::r) k1 (kG o) false with
  | none=>rfl
  | some p =>
   obtain ⟨k2,a⟩:=p
   simp only
   cases gP (x::r) k2 (hasB o) false with
   | none=>rfl
   | some p =>
    obtain ⟨k3,b⟩:=p
    simp only
    cases gP (x::r) k3 (mO o) true with
    | none=>rfl
    | some p =>
     obtain ⟨k4,t⟩:=p
     simp only
     cases gP (x::r) k4 (oF o) true with
     | none=>rfl
     | some p=>rfl
def UT:Option Nd→Value
 | none=>.agg #[.int .i64 0,.int .i64 0,.int .i64 0,.int .i64 0,.int .i64 0,.int .i64 0]
 | some x=>.agg #[.int .i64 x.op,.int .i64 x.d,.int .i64 x.a,.int .i64 x.b,.int .i64 x.t,.int .i64 x.e]
theorem KE (u:World):(zeroValue 3).run Tryz.prog u=.ok (.int .i64 0) u:=by kernel_rfl
theorem aLG {x:List UInt8} (h:x.length≤16448):keyOf Tryz.prog 9 (.string (ba x))=some (.string x):=by
 have:=Go.WideMaps.keyOf_string_mk Tryz.underlying9 (s:=ba x) (by show (ba x).data.size≤_;simp [ba,maxLen];omega)
 rw [jB] at this
 exact this
theorem aFW (i:Nat):((i==3||i==4)=false∧(if (i:Int)=3 then ba toW else if (i:Int)=4 then ba IZ else ⟨#[]⟩)=⟨#[]⟩)∨((i==3||i==4)=true∧∃ y,(ba y).toList.isEmpty=false∧(if (i:Int)=3 then ba toW else if (i:Int)=4 then ba IZ else ⟨#[]⟩)=ba y):=by
 by_cases h3:i=3
 ·subst h3;exact Or.inr ⟨rfl,toW,by kernel_rfl,rfl⟩
 ·by_cases h4:i=4
  ·subst h4;exact Or.inr ⟨rfl,IZ,by kernel_rfl,rfl⟩
  ·rw [if_neg (show ¬ (i:Int)=3 by omega),if_neg (show ¬ (i:Int)=4 by omega)];exact Or.inl ⟨by simp [h3,h4],rfl⟩
theorem sI {ws:List (List UInt8)} {op:Int} {i:Nat} (h:RY ws op i=none):∀ j,RY ws op (i+j)=none
 | 0=>h
 | j+1=>by
  show RY ws op ((i+j)+1)=none
  unfold RY
  rw [sI h j]
theorem aLH {ws:List (List UInt8)} {op:Int} {i k:Nat} {vs:List Int} (h:RY ws op i=some (k,vs)):RY ws op (i+1)=match gP ws k (kOf op i != 0) (i==3||i==4) with
 | none=>none
 | some (k', v)=>some (k', vs++[v]):=by
 conv=>lhs;unfold RY
 rw [h]
 first | done | rfl
theorem rd_some {ws:List (List UInt8)} {k:Nat} {lead:Bool} {y:List UInt8} {v:Int} (h:ws[if lead then k+1 else k]?=some y) (hv:Lib.atoiAll y=.ok v):gP ws k true lead=some ((if lead then k+1 else k)+1,v):=by
 simp [gP,h,hv]
theorem aLI {ws:List (List UInt8)} {k:Nat} {lead:Bool} {y:List UInt8} (h:ws[if lead then k+1 else k]?=some y) (hv:∀ v,Lib.atoiAll y≠ .ok v):gP ws k true lead=none:=by
 cases e:Lib.atoiAll y with
 | ok v=>exact absurd e (hv v)
 | «syntax»=>simp [gP,h,e]
 | range=>simp [gP,h,e]
theorem aDL {ws:List (List UInt8)} {k:Nat} {lead:Bool} (h:ws[if lead then k+1 else k]?=none):gP ws k true lead=none:=by
 simp [gP,h]
def mI (vs:List Int):Array Value:=((vs++List.replicate (5-vs.length) 0).map (Value.int .i64)).toArray
theorem KG {vs:List Int} (h:vs.length≤5):(mI vs).size=5:=by simp [mI];omega
theorem aFX {vs:List Int} (h:vs.length<5):mI (vs++[0])=mI vs:=by
 unfold mI
 rw [List.length_append,List.length_singleton,List.append_assoc]
 congr 3
 rw [show 5-vs.length=(5-(vs.length+1))+1 by omega,List.replicate_succ]
 rfl
theorem UU {vs:List Int} {v:Int} (h:vs.length<5):(mI vs).setIfInBounds vs.length (.int .i64 v)=mI (vs++[v]):=by
 unfold mI
 rw [List.setIfInBounds_toArray,List.length_append,List.length_singleton]
 rw [show 5-vs.length=(5-(vs.length+1))+1 by omega,List.replicate_succ]
 simp
theorem aFY {vs:List Int} (h:vs.length=5):mI vs=#[.int .i64 (vs.getD 0 0),.int .i64 (vs.getD 1 0),.int .i64 (vs.getD 2 0),.int .i64 (vs.getD 3 0),.int .i64 (vs.getD 4 0)]:=by
 match vs,h with
 | [a,b,c,d,e],_=>rfl
theorem aVY (a0 a1 a2 a3 a4:Value) (w:World):(Instr.index 100 (.agg #[a0,a1,a2,a3,a4]) (.int .i64 0)).run Tryz.prog w=.ok a0 w:=by kernel_rfl
theorem aVZ (a0 a1 a2 a3 a4:Value) (w:World):(Instr.index 100 (.agg #[a0,a1,a2,a3,a4]) (.int .i64 1)).run Tryz.prog w=.ok a1 w:=by kernel_rfl
theorem aWA (a0 a1 a2 a3 a4:Value) (w:World):(Instr.index 100 (.agg #[a0,a1,a2,a3,a4]) (.int .i64 2)).run Tryz.prog w=.ok a2 w:=by kernel_rfl
theorem aWB (a0 a1 a2 a3 a4:Value) (w:World):(Instr.index 100 (.agg #[a0,a1,a2,a3,a4]) (.int .i64 3)).run Tryz.prog w=.ok a3 w:=by kernel_rfl
theorem aWC (a0 a1 a2 a3 a4:Value) (w:World):(Instr.index 100 (.agg #[a0,a1,a2,a3,a4]) (.int .i64 4)).run Tryz.prog w=.ok a4 w:=by kernel_rfl
theorem a7B (op:Int) {i:Nat} (h:i<5) (w:World):(Instr.index 100 (.agg #[.int .i64 (k0 op),.int .i64 (k1 op),.int .i64 (k2 op),.int .i64 (k3 op),.int .i64 (k4 op)]) (.int .i64 (i:Nat))).run Tryz.prog w=.ok (.int .i64 (kOf op i)) w:=by
 match i,h with
 | 0,_=>exact aVY _ _ _ _ _ w
 | 1,_=>exact aVZ _ _ _ _ _ w
 | 2,_=>exact aWA _ _ _ _ _ w
 | 3,_=>exact aWB _ _ _ _ _ w
 | 4,_=>exact aWC _ _ _ _ _ w
theorem bV {P:Program} {fn:Func} {p q:Tmp} {ty:TypeId} (h:fn.results=#[.cell p ty,.tmp q]) (tmps:Array Value) (w:World) (g:Nat) (t:TypeId) (cs:Array Value) (fr:Nat × Nat) (d:TypeDesc) (v:Value)
 (hp:tmps.getD p undef=.pointer (some ⟨g,0,none⟩)) (hg:w.heap[g]?=some (.cells cs t fr))
 (hu:P.underlying ty=some d) (hd:(match d with | .struct _ | .array _ _=>true | _=>false)=true) (hi:(P.info? ty).map (·.size)=some cs.size) (hv:tmps.getD q undef=v) :
 (results fn tmps).run P w=.ok (.tuple #[.agg cs,v]) w:=by
 have hp' :tmps[p]?.getD undef=.pointer (some ⟨g,0,none⟩):=by simpa using hp
 have hv' :tmps[q]?.getD undef=v:=by simpa using hv
 simp [results,h,hp', hv', asAddr,run_loadVar_row w g t ty cs fr d hg hu hd hi]
def z6:Array Value:=#[.int .i64 0,.int .i64 0,.int .i64 0,.int .i64 0,.int .i64 0,.int .i64 0]
theorem iO:(Tryz.prog.info? 42).map (·.size)=some z6.size:=by kernel_rfl
theorem aDM (a b c d e f:Int):(#[.int .i64 a,.int .i64 b,.int .i64 c,.int .i64 d,.int .i64 e,.int .i64 f]:Array Value).all (·.oneCell')=true:=by
 simp [Value.oneCell']
theorem DR:z6.all (·.oneCell')=true:=by kernel_rfl
theorem OZ (l x:List UInt8) (r:List (List UInt8)) (mb:Nat) (w:World) (hE:Env w) (hl:l.length≤16448) (hx:x.length≤16448) (hM:w.ownsMap Tryz.prog 9 (plainElem Tryz.prog 3) mb 13 DD) (hw:dB 32 l=x::r) (ho:qZ x=none) :
 Calls Tryz.prog 85 #[.string (ba l),.map (some mb)] w fun e w' =>e=.returned (.tuple #[UT none,.bool false])∧Below w.heap.size w w' :=by
 have KK:=Keyed.of_law aRI
 have hsp:=yK 32 l (w.alloc (.cells #[.int .i64 0,.int .i64 0,.int .i64 0,.int .i64 0,.int .i64 0,.int .i64 0] 42)) (hE.below (dY)) hl
 rw [hw] at hsp
 go_enter Tryz.func85,Tryz.ntmps85
 go_wp2_with fail
 refine hsp.mono ?_
 rintro e w1 ⟨rfl,hw1⟩
 have hM1:w1.ownsMap Tryz.prog 9 (plainElem Tryz.prog 3) mb 13 DD:=by rw [hw1];exact (hM.alloc _).alloc _
 have hp0:w1.heap[w.heap.size]?=some (.cells #[.int .i64 0,.int .i64 0,.int .i64 0,.int .i64 0,.int .i64 0,.int .i64 0] 42 (0,0)):=by rw [hw1];exact aT _ (jA rfl)
 have hp1:w1.heap[w.heap.size+1]?=some (.cells (strs (x::r)).toArray 9 (0,0)):=by rw [hw1];exact jA aQ
 have hB1:Below w.heap.size w w1:=by rw [hw1];exact (dY).alloc aQ _
 have hs1:w1.heap.size=w.heap.size+2:=by rw [hw1];simp
 clear hw1 hsp
 have cx:=aA hp1 0
 have hpos:(0:Int)<((x::r).length:Int):=by rw [List.length_cons];omega
 simp [strs] at cx
 generalize (x::r).length=n at hpos ⊢
 go_wp2_with (first
  | (refine wpList_lookup_own_ok_int _ rfl _ _ 136 rfl 9 3 .i64 KK Tryz.underlying136 Tryz.underlying3 (KE _) mb 13 DD rfl hM1 _ _ rfl (aLG hx) ?_;intro c hat hwc;rw [OT,ho])
  | (refine wpList_plain rfl fun _ hK=>wp_store_row _ _ _ rfl _ z6 rfl rfl _ _ hp0 iO rfl DR (hK _ _ ?_)))
 exact bodyPost_ret (bV Tryz.results85 _ _ _ _ _ _ _ (.bool false) rfl (setRow_heap _ _ _ z6 _ _ hp0) Tryz.underlying42 rfl iO rfl) rfl ⟨rfl,hB1.trans ⟨rfl,rfl,rfl,aQ,fun k hk=>setRow_other _ _ _ _ aF⟩⟩
theorem UV (l x:List UInt8) (r:List (List UInt8)) (o:Nat) (mb:Nat) (w:World) (hE:Env w) (hl:l.length≤16448) (hx:∀ y∈x::r,y.length≤16448) (hM:w.ownsMap Tryz.prog 9 (plainElem Tryz.prog 3) mb 13 DD) (hw:dB 32 l=x::r) (ho:qZ x=some o) (hlr:(x::r).length≤16449) :
 Calls Tryz.prog 85 #[.string (ba l),.map (some mb)] w fun e w' =>e=.returned (.tuple #[UT (OP (x::r)),.bool (OP (x::r)).isSome])∧Below w.heap.size w w' :=by
 have hres:=a1H (r:=r) ho
 have KK:=Keyed.of_law aRI
 have hsp:=yK 32 l (w.alloc (.cells #[.int .i64 0,.int .i64 0,.int .i64 0,.int .i64 0,.int .i64 0,.int .i64 0] 42)) (hE.below (dY)) hl
 rw [hw] at hsp
 go_enter Tryz.func85,Tryz.ntmps85
 go_wp2_with fail
 refine hsp.mono ?_
 rintro e w1 ⟨rfl,hw1⟩
 have hM1:w1.ownsMap Tryz.prog 9 (plainElem Tryz.prog 3) mb 13 DD:=by rw [hw1];exact (hM.alloc _).alloc _
 have hp0:w1.heap[w.heap.size]?=some (.cells #[.int .i64 0,.int .i64 0,.int .i64 0,.int .i64 0,.int .i64 0,.int .i64 0] 42 (0,0)):=by rw [hw1];exact aT _ (jA rfl)
 have hp1:w1.heap[w.heap.size+1]?=some (.cells (strs (x::r)).toArray 9 (0,0)):=by rw [hw1];exact jA aQ
 have hB1:Below w.heap.size w w1:=by rw [hw1];exact (dY).alloc aQ _
 have hs1:w.heap.size+2≤w1.heap.size:=by rw [hw1];simp
 clear hw1 hsp
 have cx:=aA hp1 0
 have hpos:(0:Int)<((x::r).length:Int):=by rw [List.length_cons];omega
 simp [strs] at cx
 clear hw
 generalize hn:(x::r).length=n at hpos ⊢
 have HN:=aB hn
 clear hn
 go_upto_region 5 with (refine wpList_lookup_own_ok_int _ rfl _ _ 136 rfl 9 3 .i64 KK Tryz.underlying136 Tryz.underlying3 (KE _) mb 13 DD rfl hM1 _ _ rfl (aLG (hx x (List.mem_cons_self ..))) ?_;intro c hat hwc;rw [OQ,ho] at hat;obtain rfl:c=(o:Int):=((Lit.int.inj (DataW.lit.inj hat)).2).symm;rw [OT,ho])
 clear hat hwc cx hpos
 have HP0:=aB hp0
 have kH:=aB hp1
 have HB1:=aB hB1
 clear hp0 hp1 hB1 hM1 hM KK
 go_wp2_with fail
 refine (nE _ _).mono ?_
 rintro e w2 ⟨rfl,hb2⟩
 have hs2:=hb2.size
 simp only [World.size_alloc] at hs2 hb2
 have oG:Hid (w2.heap[w1.heap.size]?=some (.cells (mI []) 103 (0,0))):=(hb2.block _ aF).trans (jA rfl)
 have a1I:Hid (w2.heap[w.heap.size]?=some (.cells z6 42 (0,0))):=(hb2.block _ aF).trans (aT _ HP0.out)
 have a1J:=aB ((hb2.block _ aF).trans (aT (.cells (mI []) 103 (0,0)) kH.out))
 have HB2:Hid (Below w.heap.size w w2):=(HB1.out.alloc aF _).trans (hb2.mono aF)
 clear hb2 HP0 kH HB1
 go_wp2_with fail
 go_loopw [9,36] (fun v9 v36 wr=>∃ (i k:Nat) (vs:List Int),i≤5∧v36=.int .i64 (i:Nat)∧v9=.int .i64 (k:Nat)∧k≤1+2*i∧Hid (RY (x::r) o i=some (k,vs))∧Hid (wr.heap[w1.heap.size]?=some (.cells (mI vs) 103 (0,0)))∧Hid (wr.heap[w.heap.size]?=some (.cells z6 42 (0,0)))∧Hid (wr.heap[w.heap.size+1]?=some (.cells (strs (x::r)).toArray 9 (0,0)))∧Below w.heap.size w wr) (fun _ v36 _=>(5-intOf v36).toNat)
 case atStart=>exact ⟨0,1,[],aF,rfl,rfl,aF,rfl,aT _ oG.out,aT _ a1I.out,aT _ a1J.out,HB2.out.alloc aF _⟩
 case round =>
  obtain ⟨i,k,vs,hi5,rfl,rfl,hk,HR,HV,HP,HW,hB⟩:=hrel
  clear oG a1I a1J HB2
  have hsz:=hB.size
  have hvl:=aDK _ _ _ HR.out
  by_cases hq5:i=5
  ·subst hq5
   rw [HR.out] at hres
   have hV:=HV.out
   rw [aFY hvl] at hV
   have t0:wr.cell? ⟨w1.heap.size,0,none⟩=some (.int .i64 (vs.getD 0 0)):=aA hV 0
   have t1:wr.cell? ⟨w1.heap.size,1,none⟩=some (.int .i64 (vs.getD 1 0)):=aA hV 1
   have t2:wr.cell? ⟨w1.heap.size,2,none⟩=some (.int .i64 (vs.getD 2 0)):=aA hV 2
   have t3:wr.cell? ⟨w1.heap.size,3,none⟩=some (.int .i64 (vs.getD 3 0)):=aA hV 3
   have t4:wr.cell? ⟨w1.heap.size,4,none⟩=some (.int .i64 (vs.getD 4 0)):=aA hV 4
   clear hV
   generalize hm0:vs.getD 0 0=m0 at t0
   generalize hm1:vs.getD 1 0=m1 at t1
   generalize hm2:vs.getD 2 0=m2 at t2
   generalize hm3:vs.getD 3 0=m3 at t3
   generalize PD:vs.getD 4 0=m4 at t4
   go_wp2_with fail
   refine (aLF _ _ _ _ _ _ _).mono ?_
   rintro e w5 ⟨rfl,hb5⟩
   have hp5:=bP hb5 HP.out
   have hB5:=hB.trans (hb5.mono hsz)
   go_wp2_with (refine wpList_plain rfl fun _ hK=>wp_store_row _ _ _ rfl _ #[.int .i64 (o:Int),.int .i64 m0,.int .i64 m1,.int .i64 m2,.int .i64 m3,.int .i64 m4] rfl rfl _ _ hp5 iO rfl (aDM _ _ _ _ _ _) (hK _ _ ?_))
   refine bodyPost_ret (bV Tryz.results85 _ _ _ _ _ _ _ (.bool true) rfl (setRow_heap _ _ _ #[.int .i64 (o:Int),.int .i64 m0,.int .i64 m1,.int .i64 m2,.int .i64 m3,.int .i64 m4] _ _ hp5) Tryz.underlying42 rfl iO rfl) rfl ⟨?_,hB5.trans ⟨rfl,rfl,rfl,aQ,fun k hk=>setRow_other _ _ _ _ aF⟩⟩
   rw [hres]
   subst hm0 hm1 hm2 hm3 PD
   rfl
  ·have hlt:i<5:=by omega
   have aRJ:(i:Int)<5:=by omega
   have hst:=aLH HR.out
   have hix:=a7B (o:Int) hlt
   have hEr:=hE.below hB
   generalize hkv:kOf (o:Int) i=K at hix hst
   by_cases hk0:K=0
   ·subst hk0
    rw [show ((0:Int) != 0)=false from rfl,aUO] at hst
    go_wp2_with fail
    go_roundw
    case rel=>exact ⟨i+1,k,vs++[0],aF,aQ,rfl,aF,hst,by show _=_;rw [aFX aF];exact HV.out,HP,HW,hB⟩
    case measure=>simp [intOf];omega
   ·have hK1:(K != 0)=true:=by simpa using hk0
    rw [hK1] at hst
    rcases aFW i with ⟨hfl,hlw⟩ | ⟨hfl,y,hyn,hlw⟩
    ·have hA:(if (i==3||i==4)=true then k+1 else k)=k:=by rw [hfl];rfl
     go_wp2_with fail
     refine (wM _ _).mono ?_
     rintro e w' ⟨rfl,rfl⟩
     rw [hlw]
     by_cases hov:(x::r).length≤k
     ·have hno:RY (x::r) o 5=none:=by
       rw [aDL (by rw [hA];exact List.getElem?_eq_none hov)] at hst
       rw [show 5=(i+1)+(4-i) by omega]
       exact sI hst _
      have a7C:(n:Int)≤(k:Nat):=by have:=HN.out;omega
      have hp:=HP.out
      go_wp2_with (refine wpList_plain rfl fun _ hK=>wp_store_row _ _ _ rfl _ z6 rfl rfl _ _ hp iO rfl DR (hK _ _ ?_))
      refine bodyPost_ret (bV Tryz.results85 _ _ _ _ _ _ _ (.bool false) rfl (setRow_heap _ _ _ z6 _ _ hp) Tryz.underlying42 rfl iO rfl) rfl ⟨?_,hB.trans ⟨rfl,rfl,rfl,aQ,fun k hk=>setRow_other _ _ _ _ aF⟩⟩
      rw [hres,hno];rfl
     ·have hin:k<(x::r).length:=by omega
      have a7D:((k:Nat):Int)<(n:Int):=by have:=HN.out;omega
      obtain ⟨yw,hyw⟩:=bD hin
      have hcy:=(aA HW.out k).trans (by rw [List.getElem?_toArray];unfold strs;rw [List.getElem?_map,hyw];rfl:(strs (x::r)).toArray[k]?=some (.string (ba yw)))
      have hyl:=hx yw (List.mem_of_getElem? hyw)
      go_wp2_with fail
      refine (DN (ba yw) _ hEr (by show (ba yw).data.size≤_;simp [ba];omega)).mono ?_
      rintro e w3 ⟨v,er,rfl,hm,hb3⟩
      rw [jB] at hm
      have hs3:=hb3.size
      have hP3:=bP hb3 HP.out
      have hV3:=bP hb3 HV.out
      have HW3:=aB (bP hb3 HW.out)
      have hB3:=hB.trans (hb3.mono hsz)
      have HIX:=aB hix
      clear hb3 HP HV HW hB hcy hix
      by_cases hok:∃ u,Lib.atoiAll yw=.ok u
      ·obtain ⟨u,hu⟩:=hok
       rw [hu] at hm
       obtain ⟨rfl,rfl⟩:=hm
       rw [rd_some (by rw [hA];exact hyw) hu,hA] at hst
       have hv5:(mI vs).size=5:=KG aF
       have q:=aA hV3 i
       have gq:=aC hV3 i
       rw [Array.getElem?_eq_getElem aF] at q
       generalize (mI vs)[i]'(by omega)=vq at q
       have yL:=aB hV3
       have vB:=aB hP3
       have HB3:=aB hB3
       clear hV3 hP3 hB3
       go_wp2_with fail
       go_roundw
       case rel =>
        refine ⟨i+1,_,_,aF,aQ,?_,aF,hst,?_,aN _ vB.out aF,aN _ HW3.out aF,HB3.out.setCell bF _⟩
        ·go_num
        ·show _=_
         rw [aG _ yL.out,← hvl,UU aF]
       case measure=>simp [intOf];omega
      ·have hno:RY (x::r) o 5=none:=by
        rw [aLI (by rw [hA];exact hyw) (fun u hu=>hok ⟨u,hu⟩)] at hst
        rw [show 5=(i+1)+(4-i) by omega]
        exact sI hst _
       obtain ⟨N,rfl⟩:∃ N,er=.iface 190 (.pointer (some ⟨N,0,none⟩)):=by
        cases e:Lib.atoiAll yw with
        | ok u=>exact absurd ⟨u,e⟩ hok
        | «syntax»=>rw [e] at hm;exact hm
        | range=>rw [e] at hm;exact hm
       go_wp2_with (refine wpList_plain rfl fun _ hK=>wp_store_row _ _ _ rfl _ z6 rfl rfl _ _ hP3 iO rfl DR (hK _ _ ?_))
       refine bodyPost_ret (bV Tryz.results85 _ _ _ _ _ _ _ (.bool false) rfl (setRow_heap _ _ _ z6 _ _ hP3) Tryz.underlying42 rfl iO rfl) rfl ⟨?_,hB3.trans ⟨rfl,rfl,rfl,aQ,fun k hk=>setRow_other _ _ _ _ aF⟩⟩
       rw [hres,hno];rfl
    ·have hA:(if (i==3||i==4)=true then k+1 else k)=(k+1):=by rw [hfl];rfl
     go_wp2_with fail
     refine (wM _ _).mono ?_
     rintro e w' ⟨rfl,rfl⟩
     rw [hlw]
     by_cases hov:(x::r).length≤(k+1)
     ·have hno:RY (x::r) o 5=none:=by
       rw [aDL (by rw [hA];exact List.getElem?_eq_none hov)] at hst
       rw [show 5=(i+1)+(4-i) by omega]
       exact sI hst _
      have a7C:(n:Int)≤((k+1):Nat):=by have:=HN.out;omega
      have hp:=HP.out
      go_wp2_with (refine wpList_plain rfl fun _ hK=>wp_store_row _ _ _ rfl _ z6 rfl rfl _ _ hp iO rfl DR (hK _ _ ?_))
      refine bodyPost_ret (bV Tryz.results85 _ _ _ _ _ _ _ (.bool false) rfl (setRow_heap _ _ _ z6 _ _ hp) Tryz.underlying42 rfl iO rfl) rfl ⟨?_,hB.trans ⟨rfl,rfl,rfl,aQ,fun k hk=>setRow_other _ _ _ _ aF⟩⟩
      rw [hres,hno];rfl
     ·have hin:(k+1)<(x::r).length:=by omega
      have a7D:(((k+1):Nat):Int)<(n:Int):=by have:=HN.out;omega
      obtain ⟨yw,hyw⟩:=bD hin
      have hcy:=(aA HW.out (k+1)).trans (by rw [List.getElem?_toArray];unfold strs;rw [List.getElem?_map,hyw];rfl:(strs (x::r)).toArray[(k+1)]?=some (.string (ba yw)))
      have hyl:=hx yw (List.mem_of_getElem? hyw)
      go_wp2_with fail
      refine (DN (ba yw) _ hEr (by show (ba yw).data.size≤_;simp [ba];omega)).mono ?_
      rintro e w3 ⟨v,er,rfl,hm,hb3⟩
      rw [jB] at hm
      have hs3:=hb3.size
      have hP3:=bP hb3 HP.out
      have hV3:=bP hb3 HV.out
      have HW3:=aB (bP hb3 HW.out)
      have hB3:=hB.trans (hb3.mono hsz)
      have HIX:=aB hix
      clear hb3 HP HV HW hB hcy hix
      by_cases hok:∃ u,Lib.atoiAll yw=.ok u
      ·obtain ⟨u,hu⟩:=hok
       rw [hu] at hm
       obtain ⟨rfl,rfl⟩:=hm
       rw [rd_some (by rw [hA];exact hyw) hu,hA] at hst
       have hv5:(mI vs).size=5:=KG aF
       have q:=aA hV3 i
       have gq:=aC hV3 i
       rw [Array.getElem?_eq_getElem aF] at q
       generalize (mI vs)[i]'(by omega)=vq at q
       have yL:=aB hV3
       have vB:=aB hP3
       have HB3:=aB hB3
       clear hV3 hP3 hB3
       go_wp2_with fail
       go_roundw
       case rel =>
        refine ⟨i+1,_,_,aF,aQ,?_,aF,hst,?_,aN _ vB.out aF,aN _ HW3.out aF,HB3.out.setCell bF _⟩
        ·go_num
        ·show _=_
         rw [aG _ yL.out,← hvl,UU aF]
       case measure=>simp [intOf];omega
      ·have hno:RY (x::r) o 5=none:=by
        rw [aLI (by rw [hA];exact hyw) (fun u hu=>hok ⟨u,hu⟩)] at hst
        rw [show 5=(i+1)+(4-i) by omega]
        exact sI hst _
       obtain ⟨N,rfl⟩:∃ N,er=.iface 190 (.pointer (some ⟨N,0,none⟩)):=by
        cases e:Lib.atoiAll yw with
        | ok u=>exact absurd ⟨u,e⟩ hok
        | «syntax»=>rw [e] at hm;exact hm
        | range=>rw [e] at hm;exact hm
       go_wp2_with (refine wpList_plain rfl fun _ hK=>wp_store_row _ _ _ rfl _ z6 rfl rfl _ _ hP3 iO rfl DR (hK _ _ ?_))
       refine bodyPost_ret (bV Tryz.results85 _ _ _ _ _ _ _ (.bool false) rfl (setRow_heap _ _ _ z6 _ _ hP3) Tryz.underlying42 rfl iO rfl) rfl ⟨?_,hB3.trans ⟨rfl,rfl,rfl,aQ,fun k hk=>setRow_other _ _ _ _ aF⟩⟩
       rw [hres,hno];rfl
theorem wO (c:UInt8):∀ (l:List UInt8) {y:List UInt8},y∈dB c l→y.length≤l.length
 | [],y,h=>by simp [dB] at h;subst h;exact Nat.le_refl _
 | b::l,y,h=>by
  unfold dB at h
  split at h
  ·rcases List.mem_cons.1 h with rfl | h
   ·simp
   ·have:=wO c l h;simp;omega
  ·split at h
   ·rename_i e;exact absurd e (qY c l)
   ·rename_i z r e
    have hz:z∈dB c l:=by rw [e];exact List.mem_cons_self ..
    rcases List.mem_cons.1 h with rfl | h
    ·have:=wO c l hz;simp;omega
    ·have:=wO c l (y:=y) (by rw [e];exact List.mem_cons_of_mem _ h);simp;omega
theorem PE (c:UInt8):∀ (l:List UInt8),(dB c l).length≤l.length+1
 | []=>by simp [dB]
 | b::l=>by
  have ih:=PE c l
  unfold dB
  split
  ·simp;omega
  ·split
   ·simp
   ·rename_i z r e
    rw [e] at ih
    simp at ih ⊢;omega
theorem PM (l:List UInt8) (mb:Nat) (w:World) (hE:Env w) (hl:l.length≤16448) (hM:w.ownsMap Tryz.prog 9 (plainElem Tryz.prog 3) mb 13 DD) :
 Calls Tryz.prog 85 #[.string (ba l),.map (some mb)] w fun e w' =>e=.returned (.tuple #[UT (OP (dB 32 l)),.bool (OP (dB 32 l)).isSome])∧Below w.heap.size w w' :=by
 have h1:∀ y∈dB 32 l,y.length≤16448:=fun y hy=>Nat.le_trans (wO 32 l hy) hl
 have h2:=PE 32 l
 cases hw:dB 32 l with
 | nil=>exact absurd hw (qY 32 l)
 | cons x r =>
  rw [hw] at h1 h2
  cases ho:qZ x with
  | none =>
   have e:OP (x::r)=none:=by unfold OP;simp only [ho]
   rw [e]
   exact OZ l x r mb w hE hl (h1 x (List.mem_cons_self ..)) hM hw ho
  | some o=>exact UV l x r o mb w hE hl h1 hM hw ho aF
def jT (x:Nd):List Value:=[.int .i64 x.op,.int .i64 x.d,.int .i64 x.a,.int .i64 x.b,.int .i64 x.t,.int .i64 x.e]
theorem DT:(Tryz.prog.info? 42).map (fun i=>(i.zero,i.size,i.bytes))=some (some (.agg #[.int .i64 0,.int .i64 0,.int .i64 0,.int .i64 0,.int .i64 0,.int .i64 0]),6,48):=by kernel_rfl
theorem aAM {ls:List (List UInt8)} {i:Nat} {y:List UInt8} {ns:List Nd} {x:Nd} (h:jJ (ls.take i)=some ns) (hy:ls[i]?=some y) (hx:OP (dB 32 y)=some x):jJ (ls.take (i+1))=some (ns++[x]):=by
 induction ls generalizing i ns with
 | nil=>simp at hy
 | cons a ls ih =>
  cases i with
  | zero =>
   simp at hy;subst hy
   simp [jJ] at h;subst h
   simp [jJ,hx]
  | succ i =>
   simp only [List.take_succ_cons,jJ] at h ⊢
   cases e:OP (dB 32 a) with
   | none=>rw [e] at h;simp at h
   | some z =>
    rw [e] at h
    simp only at h ⊢
    cases e2:jJ (ls.take i) with
    | none=>rw [e2] at h;simp at h
    | some m =>
     rw [e2] at h
     simp at h;subst h
     rw [ih e2 (by simpa using hy)]
     rfl
theorem aAN {ls:List (List UInt8)} {y:List UInt8} (hy:y∈ls) (hx:OP (dB 32 y)=none):jJ ls=none:=by
 induction ls with
 | nil=>cases hy
 | cons a ls ih =>
  unfold jJ
  rcases List.mem_cons.1 hy with rfl | hy
  ·rw [hx]
  ·cases e:OP (dB 32 a) with
   | none=>rfl
   | some z=>simp only;rw [ih hy];rfl
def z2:Array Value:=#[.int .i64 0,.slice none 0 0]
theorem dL:(Tryz.prog.info? 24).map (·.size)=some z2.size:=by kernel_rfl
theorem rC:z2.all (·.oneCell')=true:=by kernel_rfl
def wP (q:Option (Int × List Nd)) (base:Nat) (e:Ending) (w' :World):Prop :=
 match q with
 | none=>e=.returned (.tuple #[.agg #[.int .i64 0,.slice none 0 0],.bool false])
 | some (r,ns)=>∃ a cap,e=.returned (.tuple #[.agg #[.int .i64 r,.slice a ns.length cap],.bool true])∧w'.ownsRow base 42 6 (.slice a ns.length cap) ns.length (ns.flatMap jT)
theorem aAO (l:List UInt8) (w:World) (hl:16448<l.length) (hl2:l.length≤140737488355328) :
 Calls Tryz.prog 46 #[.string (ba l)] w fun e w' =>e=.returned (.tuple #[.agg #[.int .i64 0,.slice none 0 0],.bool false])∧Below w.heap.size w w' :=by
 have hsz:(ba l).size=l.length:=by simp [ba,ByteArray.size]
 have hli:(16448:Int)<(l.length:Int):=by omega
 have hp0:(w.alloc (.cells z2 24)).heap[w.heap.size]?=some (.cells z2 24 (0,0)):=jA rfl
 have hB1:Below w.heap.size w (w.alloc (.cells z2 24)):=dY
 go_enter Tryz.func46,Tryz.ntmps46
 go_wp2_with (refine wpList_plain rfl fun _ hK=>wp_store_row _ _ _ rfl _ z2 rfl rfl _ _ hp0 dL rfl rC (hK _ _ ?_))
 exact bodyPost_ret (bV Tryz.results46 _ _ _ _ _ _ _ (.bool false) rfl (setRow_heap _ _ _ z2 _ _ hp0) Tryz.underlying24 rfl dL rfl) rfl ⟨rfl,hB1.trans ⟨rfl,rfl,rfl,aQ,fun k hk=>setRow_other _ _ _ _ aF⟩⟩
end Go.Proofs.YtegloodcbfalfaaGreatDoor
