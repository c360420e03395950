/-
  Of the proof of WholePasses: FR, FM.
-/
import Derived.Test.YtegloodcbfalfaaGreatDoorW2
import Derived.Test.YtegloodcbfalfaaGreatDoorW6
import Derived.Test.YtegloodcbfalfaaGreatDoorW9
import Derived.Test.YtegloodcbfalfaaGreatDoorW10
import Derived.Deep.RegionHeld3
import Derived.Deep.DeepCutAuto
set_option linter.unusedVariables false
set_option linter.unusedSimpArgs false
set_option maxHeartbeats 40000000
set_option maxRecDepth 100000
namespace Go.Proofs.YtegloodcbfalfaaGreatDoor
open Go.RowKit Go.Shelf
set_option maxHeartbeats 40000000
attribute [local go_sem] upd_same upd_ne
structure SSr (w:World) (r:Int) (b off cap:Nat) (ns:List Nd) (t:Tm) (m:Nat) (x:Nd) (u:World):Prop where
 p0:u.cell? ⟨w.heap.size,0,none⟩=some (.int .i64 r)
 p1:u.cell? ⟨w.heap.size,1,none⟩=some (.slice (some ⟨b,off,none⟩) ns.length cap)
 t0:u.cell? ⟨w.heap.size+1,0,none⟩=some (.int .i64 t.op)
 t1:u.cell? ⟨w.heap.size+1,1,none⟩=some (.int .i64 t.a)
 t2:u.cell? ⟨w.heap.size+1,2,none⟩=some (.int .i64 t.b)
 n0:u.cell? ⟨b,off+m*6,none⟩=some (.int .i64 x.op)
 n1:u.cell? ⟨b,off+m*6+1,none⟩=some (.int .i64 x.d)
 n2:u.cell? ⟨b,off+m*6+2,none⟩=some (.int .i64 x.a)
 n3:u.cell? ⟨b,off+m*6+3,none⟩=some (.int .i64 x.b)
 n4:u.cell? ⟨b,off+m*6+4,none⟩=some (.int .i64 x.t)
 n5:u.cell? ⟨b,off+m*6+5,none⟩=some (.int .i64 x.e)
 pl:w.heap.size<u.heap.size
 tl:w.heap.size+1<u.heap.size
 nl:b<u.heap.size
 mi:(m:Int)<(ns.length:Int)
section
variable {w wr:World} {r:Int} {b off cap:Nat} {ns:List Nd} {t:Tm} {m j q:Nat} {x:Nd} {l:List Nat} {bb oo d Z Y:Nat} {a:Option Addr} {A XJ UM LM:Bool} {cs:Array Value} {F:(Nat→Value)→Array Value} {f:Nat→Value} {Q:Exit→Act→World→Prop}
abbrev eD (n:Nat):Go.Edge:=⟨n,.data⟩
abbrev eG (n:Nat):Go.Edge:=⟨n,.guard⟩
abbrev eP (n:Nat):Go.Edge:=⟨n,.phase⟩
abbrev kV:= "flow.go:102"
abbrev a4E:Array Oper:=#[⟨some 105,.move (.tmp 7),73, kV, #[],none⟩,⟨some 106,.move (.tmp 17),3, kV, #[],none⟩,⟨some 107,.fieldAddr 24 (.tmp 2) 1,0, kV, #[],none⟩,⟨some 108,.load 22 (.tmp 107),22, kV, #[eD 2],none⟩,⟨some 109,.move (.tmp 17),3, kV, #[],none⟩,⟨some 110,.indexAddr 22 (.tmp 108) (.tmp 109),0, kV, #[eD 3,eD 4],none⟩,⟨some 111,.load 42 (.tmp 110),42, kV, #[eD 5],none⟩,⟨some 112,.load 59 (.tmp 3),59, kV, #[],none⟩,⟨some 113,.call { callee:=.value (.func 108),args:=#[.tmp 111,.tmp 112],argTypes:=#[42,59] },4, kV, #[eD 6,eD 7],none⟩,⟨some 114,.move (.tmp 113),4, kV, #[eD 8,⟨8,.chain⟩],none⟩,⟨some 115,.fieldAddr 24 (.tmp 2) 1,0, kV, #[eG 9],some (9,false)⟩,⟨some 116,.load 22 (.tmp 115),22, kV, #[eD 10,eG 9],some (9,false)⟩,⟨some 117,.move (.tmp 17),3, kV, #[eG 9],some (9,false)⟩,⟨some 118,.indexAddr 22 (.tmp 116) (.tmp 117),0, kV, #[eD 11,eD 12,eG 9],some (9,false)⟩,⟨some 119,.load 42 (.tmp 118),42, kV, #[eD 13,eG 9],some (9,false)⟩,⟨some 120,.load 59 (.tmp 3),59, kV, #[eG 9],some (9,false)⟩,⟨some 121,.call { callee:=.value (.func 137),args:=#[.tmp 119,.tmp 120],argTypes:=#[42,59] },4, kV, #[eD 14,eD 15,⟨9,.chain⟩,eG 9],some (9,false)⟩,⟨some 122,.move (.tmp 121),4, kV, #[eD 16,⟨16,.chain⟩,eG 9],some (9,false)⟩,⟨some 123,.move (.tmp 18),25, kV, #[eG 17],some (17,true)⟩,⟨some 124,.call { callee:=.builtin Go.Builtin.len,args:=#[.tmp 123],argTypes:=#[25] },3, kV, #[eD 18,eG 17],some (17,true)⟩,⟨some 125,.binOp Go.BinOp.gtr 3 (.tmp 124) (.const (Go.Value.int Go.IntKind.i64 0)) 3,4, kV, #[eD 19,eG 17],some (17,true)⟩,⟨some 126,.pick (.tmp 122) (.tmp 125) (.const (Go.Value.bool false)),4, kV, #[eD 17,eD 20,eG 9],some (9,false)⟩,⟨some 127,.move (.tmp 126),4, kV, #[eD 21,⟨17,.chain⟩,eG 9],some (9,false)⟩,⟨some 128,.move (.tmp 19),4, kV, #[eG 22],some (22,true)⟩,⟨some 129,.pick (.tmp 127) (.tmp 128) (.const (Go.Value.bool false)),4, kV, #[eD 22,eD 23,eG 9],some (9,false)⟩,⟨some 130,.pick (.tmp 114) (.const (Go.Value.bool true)) (.tmp 129),4, kV, #[eD 9,eD 24],none⟩,⟨some 131,.indexAddr 73 (.tmp 105) (.tmp 106),0, kV, #[eD 0,eD 1,eP 0,eP 1,eP 2,eP 3,eP 4,eP 5,eP 6,eP 7,eP 8,eP 9,eP 10,eP 11,eP 12,eP 13,eP 14,eP 15,eP 16,eP 17,eP 18,eP 19,eP 20,eP 21,eP 22,eP 23,eP 24,eP 25],none⟩,⟨none,.store 4 (.tmp 131) (.tmp 130),0, kV, #[eD 26,eD 25,⟨22,.chain⟩,eP 0,eP 1,eP 2,eP 3,eP 4,eP 5,eP 6,eP 7,eP 8,eP 9,eP 10,eP 11,eP 12,eP 13,eP 14,eP 15,eP 16,eP 17,eP 18,eP 19,eP 20,eP 21,eP 22,eP 23,eP 24,eP 25],none⟩]
theorem a4F (hC:SSr w r b off cap ns t j x wr) (hji:(j:Int)<(ns.length:Int)) (hZ:wr.heap[Z]?=some (.cells cs 4 (0,0))) (xj:wr.cell? ⟨Z,j,none⟩=some (.bool XJ)) (g2:f 2=.pointer (some ⟨w.heap.size,0,none⟩)) (g3:f 3=.pointer (some ⟨w.heap.size+1,0,none⟩)) (g7:f 7=.slice (some ⟨Z,0,none⟩) ns.length ns.length) (g17:f 17=.int .i64 j) (g18:f 18=.slice a l.length d) (g19:f 19=.bool A) (hF:vS F) (hQp:∀ (d' :Tmp) (v:Value) c (a:Act) w,Q (.panic c) (a.put (some d') v) w→Q (.panic c) a w) (hend:∀ (g:Nat→Value) (w' :World),(∀ k,k<105∨132≤k→g k=f k)→Below wr.heap.size wr w' →Q .normal ⟨F g,[]⟩ (w'.setCell ⟨Z,j,none⟩ (.bool (nP t x||vE t x&&decide (0<l.length)&&A)))):Code.wp Tryz.prog (Code.region 22 a4E true) Q ⟨F f,[]⟩ wr:=by
 obtain ⟨p0,p1,t0,t1,t2,n0,n1,n2,n3,n4,n5,pl,tl,nl,mi⟩:=hC
 have hFg:=hF.get
 have HKP:=aB (fun U=>jX x t U)
 have vG:=aB (fun U=>fF x t U)
 have hfr:=aB (fun (u:World) (h:Below wr.heap.size wr u)=>aC (bP h hZ) j)
 have zl:=aD hZ
 generalize vE t x=KP at HKP hend
 generalize nP t x=RC at vG hend
 delta a4E
 rcases (show RC=true∨(RC=false∧KP=false)∨(RC=false∧KP=true∧0<l.length)∨(RC=false∧KP=true∧¬ 0<l.length) by by_cases hg:0<l.length <;> cases RC <;> cases KP <;> simp [hg]) with rfl | ⟨rfl,rfl⟩ | ⟨rfl,rfl,hg⟩ | ⟨rfl,rfl,hg⟩ <;> as_aux_lemma =>
  try rw [decide_eq_true hg] at hend
  try rw [decide_eq_false hg] at hend
  try have hgi:(0:Int)<(l.length:Int):=by omega
  try have hgi:¬ (0:Int)<(l.length:Int):=by omega
  refine gY 27 (S:=(fun u=>∀ p:Addr,p.block<wr.heap.size→u.cell? p=wr.cell? p)) kD (fun p hp=>rfl) (fun hHeld=>?_)
  have hB:=aB ((Below.refl wr.heap.size wr).drew)
  refine tgw 0 hF ?_
  iterate 26 (first | refine tgv hF ?_ | refine tgu hF ?_ | (refine tgr (fun K hK=>?_);go_simp;(first | (go_at_call 137;refine (HKP.out _).mono ?_) | (go_at_call 108;refine (vG.out _).mono ?_));rintro e wa ⟨rfl,hba⟩;replace hB:=aB (bG hB.out hba);(try go_wp2_with fail);refine hK.out _ _ (fun p hp=>hB.out.cell hp) (fun hHeld=>?_);clear hK K;(try simp only [Act.put,hF.set])))
  have yf:=hfr.out _ hB.out
  have yl:=Nat.lt_of_lt_of_le zl hB.out.size
  have yc:=(hB.out.cell (p:=⟨Z,j,none⟩) zl).trans xj
  refine tls 27 (fun K hK=>?_)
  go_simp
  refine hK.out _ _ ?_
  clear hK K
  (try simp only [Act.put,hF.set])
  refine gB kD ?_ _
  exact hend _ _ (fun k hk=>by repeat rw [upd_ne _ _ _ _ aF]) hB.out
abbrev gW:= "flow.go:110"
abbrev a4G:Array Oper:=#[⟨some 158,.move (.tmp 8),73, gW, #[],none⟩,⟨some 159,.move (.tmp 22),3, gW, #[],none⟩,⟨some 160,.move (.tmp 8),73, gW, #[],none⟩,⟨some 161,.move (.tmp 22),3, gW, #[],none⟩,⟨some 162,.indexAddr 73 (.tmp 160) (.tmp 161),0, gW, #[eD 2,eD 3],none⟩,⟨some 163,.load 4 (.tmp 162),4, gW, #[eD 4],none⟩,⟨some 164,.move (.tmp 163),4, gW, #[eD 5],none⟩,⟨some 165,.fieldAddr 24 (.tmp 2) 1,0, gW, #[eG 6],some (6,true)⟩,⟨some 166,.load 22 (.tmp 165),22, gW, #[eD 7,eG 6],some (6,true)⟩,⟨some 167,.move (.tmp 23),25, gW, #[eG 6],some (6,true)⟩,⟨some 168,.move (.tmp 24),3, gW, #[eG 6],some (6,true)⟩,⟨some 169,.indexAddr 25 (.tmp 167) (.tmp 168),0, gW, #[eD 9,eD 10,eG 6],some (6,true)⟩,⟨some 170,.load 3 (.tmp 169),3, gW, #[eD 11,eG 6],some (6,true)⟩,⟨some 171,.indexAddr 22 (.tmp 166) (.tmp 170),0, gW, #[eD 8,eD 12,eG 6],some (6,true)⟩,⟨some 172,.load 42 (.tmp 171),42, gW, #[eD 13,eG 6],some (6,true)⟩,⟨some 173,.load 59 (.tmp 3),59, gW, #[eG 6],some (6,true)⟩,⟨some 174,.call { callee:=.value (.func 137),args:=#[.tmp 172,.tmp 173],argTypes:=#[42,59] },4, gW, #[eD 14,eD 15,⟨6,.chain⟩,eG 6],some (6,true)⟩,⟨some 175,.pick (.tmp 164) (.tmp 174) (.const (Go.Value.bool false)),4, gW, #[eD 6,eD 16],none⟩,⟨some 176,.move (.tmp 175),4, gW, #[eD 17,⟨16,.chain⟩],none⟩,⟨some 177,.move (.tmp 8),73, gW, #[eG 18],some (18,true)⟩,⟨some 178,.move (.tmp 23),25, gW, #[eG 18],some (18,true)⟩,⟨some 179,.move (.tmp 24),3, gW, #[eG 18],some (18,true)⟩,⟨some 180,.indexAddr 25 (.tmp 178) (.tmp 179),0, gW, #[eD 20,eD 21,eG 18],some (18,true)⟩,⟨some 181,.load 3 (.tmp 180),3, gW, #[eD 22,eG 18],some (18,true)⟩,⟨some 182,.indexAddr 73 (.tmp 177) (.tmp 181),0, gW, #[eD 19,eD 23,eG 18],some (18,true)⟩,⟨some 183,.load 4 (.tmp 182),4, gW, #[eD 24,eG 18],some (18,true)⟩,⟨some 184,.move (.tmp 183),4, gW, #[eD 25,⟨18,.chain⟩,eG 18],some (18,true)⟩,⟨some 185,.fieldAddr 24 (.tmp 2) 1,0, gW, #[eG 26],some (26,false)⟩,⟨some 186,.load 22 (.tmp 185),22, gW, #[eD 27,eG 26],some (26,false)⟩,⟨some 187,.move (.tmp 23),25, gW, #[eG 26],some (26,false)⟩,⟨some 188,.move (.tmp 24),3, gW, #[eG 26],some (26,false)⟩,⟨some 189,.indexAddr 25 (.tmp 187) (.tmp 188),0, gW, #[eD 29,eD 30,eG 26],some (26,false)⟩,⟨some 190,.load 3 (.tmp 189),3, gW, #[eD 31,eG 26],some (26,false)⟩,⟨some 191,.indexAddr 22 (.tmp 186) (.tmp 190),0, gW, #[eD 28,eD 32,eG 26],some (26,false)⟩,⟨some 192,.load 42 (.tmp 191),42, gW, #[eD 33,eG 26],some (26,false)⟩,⟨some 193,.load 59 (.tmp 3),59, gW, #[eG 26],some (26,false)⟩,⟨some 194,.call { callee:=.value (.func 108),args:=#[.tmp 192,.tmp 193],argTypes:=#[42,59] },4, gW, #[eD 34,eD 35,⟨26,.chain⟩,eG 26],some (26,false)⟩,⟨some 195,.pick (.tmp 184) (.const (Go.Value.bool true)) (.tmp 194),4, gW, #[eD 26,eD 36,eG 18],some (18,true)⟩,⟨some 196,.pick (.tmp 176) (.tmp 195) (.const (Go.Value.bool false)),4, gW, #[eD 18,eD 37],none⟩,⟨some 197,.indexAddr 73 (.tmp 158) (.tmp 159),0, gW, #[eD 0,eD 1,eP 0,eP 1,eP 2,eP 3,eP 4,eP 5,eP 6,eP 7,eP 8,eP 9,eP 10,eP 11,eP 12,eP 13,eP 14,eP 15,eP 16,eP 17,eP 18,eP 19,eP 20,eP 21,eP 22,eP 23,eP 24,eP 25,eP 26,eP 27,eP 28,eP 29,eP 30,eP 31,eP 32,eP 33,eP 34,eP 35,eP 36,eP 37,eP 38],none⟩,⟨none,.store 4 (.tmp 197) (.tmp 196),0, gW, #[eD 39,eD 38,⟨36,.chain⟩,eP 0,eP 1,eP 2,eP 3,eP 4,eP 5,eP 6,eP 7,eP 8,eP 9,eP 10,eP 11,eP 12,eP 13,eP 14,eP 15,eP 16,eP 17,eP 18,eP 19,eP 20,eP 21,eP 22,eP 23,eP 24,eP 25,eP 26,eP 27,eP 28,eP 29,eP 30,eP 31,eP 32,eP 33,eP 34,eP 35,eP 36,eP 37,eP 38],none⟩]
theorem a4H (hC:SSr w r b off cap ns t m x wr) (hqi:(q:Int)<(l.length:Int)) (bl:bb<wr.heap.size) (hz:wr.cell? ⟨bb,oo+q,none⟩=some (.int .i64 (m:Int))) (hji:(j:Int)<(ns.length:Int)) (hZ:wr.heap[Z]?=some (.cells cs 4 (0,0))) (xj:wr.cell? ⟨Z,j,none⟩=some (.bool XJ)) (xm:wr.cell? ⟨Z,m,none⟩=some (.bool UM)) (g2:f 2=.pointer (some ⟨w.heap.size,0,none⟩)) (g3:f 3=.pointer (some ⟨w.heap.size+1,0,none⟩)) (g8:f 8=.slice (some ⟨Z,0,none⟩) ns.length ns.length) (g22:f 22=.int .i64 j) (g23:f 23=.slice (some ⟨bb,oo,none⟩) l.length d) (g24:f 24=.int .i64 q) (hF:vS F) (hQp:∀ (d' :Tmp) (v:Value) c (a:Act) w,Q (.panic c) (a.put (some d') v) w→Q (.panic c) a w) (hend:∀ (g:Nat→Value) (w' :World),(∀ k,k<158∨198≤k→g k=f k)→Below wr.heap.size wr w' →Q .normal ⟨F g,[]⟩ (w'.setCell ⟨Z,j,none⟩ (.bool (XJ&&(vE t x&&(UM||nP t x)))))):Code.wp Tryz.prog (Code.region 34 a4G true) Q ⟨F f,[]⟩ wr:=by
 obtain ⟨p0,p1,t0,t1,t2,n0,n1,n2,n3,n4,n5,pl,tl,nl,mi⟩:=hC
 have hFg:=hF.get
 have HKP:=aB (fun U=>jX x t U)
 have vG:=aB (fun U=>fF x t U)
 have hfr:=aB (fun (u:World) (h:Below wr.heap.size wr u)=>aC (bP h hZ) j)
 have zl:=aD hZ
 generalize vE t x=KP at HKP hend
 generalize nP t x=RC at vG hend
 delta a4G
 rcases (show XJ=false∨(XJ=true∧KP=false)∨(XJ=true∧KP=true∧UM=false)∨(XJ=true∧KP=true∧UM=true) by cases XJ <;> cases KP <;> cases UM <;> simp) with rfl | ⟨rfl,rfl⟩ | ⟨rfl,rfl,rfl⟩ | ⟨rfl,rfl,rfl⟩ <;> as_aux_lemma =>
  refine gY 40 (S:=(fun u=>∀ p:Addr,p.block<wr.heap.size→u.cell? p=wr.cell? p)) kD (fun p hp=>rfl) (fun hHeld=>?_)
  have hB:=aB ((Below.refl wr.heap.size wr).drew)
  refine tgw 0 hF ?_
  iterate 39 (first | refine tgv hF ?_ | refine tgu hF ?_ | (refine tgr (fun K hK=>?_);go_simp;(first | (go_at_call 137;refine (HKP.out _).mono ?_) | (go_at_call 108;refine (vG.out _).mono ?_));rintro e wa ⟨rfl,hba⟩;replace hB:=aB (bG hB.out hba);(try go_wp2_with fail);refine hK.out _ _ (fun p hp=>hB.out.cell hp) (fun hHeld=>?_);clear hK K;(try simp only [Act.put,hF.set])))
  have yf:=hfr.out _ hB.out
  have yl:=Nat.lt_of_lt_of_le zl hB.out.size
  have yc:=(hB.out.cell (p:=⟨Z,j,none⟩) zl).trans xj
  refine tls 40 (fun K hK=>?_)
  go_simp
  refine hK.out _ _ ?_
  clear hK K
  (try simp only [Act.put,hF.set])
  refine gB kD ?_ _
  exact hend _ _ (fun k hk=>by repeat rw [upd_ne _ _ _ _ aF]) hB.out
abbrev iV:= "flow.go:118"
abbrev a4I:Array Oper:=#[⟨some 216,.move (.tmp 27),4, iV, #[],none⟩,⟨some 217,.move (.tmp 216),4, iV, #[eD 0],none⟩,⟨some 218,.fieldAddr 24 (.tmp 2) 1,0, iV, #[eG 1],some (1,false)⟩,⟨some 219,.load 22 (.tmp 218),22, iV, #[eD 2,eG 1],some (1,false)⟩,⟨some 220,.move (.tmp 26),25, iV, #[eG 1],some (1,false)⟩,⟨some 221,.move (.tmp 28),3, iV, #[eG 1],some (1,false)⟩,⟨some 222,.indexAddr 25 (.tmp 220) (.tmp 221),0, iV, #[eD 4,eD 5,eG 1],some (1,false)⟩,⟨some 223,.load 3 (.tmp 222),3, iV, #[eD 6,eG 1],some (1,false)⟩,⟨some 224,.indexAddr 22 (.tmp 219) (.tmp 223),0, iV, #[eD 3,eD 7,eG 1],some (1,false)⟩,⟨some 225,.load 42 (.tmp 224),42, iV, #[eD 8,eG 1],some (1,false)⟩,⟨some 226,.load 59 (.tmp 3),59, iV, #[eG 1],some (1,false)⟩,⟨some 227,.call { callee:=.value (.func 137),args:=#[.tmp 225,.tmp 226],argTypes:=#[42,59] },4, iV, #[eD 9,eD 10,⟨1,.chain⟩,eG 1],some (1,false)⟩,⟨some 228,.unOp Go.UnOp.not 4 (.tmp 227),4, iV, #[eD 11,eG 1],some (1,false)⟩,⟨some 229,.pick (.tmp 217) (.const (Go.Value.bool true)) (.tmp 228),4, iV, #[eD 1,eD 12],none⟩,⟨some 230,.move (.tmp 229),4, iV, #[eD 13,⟨11,.chain⟩],none⟩,⟨some 231,.move (.tmp 7),73, iV, #[eG 14],some (14,false)⟩,⟨some 232,.move (.tmp 26),25, iV, #[eG 14],some (14,false)⟩,⟨some 233,.move (.tmp 28),3, iV, #[eG 14],some (14,false)⟩,⟨some 234,.indexAddr 25 (.tmp 232) (.tmp 233),0, iV, #[eD 16,eD 17,eG 14],some (14,false)⟩,⟨some 235,.load 3 (.tmp 234),3, iV, #[eD 18,eG 14],some (14,false)⟩,⟨some 236,.indexAddr 73 (.tmp 231) (.tmp 235),0, iV, #[eD 15,eD 19,eG 14],some (14,false)⟩,⟨some 237,.load 4 (.tmp 236),4, iV, #[eD 20,eG 14],some (14,false)⟩,⟨some 238,.unOp Go.UnOp.not 4 (.tmp 237),4, iV, #[eD 21,eG 14],some (14,false)⟩,⟨some 239,.move (.tmp 238),4, iV, #[eD 22,⟨14,.chain⟩,eG 14],some (14,false)⟩,⟨some 240,.move (.tmp 8),73, iV, #[eG 23],some (23,true)⟩,⟨some 241,.move (.tmp 26),25, iV, #[eG 23],some (23,true)⟩,⟨some 242,.move (.tmp 28),3, iV, #[eG 23],some (23,true)⟩,⟨some 243,.indexAddr 25 (.tmp 241) (.tmp 242),0, iV, #[eD 25,eD 26,eG 23],some (23,true)⟩,⟨some 244,.load 3 (.tmp 243),3, iV, #[eD 27,eG 23],some (23,true)⟩,⟨some 245,.indexAddr 73 (.tmp 240) (.tmp 244),0, iV, #[eD 24,eD 28,eG 23],some (23,true)⟩,⟨some 246,.load 4 (.tmp 245),4, iV, #[eD 29,eG 23],some (23,true)⟩,⟨some 247,.unOp Go.UnOp.not 4 (.tmp 246),4, iV, #[eD 30,eG 23],some (23,true)⟩,⟨some 248,.pick (.tmp 239) (.tmp 247) (.const (Go.Value.bool false)),4, iV, #[eD 23,eD 31,eG 14],some (14,false)⟩,⟨some 249,.pick (.tmp 230) (.const (Go.Value.bool true)) (.tmp 248),4, iV, #[eD 14,eD 32],none⟩,⟨some 27,.assign (.tmp 249),4, iV, #[eD 33,⟨23,.chain⟩,eP 0,eP 1,eP 2,eP 3,eP 4,eP 5,eP 6,eP 7,eP 8,eP 9,eP 10,eP 11,eP 12,eP 13,eP 14,eP 15,eP 16,eP 17,eP 18,eP 19,eP 20,eP 21,eP 22,eP 23,eP 24,eP 25,eP 26,eP 27,eP 28,eP 29,eP 30,eP 31,eP 32,eP 33],none⟩]
theorem a4J (hC:SSr w r b off cap ns t m x wr) (hqi:(q:Int)<(l.length:Int)) (bl:bb<wr.heap.size) (hz:wr.cell? ⟨bb,oo+q,none⟩=some (.int .i64 (m:Int))) (zl:Z<wr.heap.size) (zm:wr.cell? ⟨Z,m,none⟩=some (.bool LM)) (hY:Y<wr.heap.size) (ym:wr.cell? ⟨Y,m,none⟩=some (.bool UM)) (g2:f 2=.pointer (some ⟨w.heap.size,0,none⟩)) (g3:f 3=.pointer (some ⟨w.heap.size+1,0,none⟩)) (g7:f 7=.slice (some ⟨Z,0,none⟩) ns.length ns.length) (g8:f 8=.slice (some ⟨Y,0,none⟩) ns.length ns.length) (g26:f 26=.slice (some ⟨bb,oo,none⟩) l.length d) (g27:f 27=.bool A) (g28:f 28=.int .i64 q) (hF:vS F) (hQp:∀ (d' :Tmp) (v:Value) c (a:Act) w,Q (.panic c) (a.put (some d') v) w→Q (.panic c) a w) (hend:∀ (g:Nat→Value) (w' :World),(∀ k,k<216∨250≤k→g k=(upd f 27 (.bool (A||!vE t x||!LM&&!UM))) k)→Below wr.heap.size wr w' →Q .normal ⟨F g,[]⟩ w'):Code.wp Tryz.prog (Code.region 43 a4I true) Q ⟨F f,[]⟩ wr:=by
 obtain ⟨p0,p1,t0,t1,t2,n0,n1,n2,n3,n4,n5,pl,tl,nl,mi⟩:=hC
 have hFg:=hF.get
 have HKP:=aB (fun U=>jX x t U)
 have vG:=aB (fun U=>fF x t U)
 generalize vE t x=KP at HKP hend
 generalize nP t x=RC at vG hend
 delta a4I
 rcases (show A=true∨(A=false∧KP=false)∨(A=false∧KP=true∧LM=true)∨(A=false∧KP=true∧LM=false) by cases A <;> cases KP <;> cases LM <;> simp) with rfl | ⟨rfl,rfl⟩ | ⟨rfl,rfl,rfl⟩ | ⟨rfl,rfl,rfl⟩ <;> as_aux_lemma =>
  refine wp_region_held_drew (S:=(fun u=>∀ p:Addr,p.block<wr.heap.size→u.cell? p=wr.cell? p)) kD (fun p hp=>rfl) (fun hHeld=>?_)
  have hB:=aB ((Below.refl wr.heap.size wr).drew)
  refine tfw 0 hF ?_
  iterate 34 (first | refine tfv hF ?_ | refine tfu hF ?_ | (refine tfr (fun K hK=>?_);go_simp;(go_at_call 137;refine (HKP.out _).mono ?_);rintro e wa ⟨rfl,hba⟩;replace hB:=aB (bG hB.out hba);(try go_wp2_with fail);refine hK.out _ _ (fun p hp=>hB.out.cell hp) (fun hHeld=>?_);clear hK K;(try simp only [Act.put,hF.set])))
  refine wpAnyH_done kD ?_ _
  exact hend _ _ (fun k hk=>if e:k=27 then by subst e;simp [upd] else by repeat rw [upd_ne _ _ _ _ aF]) hB.out
abbrev mU:= "flow.go:127"
abbrev a4K:Array Oper:=#[⟨some 283,.move (.tmp 32),4, mU, #[],none⟩,⟨some 284,.move (.tmp 283),4, mU, #[eD 0],none⟩,⟨some 285,.move (.tmp 9),73, mU, #[eG 1],some (1,true)⟩,⟨some 286,.move (.tmp 31),25, mU, #[eG 1],some (1,true)⟩,⟨some 287,.move (.tmp 33),3, mU, #[eG 1],some (1,true)⟩,⟨some 288,.indexAddr 25 (.tmp 286) (.tmp 287),0, mU, #[eD 3,eD 4,eG 1],some (1,true)⟩,⟨some 289,.load 3 (.tmp 288),3, mU, #[eD 5,eG 1],some (1,true)⟩,⟨some 290,.indexAddr 73 (.tmp 285) (.tmp 289),0, mU, #[eD 2,eD 6,eG 1],some (1,true)⟩,⟨some 291,.load 4 (.tmp 290),4, mU, #[eD 7,eG 1],some (1,true)⟩,⟨some 292,.pick (.tmp 284) (.tmp 291) (.const (Go.Value.bool false)),4, mU, #[eD 1,eD 8],none⟩,⟨some 293,.move (.tmp 292),4, mU, #[eD 9,⟨1,.chain⟩],none⟩,⟨some 294,.fieldAddr 24 (.tmp 2) 1,0, mU, #[eG 10],some (10,true)⟩,⟨some 295,.load 22 (.tmp 294),22, mU, #[eD 11,eG 10],some (10,true)⟩,⟨some 296,.move (.tmp 31),25, mU, #[eG 10],some (10,true)⟩,⟨some 297,.move (.tmp 33),3, mU, #[eG 10],some (10,true)⟩,⟨some 298,.indexAddr 25 (.tmp 296) (.tmp 297),0, mU, #[eD 13,eD 14,eG 10],some (10,true)⟩,⟨some 299,.load 3 (.tmp 298),3, mU, #[eD 15,eG 10],some (10,true)⟩,⟨some 300,.indexAddr 22 (.tmp 295) (.tmp 299),0, mU, #[eD 12,eD 16,eG 10],some (10,true)⟩,⟨some 301,.load 42 (.tmp 300),42, mU, #[eD 17,eG 10],some (10,true)⟩,⟨some 302,.load 59 (.tmp 3),59, mU, #[eG 10],some (10,true)⟩,⟨some 303,.call { callee:=.value (.func 108),args:=#[.tmp 301,.tmp 302],argTypes:=#[42,59] },4, mU, #[eD 18,eD 19,⟨10,.chain⟩,eG 10],some (10,true)⟩,⟨some 304,.unOp Go.UnOp.not 4 (.tmp 303),4, mU, #[eD 20,eG 10],some (10,true)⟩,⟨some 305,.pick (.tmp 293) (.tmp 304) (.const (Go.Value.bool false)),4, mU, #[eD 10,eD 21],none⟩,⟨some 32,.assign (.tmp 305),4, mU, #[eD 22,⟨20,.chain⟩,eP 0,eP 1,eP 2,eP 3,eP 4,eP 5,eP 6,eP 7,eP 8,eP 9,eP 10,eP 11,eP 12,eP 13,eP 14,eP 15,eP 16,eP 17,eP 18,eP 19,eP 20,eP 21,eP 22],none⟩]
theorem a4L (hC:SSr w r b off cap ns t m x wr) (hqi:(q:Int)<(l.length:Int)) (bl:bb<wr.heap.size) (hz:wr.cell? ⟨bb,oo+q,none⟩=some (.int .i64 (m:Int))) (zl:Z<wr.heap.size) (zm:wr.cell? ⟨Z,m,none⟩=some (.bool LM)) (g2:f 2=.pointer (some ⟨w.heap.size,0,none⟩)) (g3:f 3=.pointer (some ⟨w.heap.size+1,0,none⟩)) (g9:f 9=.slice (some ⟨Z,0,none⟩) ns.length ns.length) (g31:f 31=.slice (some ⟨bb,oo,none⟩) l.length d) (g32:f 32=.bool A) (g33:f 33=.int .i64 q) (hF:vS F) (hQp:∀ (d' :Tmp) (v:Value) c (a:Act) w,Q (.panic c) (a.put (some d') v) w→Q (.panic c) a w) (hend:∀ (g:Nat→Value) (w' :World),(∀ k,k<283∨306≤k→g k=(upd f 32 (.bool (A&&LM&&!nP t x))) k)→Below wr.heap.size wr w' →Q .normal ⟨F g,[]⟩ w'):Code.wp Tryz.prog (Code.region 56 a4K true) Q ⟨F f,[]⟩ wr:=by
 obtain ⟨p0,p1,t0,t1,t2,n0,n1,n2,n3,n4,n5,pl,tl,nl,mi⟩:=hC
 have hFg:=hF.get
 have HKP:=aB (fun U=>jX x t U)
 have vG:=aB (fun U=>fF x t U)
 generalize vE t x=KP at HKP hend
 generalize nP t x=RC at vG hend
 delta a4K
 rcases (show A=false∨(A=true∧LM=false)∨(A=true∧LM=true) by cases A <;> cases LM <;> simp) with rfl | ⟨rfl,rfl⟩ | ⟨rfl,rfl⟩ <;> as_aux_lemma =>
  refine wp_region_held_drew (S:=(fun u=>∀ p:Addr,p.block<wr.heap.size→u.cell? p=wr.cell? p)) kD (fun p hp=>rfl) (fun hHeld=>?_)
  have hB:=aB ((Below.refl wr.heap.size wr).drew)
  refine tfw 0 hF ?_
  iterate 23 (first | refine tfv hF ?_ | refine tfu hF ?_ | (refine tfr (fun K hK=>?_);go_simp;(go_at_call 108;refine (vG.out _).mono ?_);rintro e wa ⟨rfl,hba⟩;replace hB:=aB (bG hB.out hba);(try go_wp2_with fail);refine hK.out _ _ (fun p hp=>hB.out.cell hp) (fun hHeld=>?_);clear hK K;(try simp only [Act.put,hF.set])))
  refine wpAnyH_done kD ?_ _
  exact hend _ _ (fun k hk=>if e:k=32 then by subst e;simp [upd] else by repeat rw [upd_ne _ _ _ _ aF]) hB.out
abbrev qM:= "flow.go:138"
abbrev a4M:Array Oper:=#[⟨some 342,.move (.tmp 12),73, qM, #[],none⟩,⟨some 343,.move (.tmp 34),3, qM, #[],none⟩,⟨some 344,.move (.tmp 9),73, qM, #[],none⟩,⟨some 345,.move (.tmp 34),3, qM, #[],none⟩,⟨some 346,.indexAddr 73 (.tmp 344) (.tmp 345),0, qM, #[eD 2,eD 3],none⟩,⟨some 347,.load 4 (.tmp 346),4, qM, #[eD 4],none⟩,⟨some 348,.move (.tmp 347),4, qM, #[eD 5],none⟩,⟨some 349,.fieldAddr 24 (.tmp 2) 1,0, qM, #[eG 6],some (6,true)⟩,⟨some 350,.load 22 (.tmp 349),22, qM, #[eD 7,eG 6],some (6,true)⟩,⟨some 351,.move (.tmp 34),3, qM, #[eG 6],some (6,true)⟩,⟨some 352,.indexAddr 22 (.tmp 350) (.tmp 351),0, qM, #[eD 8,eD 9,eG 6],some (6,true)⟩,⟨some 353,.load 42 (.tmp 352),42, qM, #[eD 10,eG 6],some (6,true)⟩,⟨some 354,.load 59 (.tmp 3),59, qM, #[eG 6],some (6,true)⟩,⟨some 355,.call { callee:=.value (.func 108),args:=#[.tmp 353,.tmp 354],argTypes:=#[42,59] },4, qM, #[eD 11,eD 12,⟨6,.chain⟩,eG 6],some (6,true)⟩,⟨some 356,.move (.tmp 355),4, qM, #[eD 13,⟨13,.chain⟩,eG 6],some (6,true)⟩,⟨some 357,.move (.tmp 36),4, qM, #[eG 14],some (14,false)⟩,⟨some 358,.pick (.tmp 356) (.const (Go.Value.bool true)) (.tmp 357),4, qM, #[eD 14,eD 15,eG 6],some (6,true)⟩,⟨some 359,.pick (.tmp 348) (.tmp 358) (.const (Go.Value.bool false)),4, qM, #[eD 6,eD 16],none⟩,⟨some 360,.indexAddr 73 (.tmp 342) (.tmp 343),0, qM, #[eD 0,eD 1,eP 0,eP 1,eP 2,eP 3,eP 4,eP 5,eP 6,eP 7,eP 8,eP 9,eP 10,eP 11,eP 12,eP 13,eP 14,eP 15,eP 16,eP 17],none⟩,⟨none,.store 4 (.tmp 360) (.tmp 359),0, qM, #[eD 18,eD 17,⟨14,.chain⟩,eP 0,eP 1,eP 2,eP 3,eP 4,eP 5,eP 6,eP 7,eP 8,eP 9,eP 10,eP 11,eP 12,eP 13,eP 14,eP 15,eP 16,eP 17],none⟩]
theorem a4N (hC:SSr w r b off cap ns t j x wr) (hji:(j:Int)<(ns.length:Int)) (hZ:wr.heap[Z]?=some (.cells cs 4 (0,0))) (xj:wr.cell? ⟨Z,j,none⟩=some (.bool XJ)) (hY:Y<wr.heap.size) (ym:wr.cell? ⟨Y,j,none⟩=some (.bool UM)) (g2:f 2=.pointer (some ⟨w.heap.size,0,none⟩)) (g3:f 3=.pointer (some ⟨w.heap.size+1,0,none⟩)) (g9:f 9=.slice (some ⟨Y,0,none⟩) ns.length ns.length) (g12:f 12=.slice (some ⟨Z,0,none⟩) ns.length ns.length) (g34:f 34=.int .i64 j) (g36:f 36=.bool A) (hF:vS F) (hQp:∀ (d' :Tmp) (v:Value) c (a:Act) w,Q (.panic c) (a.put (some d') v) w→Q (.panic c) a w) (hend:∀ (g:Nat→Value) (w' :World),(∀ k,k<342∨361≤k→g k=f k)→Below wr.heap.size wr w' →Q .normal ⟨F g,[]⟩ (w'.setCell ⟨Z,j,none⟩ (.bool (UM&&(nP t x||A))))):Code.wp Tryz.prog (Code.region 67 a4M true) Q ⟨F f,[]⟩ wr:=by
 obtain ⟨p0,p1,t0,t1,t2,n0,n1,n2,n3,n4,n5,pl,tl,nl,mi⟩:=hC
 have hFg:=hF.get
 have HKP:=aB (fun U=>jX x t U)
 have vG:=aB (fun U=>fF x t U)
 have hfr:=aB (fun (u:World) (h:Below wr.heap.size wr u)=>aC (bP h hZ) j)
 have zl:=aD hZ
 generalize vE t x=KP at HKP hend
 generalize nP t x=RC at vG hend
 delta a4M
 rcases (show UM=false∨(UM=true∧RC=false)∨(UM=true∧RC=true) by cases UM <;> cases RC <;> simp) with rfl | ⟨rfl,rfl⟩ | ⟨rfl,rfl⟩ <;> as_aux_lemma =>
  refine gY 19 (S:=(fun u=>∀ p:Addr,p.block<wr.heap.size→u.cell? p=wr.cell? p)) kD (fun p hp=>rfl) (fun hHeld=>?_)
  have hB:=aB ((Below.refl wr.heap.size wr).drew)
  refine tgw 0 hF ?_
  iterate 18 (first | refine tgv hF ?_ | refine tgu hF ?_ | (refine tgr (fun K hK=>?_);go_simp;(go_at_call 108;refine (vG.out _).mono ?_);rintro e wa ⟨rfl,hba⟩;replace hB:=aB (bG hB.out hba);(try go_wp2_with fail);refine hK.out _ _ (fun p hp=>hB.out.cell hp) (fun hHeld=>?_);clear hK K;(try simp only [Act.put,hF.set])))
  have yf:=hfr.out _ hB.out
  have yl:=Nat.lt_of_lt_of_le zl hB.out.size
  have yc:=(hB.out.cell (p:=⟨Z,j,none⟩) zl).trans xj
  refine tls 19 (fun K hK=>?_)
  go_simp
  refine hK.out _ _ ?_
  clear hK K
  (try simp only [Act.put,hF.set])
  refine gB kD ?_ _
  exact hend _ _ (fun k hk=>by repeat rw [upd_ne _ _ _ _ aF]) hB.out
abbrev iC:= "flow.go:145"
abbrev a4O:Array Oper:=#[⟨some 384,.move (.tmp 10),73, iC, #[],none⟩,⟨some 385,.move (.tmp 39),3, iC, #[],none⟩,⟨some 386,.move (.tmp 10),73, iC, #[],none⟩,⟨some 387,.move (.tmp 39),3, iC, #[],none⟩,⟨some 388,.indexAddr 73 (.tmp 386) (.tmp 387),0, iC, #[eD 2,eD 3],none⟩,⟨some 389,.load 4 (.tmp 388),4, iC, #[eD 4],none⟩,⟨some 390,.move (.tmp 389),4, iC, #[eD 5],none⟩,⟨some 391,.move (.tmp 12),73, iC, #[eG 6],some (6,true)⟩,⟨some 392,.move (.tmp 40),25, iC, #[eG 6],some (6,true)⟩,⟨some 393,.move (.tmp 41),3, iC, #[eG 6],some (6,true)⟩,⟨some 394,.indexAddr 25 (.tmp 392) (.tmp 393),0, iC, #[eD 8,eD 9,eG 6],some (6,true)⟩,⟨some 395,.load 3 (.tmp 394),3, iC, #[eD 10,eG 6],some (6,true)⟩,⟨some 396,.indexAddr 73 (.tmp 391) (.tmp 395),0, iC, #[eD 7,eD 11,eG 6],some (6,true)⟩,⟨some 397,.load 4 (.tmp 396),4, iC, #[eD 12,eG 6],some (6,true)⟩,⟨some 398,.move (.tmp 397),4, iC, #[eD 13,⟨6,.chain⟩,eG 6],some (6,true)⟩,⟨some 399,.fieldAddr 24 (.tmp 2) 1,0, iC, #[eG 14],some (14,false)⟩,⟨some 400,.load 22 (.tmp 399),22, iC, #[eD 15,eG 14],some (14,false)⟩,⟨some 401,.move (.tmp 40),25, iC, #[eG 14],some (14,false)⟩,⟨some 402,.move (.tmp 41),3, iC, #[eG 14],some (14,false)⟩,⟨some 403,.indexAddr 25 (.tmp 401) (.tmp 402),0, iC, #[eD 17,eD 18,eG 14],some (14,false)⟩,⟨some 404,.load 3 (.tmp 403),3, iC, #[eD 19,eG 14],some (14,false)⟩,⟨some 405,.indexAddr 22 (.tmp 400) (.tmp 404),0, iC, #[eD 16,eD 20,eG 14],some (14,false)⟩,⟨some 406,.load 42 (.tmp 405),42, iC, #[eD 21,eG 14],some (14,false)⟩,⟨some 407,.load 59 (.tmp 3),59, iC, #[eG 14],some (14,false)⟩,⟨some 408,.call { callee:=.value (.func 108),args:=#[.tmp 406,.tmp 407],argTypes:=#[42,59] },4, iC, #[eD 22,eD 23,⟨14,.chain⟩,eG 14],some (14,false)⟩,⟨some 409,.unOp Go.UnOp.not 4 (.tmp 408),4, iC, #[eD 24,eG 14],some (14,false)⟩,⟨some 410,.move (.tmp 409),4, iC, #[eD 25,⟨24,.chain⟩,eG 14],some (14,false)⟩,⟨some 411,.move (.tmp 10),73, iC, #[eG 26],some (26,true)⟩,⟨some 412,.move (.tmp 40),25, iC, #[eG 26],some (26,true)⟩,⟨some 413,.move (.tmp 41),3, iC, #[eG 26],some (26,true)⟩,⟨some 414,.indexAddr 25 (.tmp 412) (.tmp 413),0, iC, #[eD 28,eD 29,eG 26],some (26,true)⟩,⟨some 415,.load 3 (.tmp 414),3, iC, #[eD 30,eG 26],some (26,true)⟩,⟨some 416,.indexAddr 73 (.tmp 411) (.tmp 415),0, iC, #[eD 27,eD 31,eG 26],some (26,true)⟩,⟨some 417,.load 4 (.tmp 416),4, iC, #[eD 32,eG 26],some (26,true)⟩,⟨some 418,.pick (.tmp 410) (.tmp 417) (.const (Go.Value.bool false)),4, iC, #[eD 26,eD 33,eG 14],some (14,false)⟩,⟨some 419,.pick (.tmp 398) (.const (Go.Value.bool true)) (.tmp 418),4, iC, #[eD 14,eD 34,eG 6],some (6,true)⟩,⟨some 420,.pick (.tmp 390) (.tmp 419) (.const (Go.Value.bool false)),4, iC, #[eD 6,eD 35],none⟩,⟨some 421,.indexAddr 73 (.tmp 384) (.tmp 385),0, iC, #[eD 0,eD 1,eP 0,eP 1,eP 2,eP 3,eP 4,eP 5,eP 6,eP 7,eP 8,eP 9,eP 10,eP 11,eP 12,eP 13,eP 14,eP 15,eP 16,eP 17,eP 18,eP 19,eP 20,eP 21,eP 22,eP 23,eP 24,eP 25,eP 26,eP 27,eP 28,eP 29,eP 30,eP 31,eP 32,eP 33,eP 34,eP 35,eP 36],none⟩,⟨none,.store 4 (.tmp 421) (.tmp 420),0, iC, #[eD 37,eD 36,⟨26,.chain⟩,eP 0,eP 1,eP 2,eP 3,eP 4,eP 5,eP 6,eP 7,eP 8,eP 9,eP 10,eP 11,eP 12,eP 13,eP 14,eP 15,eP 16,eP 17,eP 18,eP 19,eP 20,eP 21,eP 22,eP 23,eP 24,eP 25,eP 26,eP 27,eP 28,eP 29,eP 30,eP 31,eP 32,eP 33,eP 34,eP 35,eP 36],none⟩]
theorem a4P (hC:SSr w r b off cap ns t m x wr) (hqi:(q:Int)<(l.length:Int)) (bl:bb<wr.heap.size) (hz:wr.cell? ⟨bb,oo+q,none⟩=some (.int .i64 (m:Int))) (hji:(j:Int)<(ns.length:Int)) (hZ:wr.heap[Z]?=some (.cells cs 4 (0,0))) (xj:wr.cell? ⟨Z,j,none⟩=some (.bool XJ)) (xm:wr.cell? ⟨Z,m,none⟩=some (.bool UM)) (hY:Y<wr.heap.size) (ym:wr.cell? ⟨Y,m,none⟩=some (.bool LM)) (g2:f 2=.pointer (some ⟨w.heap.size,0,none⟩)) (g3:f 3=.pointer (some ⟨w.heap.size+1,0,none⟩)) (g10:f 10=.slice (some ⟨Z,0,none⟩) ns.length ns.length) (g12:f 12=.slice (some ⟨Y,0,none⟩) ns.length ns.length) (g39:f 39=.int .i64 j) (g40:f 40=.slice (some ⟨bb,oo,none⟩) l.length d) (g41:f 41=.int .i64 q) (hF:vS F) (hQp:∀ (d' :Tmp) (v:Value) c (a:Act) w,Q (.panic c) (a.put (some d') v) w→Q (.panic c) a w) (hend:∀ (g:Nat→Value) (w' :World),(∀ k,k<384∨422≤k→g k=f k)→Below wr.heap.size wr w' →Q .normal ⟨F g,[]⟩ (w'.setCell ⟨Z,j,none⟩ (.bool (XJ&&(LM||!nP t x&&UM))))):Code.wp Tryz.prog (Code.region 79 a4O true) Q ⟨F f,[]⟩ wr:=by
 obtain ⟨p0,p1,t0,t1,t2,n0,n1,n2,n3,n4,n5,pl,tl,nl,mi⟩:=hC
 have hFg:=hF.get
 have HKP:=aB (fun U=>jX x t U)
 have vG:=aB (fun U=>fF x t U)
 have hfr:=aB (fun (u:World) (h:Below wr.heap.size wr u)=>aC (bP h hZ) j)
 have zl:=aD hZ
 generalize vE t x=KP at HKP hend
 generalize nP t x=RC at vG hend
 delta a4O
 rcases (show XJ=false∨(XJ=true∧LM=true)∨(XJ=true∧LM=false∧RC=true)∨(XJ=true∧LM=false∧RC=false) by cases XJ <;> cases LM <;> cases RC <;> simp) with rfl | ⟨rfl,rfl⟩ | ⟨rfl,rfl,rfl⟩ | ⟨rfl,rfl,rfl⟩ <;> as_aux_lemma =>
  refine gY 38 (S:=(fun u=>∀ p:Addr,p.block<wr.heap.size→u.cell? p=wr.cell? p)) kD (fun p hp=>rfl) (fun hHeld=>?_)
  have hB:=aB ((Below.refl wr.heap.size wr).drew)
  refine tgw 0 hF ?_
  iterate 37 (first | refine tgv hF ?_ | refine tgu hF ?_ | (refine tgr (fun K hK=>?_);go_simp;(go_at_call 108;refine (vG.out _).mono ?_);rintro e wa ⟨rfl,hba⟩;replace hB:=aB (bG hB.out hba);(try go_wp2_with fail);refine hK.out _ _ (fun p hp=>hB.out.cell hp) (fun hHeld=>?_);clear hK K;(try simp only [Act.put,hF.set])))
  have yf:=hfr.out _ hB.out
  have yl:=Nat.lt_of_lt_of_le zl hB.out.size
  have yc:=(hB.out.cell (p:=⟨Z,j,none⟩) zl).trans xj
  refine tls 38 (fun K hK=>?_)
  go_simp
  refine hK.out _ _ ?_
  clear hK K
  (try simp only [Act.put,hF.set])
  refine gB kD ?_ _
  exact hend _ _ (fun k hk=>by repeat rw [upd_ne _ _ _ _ aF]) hB.out
end
end Go.Proofs.YtegloodcbfalfaaGreatDoor
namespace Go.Proofs.YtegloodcbfalfaaGreatDoor
open Go.RowKit Go.Shelf
def L0 (n:Nat):Nat→List Bool:=fun i=>if i<4 then sU n else EZ n
def LF (ns:List Nd) (t:Tm):Nat→List Bool:=bH (bH (bH (bH (bH (bH (L0 ns.length) 0 (dG ns t)) 1 (sV ns t)) 4 (dA ns t)) 2 (dH ns t)) 5 (dI ns t)) 3 (fA ns t)
def six (a b c d e f:Nat):Nat→Nat:=fun i=>match i with | 0=>a | 1=>b | 2=>c | 3=>d | 4=>e | _=>f
theorem FS.ssr {w:World} {r:Int} {b off cap:Nat} {ns:List Nd} {t:Tm} {X:Nat→Nat} {L:Nat→List Bool} {v13 v14:Value} {k k' :Nat} {u:World} (h:FS w r b off cap ns t X L v13 v14 k k' u) (hN:aH w b off ns) {m:Nat} {x:Nd} (hx:ns[m]?=some x):SSr w r b off cap ns t m x u:=by
 obtain ⟨p0,p1,t0,t1,t2,n0,n1,n2,n3,n4,n5⟩:=h.nc hN hx
 exact ⟨p0,p1,t0,t1,t2,n0,n1,n2,n3,n4,n5,aD h.pb,aD h.tb,(hN.below h.bel hN.lt).lt,by have:=(List.getElem?_eq_some_iff.1 hx).1;omega⟩
theorem YD {T:Array Value} {f g:Nat→Value} (s n o:Nat) (V:Value) (ho:o<T.size) (hf:∀ k,f k=T.getD k undef) (hg:∀ k,k<s∨s+n≤k→g k=upd f o V k):fr T.size g=wr1 (T.setIfInBounds o V) g s n:=by
 have h:=xJ (T:=T.setIfInBounds o V) (f:=upd f o V) (g:=g) s n (fun k=>by
  by_cases e:k=o
  ·subst e
   rw [upd_same,Array.getD_eq_getD_getElem?,Array.getElem?_setIfInBounds_self_of_lt ho];rfl
  ·rw [upd_ne _ _ _ _ e,hf k,Array.getD_eq_getD_getElem?,Array.getD_eq_getD_getElem?,Array.getElem?_setIfInBounds_ne (Ne.symm e)]) hg
 rw [Array.size_setIfInBounds] at h
 exact h
theorem YE (r:Int) (b off cap:Nat) (ns:List Nd) (t:Tm) (w:World) (hN:aH w b off ns) (hc:bM r ns=0) :
 Calls Tryz.prog 107 #[.agg #[.int .i64 r,.slice (some ⟨b,off,none⟩) ns.length cap],.agg #[.int .i64 t.op,.int .i64 t.a,.int .i64 t.b]] w fun e w' =>∃ X:Nat→Nat,e=.returned (.agg #[.slice (some ⟨X 0,0,none⟩) ns.length ns.length,.slice (some ⟨X 1,0,none⟩) ns.length ns.length,.slice (some ⟨X 4,0,none⟩) ns.length ns.length,.slice (some ⟨X 2,0,none⟩) ns.length ns.length,.slice (some ⟨X 5,0,none⟩) ns.length ns.length,.slice (some ⟨X 3,0,none⟩) ns.length ns.length])∧(∀ i,i<6→w'.heap[X i]?=some (.cells ((LF ns t i).map Value.bool).toArray 4 (0,0)))∧Below w.heap.size w w' :=by
 have hl:=(bB hc).1
 have hms:∀ W:World,Sem.run Tryz.prog (Instr.makeSlice 73 (.int .i64 (ns.length:Int)) (.int .i64 (ns.length:Int))) W=.ok (.slice (some ⟨W.heap.size,0,none⟩) ns.length ns.length) (W.alloc (.cells (madeCells #[.bool false] ns.length) 4)):=fun W=>run_make_row' 73 4 _ 1 Tryz.underlying73 nQ rfl .i64 .i64 ns.length aF aF W
 obtain ⟨W,jU,hbA,q0,q1,q2,p3⟩:=bx4 w (.cells #[.int .i64 r,.slice (some ⟨b,off,none⟩) ns.length cap] 24) (.cells #[.int .i64 t.op,.int .i64 t.a,.int .i64 t.b] 59) (.cells #[.slice none 0 0,.slice none 0 0,.slice none 0 0,.slice none 0 0,.slice none 0 0,.slice none 0 0] 159) (.cells #[.int .i64 ns.length] 3)
 have HN:=aB hN
 have HC:=aB hc
 have HL:=aB hl
 clear hN hc
 go_enter Tryz.func107,Tryz.ntmps107
 go_upto_region 3 with fail
 rw [jU.out]
 clear jU
 rw [show w.heap.size+1+1+1=w.heap.size+3 from rfl,show w.heap.size+1+1=w.heap.size+2 from rfl]
 have H0:=aB q0
 have H1:=aB q1
 have H2:=aB q2
 have H3:=aB p3
 have HB:=aB hbA
 have kl:=aD p3
 have hl2:=hl.2
 clear hbA q0 q1 q2 p3 hms hl
 go_wp2_with fail
 refine (xI ns.length (w.heap.size+3) W HL.out.2 H3.out).mono ?_
 rintro e W1 ⟨rfl,x0,hb1⟩
 go_wp2_with fail
 refine (xI ns.length (w.heap.size+3) W1 HL.out.2 ((hb1.block _ kl).trans H3.out)).mono ?_
 rintro e W2 ⟨rfl,x1,hb2⟩
 have hB2:=bG hb1 hb2
 go_wp2_with fail
 refine (xI ns.length (w.heap.size+3) W2 HL.out.2 ((hB2.block _ kl).trans H3.out)).mono ?_
 rintro e W3 ⟨rfl,x2,hb3⟩
 have hB3:=bG hB2 hb3
 go_wp2_with fail
 refine (xI ns.length (w.heap.size+3) W3 HL.out.2 ((hB3.block _ kl).trans H3.out)).mono ?_
 rintro e W4 ⟨rfl,x3,hb4⟩
 have hB4:=bG hB3 hb4
 have hX0:=(hb4.block _ (aD ((hb3.block _ (aD (bP hb2 x0))).trans (bP hb2 x0)))).trans ((hb3.block _ (aD (bP hb2 x0))).trans (bP hb2 x0))
 have hX1:=(hb4.block _ (aD (bP hb3 x1))).trans (bP hb3 x1)
 have hX2:=bP hb4 x2
 have ne1:W.heap.size<W1.heap.size:=aD x0
 have ne2:W1.heap.size<W2.heap.size:=aD x1
 have ne3:W2.heap.size<W3.heap.size:=aD x2
 have ne4:W3.heap.size<W4.heap.size:=aD x3
 have HX0:=aB hX0
 have HX1:=aB hX1
 have HX2:=aB hX2
 have HX3:=aB x3
 have kP:=aB hB4
 have k4:=(hB4.block _ kl).trans H3.out
 have kc:=aA k4 0
 simp at kc
 have kl4:=aD k4
 have hms:∀ W:World,Sem.run Tryz.prog (Instr.makeSlice 73 (.int .i64 (ns.length:Int)) (.int .i64 (ns.length:Int))) W=.ok (.slice (some ⟨W.heap.size,0,none⟩) ns.length ns.length) (W.alloc (.cells (madeCells #[.bool false] ns.length) 4)):=fun W=>run_make_row' 73 4 _ 1 Tryz.underlying73 nQ rfl .i64 .i64 ns.length (by have:=HL.out;omega) (by have:=HL.out;omega) W
 have HK4:=aB k4
 clear hB4 hB3 hB2 hb1 hb2 hb3 hb4 x0 x1 x2 x3 hX0 hX1 hX2 k4
 go_upto_region 4 with fail
 go_cut [11,12] from 54 to 57 (fun v11 v12 wx=>∃ Y4 Y5,v11=.slice (some ⟨Y4,0,none⟩) ns.length ns.length∧v12=.slice (some ⟨Y5,0,none⟩) ns.length ns.length∧wx.heap[Y4]?=some (.cells ((EZ ns.length).map Value.bool).toArray 4 (0,0))∧wx.heap[Y5]?=some (.cells ((EZ ns.length).map Value.bool).toArray 4 (0,0))∧Y4≠Y5∧W4.heap.size≤Y4∧W4.heap.size≤Y5∧Below W4.heap.size W4 wx)
 case first =>
  have hm1:∀ U:World,(U.alloc (.cells (madeCells #[.bool false] ns.length) 4)).heap[U.heap.size]?=some (.cells ((EZ ns.length).map Value.bool).toArray 4 (0,0)):=fun U=>by rw [World.alloc_heap_new,oL];rfl
  have HM:=aB hm1
  clear hm1
  go_region
  all_goals go_wp2_with fail
  all_goals go_meet
  ·exact ⟨_,_,rfl,rfl,lU (aT _ (HM.out W4)),lU (by have:=HM.out (W4.alloc (.cells (madeCells #[.bool false] ns.length) 4));rwa [World.size_alloc] at this),aF,Nat.le_refl _,aF,((dY).alloc aQ _).drew⟩
  ·exact ⟨_,_,rfl,rfl,lU (by have:=HM.out (W4.alloc (.cells (madeCells #[.bool false] ns.length) 4));rwa [World.size_alloc] at this),lU (aT _ (HM.out W4)),aF,aF,Nat.le_refl _,((dY).alloc aQ _).drew⟩
 case rest =>
 obtain ⟨Y4,Y5,rfl,rfl,y4,y5,hne,l4,l5,hb⟩:=hcut
 have hF:FS w r b off cap ns t (six W.heap.size W1.heap.size W2.heap.size W3.heap.size Y4 Y5) (L0 ns.length) (.slice none 0 0) (.slice none 0 0) 0 0 wc:=by
  have JM:=bG kP.out hb
  have b1:=HB.out.size
  have bq:=kP.out.size
  refine ⟨bP JM H0.out,bP JM H1.out,bP JM H2.out,bP JM H3.out,fun i hi=>?_,fun i hi=>?_,fun i j hi hj e=>?_,fun i hi=>?_,⟨[],World.ownsRow_nil _ _ _ _,fun m hm=>absurd hm aF⟩,⟨[],World.ownsRow_nil _ _ _ _,fun m hm=>absurd hm aF⟩,fun g h=>by simp [Value.ownBlock] at h,bG HB.out JM⟩
  ·match i,hi with
   | 0,_=>exact bP hb HX0.out
   | 1,_=>exact bP hb HX1.out
   | 2,_=>exact bP hb HX2.out
   | 3,_=>exact bP hb HX3.out
   | 4,_=>exact y4
   | 5,_=>exact y5
   | i+6,hi=>exact absurd hi aF
  ·simp only [L0];split <;> simp [sU,EZ]
  ·rcases (by omega:i=0∨i=1∨i=2∨i=3∨i=4∨i=5) with rfl | rfl | rfl | rfl | rfl | rfl <;> rcases (by omega:j=0∨j=1∨j=2∨j=3∨j=4∨j=5) with rfl | rfl | rfl | rfl | rfl | rfl <;> first | rfl | (exfalso;simp only [six] at e;omega)
  ·rcases (by omega:i=0∨i=1∨i=2∨i=3∨i=4∨i=5) with rfl | rfl | rfl | rfl | rfl | rfl <;> simp only [six] <;> omega
 have HF:=aB hF
 clear hF y4 y5 hne l4 l5 hb H0 H1 H2 H3 HB kP HX0 HX1 HX2 HX3 HK4 kc kl kl4 ne1 ne2 ne3 ne4 hms
 generalize W.heap.size=Z0 at HF ⊢
 generalize W1.heap.size=Z1 at HF ⊢
 generalize W2.heap.size=Z2 at HF ⊢
 generalize W3.heap.size=Z3 at HF ⊢
 clear W W1 W2 W3 W4
 obtain ⟨i0,hi0,hz0,hz1,hz2⟩:=info_parts uH
 go_wp2_with fail
 go_loopw [13,14,15] (fun v13 v14 i wr=>∃ k:Nat,k≤ns.length∧i=.int .i64 k∧FS w r b off cap ns t (six Z0 Z1 Z2 Z3 Y4 Y5) (L0 ns.length) v13 v14 k k wr) (fun _ _ i _=>ns.length-(intOf i).toNat)
 case atStart=>exact ⟨0,Nat.zero_le _,rfl,HF.out⟩
 case round =>
  clear HF
  obtain ⟨k,hk,rfl,hF⟩:=hrel
  have k5:=hF.c5
  have kl:=aD hF.kb
  by_cases hlt:k<ns.length
  ·as_aux_lemma =>
    have q0:=aA hF.pb 0
    have q1:=aA hF.pb 1
    simp at q0 q1
    have pl:=aD hF.pb
    obtain ⟨x,hx⟩:=bD hlt
    have hli:(k:Int)<(ns.length:Int):=by omega
    have hnx:=aAG r b off cap ns k x wr (HN.out.below hF.bel HN.out.lt) HL.out.2 hx
    rw [WI hx,bX] at hnx
    have HNX:=aB hnx
    have HF:=aB hF
    clear hnx hF hx
    go_wp2_with fail
    refine HNX.out.mono ?_
    rintro e w1 ⟨v,rfl,hv,hb1⟩
    obtain ⟨va,vc,rfl⟩:=aU hv
    have VM:Below w1.heap.size w1 (w1.alloc (.cells #[.slice va (iQ ns k).length vc] 25)):=dY
    have hF2:=(HF.out.below hb1).below VM
    have hu:=ownsRow_below (aK (base' :=0) hv (Nat.zero_le _)) VM dD
    obtain ⟨vs,hvs,hrs⟩:=hF2.nx
    have aPG:=hF2.bel.size
    clear k5 kl q0 q1 pl HNX HF hb1 hv
    have HF2:=aB hF2
    have HU:=aB hu
    have HR:=aB hrs
    clear hF2 hu hrs
    go_wp2_with (at_builtin;refine wpList_append_own_at _ rfl (.tmp 63) (.tmp 67) 71 rfl w.heap.size 25 i0 (.slice none 0 0) 1 24 Tryz.underlying71 hi0 hz0 hz1 hz2 rfl aL _ _ _ rfl hvs ⟨w1.heap.size,0,none⟩ 1 1 [.slice va (iQ ns k).length vc] rfl rfl ?c1 ?c2 ?c3 ?c4 ?c5 ?_)
    case c1=>exact cell_one_new _ _ _
    case c2=>intro u hu;simp at hu;subst hu;rfl
    case c3=>unfold maxLen;omega
    case c4=>omega
    case c5=>exact aPG
    intro v' w2 hown2 hg2 _ hat
    have hF3:=HF2.out.a3H hvs HR.out HU.out hown2 hg2 (by rw [World.size_alloc];exact hat)
    clear hvs aPG hown2 hg2 hat VM HF2 HU HR
    have hah:=sS r b off cap ns k w2 (HN.out.below hF3.bel HN.out.lt) HL.out.2
    rw [show pick (mF ns k) ns.length=ints (gJ ns k) from rfl,bX] at hah
    have q0:=aA hF3.pb 0
    have q1:=aA hF3.pb 1
    simp at q0 q1
    have pl:=aD hF3.pb
    have HAH:=aB hah
    have HF:=aB hF3
    clear hah hF3
    go_wp2_with fail
    refine HAH.out.mono ?_
    rintro e w3 ⟨v,rfl,hv,hb1⟩
    obtain ⟨ua,uc,rfl⟩:=aU hv
    have VM:Below w3.heap.size w3 (w3.alloc (.cells #[.slice ua (gJ ns k).length uc] 25)):=dY
    have hF2:=(HF.out.below hb1).below VM
    have hu:=ownsRow_below (aK (base' :=0) hv (Nat.zero_le _)) VM dD
    obtain ⟨vs,hvs,hrs⟩:=hF2.ah
    have aPG:=hF2.bel.size
    clear q0 q1 pl HAH HF hb1 hv
    have HF2:=aB hF2
    have HU:=aB hu
    have HR:=aB hrs
    clear hF2 hu hrs
    go_wp2_with (at_builtin;refine wpList_append_own_at _ rfl (.tmp 69) (.tmp 73) 71 rfl w.heap.size 25 i0 (.slice none 0 0) 1 24 Tryz.underlying71 hi0 hz0 hz1 hz2 rfl aL _ _ _ rfl hvs ⟨w3.heap.size,0,none⟩ 1 1 [.slice ua (gJ ns k).length uc] rfl rfl ?c1 ?c2 ?c3 ?c4 ?c5 ?_)
    case c1=>exact cell_one_new _ _ _
    case c2=>intro u hu;simp at hu;subst hu;rfl
    case c3=>unfold maxLen;omega
    case c4=>omega
    case c5=>exact aPG
    intro v'' w4 hown2 hg2 _ hat
    have hF3:=HF2.out.a3I hvs HR.out HU.out hown2 hg2 (by rw [World.size_alloc];exact hat)
    clear hvs aPG hown2 hg2 hat VM HF2 HU HR
    have HF:=aB hF3
    clear hF3
    go_wp2
    go_roundw
    case rel=>exact ⟨k+1,aF,by go_num,HF.out⟩
    case measure=>simp [intOf];omega
  ·have ek:k=ns.length:=by omega
   subst ek
   obtain ⟨g13,c13,_,_,rfl,_⟩:=hF.nx.read (m:=0) (by have:=HL.out;omega)
   obtain ⟨g14,c14,_,_,rfl,_⟩:=hF.ah.read (m:=0) (by have:=HL.out;omega)
   have HF:=aB hF
   clear hF hlt hk
   go_wp2_with fail
   go_loopw [16] (fun v wr=>∃ k:Nat,k≤ns.length+1∧v=.int .i64 k∧FS w r b off cap ns t (six Z0 Z1 Z2 Z3 Y4 Y5) (bH (L0 ns.length) 0 (turns (bZ ns (jN ns t)) ns.length k)) (.slice (some ⟨g13,0,none⟩) ns.length c13) (.slice (some ⟨g14,0,none⟩) ns.length c14) ns.length ns.length wr) (fun v _=>ns.length+1-(intOf v).toNat)
   case atStart=>exact ⟨0,Nat.zero_le _,rfl,by rw [show bH (L0 ns.length) 0 (turns (bZ ns (jN ns t)) ns.length 0)=L0 ns.length from nD (L0 ns.length) 0];exact HF.out⟩
   case round =>
    clear HF
    obtain ⟨k,hk,rfl,hF⟩:=hrel
    have k5:=hF.c5
    have kl:=aD hF.kb
    by_cases hlt:k≤ns.length
    ·have hki:(k:Int)≤(ns.length:Int):=by omega
     have HF:=aB hF
     clear hF
     go_wp2_with fail
     go_loopw [17] (fun v wr=>∃ j:Nat,j≤ns.length∧v=.int .i64 j∧FS w r b off cap ns t (six Z0 Z1 Z2 Z3 Y4 Y5) (bH (L0 ns.length) 0 (dO (bZ ns (jN ns t)) (turns (bZ ns (jN ns t)) ns.length k) j)) (.slice (some ⟨g13,0,none⟩) ns.length c13) (.slice (some ⟨g14,0,none⟩) ns.length c14) ns.length ns.length wr) (fun v _=>ns.length-(intOf v).toNat)
     case atStart=>exact ⟨0,Nat.zero_le _,rfl,HF.out⟩
     case round =>
      clear HF k5 kl
      obtain ⟨j,hj,rfl,hF⟩:=hrel
      have k5:=hF.c5
      have kl:=aD hF.kb
      by_cases hlj:j<ns.length
      ·as_aux_lemma =>
        have HX:Hid (dO (bZ ns (jN ns t)) (turns (bZ ns (jN ns t)) ns.length k) (j+1)=(dO (bZ ns (jN ns t)) (turns (bZ ns (jN ns t)) ns.length k) j).set j (bZ ns (jN ns t) (aM (dO (bZ ns (jN ns t)) (turns (bZ ns (jN ns t)) ns.length k) j)) j)):=rfl
        generalize dO (bZ ns (jN ns t)) (turns (bZ ns (jN ns t)) ns.length k) j=x at hF HX
        obtain ⟨xn,lW⟩:=bD hlj
        have hst:=aHJ (ns:=ns) (t:=t) (n:=j) (aM x) hlj
        rw [show aM (nC ns t) j=nP t xn from cZ lW,show aM (yS ns t) j=vE t xn from cZ lW] at hst
        obtain ⟨a,d,hrow,hI,gl⟩:=hF.nx.row hlj
        have HM:Hid (∀ m∈iQ ns j,m<ns.length):=fun m hm=>FO hm
        have hll:=uK ns j
        generalize iQ ns j=l at hst hrow hI HM hll
        have hji:(j:Int)<(ns.length:Int):=by omega
        have HF:=aB hF
        have HI:=aB hI
        have HST:=aB hst
        have EQ:=aB lW
        clear hF hI hst lW
        go_wp2_with fail
        clear hrow k5 kl gl
        go_loopw [19,20] (fun v i u=>∃ q:Nat,q≤l.length∧i=.int .i64 q∧v=.bool ((l.take q).all (aM x))∧u=wr) (fun _ i _=>l.length-(intOf i).toNat)
        case atStart=>exact ⟨0,Nat.zero_le _,rfl,rfl,rfl⟩
        case round =>
         obtain ⟨q,hq,rfl,rfl,rfl⟩:=hrel
         by_cases IU:q<l.length
         ·obtain ⟨m,hm⟩:∃ m,l[q]?=some m:=⟨_,List.getElem?_eq_getElem IU⟩
          obtain ⟨bb,oo,rfl,bl,hz⟩:=ints_at HI.out hm
          have jP:=HM.out m (List.mem_of_getElem? hm)
          have x0:wr.cell? ⟨Z0,m,none⟩=some (.bool (aM x m)):=HF.out.cb (i:=0) aL jP
          have xl:Z0<wr.heap.size:=HF.out.lt (i:=0) aL
          have hqi:(q:Int)<(l.length:Int):=by omega
          have KW:(m:Int)<(ns.length:Int):=by omega
          have HT:=aB (iJ (aM x) hm)
          clear hm jP
          generalize aM x m=B at x0 HT
          generalize (l.take q).all (aM x)=A at HT ⊢
          cases A
          ·go_wp2
           go_roundw
           case rel=>exact ⟨q+1,aF,by go_num,by rw [HT.out];rfl,trivial⟩
           case measure=>simp [intOf];omega
          ·go_wp2
           go_roundw
           case rel=>exact ⟨q+1,aF,by go_num,by rw [HT.out];cases B <;> rfl,trivial⟩
           case measure=>simp [intOf];omega
         ·have eq:q=l.length:=by omega
          subst eq
          have hqi:¬ (l.length:Int)<(l.length:Int):=by omega
          rw [List.take_length]
          go_upto_region 22 with fail
          have hC:=HF.out.ssr HN.out EQ.out
          have y0:wr.cell? ⟨Z0,j,none⟩=some (.bool (aM x j)):=HF.out.cb (i:=0) aL hlj
          generalize l.all (aM x)=A at HST ⊢
          refine ML (fun f hf=>?_)
          refine a4F hC hji (HF.out.blk 0 aL) y0 (hf 2) (hf 3) (hf 7) (hf 17) (hf 18) (hf 19) MM (fun _ _ _ _ _ h=>h) (fun g w' hgg hB=>?_)
          rw [xJ 105 27 hf hgg]
          simp only [wr1,EH,EI,EJ]
          generalize nP t xn=RC at HST ⊢
          generalize vE t xn=KP at HST ⊢
          generalize hV:(RC||KP&&decide (0<l.length)&&A)=V
          have e2:dO (bZ ns (jN ns t)) (turns (bZ ns (jN ns t)) ns.length k) (j+1)=x.set j V:=by rw [HX.out,HST.out,← hV]
          have YF:=aB ((HF.out.below hB).put (i:=0) aL j V)
          clear hC y0 hV
          go_wp2
          go_roundw
          case rel=>exact ⟨j+1,aF,by go_num,by rw [e2];exact YF.out⟩
          case measure=>simp [intOf];omega
      ·have ej:j=ns.length:=by omega
       subst ej
       have HF:=aB hF
       clear hF hlj hj
       go_wp2_with fail
       go_roundw
       case rel=>exact ⟨k+1,aF,by go_num,HF.out⟩
       case measure=>simp [intOf];omega
    ·have ek:k=ns.length+1:=by omega
     subst ek
     have hki:¬ ((ns.length+1:Nat):Int)≤(ns.length:Int):=by omega
     have hgr:turns (bZ ns (jN ns t)) ns.length (ns.length+1)=dG ns t:=rfl
     rw [hgr] at hF
     have HF:=aB hF
     clear hF hlt hk
     go_wp2_with fail
     go_loopw [21] (fun v wr=>∃ k:Nat,k≤ns.length+1∧v=.int .i64 k∧FS w r b off cap ns t (six Z0 Z1 Z2 Z3 Y4 Y5) (bH (bH (L0 ns.length) 0 (dG ns t)) 1 (turns (eH (bZ ns (KZ ns t))) ns.length k)) (.slice (some ⟨g13,0,none⟩) ns.length c13) (.slice (some ⟨g14,0,none⟩) ns.length c14) ns.length ns.length wr) (fun v _=>ns.length+1-(intOf v).toNat)
     case atStart=>exact ⟨0,Nat.zero_le _,rfl,by rw [show bH (bH (L0 ns.length) 0 (dG ns t)) 1 (turns (eH (bZ ns (KZ ns t))) ns.length 0)=bH (L0 ns.length) 0 (dG ns t) from nD (bH (L0 ns.length) 0 (dG ns t)) 1];exact HF.out⟩
     case round =>
      clear HF
      obtain ⟨k,hk,rfl,hF⟩:=hrel
      have k5:=hF.c5
      have kl:=aD hF.kb
      by_cases hlt:k≤ns.length
      ·have hki:(k:Int)≤(ns.length:Int):=by omega
       have HF:=aB hF
       clear hF
       go_wp2_with fail
       go_loopw [22] (fun v wr=>∃ j:Nat,j≤ns.length∧v=.int .i64 j∧FS w r b off cap ns t (six Z0 Z1 Z2 Z3 Y4 Y5) (bH (bH (L0 ns.length) 0 (dG ns t)) 1 (dO (eH (bZ ns (KZ ns t))) (turns (eH (bZ ns (KZ ns t))) ns.length k) j)) (.slice (some ⟨g13,0,none⟩) ns.length c13) (.slice (some ⟨g14,0,none⟩) ns.length c14) ns.length ns.length wr) (fun v _=>ns.length-(intOf v).toNat)
       case atStart=>exact ⟨0,Nat.zero_le _,rfl,HF.out⟩
       case round =>
        clear HF k5 kl
        obtain ⟨j,hj,rfl,hF⟩:=hrel
        have k5:=hF.c5
        have kl:=aD hF.kb
        by_cases hlj:j<ns.length
        ·as_aux_lemma =>
          have HX:Hid (dO (eH (bZ ns (KZ ns t))) (turns (eH (bZ ns (KZ ns t))) ns.length k) (j+1)=(dO (eH (bZ ns (KZ ns t))) (turns (eH (bZ ns (KZ ns t))) ns.length k) j).set j ((eH (bZ ns (KZ ns t))) (aM (dO (eH (bZ ns (KZ ns t))) (turns (eH (bZ ns (KZ ns t))) ns.length k) j)) j)):=rfl
          generalize dO (eH (bZ ns (KZ ns t))) (turns (eH (bZ ns (KZ ns t))) ns.length k) j=x at hF HX
          have hst:=aSK (ns:=ns) (t:=t) (n:=j) (aM x) hlj
          obtain ⟨a,d,hrow,hI,gl⟩:=hF.ah.aNM hlj
          have HM:Hid (∀ m∈gJ ns j,m<ns.length):=fun m hm=>FP hm
          have hll:=uL ns j
          generalize gJ ns j=l at hst hrow hI HM hll
          have hji:(j:Int)<(ns.length:Int):=by omega
          have hxl:x.length=ns.length:=hF.len 1 aL
          have HF:=aB hF
          have HST:=aB hst
          have HXL:=aB hxl
          have y0:wr.cell? ⟨Z1,j,none⟩=some (.bool (aM x j)):=HF.out.cb (i:=1) aL hlj
          have yf:wr.frozen? ⟨Z1,j,none⟩=false:=HF.out.fr (i:=1) aL j
          have yl:Z1<wr.heap.size:=HF.out.lt (i:=1) aL
          have HI:=aB hI
          clear hF hst hxl hI
          go_wp2_with fail
          have hIs:=aI (o:=j) (u:=.bool (decide (0<l.length))) HI.out (HF.out.blk 1 aL) aL
          have hFs:=HF.out.put (i:=1) aL j (decide (0<l.length))
          have HIS:=aB hIs
          have HFS:=aB hFs
          clear hrow k5 kl gl y0 yf yl hIs hFs HI HF
          go_loopw [24] (fun i u=>∃ q:Nat,q≤l.length∧i=.int .i64 q∧u.ownsRow 0 3 1 (.slice a l.length d) l.length ((ints l).map (Value.int .i64))∧FS w r b off cap ns t (six Z0 Z1 Z2 Z3 Y4 Y5) (bH (bH (L0 ns.length) 0 (dG ns t)) 1 (x.set j (decide (0<l.length)&&(l.take q).all (SA ns t j (aM x))))) (.slice (some ⟨g13,0,none⟩) ns.length c13) (.slice (some ⟨g14,0,none⟩) ns.length c14) ns.length ns.length u) (fun i _=>l.length-(intOf i).toNat)
          case atStart =>
           refine ⟨0,Nat.zero_le _,rfl,HIS.out,?_⟩
           rw [show (decide (0<l.length)&&(l.take 0).all (SA ns t j (aM x)))=(decide (0<l.length)) by simp]
           exact HFS.out
          case round =>
           clear HFS HIS
           obtain ⟨q,hq,rfl,hI,hF⟩:=hrel
           by_cases IU:q<l.length
           ·obtain ⟨m,hm⟩:∃ m,l[q]?=some m:=⟨_,List.getElem?_eq_getElem IU⟩
            obtain ⟨bb,oo,rfl,bl,hz,cs,hbc⟩:=FT hI hm
            have jP:=HM.out m (List.mem_of_getElem? hm)
            obtain ⟨xm,hxm⟩:=bD jP
            have hqi:(q:Int)<(l.length:Int):=by omega
            have hrc:aM (nC ns t) m=nP t xm:=cZ hxm
            have hkp:aM (yS ns t) m=vE t xm:=cZ hxm
            have hT:(decide (0<l.length)&&(l.take (q+1)).all (SA ns t j (aM x)))=((decide (0<l.length)&&(l.take q).all (SA ns t j (aM x)))&&SA ns t j (aM x) m):=by first | (rw [iJ _ hm];simp only [Bool.and_assoc];done) | rw [iJ _ hm]
            simp only [SA,hrc,hkp] at hT
            have HF:=aB hF
            have EQ:=aB hxm
            have HI:=aB hI
            have xj:wr.cell? ⟨Z1,j,none⟩=some (.bool (decide (0<l.length)&&(l.take q).all (SA ns t j (aM x)))):=by
             have:=HF.out.cb (i:=1) aL hlj
             rw [show aM (bH (bH (L0 ns.length) 0 (dG ns t)) 1 (x.set j (decide (0<l.length)&&(l.take q).all (SA ns t j (aM x)))) 1) j=(decide (0<l.length)&&(l.take q).all (SA ns t j (aM x))) from xG (by rw [HXL.out];exact hlj)] at this
             exact this
            have xm0:wr.cell? ⟨Z1,m,none⟩=some (.bool (aM (x.set j (decide (0<l.length)&&(l.take q).all (SA ns t j (aM x)))) m)):=HF.out.cb (i:=1) aL jP
            have HUM:Hid ((decide (0<l.length)&&(l.take q).all (SA ns t j (aM x)))=true→aM (x.set j (decide (0<l.length)&&(l.take q).all (SA ns t j (aM x)))) m=(m==j||aM x m)):=fun e=>by rw [e];exact xH (by rw [HXL.out];exact hlj)
            generalize hPN:(decide (0<l.length)&&(l.take (q+1)).all (SA ns t j (aM x)))=PN at hT
            have HPN:=aB hPN
            clear hPN
            generalize aM (x.set j (decide (0<l.length)&&(l.take q).all (SA ns t j (aM x)))) m=UM at xm0 HUM
            generalize hPG:(decide (0<l.length)&&(l.take q).all (SA ns t j (aM x)))=P at hT xj HUM HF
            skip
            have HT:=aB hT
            have hC:=HF.out.ssr HN.out EQ.out
            clear hF hI hT hrc hkp hxm hm hPG
            go_upto_region 34 with fail
            refine ML (fun f hf=>?_)
            refine a4H hC hqi bl hz hji (HF.out.blk 1 aL) xj xm0 (hf 2) (hf 3) (hf 8) (hf 22) (hf 23) (hf 24) MM (fun _ _ _ _ _ h=>h) (fun g w' hgg hB=>?_)
            rw [xJ 158 40 hf hgg]
            simp only [wr1,EH,EI,EJ]
            generalize nP t xm=RC at HT ⊢
            generalize vE t xm=KP at HT ⊢
            generalize hV:(P&&(KP&&(UM||RC)))=V
            have e2:PN=V:=by
             rw [HT.out,← hV]
             cases P
             ·rfl
             ·rw [HUM.out rfl]
            have YF:=aB ((HF.out.below hB).put (i:=1) aL j V)
            rw [List.set_set] at YF
            have HIF:=aB (aI (o:=j) (u:=.bool V) (ownsRow_below HI.out hB dD) ((HF.out.below hB).blk 1 aL) aL)
            clear hC xj xm0 hV hz
            go_wp2
            go_roundw
            case rel=>exact ⟨q+1,aF,by go_num,HIF.out,by rw [HPN.out,e2];exact YF.out⟩
            case measure=>simp [intOf];omega
           ·have eq:q=l.length:=by omega
            subst eq
            have hqi:¬ (l.length:Int)<(l.length:Int):=by omega
            rw [List.take_length] at hF
            rw [← HST.out,← HX.out] at hF
            have HF:=aB hF
            clear hF hI
            go_wp2_with fail
            go_roundw
            case rel=>exact ⟨j+1,aF,by go_num,HF.out⟩
            case measure=>simp [intOf];omega
        ·have ej:j=ns.length:=by omega
         subst ej
         have HF:=aB hF
         clear hF hlj hj
         go_wp2_with fail
         go_roundw
         case rel=>exact ⟨k+1,aF,by go_num,HF.out⟩
         case measure=>simp [intOf];omega
      ·have ek:k=ns.length+1:=by omega
       subst ek
       have hki:¬ ((ns.length+1:Nat):Int)≤(ns.length:Int):=by omega
       have hgr:turns (eH (bZ ns (KZ ns t))) ns.length (ns.length+1)=sV ns t:=WV (pO ns (KZ ns t)) ns.length
       rw [hgr] at hF
       have HF:=aB hF
       clear hF hlt hk
       go_wp2_with fail
       go_loopw [25] (fun v wr=>∃ j:Nat,j≤ns.length∧v=.int .i64 j∧FS w r b off cap ns t (six Z0 Z1 Z2 Z3 Y4 Y5) (bH (bH (bH (L0 ns.length) 0 (dG ns t)) 1 (sV ns t)) 4 (jO (dA ns t) ns.length j)) (.slice (some ⟨g13,0,none⟩) ns.length c13) (.slice (some ⟨g14,0,none⟩) ns.length c14) ns.length ns.length wr) (fun v _=>ns.length-(intOf v).toNat)
       case atStart=>exact ⟨0,Nat.zero_le _,rfl,by rw [FU,show bH (bH (bH (L0 ns.length) 0 (dG ns t)) 1 (sV ns t)) 4 (EZ ns.length)=bH (bH (L0 ns.length) 0 (dG ns t)) 1 (sV ns t) from nD (bH (bH (L0 ns.length) 0 (dG ns t)) 1 (sV ns t)) 4];exact HF.out⟩
       case round =>
        clear HF
        obtain ⟨j,hj,rfl,hF⟩:=hrel
        have k5:=hF.c5
        have kl:=aD hF.kb
        by_cases hlj:j<ns.length
        ·as_aux_lemma =>
          have hst:=aBU (ns:=ns) (t:=t) (n:=j) hlj
          obtain ⟨a,d,hrow,hI,gl⟩:=hF.ah.aNM hlj
          have HM:Hid (∀ m∈gJ ns j,m<ns.length):=fun m hm=>FP hm
          have hll:=uL ns j
          generalize gJ ns j=l at hst hrow hI HM hll
          have hji:(j:Int)<(ns.length:Int):=by omega
          have HX:=aB (FV (E:=dA ns t) (n:=ns.length) hlj)
          generalize jO (dA ns t) ns.length j=x at hF HX
          have HF:=aB hF
          have HST:=aB hst
          clear hF hst
          have HI:=aB hI
          clear hI
          go_wp2_with fail
          clear hrow k5 kl gl
          go_loopw [27,28] (fun v i u=>∃ q:Nat,q≤l.length∧i=.int .i64 q∧v=.bool (decide (l.length=0)||(l.take q).any (nT ns t))∧Below wr.heap.size wr u) (fun _ i _=>l.length-(intOf i).toNat)
          case atStart=>exact ⟨0,Nat.zero_le _,rfl,by first | (simp;done) | (simp only [List.take_zero,List.any_nil,Bool.or_false,Value.bool.injEq];rw [Bool.eq_iff_iff];simp),Below.refl _ _⟩
          case round =>
           obtain ⟨q,hq,rfl,rfl,hbw⟩:=hrel
           replace HF:=aB (HF.out.below hbw)
           replace HI:=aB (ownsRow_below HI.out hbw dD)
           by_cases IU:q<l.length
           ·obtain ⟨m,hm⟩:∃ m,l[q]?=some m:=⟨_,List.getElem?_eq_getElem IU⟩
            obtain ⟨bb,oo,rfl,bl,hz,cs,hbc⟩:=FT HI.out hm
            have jP:=HM.out m (List.mem_of_getElem? hm)
            obtain ⟨xm,hxm⟩:=bD jP
            have hqi:(q:Int)<(l.length:Int):=by omega
            have hrc:aM (nC ns t) m=nP t xm:=cZ hxm
            have hkp:aM (yS ns t) m=vE t xm:=cZ hxm
            have hT:(decide (l.length=0)||(l.take (q+1)).any (nT ns t))=((decide (l.length=0)||(l.take q).any (nT ns t))||nT ns t m):=by rw [vF _ hm];simp only [Bool.or_assoc]
            have EQ:=aB hxm
            have xd:wr.cell? ⟨Z0,m,none⟩=some (.bool (aM (dG ns t) m)):=HF.out.cb (i:=0) aL jP
            have xu:wr.cell? ⟨Z1,m,none⟩=some (.bool (aM (sV ns t) m)):=HF.out.cb (i:=1) aL jP
            simp only [nT] at hT
            generalize aM (dG ns t) m=DM at xd hT
            generalize aM (sV ns t) m=UM at xu hT
            generalize hPN:(decide (l.length=0)||(l.take (q+1)).any (nT ns t))=PN at hT
            have HPN:=aB hPN
            clear hPN
            generalize (decide (l.length=0)||(l.take q).any (nT ns t))=A at hT ⊢
            simp only [hrc,hkp] at hT
            have HT:=aB hT
            have iX:=aB hbw
            have hC:=HF.out.ssr HN.out EQ.out
            clear hT hrc hkp hxm hm hbc hbw
            go_upto_region 43 with fail
            refine ML (fun f hf=>?_)
            refine a4J hC hqi bl hz (HF.out.lt (i:=0) aL) xd (HF.out.lt (i:=1) aL) xu (hf 2) (hf 3) (hf 7) (hf 8) (hf 26) (hf 27) (hf 28) MM (fun _ _ _ _ _ h=>h) (fun g w' hgg hB=>?_)
            rw [YD 216 34 27 _ (by show 27<429;decide) hf hgg]
            simp only [wr1,EH,EI,EJ]
            generalize nP t xm=RC at HT ⊢
            generalize vE t xm=KP at HT ⊢
            generalize hV:(A||!KP||!DM&&!UM)=V
            have e2:PN=V:=by rw [HT.out,← hV];cases RC <;> cases KP <;> cases A <;> cases DM <;> first | rfl | simp
            clear hC hV hz xd
            go_wp2
            go_roundw
            case rel=>exact ⟨q+1,aF,by go_num,by rw [HPN.out,e2],iX.out.trans ((hB).mono iX.out.size)⟩
            case measure=>simp [intOf];omega
           ·have eq:q=l.length:=by omega
            subst eq
            have hqi:¬ (l.length:Int)<(l.length:Int):=by omega
            rw [List.take_length]
            have k5:=HF.out.c5
            have kl:=aD HF.out.kb
            have ye:wr.cell? ⟨Z0,j,none⟩=some (.bool (aM (dG ns t) j)):=HF.out.cb (i:=0) aL hlj
            have yel:Z0<wr.heap.size:=HF.out.lt (i:=0) aL
            have y0:wr.cell? ⟨Y4,j,none⟩=some (.bool (aM (x) j)):=HF.out.cb (i:=4) aL hlj
            have yf:wr.frozen? ⟨Y4,j,none⟩=false:=HF.out.fr (i:=4) aL j
            have yl:Y4<wr.heap.size:=HF.out.lt (i:=4) aL
            generalize aM (dG ns t) j=DJ at ye HST
            generalize (decide (l.length=0)||l.any (nT ns t))=A at HST ⊢
            cases DJ
            ·have e2:jO (dA ns t) ns.length (j+1)=x.set j false:=by rw [HX.out,HST.out];rfl
             have YF:=aB (HF.out.put (i:=4) aL j false)
             go_wp2
             go_roundw
             case rel=>exact ⟨j+1,aF,by go_num,by rw [e2];exact YF.out⟩
             case measure=>simp [intOf];omega
            ·have e2:jO (dA ns t) ns.length (j+1)=x.set j A:=by rw [HX.out,HST.out];rfl
             have YF:=aB (HF.out.put (i:=4) aL j A)
             go_wp2
             go_roundw
             case rel=>exact ⟨j+1,aF,by go_num,by rw [e2];exact YF.out⟩
             case measure=>simp [intOf];omega
        ·have ej:j=ns.length:=by omega
         subst ej
         have hji:¬ (ns.length:Int)<(ns.length:Int):=by omega
         rw [LX (by simp [dA])] at hF
         have HF:=aB hF
         clear hF hlj hj
         go_wp2_with fail
         go_loopw [29] (fun v wr=>∃ k:Nat,k≤ns.length+1∧v=.int .i64 k∧FS w r b off cap ns t (six Z0 Z1 Z2 Z3 Y4 Y5) (bH (bH (bH (bH (L0 ns.length) 0 (dG ns t)) 1 (sV ns t)) 4 (dA ns t)) 2 (turns (bZ ns (eZ ns t)) ns.length k)) (.slice (some ⟨g13,0,none⟩) ns.length c13) (.slice (some ⟨g14,0,none⟩) ns.length c14) ns.length ns.length wr) (fun v _=>ns.length+1-(intOf v).toNat)
         case atStart=>exact ⟨0,Nat.zero_le _,rfl,by rw [show bH (bH (bH (bH (L0 ns.length) 0 (dG ns t)) 1 (sV ns t)) 4 (dA ns t)) 2 (turns (bZ ns (eZ ns t)) ns.length 0)=bH (bH (bH (L0 ns.length) 0 (dG ns t)) 1 (sV ns t)) 4 (dA ns t) from nD (bH (bH (bH (L0 ns.length) 0 (dG ns t)) 1 (sV ns t)) 4 (dA ns t)) 2];exact HF.out⟩
         case round =>
          clear HF
          obtain ⟨k,hk,rfl,hF⟩:=hrel
          have k5:=hF.c5
          have kl:=aD hF.kb
          by_cases hlt:k≤ns.length
          ·have hki:(k:Int)≤(ns.length:Int):=by omega
           have HF:=aB hF
           clear hF
           go_wp2_with fail
           go_loopw [30] (fun v wr=>∃ j:Nat,j≤ns.length∧v=.int .i64 j∧FS w r b off cap ns t (six Z0 Z1 Z2 Z3 Y4 Y5) (bH (bH (bH (bH (L0 ns.length) 0 (dG ns t)) 1 (sV ns t)) 4 (dA ns t)) 2 (dO (bZ ns (eZ ns t)) (turns (bZ ns (eZ ns t)) ns.length k) j)) (.slice (some ⟨g13,0,none⟩) ns.length c13) (.slice (some ⟨g14,0,none⟩) ns.length c14) ns.length ns.length wr) (fun v _=>ns.length-(intOf v).toNat)
           case atStart=>exact ⟨0,Nat.zero_le _,rfl,HF.out⟩
           case round =>
            clear HF k5 kl
            obtain ⟨j,hj,rfl,hF⟩:=hrel
            have k5:=hF.c5
            have kl:=aD hF.kb
            by_cases hlj:j<ns.length
            ·as_aux_lemma =>
              have HX:Hid (dO (bZ ns (eZ ns t)) (turns (bZ ns (eZ ns t)) ns.length k) (j+1)=(dO (bZ ns (eZ ns t)) (turns (bZ ns (eZ ns t)) ns.length k) j).set j ((bZ ns (eZ ns t)) (aM (dO (bZ ns (eZ ns t)) (turns (bZ ns (eZ ns t)) ns.length k) j)) j)):=rfl
              generalize dO (bZ ns (eZ ns t)) (turns (bZ ns (eZ ns t)) ns.length k) j=x at hF HX
              have hst:=aBT (ns:=ns) (t:=t) (n:=j) (aM x) hlj
              obtain ⟨a,d,hrow,hI,gl⟩:=hF.ah.aNM hlj
              have HM:Hid (∀ m∈gJ ns j,m<ns.length):=fun m hm=>FP hm
              have hll:=uL ns j
              generalize gJ ns j=l at hst hrow hI HM hll
              have hji:(j:Int)<(ns.length:Int):=by omega
              have HF:=aB hF
              have HST:=aB hst
              clear hF hst
              have HI:=aB hI
              clear hI
              go_wp2_with fail
              clear hrow k5 kl gl
              go_loopw [32,33] (fun v i u=>∃ q:Nat,q≤l.length∧i=.int .i64 q∧v=.bool (decide (0<l.length)&&(l.take q).all (nS ns t (aM x)))∧Below wr.heap.size wr u) (fun _ i _=>l.length-(intOf i).toNat)
              case atStart=>exact ⟨0,Nat.zero_le _,rfl,by first | (simp;done) | (simp only [List.take_zero,List.any_nil,Bool.or_false,Value.bool.injEq];rw [Bool.eq_iff_iff];simp),Below.refl _ _⟩
              case round =>
               obtain ⟨q,hq,rfl,rfl,hbw⟩:=hrel
               replace HF:=aB (HF.out.below hbw)
               replace HI:=aB (ownsRow_below HI.out hbw dD)
               by_cases IU:q<l.length
               ·obtain ⟨m,hm⟩:∃ m,l[q]?=some m:=⟨_,List.getElem?_eq_getElem IU⟩
                obtain ⟨bb,oo,rfl,bl,hz,cs,hbc⟩:=FT HI.out hm
                have jP:=HM.out m (List.mem_of_getElem? hm)
                obtain ⟨xm,hxm⟩:=bD jP
                have hqi:(q:Int)<(l.length:Int):=by omega
                have hrc:aM (nC ns t) m=nP t xm:=cZ hxm
                have hkp:aM (yS ns t) m=vE t xm:=cZ hxm
                have hT:(decide (0<l.length)&&(l.take (q+1)).all (nS ns t (aM x)))=((decide (0<l.length)&&(l.take q).all (nS ns t (aM x)))&&nS ns t (aM x) m):=by rw [iJ _ hm];simp only [Bool.and_assoc]
                have EQ:=aB hxm
                have xd:wr.cell? ⟨Z2,m,none⟩=some (.bool (aM x m)):=HF.out.cb (i:=2) aL jP
                simp only [nS] at hT
                generalize aM x m=DM at xd hT
                generalize hPN:(decide (0<l.length)&&(l.take (q+1)).all (nS ns t (aM x)))=PN at hT
                have HPN:=aB hPN
                clear hPN
                generalize (decide (0<l.length)&&(l.take q).all (nS ns t (aM x)))=A at hT ⊢
                simp only [hrc,hkp] at hT
                have HT:=aB hT
                have iX:=aB hbw
                have hC:=HF.out.ssr HN.out EQ.out
                clear hT hrc hkp hxm hm hbc hbw
                go_upto_region 56 with fail
                refine ML (fun f hf=>?_)
                refine a4L hC hqi bl hz (HF.out.lt (i:=2) aL) xd (hf 2) (hf 3) (hf 9) (hf 31) (hf 32) (hf 33) MM (fun _ _ _ _ _ h=>h) (fun g w' hgg hB=>?_)
                rw [YD 283 23 32 _ (by show 32<429;decide) hf hgg]
                simp only [wr1,EH,EI,EJ]
                generalize nP t xm=RC at HT ⊢
                generalize vE t xm=KP at HT ⊢
                generalize hV:(A&&DM&&!RC)=V
                have e2:PN=V:=by rw [HT.out,← hV];cases RC <;> cases KP <;> cases A <;> cases DM <;> first | rfl | simp
                clear hC hV hz xd
                go_wp2
                go_roundw
                case rel=>exact ⟨q+1,aF,by go_num,by rw [HPN.out,e2],iX.out.trans ((hB).mono iX.out.size)⟩
                case measure=>simp [intOf];omega
               ·have eq:q=l.length:=by omega
                subst eq
                have hqi:¬ (l.length:Int)<(l.length:Int):=by omega
                rw [List.take_length]
                have k5:=HF.out.c5
                have kl:=aD HF.out.kb
                have ye:wr.cell? ⟨Y4,j,none⟩=some (.bool (aM (dA ns t) j)):=HF.out.cb (i:=4) aL hlj
                have yel:Y4<wr.heap.size:=HF.out.lt (i:=4) aL
                have y0:wr.cell? ⟨Z2,j,none⟩=some (.bool (aM (x) j)):=HF.out.cb (i:=2) aL hlj
                have yf:wr.frozen? ⟨Z2,j,none⟩=false:=HF.out.fr (i:=2) aL j
                have yl:Z2<wr.heap.size:=HF.out.lt (i:=2) aL
                generalize aM (dA ns t) j=E at ye HST
                generalize (decide (0<l.length)&&l.all (nS ns t (aM x)))=A at HST ⊢
                cases E
                ·have e2:dO (bZ ns (eZ ns t)) (turns (bZ ns (eZ ns t)) ns.length k) (j+1)=x.set j A:=by rw [HX.out,HST.out];rfl
                 have YF:=aB (HF.out.put (i:=2) aL j A)
                 go_wp2
                 go_roundw
                 case rel=>exact ⟨j+1,aF,by go_num,by rw [e2];exact YF.out⟩
                 case measure=>simp [intOf];omega
                ·have e2:dO (bZ ns (eZ ns t)) (turns (bZ ns (eZ ns t)) ns.length k) (j+1)=x.set j true:=by rw [HX.out,HST.out];rfl
                 have YF:=aB (HF.out.put (i:=2) aL j true)
                 go_wp2
                 go_roundw
                 case rel=>exact ⟨j+1,aF,by go_num,by rw [e2];exact YF.out⟩
                 case measure=>simp [intOf];omega
            ·have ej:j=ns.length:=by omega
             subst ej
             have HF:=aB hF
             clear hF hlj hj
             go_wp2_with fail
             go_roundw
             case rel=>exact ⟨k+1,aF,by go_num,HF.out⟩
             case measure=>simp [intOf];omega
          ·have ek:k=ns.length+1:=by omega
           subst ek
           have hki:¬ ((ns.length+1:Nat):Int)≤(ns.length:Int):=by omega
           have hgr:turns (bZ ns (eZ ns t)) ns.length (ns.length+1)=dH ns t:=rfl
           rw [hgr] at hF
           have HF:=aB hF
           clear hF hlt hk
           go_wp2_with fail
           go_loopw [34] (fun v wr=>∃ j:Nat,j≤ns.length∧v=.int .i64 j∧FS w r b off cap ns t (six Z0 Z1 Z2 Z3 Y4 Y5) (bH (bH (bH (bH (bH (L0 ns.length) 0 (dG ns t)) 1 (sV ns t)) 4 (dA ns t)) 2 (dH ns t)) 5 (jO (dI ns t) ns.length j)) (.slice (some ⟨g13,0,none⟩) ns.length c13) (.slice (some ⟨g14,0,none⟩) ns.length c14) ns.length ns.length wr) (fun v _=>ns.length-(intOf v).toNat)
           case atStart=>exact ⟨0,Nat.zero_le _,rfl,by rw [FU,show bH (bH (bH (bH (bH (L0 ns.length) 0 (dG ns t)) 1 (sV ns t)) 4 (dA ns t)) 2 (dH ns t)) 5 (EZ ns.length)=bH (bH (bH (bH (L0 ns.length) 0 (dG ns t)) 1 (sV ns t)) 4 (dA ns t)) 2 (dH ns t) from nD (bH (bH (bH (bH (L0 ns.length) 0 (dG ns t)) 1 (sV ns t)) 4 (dA ns t)) 2 (dH ns t)) 5];exact HF.out⟩
           case round =>
            clear HF
            obtain ⟨j,hj,rfl,hF⟩:=hrel
            have k5:=hF.c5
            have kl:=aD hF.kb
            by_cases hlj:j<ns.length
            ·as_aux_lemma =>
              have hst:=aHK (ns:=ns) (t:=t) (n:=j) hlj
              obtain ⟨a,d,hrow,hI,gl⟩:=hF.nx.aNM hlj
              have HM:Hid (∀ m∈iQ ns j,m<ns.length):=fun m hm=>FO hm
              have hll:=uK ns j
              generalize iQ ns j=l at hst hrow hI HM hll
              have hji:(j:Int)<(ns.length:Int):=by omega
              have HX:=aB (FV (E:=dI ns t) (n:=ns.length) hlj)
              generalize jO (dI ns t) ns.length j=x at hF HX
              obtain ⟨xn,lW⟩:=bD hlj
              rw [show aM (nC ns t) j=nP t xn from cZ lW] at hst
              have EQ:=aB lW
              have HF:=aB hF
              have HST:=aB hst
              clear hF hst lW
              have HI:=aB hI
              clear hI
              go_wp2_with fail
              clear hrow k5 kl gl
              go_loopw [36,37] (fun v i u=>∃ q:Nat,q≤l.length∧i=.int .i64 q∧v=.bool ((l.take q).any fun m=>!aM (dH ns t) m)∧u=wr) (fun _ i _=>l.length-(intOf i).toNat)
              case atStart=>exact ⟨0,Nat.zero_le _,rfl,rfl,rfl⟩
              case round =>
               obtain ⟨q,hq,rfl,rfl,rfl⟩:=hrel
               by_cases IU:q<l.length
               ·obtain ⟨m,hm⟩:∃ m,l[q]?=some m:=⟨_,List.getElem?_eq_getElem IU⟩
                obtain ⟨bb,oo,rfl,bl,hz,cs,hbc⟩:=FT HI.out hm
                have jP:=HM.out m (List.mem_of_getElem? hm)
                have x0:wr.cell? ⟨Z2,m,none⟩=some (.bool (aM (dH ns t) m)):=HF.out.cb (i:=2) aL jP
                have xl:Z2<wr.heap.size:=HF.out.lt (i:=2) aL
                have hqi:(q:Int)<(l.length:Int):=by omega
                have KW:(m:Int)<(ns.length:Int):=by omega
                have HT:=aB (vF (fun m=>!aM (dH ns t) m) hm)
                clear hm jP hbc
                generalize hB:aM (dH ns t) m=B at x0
                generalize ((l.take q).any fun m=>!aM (dH ns t) m)=A at HT ⊢
                have QN:=aB hB
                clear hB
                cases A
                ·go_wp2
                 go_roundw
                 case rel=>exact ⟨q+1,aF,by go_num,by rw [HT.out,QN.out];cases B <;> rfl,trivial⟩
                 case measure=>simp [intOf];omega
                ·go_wp2
                 go_roundw
                 case rel=>exact ⟨q+1,aF,by go_num,by rw [HT.out];rfl,trivial⟩
                 case measure=>simp [intOf];omega
               ·have eq:q=l.length:=by omega
                subst eq
                have hqi:¬ (l.length:Int)<(l.length:Int):=by omega
                rw [List.take_length]
                go_upto_region 67 with fail
                have hC:=HF.out.ssr HN.out EQ.out
                have xd:wr.cell? ⟨Z2,j,none⟩=some (.bool (aM (dH ns t) j)):=HF.out.cb (i:=2) aL hlj
                have y0:wr.cell? ⟨Y5,j,none⟩=some (.bool (aM (x) j)):=HF.out.cb (i:=5) aL hlj
                generalize aM (dH ns t) j=DJ at xd HST
                generalize (l.any fun m=>!aM (dH ns t) m)=A at HST ⊢
                refine ML (fun f hf=>?_)
                refine a4N hC hji (HF.out.blk 5 aL) y0 (HF.out.lt (i:=2) aL) xd (hf 2) (hf 3) (hf 9) (hf 12) (hf 34) (hf 36) MM (fun _ _ _ _ _ h=>h) (fun g w' hgg hB=>?_)
                rw [xJ 342 19 hf hgg]
                simp only [wr1,EH,EI,EJ]
                generalize nP t xn=RC at HST ⊢
                generalize vE t xn=KP at HST ⊢
                generalize hV:(DJ&&(RC||A))=V
                have e2:jO (dI ns t) ns.length (j+1)=x.set j V:=by rw [HX.out,HST.out,← hV]
                have YF:=aB ((HF.out.below hB).put (i:=5) aL j V)
                clear hC y0 xd hV
                go_wp2
                go_roundw
                case rel=>exact ⟨j+1,aF,by go_num,by rw [e2];exact YF.out⟩
                case measure=>simp [intOf];omega
            ·have ej:j=ns.length:=by omega
             subst ej
             have hji:¬ (ns.length:Int)<(ns.length:Int):=by omega
             rw [LX (by simp [dI])] at hF
             have HF:=aB hF
             clear hF hlj hj
             go_wp2_with fail
             go_loopw [38] (fun v wr=>∃ k:Nat,k≤ns.length+1∧v=.int .i64 k∧FS w r b off cap ns t (six Z0 Z1 Z2 Z3 Y4 Y5) (bH (bH (bH (bH (bH (bH (L0 ns.length) 0 (dG ns t)) 1 (sV ns t)) 4 (dA ns t)) 2 (dH ns t)) 5 (dI ns t)) 3 (turns (eH (bZ ns (fT ns t))) ns.length k)) (.slice (some ⟨g13,0,none⟩) ns.length c13) (.slice (some ⟨g14,0,none⟩) ns.length c14) ns.length ns.length wr) (fun v _=>ns.length+1-(intOf v).toNat)
             case atStart=>exact ⟨0,Nat.zero_le _,rfl,by rw [show bH (bH (bH (bH (bH (bH (L0 ns.length) 0 (dG ns t)) 1 (sV ns t)) 4 (dA ns t)) 2 (dH ns t)) 5 (dI ns t)) 3 (turns (eH (bZ ns (fT ns t))) ns.length 0)=bH (bH (bH (bH (bH (L0 ns.length) 0 (dG ns t)) 1 (sV ns t)) 4 (dA ns t)) 2 (dH ns t)) 5 (dI ns t) from nD (bH (bH (bH (bH (bH (L0 ns.length) 0 (dG ns t)) 1 (sV ns t)) 4 (dA ns t)) 2 (dH ns t)) 5 (dI ns t)) 3];exact HF.out⟩
             case round =>
              clear HF
              obtain ⟨k,hk,rfl,hF⟩:=hrel
              have k5:=hF.c5
              have kl:=aD hF.kb
              by_cases hlt:k≤ns.length
              ·have hki:(k:Int)≤(ns.length:Int):=by omega
               have HF:=aB hF
               clear hF
               go_wp2_with fail
               go_loopw [39] (fun v wr=>∃ j:Nat,j≤ns.length∧v=.int .i64 j∧FS w r b off cap ns t (six Z0 Z1 Z2 Z3 Y4 Y5) (bH (bH (bH (bH (bH (bH (L0 ns.length) 0 (dG ns t)) 1 (sV ns t)) 4 (dA ns t)) 2 (dH ns t)) 5 (dI ns t)) 3 (dO (eH (bZ ns (fT ns t))) (turns (eH (bZ ns (fT ns t))) ns.length k) j)) (.slice (some ⟨g13,0,none⟩) ns.length c13) (.slice (some ⟨g14,0,none⟩) ns.length c14) ns.length ns.length wr) (fun v _=>ns.length-(intOf v).toNat)
               case atStart=>exact ⟨0,Nat.zero_le _,rfl,HF.out⟩
               case round =>
                clear HF k5 kl
                obtain ⟨j,hj,rfl,hF⟩:=hrel
                have k5:=hF.c5
                have kl:=aD hF.kb
                by_cases hlj:j<ns.length
                ·as_aux_lemma =>
                  have HX:Hid (dO (eH (bZ ns (fT ns t))) (turns (eH (bZ ns (fT ns t))) ns.length k) (j+1)=(dO (eH (bZ ns (fT ns t))) (turns (eH (bZ ns (fT ns t))) ns.length k) j).set j ((eH (bZ ns (fT ns t))) (aM (dO (eH (bZ ns (fT ns t))) (turns (eH (bZ ns (fT ns t))) ns.length k) j)) j)):=rfl
                  generalize dO (eH (bZ ns (fT ns t))) (turns (eH (bZ ns (fT ns t))) ns.length k) j=x at hF HX
                  have hst:=aBS (ns:=ns) (t:=t) (n:=j) (aM x) hlj
                  obtain ⟨a,d,hrow,hI,gl⟩:=hF.nx.aNM hlj
                  have HM:Hid (∀ m∈iQ ns j,m<ns.length):=fun m hm=>FO hm
                  have hll:=uK ns j
                  generalize iQ ns j=l at hst hrow hI HM hll
                  have hji:(j:Int)<(ns.length:Int):=by omega
                  have hxl:x.length=ns.length:=hF.len 3 aL
                  have HF:=aB hF
                  have HST:=aB hst
                  have HXL:=aB hxl
                  have y0:wr.cell? ⟨Z3,j,none⟩=some (.bool (aM x j)):=HF.out.cb (i:=3) aL hlj
                  have yf:wr.frozen? ⟨Z3,j,none⟩=false:=HF.out.fr (i:=3) aL j
                  have yl:Z3<wr.heap.size:=HF.out.lt (i:=3) aL
                  have HI:=aB hI
                  clear hF hst hxl hI
                  go_wp2_with fail
                  have hIs:=aI (o:=j) (u:=.bool (true)) HI.out (HF.out.blk 3 aL) aL
                  have hFs:=HF.out.put (i:=3) aL j (true)
                  have HIS:=aB hIs
                  have HFS:=aB hFs
                  clear hrow k5 kl gl y0 yf yl hIs hFs HI HF
                  go_loopw [41] (fun i u=>∃ q:Nat,q≤l.length∧i=.int .i64 q∧u.ownsRow 0 3 1 (.slice a l.length d) l.length ((ints l).map (Value.int .i64))∧FS w r b off cap ns t (six Z0 Z1 Z2 Z3 Y4 Y5) (bH (bH (bH (bH (bH (bH (L0 ns.length) 0 (dG ns t)) 1 (sV ns t)) 4 (dA ns t)) 2 (dH ns t)) 5 (dI ns t)) 3 (x.set j ((l.take q).all (iL ns t j (aM x))))) (.slice (some ⟨g13,0,none⟩) ns.length c13) (.slice (some ⟨g14,0,none⟩) ns.length c14) ns.length ns.length u) (fun i _=>l.length-(intOf i).toNat)
                  case atStart =>
                   refine ⟨0,Nat.zero_le _,rfl,HIS.out,?_⟩
                   rw [show ((l.take 0).all (iL ns t j (aM x)))=(true) by simp]
                   exact HFS.out
                  case round =>
                   clear HFS HIS
                   obtain ⟨q,hq,rfl,hI,hF⟩:=hrel
                   by_cases IU:q<l.length
                   ·obtain ⟨m,hm⟩:∃ m,l[q]?=some m:=⟨_,List.getElem?_eq_getElem IU⟩
                    obtain ⟨bb,oo,rfl,bl,hz,cs,hbc⟩:=FT hI hm
                    have jP:=HM.out m (List.mem_of_getElem? hm)
                    obtain ⟨xm,hxm⟩:=bD jP
                    have hqi:(q:Int)<(l.length:Int):=by omega
                    have hrc:aM (nC ns t) m=nP t xm:=cZ hxm
                    have hkp:aM (yS ns t) m=vE t xm:=cZ hxm
                    have hT:((l.take (q+1)).all (iL ns t j (aM x)))=(((l.take q).all (iL ns t j (aM x)))&&iL ns t j (aM x) m):=by first | (rw [iJ _ hm];simp only [Bool.and_assoc];done) | rw [iJ _ hm]
                    simp only [iL,hrc,hkp] at hT
                    have HF:=aB hF
                    have EQ:=aB hxm
                    have HI:=aB hI
                    have xj:wr.cell? ⟨Z3,j,none⟩=some (.bool ((l.take q).all (iL ns t j (aM x)))):=by
                     have:=HF.out.cb (i:=3) aL hlj
                     rw [show aM (bH (bH (bH (bH (bH (bH (L0 ns.length) 0 (dG ns t)) 1 (sV ns t)) 4 (dA ns t)) 2 (dH ns t)) 5 (dI ns t)) 3 (x.set j ((l.take q).all (iL ns t j (aM x)))) 3) j=((l.take q).all (iL ns t j (aM x))) from xG (by rw [HXL.out];exact hlj)] at this
                     exact this
                    have xm0:wr.cell? ⟨Z3,m,none⟩=some (.bool (aM (x.set j ((l.take q).all (iL ns t j (aM x)))) m)):=HF.out.cb (i:=3) aL jP
                    have HUM:Hid (((l.take q).all (iL ns t j (aM x)))=true→aM (x.set j ((l.take q).all (iL ns t j (aM x)))) m=(m==j||aM x m)):=fun e=>by rw [e];exact xH (by rw [HXL.out];exact hlj)
                    generalize hPN:((l.take (q+1)).all (iL ns t j (aM x)))=PN at hT
                    have HPN:=aB hPN
                    clear hPN
                    generalize aM (x.set j ((l.take q).all (iL ns t j (aM x)))) m=UM at xm0 HUM
                    generalize hPG:((l.take q).all (iL ns t j (aM x)))=P at hT xj HUM HF
                    have xt:wr.cell? ⟨Y5,m,none⟩=some (.bool (aM (dI ns t) m)):=HF.out.cb (i:=5) aL jP
                    generalize aM (dI ns t) m=LM at xt hT
                    have HT:=aB hT
                    have hC:=HF.out.ssr HN.out EQ.out
                    clear hF hI hT hrc hkp hxm hm hbc hPG
                    go_upto_region 79 with fail
                    refine ML (fun f hf=>?_)
                    refine a4P hC hqi bl hz hji (HF.out.blk 3 aL) xj xm0 (HF.out.lt (i:=5) aL) xt (hf 2) (hf 3) (hf 10) (hf 12) (hf 39) (hf 40) (hf 41) MM (fun _ _ _ _ _ h=>h) (fun g w' hgg hB=>?_)
                    rw [xJ 384 38 hf hgg]
                    simp only [wr1,EH,EI,EJ]
                    generalize nP t xm=RC at HT ⊢
                    generalize vE t xm=KP at HT ⊢
                    generalize hV:(P&&(LM||!RC&&UM))=V
                    have e2:PN=V:=by
                     rw [HT.out,← hV]
                     cases P
                     ·rfl
                     ·rw [HUM.out rfl]
                    have YF:=aB ((HF.out.below hB).put (i:=3) aL j V)
                    rw [List.set_set] at YF
                    have HIF:=aB (aI (o:=j) (u:=.bool V) (ownsRow_below HI.out hB dD) ((HF.out.below hB).blk 3 aL) aL)
                    clear hC xj xm0 xt hV hz
                    go_wp2
                    go_roundw
                    case rel=>exact ⟨q+1,aF,by go_num,HIF.out,by rw [HPN.out,e2];exact YF.out⟩
                    case measure=>simp [intOf];omega
                   ·have eq:q=l.length:=by omega
                    subst eq
                    have hqi:¬ (l.length:Int)<(l.length:Int):=by omega
                    rw [List.take_length] at hF
                    rw [← HST.out,← HX.out] at hF
                    have HF:=aB hF
                    clear hF hI
                    go_wp2_with fail
                    go_roundw
                    case rel=>exact ⟨j+1,aF,by go_num,HF.out⟩
                    case measure=>simp [intOf];omega
                ·have ej:j=ns.length:=by omega
                 subst ej
                 have HF:=aB hF
                 clear hF hlj hj
                 go_wp2_with fail
                 go_roundw
                 case rel=>exact ⟨k+1,aF,by go_num,HF.out⟩
                 case measure=>simp [intOf];omega
              ·have ek:k=ns.length+1:=by omega
               subst ek
               have hki:¬ ((ns.length+1:Nat):Int)≤(ns.length:Int):=by omega
               have hgr:turns (eH (bZ ns (fT ns t))) ns.length (ns.length+1)=fA ns t:=WV (pO ns (fT ns t)) ns.length
               rw [hgr] at hF
               have HF:=aB hF
               clear hF hlt hk
               have hR:=HF.out.rb
               have y0:=aA hR 0
               have y1:=aA hR 1
               have y2:=aA hR 2
               have y3:=aA hR 3
               have y4:=aA hR 4
               have y5:=aA hR 5
               simp at y0 y1 y2 y3 y4 y5
               have z0:=aC hR 0
               have z1:=aC hR 1
               have z2:=aC hR 2
               have z3:=aC hR 3
               have z4:=aC hR 4
               have z5:=aC hR 5
               have ylt:=aD hR
               clear hR
               go_wp2
               have hk:=qF (v0:=.slice (some ⟨Z0,0,none⟩) ns.length ns.length) (v1:=.slice (some ⟨Z1,0,none⟩) ns.length ns.length) (v2:=.slice (some ⟨Y4,0,none⟩) ns.length ns.length) (v3:=.slice (some ⟨Z2,0,none⟩) ns.length ns.length) (v4:=.slice (some ⟨Y5,0,none⟩) ns.length ns.length) (v5:=.slice (some ⟨Z3,0,none⟩) ns.length ns.length) HF.out.rb
               have k0:=aA hk 0
               have k1:=aA hk 1
               have k2:=aA hk 2
               have k3:=aA hk 3
               have k4:=aA hk 4
               have k5:=aA hk 5
               simp at k0 k1 k2 k3 k4 k5
               refine bodyPost_ret (v:=.agg #[.slice (some ⟨Z0,0,none⟩) ns.length ns.length,.slice (some ⟨Z1,0,none⟩) ns.length ns.length,.slice (some ⟨Y4,0,none⟩) ns.length ns.length,.slice (some ⟨Z2,0,none⟩) ns.length ns.length,.slice (some ⟨Y5,0,none⟩) ns.length ns.length,.slice (some ⟨Z3,0,none⟩) ns.length ns.length]) (by simp [results,Tryz.results107,go_sem,k0,k1,k2,k3,k4,k5]) rfl ⟨(six Z0 Z1 Z2 Z3 Y4 Y5),rfl,fun i hi=>?_,lC HF.out.bel aF⟩
               have hne:=FQ (HF.out.blk i hi) HF.out.rb aL
               have hbi:=HF.out.blk i hi
               exact aN _ (aN _ (aN _ (aN _ (aN _ (aN _ hbi hne) hne) hne) hne) hne) hne
end Go.Proofs.YtegloodcbfalfaaGreatDoor
