/-
  Of the proof of MovePlaces: RD, LC, LF, RP, LD, I.
-/
import Derived.Test.YtnbdnbcnlgnicaaGreatP1
import Derived.Deep.RegionHeld3
import Derived.StillTailTactics
import Derived.Deep.AppendLies
import Derived.Deep.OwnRows
import Derived.OrdersIn
import Derived.Laws.MakeOwn
set_option linter.unusedVariables false
set_option linter.unusedSimpArgs false
set_option maxHeartbeats 40000000
namespace Go.Proofs.YtnbdnbcnlgnicaaGreat
open Go.RowKit Go.Maps Go.ChangeMaps
structure Keeps (A:List Nat) (w w' :World):Prop where
 os:w'.os=w.os
 tape:w'.tape=w.tape
 output:w'.output=w.output
 size:w.heap.size≤w'.heap.size
 block:∀ k,k<w.heap.size→k∉A→w'.heap[k]?=w.heap[k]?
theorem Keeps.refl (A:List Nat) (w:World):Keeps A w w:=⟨rfl,rfl,rfl,Nat.le_refl _,fun _ _ _=>rfl⟩
theorem Keeps.trans {A:List Nat} {a b c:World} (h:Keeps A a b) (k:Keeps A b c):Keeps A a c :=
 ⟨k.os.trans h.os,k.tape.trans h.tape,k.output.trans h.output,Nat.le_trans h.size k.size,fun i hi hA=>(k.block i (Nat.lt_of_lt_of_le hi h.size) hA).trans (h.block i hi hA)⟩
theorem Keeps.mono {A A' :List Nat} {a b:World} (h:Keeps A a b) (hA:∀ x∈A,x∈A'):Keeps A' a b :=
 ⟨h.os,h.tape,h.output,h.size,fun i hi hn=>h.block i hi (fun hx=>hn (hA i hx))⟩
theorem Keeps.drew {A:List Nat} {a w:World} (h:Keeps A a w):Keeps A a w.drew:=⟨h.os,h.tape,h.output,h.size,h.block⟩
theorem Keeps.drewN {A:List Nat} {a w:World} (h:Keeps A a w) (n:Nat):Keeps A a (w.drewN n):=⟨h.os,h.tape,h.output,h.size,h.block⟩
theorem Keeps.alloc {A:List Nat} {a w:World} (h:Keeps A a w) (o:Obj):Keeps A a (w.alloc o) :=
 ⟨h.os,h.tape,h.output,by simp;have:=h.size;omega,fun k hk hA=>by rw [Below.heap_alloc _ _ _ (Nat.lt_of_lt_of_le hk h.size)];exact h.block k hk hA⟩
theorem Keeps.setCell {A:List Nat} {a w:World} (h:Keeps A a w) {p:Addr} (hp:p.block∈A) (u:Value):Keeps A a (w.setCell p u) :=
 ⟨h.os,h.tape,h.output,by simp [World.setCell];exact h.size,fun k hk hA=>by rw [Below.heap_setCell w p u k (fun e=>hA (by rw [e];exact hp))];exact h.block k hk hA⟩
theorem Keeps.setBlock {A:List Nat} {a w:World} (h:Keeps A a w) {b:Nat} {es:Array MapEntry} {clock:Nat} (hb:w.heap[b]?=some (.map es clock)) (hp:b∈A) (o:Obj):Keeps A a (ChangeMaps.setBlock w b o) :=
 ⟨h.os,h.tape,h.output,by simp [ChangeMaps.setBlock];exact h.size,fun k hk hA=>by rw [heap_setBlock_other (i:=k) hb o (fun e=>hA (by rw [e];exact hp))];exact h.block k hk hA⟩
theorem Keeps.of_below {A:List Nat} {w w' :World} (h:Below w.heap.size w w'):Keeps A w w' :=⟨h.os,h.tape,h.output,h.size,fun k hk _=>h.block k hk⟩
theorem Keeps.below {A:List Nat} {w w' :World} (h:Keeps A w w') {B:Nat} (hA:∀ x∈A,B≤x) (hB:B≤w.heap.size):Below B w w' :=
 ⟨h.os,h.tape,h.output,h.size,fun k hk=>h.block k (Nat.lt_of_lt_of_le hk hB) (fun hx=>by have:=hA k hx;omega)⟩
theorem Keeps.cell {A:List Nat} {w w' :World} (h:Keeps A w w') {b i:Nat} (hb:b<w.heap.size) (hA:b∉A):w'.cell? ⟨b,i,none⟩=w.cell? ⟨b,i,none⟩:=World.cell?_of_block (w:=w) (h.block b hb hA)
theorem Keeps.owns {A:List Nat} {w w' :World} (h:Keeps A w w') {base:Nat} {e:TypeId} {size:Nat} {v:Value} {n:Nat} {xs:List Value} (ho:w.ownsRow base e size v n xs) (hA:∀ x∈A,x<base):w'.ownsRow base e size v n xs:=by
 obtain ⟨hl,ho⟩:=ho
 refine ⟨hl,?_⟩
 rcases ho with ho | ⟨g,cap,cur,rfl,h1,h2,h3⟩
 ·exact Or.inl ho
 ·refine Or.inr ⟨g,cap,cur,rfl,h1,?_,h3⟩
  rw [h.block g (blk_lt h2) (fun hx=>by have:=hA g hx;omega)];exact h2
theorem own_at {w w' :World} {b n:Nat} {D:DataW Unit} (h:w.ownsMap Tryz.prog 26 (plainElem Tryz.prog 3) b n D) (he:w'.heap[b]?=w.heap[b]?):w'.ownsMap Tryz.prog 26 (plainElem Tryz.prog 3) b n D:=by
 obtain ⟨es,clock,hb,F,hs,hD⟩:=h
 exact ⟨es,clock,by rw [he];exact hb,F,hs,hD⟩
theorem small_wf {n:Int} (h0:0≤n) (h1:n≤1000000):(Lit.int .i64 n).wf=true:=by
 simp [Lit.wf,IntKind.min,IntKind.max,IntKind.signed,IntKind.bits];omega
set_option maxRecDepth 100000 in
theorem reckonM_any (mb rb mp:Nat) (v0 v1 v2 v3 v4 v5 v6 v7:Value) (rc:Nat) (ra:Array Value) (regs:List Int) (n:Nat) (D:DataW Unit) (x:Nd) (w:World)
 (hm:w.heap[mb]?=some (.cells #[v0,v1,v2,v3,v4,v5,v6,v7,.slice (some ⟨rb,0,none⟩) regs.length rc,.map (some mp)] 89 (0,0)))
 (hr:w.heap[rb]?=some (.cells (regs.map (Value.int .i64)).toArray 3 (0,0)))
 (ho:w.ownsMap Tryz.prog 26 (plainElem Tryz.prog 3) mp n D) (hn:n≤1000000) (hne:mb≠rb∧mb≠mp∧rb≠mp)
 (hop:3≤x.op∧x.op≤8) (hd:0≤x.d∧x.d<regs.length) (ha:0≤x.a∧x.a<regs.length) (hb:0≤x.b∧x.b<regs.length) (hl:regs.length≤64) :
 Calls Tryz.prog 97 #[.pointer (some ⟨mb,0,none⟩),.agg #[.int .i64 x.op,.int .i64 x.d,.int .i64 x.a,.int .i64 x.b,.int .i64 x.t,.int .i64 x.e]] w fun e w' =>e=.returned (.tuple #[]) ∧
  w'.heap[rb]?=some (.cells ((setR regs x.d (rk x.op (getR regs x.a) (getR regs x.b))).map (Value.int .i64)).toArray 3 (0,0)) ∧
  (∃ c:Int,D.atKey (tkl (tmOf x)) (.lit (.int .i64 0))=.lit (.int .i64 c)∧w'.ownsMap Tryz.prog 26 (plainElem Tryz.prog 3) mp (n+1) (D.put (tkl (tmOf x)) (.lit (.int .i64 (wrap64 (c+1)))))) ∧
  Keeps [rb,mp] w w' :=by
 obtain ⟨hd0,hd1⟩:=hd
 obtain ⟨ha0,ha1⟩:=ha
 obtain ⟨hb0,hb1⟩:=hb
 obtain ⟨dn,hdn⟩:=Int.eq_ofNat_of_zero_le hd0
 obtain ⟨an,han⟩:=Int.eq_ofNat_of_zero_le ha0
 obtain ⟨bn,hbn⟩:=Int.eq_ofNat_of_zero_le hb0
 obtain ⟨op,d,a,b,t,e⟩:=x
 simp only at *
 subst hdn han hbn
 have ho1:=hop.1
 have ho2:=hop.2
 have hml:=blk_lt hm
 have hrl:=blk_lt hr
 have m8:=blk_cell hm 8
 have m9:=blk_cell hm 9
 simp at m8 m9
 have ra' :=blk_cell hr an
 have rb' :=blk_cell hr bn
 have rd' :=blk_cell hr dn
 have rf' :=blk_frozen hr dn
 have hza:((regs.map (Value.int .i64)).toArray)[an]?=some (.int .i64 (getR regs (an:Int))):=by simp [getR];rw [List.getElem?_eq_getElem (by omega)];simp
 have hzb:((regs.map (Value.int .i64)).toArray)[bn]?=some (.int .i64 (getR regs (bn:Int))):=by simp [getR];rw [List.getElem?_eq_getElem (by omega)];simp
 have hzd:((regs.map (Value.int .i64)).toArray)[dn]?=some (.int .i64 (getR regs (dn:Int))):=by simp [getR];rw [List.getElem?_eq_getElem (by omega)];simp
 rw [hza] at ra'
 rw [hzb] at rb'
 rw [hzd] at rd'
 clear hza hzb hzd
 go_enter Tryz.func97,Tryz.ntmps97
 go_wp2_with fail
 refine (term_yes _ _ _ _ _ _ _ ho1 ho2).mono ?_
 rintro e1 w1 ⟨rfl,hb1⟩
 have hs1:=hb1.size
 simp only [World.size_alloc] at hs1 hb1
 go_wp2
 have hne1:=hne.1
 have hne2:=hne.2.1
 have hne3:=hne.2.2
 have K1:Keeps [] w (w1.alloc (.cells #[.int .i64 op,.int .i64 an,.int .i64 bn] 26)):=(((Keeps.refl [] w).alloc _).trans (Keeps.of_below (by simpa using hb1))).alloc _
 have n1:(w1.alloc (.cells #[.int .i64 op,.int .i64 an,.int .i64 bn] 26)).cell? ⟨w.heap.size,1,none⟩=some (.int .i64 dn):=by
  rw [World.cell?_alloc_past _ _ _ (by omega),hb1.cell (p:=⟨w.heap.size,1,none⟩) (by simp)];simp
 have t0:(w1.alloc (.cells #[.int .i64 op,.int .i64 an,.int .i64 bn] 26)).cell? ⟨w1.heap.size,0,none⟩=some (.int .i64 op):=by simp
 have t1:(w1.alloc (.cells #[.int .i64 op,.int .i64 an,.int .i64 bn] 26)).cell? ⟨w1.heap.size,1,none⟩=some (.int .i64 an):=by simp
 have t2:(w1.alloc (.cells #[.int .i64 op,.int .i64 an,.int .i64 bn] 26)).cell? ⟨w1.heap.size,2,none⟩=some (.int .i64 bn):=by simp
 have hw1w:w.heap.size<w1.heap.size:=by omega
 have hs1' :w1.heap.size<(w1.alloc (.cells #[.int .i64 op,.int .i64 an,.int .i64 bn] 26)).heap.size:=by simp
 clear hb1
 generalize w1.alloc (.cells #[.int .i64 op,.int .i64 an,.int .i64 bn] 26)=W1 at K1 n1 t0 t1 t2 hs1' ⊢
 have hmp:mp<w.heap.size:=ho.lt
 have m8' :=(K1.cell (i:=8) hml (by simp)).trans m8
 have m9' :=(K1.cell (i:=9) hml (by simp)).trans m9
 have ra1:=(K1.cell (i:=an) hrl (by simp)).trans ra'
 have rb1:=(K1.cell (i:=bn) hrl (by simp)).trans rb'
 have rd1:=(K1.cell (i:=dn) hrl (by simp)).trans rd'
 have hr1:W1.heap[rb]?=_:=(K1.block rb hrl (by simp)).trans hr
 have rf1:=blk_frozen hr1 dn
 have ho' :=own_at ho (K1.block mp hmp (by simp))
 clear m8 m9 ra' rb' rd' rf'
 refine wp_region_still_tail 26 (by kernel_rfl) (by kernel_rfl) ?_
 simp only [List.take_succ_cons,List.take_zero,List.drop_succ_cons,List.drop_zero]
 repeat still_step
 still_call (value_any _ _ _ _)
 repeat still_step
 refine wpStill_nil ?_
 go_wp2
 have K2:Keeps [rb,mp] w (W1.setCell ⟨rb,dn,none⟩ (.int .i64 (rk op (getR regs an) (getR regs bn)))).drew:=((K1.mono (by simp)).setCell (p:=⟨rb,dn,none⟩) (by simp) _).drew
 have hr2:(W1.setCell ⟨rb,dn,none⟩ (.int .i64 (rk op (getR regs an) (getR regs bn)))).drew.heap[rb]?=some (.cells ((setR regs dn (rk op (getR regs an) (getR regs bn))).map (Value.int .i64)).toArray 3 (0,0)):=by
  have h2:=blk_set (i:=dn) (.int .i64 (rk op (getR regs an) (getR regs bn))) hr1
  rw [show (setR regs (dn:Int) (rk op (getR regs an) (getR regs bn)))=regs.set dn (rk op (getR regs an) (getR regs bn)) from rfl]
  rw [List.map_set]
  have h3:(W1.setCell ⟨rb,dn,none⟩ (.int .i64 (rk op (getR regs an) (getR regs bn)))).heap[rb]?=_:=h2
  show (W1.setCell ⟨rb,dn,none⟩ (.int .i64 (rk op (getR regs an) (getR regs bn)))).heap[rb]?=_
  rw [h3];simp
 have ho2' :=own_at (w' :=(W1.setCell ⟨rb,dn,none⟩ (.int .i64 (rk op (getR regs an) (getR regs bn)))).drew) ho' (Below.heap_setCell _ _ _ _ (by exact fun e=>hne3 e.symm))
 have m92:(W1.setCell ⟨rb,dn,none⟩ (.int .i64 (rk op (getR regs an) (getR regs bn)))).drew.cell? ⟨mb,9,none⟩=some (.map (some mp)):=(World.cell?_of_block (w:=W1) (Below.heap_setCell _ _ _ _ (by exact hne1))).trans m9'
 have htb:w1.heap.size≠rb:=by omega
 have t02:(W1.setCell ⟨rb,dn,none⟩ (.int .i64 (rk op (getR regs an) (getR regs bn)))).drew.cell? ⟨w1.heap.size,0,none⟩=some (.int .i64 op):=(World.cell?_of_block (w:=W1) (Below.heap_setCell _ _ _ _ (by exact htb))).trans t0
 have t12:(W1.setCell ⟨rb,dn,none⟩ (.int .i64 (rk op (getR regs an) (getR regs bn)))).drew.cell? ⟨w1.heap.size,1,none⟩=some (.int .i64 an):=(World.cell?_of_block (w:=W1) (Below.heap_setCell _ _ _ _ (by exact htb))).trans t1
 have t22:(W1.setCell ⟨rb,dn,none⟩ (.int .i64 (rk op (getR regs an) (getR regs bn)))).drew.cell? ⟨w1.heap.size,2,none⟩=some (.int .i64 bn):=(World.cell?_of_block (w:=W1) (Below.heap_setCell _ _ _ _ (by exact htb))).trans t2
 have htm:w1.heap.size≠mp:=by omega
 clear m8' m9' ra1 rb1 rd1 hr1 rf1 ho' n1 t0 t1 t2 hs1' K1
 generalize (W1.setCell ⟨rb,dn,none⟩ (.int .i64 (rk op (getR regs an) (getR regs bn)))).drew=W2 at K2 hr2 ho2' m92 t02 t12 t22 ⊢
 have hkey:=tkey (tmOf ⟨op,dn,an,bn,t,e⟩) (small_wf (by simp [tmOf];omega) (by simp [tmOf];omega)) (small_wf (by simp [tmOf]) (by simp [tmOf];omega)) (small_wf (by simp [tmOf]) (by simp [tmOf];omega))
 have hod:W2.drew.ownsMap Tryz.prog 26 (plainElem (H:=Unit) Tryz.prog 3) mp n D:=ho2'
 obtain ⟨c,v0', st,es1,clock1,hat,hlook,hent,hlook2,hstore⟩:=own_entry hod tlaw Tryz.underlying87 Tryz.underlying3 zero_int (by unfold maxLen;omega) hkey
 obtain ⟨es2,clock2,hst,hown⟩:=hstore (wrap64 (c+1)) (wrap64_wf _)
 have hst' :Sem.run Tryz.prog (Instr.entryStore 87 (.map (some mp)) (.int .i64 (st:Int)) (.int .i64 (IntKind.i64.wrap (c+1)))) (setBlock W2.drew mp (.map es1 clock1))=.ok () (setBlock (setBlock W2.drew mp (.map es1 clock1)) mp (.map es2 clock2)):=by rw [IntWalk.i64_left];exact hst
 clear hst
 obtain ⟨es0,clock0,hbm,_⟩:=hod
 have hbm' :(setBlock W2.drew mp (.map es1 clock1)).heap[mp]?=some (.map es1 clock1):=heap_setBlock_same hbm _
 have K3:Keeps [rb,mp] w (setBlock (setBlock W2.drew mp (.map es1 clock1)) mp (.map es2 clock2)):=(K2.drew.setBlock hbm (by simp) _).setBlock hbm' (by simp) _
 have hr3:(setBlock (setBlock W2.drew mp (.map es1 clock1)) mp (.map es2 clock2)).heap[rb]?=_:=((heap_setBlock_other hbm' _ hne3).trans (heap_setBlock_other hbm _ hne3)).trans hr2
 have HD:=hide (And.intro hr3 (And.intro hat (And.intro hown K3)))
 have S1:=hide (And.intro m92 (And.intro t02 (And.intro t12 t22)))
 have S2:Hid ((setBlock W2.drew mp (.map es1 clock1)).cell? ⟨mb,9,none⟩=some (.map (some mp))∧(setBlock W2.drew mp (.map es1 clock1)).cell? ⟨w1.heap.size,0,none⟩=some (.int .i64 op)∧(setBlock W2.drew mp (.map es1 clock1)).cell? ⟨w1.heap.size,1,none⟩=some (.int .i64 an)∧(setBlock W2.drew mp (.map es1 clock1)).cell? ⟨w1.heap.size,2,none⟩=some (.int .i64 bn)) :=
  ⟨(World.cell?_of_block (w:=W2.drew) (heap_setBlock_other hbm _ hne2)).trans m92,(World.cell?_of_block (w:=W2.drew) (heap_setBlock_other hbm _ htm)).trans t02,(World.cell?_of_block (w:=W2.drew) (heap_setBlock_other hbm _ htm)).trans t12,(World.cell?_of_block (w:=W2.drew) (heap_setBlock_other hbm _ htm)).trans t22⟩
 have S3:Hid ((setBlock (setBlock W2.drew mp (.map es1 clock1)) mp (.map es2 clock2)).cell? ⟨mb,9,none⟩=some (.map (some mp))∧(setBlock (setBlock W2.drew mp (.map es1 clock1)) mp (.map es2 clock2)).cell? ⟨w1.heap.size,0,none⟩=some (.int .i64 op)∧(setBlock (setBlock W2.drew mp (.map es1 clock1)) mp (.map es2 clock2)).cell? ⟨w1.heap.size,1,none⟩=some (.int .i64 an)∧(setBlock (setBlock W2.drew mp (.map es1 clock1)) mp (.map es2 clock2)).cell? ⟨w1.heap.size,2,none⟩=some (.int .i64 bn)) :=
  ⟨(World.cell?_of_block (w:=setBlock W2.drew mp (.map es1 clock1)) (heap_setBlock_other hbm' _ hne2)).trans S2.out.1,(World.cell?_of_block (w:=setBlock W2.drew mp (.map es1 clock1)) (heap_setBlock_other hbm' _ htm)).trans S2.out.2.1,(World.cell?_of_block (w:=setBlock W2.drew mp (.map es1 clock1)) (heap_setBlock_other hbm' _ htm)).trans S2.out.2.2.1,(World.cell?_of_block (w:=setBlock W2.drew mp (.map es1 clock1)) (heap_setBlock_other hbm' _ htm)).trans S2.out.2.2.2⟩
 simp only [tmOf] at hlook hent hlook2
 clear hstore hbm hbm' hr3 hat hown K3 K2 hr2 ho2' hkey
 go_region_held3 (fun u=>u.cell? ⟨mb,9,none⟩=some (.map (some mp))∧u.cell? ⟨w1.heap.size,0,none⟩=some (.int .i64 op)∧u.cell? ⟨w1.heap.size,1,none⟩=some (.int .i64 an)∧u.cell? ⟨w1.heap.size,2,none⟩=some (.int .i64 bn)) (first | exact S1.out | exact S2.out | exact S3.out) (fail)
 all_goals go_wp2
 all_goals go_end0
 all_goals exact ⟨rfl,HD.out.1,⟨c,HD.out.2.1,HD.out.2.2.1⟩,HD.out.2.2.2⟩
end Go.Proofs.YtnbdnbcnlgnicaaGreat
namespace Go.Proofs.YtnbdnbcnlgnicaaGreat
open Go.RowKit Go.Shelf
structure RowsAt (w:World) (base rb L:Nat) (vs:List Value) (f:Nat→List Int):Prop where
 blk:w.heap[rb]?=some (.cells vs.toArray 54 (0,0))
 len:vs.length=L
 own:∀ (m:Nat) (v:Value),vs[m]?=some v→w.ownsRow base 3 1 v (f m).length ((f m).map (Value.int .i64))
 apart:∀ (m1 m2:Nat) (v1 v2:Value) (g:Nat),vs[m1]?=some v1→vs[m2]?=some v2→v1.ownBlock=some g→v2.ownBlock=some g→m1=m2
theorem owns_ne_ty {w:World} {base b:Nat} {e t:TypeId} {size:Nat} {v:Value} {n:Nat} {xs:List Value} {vs:Array Value} (h:w.ownsRow base e size v n xs) (hb:w.heap[b]?=some (.cells vs t (0,0))) (hte:t≠e):some b≠v.ownBlock:=by
 rcases h.2 with ⟨rfl,_⟩ | ⟨g,cap,cur,rfl,_,hgb,_⟩
 ·simp [Value.ownBlock]
 ·intro e'
  obtain rfl:b=g:=by simpa [Value.ownBlock] using e'
  rw [hb] at hgb
  cases hgb
  exact hte rfl
theorem RowsAt.kept {w w' :World} {base rb L:Nat} {vs:List Value} {f:Nat→List Int} (h:RowsAt w base rb L vs f) {row:Option Nat} (hg:w.grownBy w' row) (hr:∀ r,row=some r→∃ o:Obj,w.heap[r]?=some o∧o.isCells=false):RowsAt w' base rb L vs f:=by
 refine ⟨?_,h.len,fun m v hv=>?_,h.apart⟩
 ·rw [hg.block rb (Array.getElem?_eq_some_iff.1 h.blk).1 (fun e=>by
   obtain ⟨o,h1,h2⟩:=hr rb e.symm
   rw [h.blk] at h1;cases h1;cases h2)]
  exact h.blk
 ·refine (h.own m v hv).kept hg ?_
  rcases (h.own m v hv).2 with ⟨rfl,_⟩ | ⟨g,cap,cur,rfl,_,hgb,_⟩
  ·exact .inl rfl
  ·refine .inr fun e=>?_
   obtain ⟨o,h1,h2⟩:=hr g (by simpa [Value.ownBlock] using e.symm)
   rw [hgb] at h1;cases h1;cases h2
theorem RowsAt.below {w w' :World} {base rb L:Nat} {vs:List Value} {f:Nat→List Int} (h:RowsAt w base rb L vs f) (hb:Below w.heap.size w w'):RowsAt w' base rb L vs f :=
 h.kept (grown_of_below hb none) (fun r e=>by cases e)
theorem RowsAt.grow {w w1:World} {base rb L:Nat} {vs:List Value} {f f' :Nat→List Int} (h:RowsAt w base rb L vs f) {m:Nat} {v:Value} (hv:vs[m]?=some v) {g cap:Nat}
 (hg:w.grownBy w1 v.ownBlock) (hat:v.ownBlock=some g∨w.heap.size≤g) (hown:w1.ownsRow base 3 1 (.slice (some ⟨g,0,none⟩) (f' m).length cap) (f' m).length ((f' m).map (Value.int .i64)))
 (hf:∀ j,j≠m→f' j=f j):RowsAt (w1.setCell ⟨rb,m,none⟩ (.slice (some ⟨g,0,none⟩) (f' m).length cap)) base rb L (vs.set m (.slice (some ⟨g,0,none⟩) (f' m).length cap)) f' :=by
 have hml:m<vs.length:=(List.getElem?_eq_some_iff.1 hv).1
 have hr1:w1.heap[rb]?=some (.cells vs.toArray 54 (0,0)):=(hg.block rb (Array.getElem?_eq_some_iff.1 h.blk).1 (owns_ne_ty (h.own m v hv) h.blk (by decide))).trans h.blk
 have hlt:∀ (j:Nat) (u:Value) (k:Nat),vs[j]?=some u→u.ownBlock=some k→k<w.heap.size:=fun j u k hj hk=>((h.own j u hj).lt k hk).2
 have hset:∀ {e:TypeId} {v' :Value} {n:Nat} {xs:List Value},w1.ownsRow base 3 1 v' n xs→(w1.setCell ⟨rb,m,none⟩ (.slice (some ⟨g,0,none⟩) (f' m).length cap)).ownsRow base 3 1 v' n xs:=by
  intro e v' n xs h2
  have hne:=owns_ne_ty h2 hr1 (by decide)
  obtain ⟨hl,h3⟩:=h2
  refine ⟨hl,?_⟩
  rcases h3 with h3 | ⟨g', cap', cur', rfl,a1,a2,a3⟩
  ·exact Or.inl h3
  ·refine Or.inr ⟨g', cap', cur', rfl,a1,?_,a3⟩
   rw [Below.heap_setCell _ _ _ g' (fun e=>hne (by simp only [Value.ownBlock];exact congrArg some e.symm))]
   exact a2
 refine ⟨?_,by simpa using h.len,fun j u hj=>?_,fun j1 j2 u1 u2 k h1 h2 e1 e2=>?_⟩
 ·rw [blk_set _ hr1];simp
 ·rw [List.getElem?_set] at hj
  by_cases e:m=j
  ·subst e
   rw [if_pos rfl,if_pos hml] at hj
   cases hj
   exact hset (e:=0) hown
  ·rw [if_neg e] at hj
   rw [hf j (fun q=>e q.symm)]
   refine hset (e:=0) ((h.own j u hj).kept hg ?_)
   rcases (h.own j u hj).2 with ⟨rfl,_⟩ | ⟨g', cap', cur', rfl,_⟩
   ·exact .inl rfl
   ·refine .inr fun q=>?_
    exact e (h.apart m j v _ g' hv hj (by rw [← q];rfl) rfl)
 ·rw [List.getElem?_set] at h1 h2
  by_cases q1:m=j1
  ·by_cases q2:m=j2
   ·rw [← q1,← q2]
   ·rw [if_pos q1,if_pos hml] at h1
    rw [if_neg q2] at h2
    cases h1
    simp only [Value.ownBlock,Option.some.injEq] at e1
    subst e1
    exfalso
    rcases hat with hat | hat
    ·exact q2 (h.apart m j2 v u2 g hv h2 hat e2)
    ·have:=hlt j2 u2 g h2 e2;omega
  ·rw [if_neg q1] at h1
   by_cases q2:m=j2
   ·rw [if_pos q2,if_pos hml] at h2
    cases h2
    simp only [Value.ownBlock,Option.some.injEq] at e2
    subst e2
    exfalso
    rcases hat with hat | hat
    ·exact q1 (h.apart m j1 v u1 g hv h1 hat e1)
    ·have:=hlt j1 u1 g h1 e1;omega
   ·rw [if_neg q2] at h2
    exact h.apart j1 j2 u1 u2 k h1 h2 e1 e2
def rowsAt (ns:List Nd) (k:Nat) (pre:List Int) (m:Nat):List Int:=pick (ahB ns m) k++List.replicate (pre.count (m:Int)) (k:Int)
theorem rowsAt_nil (ns:List Nd) (k:Nat):rowsAt ns k []=fun m=>pick (ahB ns m) k:=by funext m;simp [rowsAt]
theorem count_exo (x:Nd) (hk:kn x.op=true) (m:Nat):(exo x).count (m:Int)=if ldB x m then 1 else 0:=by
 have hop:=wi_iff.1 hk
 unfold exo ldB
 by_cases h11:x.op=11
 ·rw [if_pos h11]
  by_cases he:x.e=x.t
  ·rw [if_pos he]
   by_cases ht:x.t=m
   ·simp [h11,ht]
   ·simp [h11,he,ht]
  ·rw [if_neg he]
   by_cases ht:x.t=m
   ·have:¬ x.e=m:=fun q=>he (by rw [q,ht])
    simp [h11,ht,this]
   ·by_cases q:x.e=m
    ·simp [h11,ht,q]
    ·simp [h11,ht,q]
 ·rw [if_neg h11]
  by_cases h12:x.op=12
  ·have e:wi x.op 0 11=false:=wi_false (by omega)
   simp [h12]
   rw [h12] at e;simp [e]
  ·rw [wi_true (by omega) (by omega),if_pos rfl]
   by_cases ht:x.t=m
   ·simp [h11,h12,ht]
   ·simp [h11,h12,ht]
theorem rowsAt_done (ns:List Nd) (k:Nat) {x:Nd} (hx:ns[k]?=some x) (hk:kn x.op=true):rowsAt ns k (exo x)=fun m=>pick (ahB ns m) (k+1):=by
 funext m
 rw [rowsAt,count_exo x hk]
 have:=ahB_at (n:=m) hx
 cases h:ldB x m
 ·rw [pick_no (by rw [this];exact h)];simp
 ·rw [pick_yes (by rw [this];exact h)];simp
theorem rowsAt_len (ns:List Nd) (k:Nat) (pre:List Int) (m:Nat):(rowsAt ns k pre m).length≤k+pre.length:=by
 have h1:=pick_len (ahB ns m) k
 have h2:pre.count (m:Int)≤pre.length:=List.count_le_length
 simp [rowsAt];omega
def markD (D:Nat):Deferred:={ target:=.collected D,args:=#[] }
structure Marks (ds:List Nat) (W:World):Prop where
 nodup:ds.Nodup
 here:∀ D∈ds,W.heap[D]?=some (.deferred (some []))
theorem Marks.nil (W:World):Marks [] W:=⟨List.nodup_nil,fun D h=>by cases h⟩
theorem Marks.lt {ds:List Nat} {W:World} (h:Marks ds W) {D:Nat} (hD:D∈ds):D<W.heap.size:=(Array.getElem?_eq_some_iff.1 (h.here D hD)).1
theorem Marks.cons {ds:List Nat} {W:World} (h:Marks ds W) {D:Nat} (hD:W.heap[D]?=some (.deferred (some []))) (hn:∀ E∈ds,E<D):Marks (D::ds) W :=
 ⟨List.nodup_cons.2 ⟨fun hm=>Nat.lt_irrefl _ (hn D hm),h.nodup⟩,fun E hE=>by
  rcases List.mem_cons.1 hE with rfl | hE
  ·exact hD
  ·exact h.here E hE⟩
theorem Marks.keep {ds:List Nat} {W W' :World} (h:Marks ds W) (hk:∀ k o,W.heap[k]?=some o→o.isCells=false→k∈ds→W'.heap[k]?=some o):Marks ds W' :=
 ⟨h.nodup,fun D hD=>hk D _ (h.here D hD) rfl hD⟩
theorem Marks.grown {ds:List Nat} {W W' :World} {row:Option Nat} (h:Marks ds W) (hg:W.grownBy W' row) (hr:∀ r,row=some r→r∉ds):Marks ds W' :=
 h.keep fun k o hk _ hm=>(hg.block k (Array.getElem?_eq_some_iff.1 hk).1 fun e=>hr k e.symm hm).trans hk
theorem Marks.below {ds:List Nat} {W W' :World} (h:Marks ds W) (hb:Below W.heap.size W W'):Marks ds W' :=h.grown (grown_of_below hb none) (fun r e=>by cases e)
theorem Marks.others {ds:List Nat} {W W' :World} (h:Marks ds W) (hk:KeepsOthers W W'):Marks ds W' :=h.keep fun k o h1 h2 _=>hk.same k o h1 h2
structure Shut (B:Nat) (W W' :World):Prop where
 below:Below B W W'
 cells:∀ (k:Nat) (o:Obj),W.heap[k]?=some o→o.isCells=true→W'.heap[k]?=some o
theorem Shut.refl (B:Nat) (W:World):Shut B W W:=⟨Below.refl _ _,fun _ _ h _=>h⟩
theorem leaves_marks {F:Fence} {n:Nat} {P:Program} {fn:Func} {tmps:Array Value} {R:Ending→World→Prop} {B:Nat}:∀ (ds:List Nat) (W:World),Marks ds W→(∀ D∈ds,B≤D) →
 (∀ W', Shut B W W' →LeavesInM F n P fn tmps R [] .returning W')→LeavesInM F n P fn tmps R (ds.map markD) .returning W
 | [],W,_,_,h=>h W (Shut.refl _ _)
 | D::ds,W,hm,hB,h=>by
  have hD:=hm.here D (by simp)
  have hlt:=hm.lt (D:=D) (by simp)
  have hg:=grownBy_putObj' W D (.deferred none)
  have hnd:=List.nodup_cons.1 hm.nodup
  refine ⟨by simp,.inl ⟨D,_,rfl,run_takeDeferred hD,?_⟩⟩
  refine leaves_marks ds _ ⟨hnd.2,fun E hE=>?_⟩ (fun E hE=>hB E (by simp [hE])) fun W' hs=>h W' ⟨?_,fun k o hk ho=>?_⟩
  ·have hne:E≠D:=fun e=>hnd.1 (e ▸ hE)
   exact (World.putObj_heap_other hne).trans (hm.here E (by simp [hE]))
  ·exact ((Below.refl B W).grown hg (by have:=hB D (by simp);omega) (fun k e=>by cases e;exact hB D (by simp))).trans hs.below
  ·refine hs.cells k o ((World.putObj_heap_other fun e=>?_).trans hk) ho
   subst e
   rw [hD] at hk
   cases hk
   cases ho
theorem Shut.owns {B:Nat} {W W' :World} (h:Shut B W W') {base:Nat} {e:TypeId} {size:Nat} {v:Value} {n:Nat} {xs:List Value} (ho:W.ownsRow base e size v n xs):W'.ownsRow base e size v n xs:=by
 obtain ⟨hl,h3⟩:=ho
 refine ⟨hl,?_⟩
 rcases h3 with h3 | ⟨g', cap', cur', rfl,a1,a2,a3⟩
 ·exact Or.inl h3
 ·exact Or.inr ⟨g', cap', cur', rfl,a1,h.cells _ _ a2 rfl,a3⟩
theorem Shut.rows {B:Nat} {W W' :World} (h:Shut B W W') {base rb L:Nat} {vs:List Value} {f:Nat→List Int} (hr:RowsAt W base rb L vs f):RowsAt W' base rb L vs f :=
 ⟨h.cells _ _ hr.blk rfl,hr.len,fun m v hv=>h.owns (hr.own m v hv),hr.apart⟩
theorem count_less {p q:Nat→Bool} {i:Nat} (hp:p i=true) (hq:q i=false) (he:∀ j,j≠i→q j=p j):∀ k,i<k→((List.range k).filter q).length+1=((List.range k).filter p).length
 | 0,h=>by omega
 | k+1,h=>by
  simp only [List.range_succ,List.filter_append,List.length_append]
  by_cases e:i=k
  ·subst e
   have hs:(List.range i).filter q=(List.range i).filter p:=List.filter_congr fun j hj=>he j (by have:=List.mem_range.1 hj;omega)
   rw [hs]
   simp [hp,hq]
  ·have ih:=count_less hp hq he k (by omega)
   have hk:(List.filter q [k]).length=(List.filter p [k]).length:=by
    rw [List.filter_congr (p:=q) (q:=p) fun j hj=>he j (by simp at hj;omega)]
   omega
def undone (k:Nat) (listed:Array Bool):Nat:=((List.range k).filter fun i=>!listed.getD i false).length
theorem undone_set {k:Nat} {listed:Array Bool} {i:Nat} (hk:listed.size=k) (hi:i<k) (h:listed.getD i true=false):undone k (listed.setIfInBounds i true)+1=undone k listed:=by
 refine count_less (i:=i) ?_ ?_ (fun j hj=>?_) k hi
 ·have:listed.getD i false=false:=by
   simp only [Array.getD] at h ⊢
   split at h
   ·rename_i hlt;rw [dif_pos hlt];exact h
   ·cases h
  simp [this]
 ·simp [hk,hi]
 ·rw [getD_set_ne false (fun e=>hj e.symm)]
def Closed (ops:Array Oper) (listed:Array Bool):Prop:=∀ (i:Nat) (o:Oper),ops[i]?=some o→listed.getD i false=true→∀ e∈o.after,Region.binds .any e=true→listed.getD e.on false=true
theorem region_inv {F:Fence} {n:Nat} {P:Program} {id:Nat} {ops:Array Oper} {Q:Exit→Act→World→Prop} {a:Act} {w:World} (hm:P.follows .mixedOrders=true) (Inv:Array Bool→Act→World→Prop)
 (hg:∀ (i:Nat) (o:Oper),ops[i]?=some o→o.guard=none∧∀ e∈o.after,Region.binds .any e=true→e.on<i)
 (hsz:∀ listed a w,Inv listed a w→listed.size=ops.size)
 (h0:Inv (Array.replicate ops.size false) a w.drew)
 (hs:∀ listed a w (i:Nat) (o:Oper),Inv listed a w→Closed ops listed→ops[i]?=some o→listed.getD i true=false→(∀ e∈o.after,Region.binds .any e=true→listed.getD e.on false=true)→Oper.wpIn F n P o a w (Inv (listed.setIfInBounds i true)) Q)
 (h1:∀ listed a w,Inv listed a w→(∀ i,i<ops.size→listed.getD i false=true)→Q .normal a w):(Code.region id ops true).wpIn F n P Q a w:=by
 refine wpIn_region_any hm ?_
 have all:∀ listed a w,Inv listed a w→Region.ready .any ops listed=[]→∀ i,i<ops.size→listed.getD i false=true:=by
  intro listed a w hI hr i
  induction i using Nat.strongRecOn with
  | _ i ih =>
   intro hi
   cases hb:listed.getD i false
   ·exfalso
    have hsi:=hsz _ _ _ hI
    have hb' :listed.getD i true=false:=by
     simp only [Array.getD] at hb ⊢
     rw [dif_pos (by omega)] at hb ⊢;exact hb
    have:i∈Region.ready .any ops listed:=by
     rw [mem_ready]
     refine ⟨hb', ops[i],Array.getElem?_eq_getElem hi,fun e he hbe=>?_⟩
     have:=(hg i _ (Array.getElem?_eq_getElem hi)).2 e he hbe
     exact ih e.on this (by omega)
    rw [hr] at this;cases this
   ·rfl
 have main:∀ (fuel:Nat) (listed:Array Bool) (a:Act) (w:World),Inv listed a w→Closed ops listed→undone ops.size listed≤fuel→wpAnyIn F n P .any ops Q fuel listed a w:=by
  intro fuel
  induction fuel with
  | zero =>
   intro listed a w hI hC hu
   have hr:Region.ready .any ops listed=[]:=by
    apply List.eq_nil_iff_forall_not_mem.2
    intro i hi
    obtain ⟨h2,o,h3,_⟩:=mem_ready.1 hi
    have:=undone_set (hsz _ _ _ hI) (Array.getElem?_eq_some_iff.1 h3).1 h2
    omega
   exact ⟨hr,h1 _ _ _ hI (all _ _ _ hI hr)⟩
  | succ fuel ih =>
   intro listed a w hI hC hu
   refine ⟨fun hr=>h1 _ _ _ hI (all _ _ _ hI hr),fun i hi=>?_⟩
   obtain ⟨h2,o,h3,h4⟩:=mem_ready.1 hi
   have hsi:=hsz _ _ _ hI
   have hu2:=undone_set hsi (Array.getElem?_eq_some_iff.1 h3).1 h2
   have hC' :Closed ops (listed.setIfInBounds i true):=by
    intro j p hj hl e he hb
    by_cases q:j=i
    ·subst q
     rw [h3] at hj;cases hj
     exact getD_set_true (h4 e he hb)
    ·rw [getD_set_ne false (fun e=>q e.symm)] at hl
     exact getD_set_true (hC j p hj hl e he hb)
   unfold wpOpIn
   rw [h3]
   simp only
   rw [if_pos (by simp [Region.wanted,(hg i o h3).1])]
   exact Oper.wpIn_mono (fun a' w' hI' =>ih _ a' w' hI' hC' (by omega)) (hs listed a w i o hI hC h3 h2 h4)
 refine main _ _ _ _ h0 (fun i o _ hl=>?_) (by
  unfold undone
  exact Nat.le_trans (List.length_filter_le _ _) (by simp))
 have:(Array.replicate ops.size false).getD i false=false:=by simp [Array.getD]
 rw [this] at hl;cases hl
end Go.Proofs.YtnbdnbcnlgnicaaGreat
namespace Go.Proofs.YtnbdnbcnlgnicaaGreat
theorem abv_irrefl (t:Tm):abv t t=false:=by simp [abv]
theorem abv_trans {a b c:Tm} (h1:abv a b=true) (h2:abv b c=true):abv a c=true:=by
 obtain ⟨a1,a2,a3⟩:=a
 obtain ⟨b1,b2,b3⟩:=b
 obtain ⟨c1,c2,c3⟩:=c
 simp only [abv] at *
 repeat' split at h1
 all_goals repeat' split at h2
 all_goals repeat' split
 all_goals simp only [decide_eq_true_eq] at *
 all_goals omega
theorem abv_total {a b:Tm} (h:abv a b=false) (hne:a≠b):abv b a=true:=by
 obtain ⟨a1,a2,a3⟩:=a
 obtain ⟨b1,b2,b3⟩:=b
 simp only [abv] at *
 have hne' :¬ (a1=b1∧a2=b2∧a3=b3):=fun ⟨e1,e2,e3⟩=>hne (by rw [e1,e2,e3])
 repeat' split at h
 all_goals repeat' split
 all_goals simp only [decide_eq_true_eq,decide_eq_false_iff_not] at *
 all_goals omega
def Srt (l:List Ct):Prop:=l.Pairwise (fun a b=>abv b.t a.t=true)
def ctOf (l:List Ct) (t:Tm):Option Int:=(l.find? (fun c=>decide (c.t=t))).map (·.n)
theorem ctOf_cons (c:Ct) (l:List Ct) (t:Tm):ctOf (c::l) t=if c.t=t then some c.n else ctOf l t:=by
 unfold ctOf
 rw [List.find?_cons]
 by_cases h:c.t=t <;> simp [h]
theorem ctOf_none {l:List Ct} {t:Tm} (h:∀ c∈l,abv c.t t=true):ctOf l t=none:=by
 induction l with
 | nil=>rfl
 | cons c l ih =>
  rw [ctOf_cons,if_neg,ih (fun c hc=>h c (List.mem_cons_of_mem _ hc))]
  intro e
  have:=h c (List.mem_cons_self ..)
  rw [e,abv_irrefl] at this
  cases this
theorem omore_mem {l:List Ct} {t:Tm} {c:Ct} (h:c∈omore l t):c∈l∨c.t=t:=by
 induction l with
 | nil=>simp [omore] at h;right;rw [h]
 | cons d l ih =>
  unfold omore at h
  split at h
  ·rcases List.mem_cons.1 h with h | h
   ·left;rw [h];exact List.mem_cons_self ..
   ·rcases ih h with h | h
    ·left;exact List.mem_cons_of_mem _ h
    ·right;exact h
  ·split at h
   ·rcases List.mem_cons.1 h with h | h
    ·right;rw [h]
    ·left;exact List.mem_cons_of_mem _ h
   ·rcases List.mem_cons.1 h with h | h
    ·right;rw [h]
    ·left;exact h
theorem omore_srt {l:List Ct} (h:Srt l) (t:Tm):Srt (omore l t):=by
 induction l with
 | nil=>exact List.pairwise_singleton _ _
 | cons c l ih =>
  unfold Srt at h
  rw [List.pairwise_cons] at h
  unfold omore
  split
  ·rename_i h1
   refine List.pairwise_cons.2 ⟨fun d hd=>?_,ih h.2⟩
   rcases omore_mem hd with hd | hd
   ·exact h.1 d hd
   ·rw [hd];exact h1
  ·rename_i h1
   split
   ·rename_i h2
    refine List.pairwise_cons.2 ⟨fun d hd=>?_,h.2⟩
    have:=h.1 d hd
    rw [h2] at this;exact this
   ·rename_i h2
    have h1' :abv t c.t=false:=by simpa using h1
    have h3:abv c.t t=true:=abv_total h1' (fun e=>h2 e.symm)
    refine List.pairwise_cons.2 ⟨fun d hd=>?_,List.pairwise_cons.2 h⟩
    rcases List.mem_cons.1 hd with hd | hd
    ·rw [hd];exact h3
    ·exact abv_trans (h.1 d hd) h3
theorem omore_ct {l:List Ct} (h:Srt l) (t u:Tm):ctOf (omore l t) u=if u=t then some ((ctOf l t).getD 0+1) else ctOf l u:=by
 induction l with
 | nil =>
  unfold omore
  rw [ctOf_cons]
  by_cases e:u=t
  ·subst e;simp [ctOf]
  ·rw [if_neg (fun e' =>e e'.symm),if_neg e]
 | cons c l ih =>
  unfold Srt at h
  rw [List.pairwise_cons] at h
  unfold omore
  split
  ·rename_i h1
   have hct:c.t≠t:=fun e=>by rw [e,abv_irrefl] at h1;cases h1
   rw [ctOf_cons,ctOf_cons,ctOf_cons,ih h.2,if_neg hct]
   by_cases e:u=t
   ·subst e;rw [if_neg hct,if_pos rfl,if_pos rfl]
   ·rw [if_neg e,if_neg e]
  ·rename_i h1
   split
   ·rename_i h2
    rw [ctOf_cons,ctOf_cons,ctOf_cons,if_pos h2]
    by_cases e:u=t
    ·subst e;simp
    ·rw [if_neg (fun e' =>e e'.symm),if_neg e,h2,if_neg (fun e' =>e e'.symm)]
   ·rename_i h2
    have h1' :abv t c.t=false:=by simpa using h1
    have h3:abv c.t t=true:=abv_total h1' (fun e=>h2 e.symm)
    have hn:ctOf (c::l) t=none:=ctOf_none (fun d hd=>by
     rcases List.mem_cons.1 hd with hd | hd
     ·rw [hd];exact h3
     ·exact abv_trans (h.1 d hd) h3)
    rw [ctOf_cons]
    by_cases e:u=t
    ·subst e;rw [if_pos rfl,if_pos rfl,hn];rfl
    ·rw [if_neg (fun e' =>e e'.symm),if_neg e]
theorem ctOf_mem {l:List Ct} {t:Tm} {n:Int} (h:ctOf l t=some n):⟨t,n⟩∈l:=by
 unfold ctOf at h
 rw [Option.map_eq_some_iff] at h
 obtain ⟨c,hc,rfl⟩:=h
 have h1:=List.find?_some hc
 have h2:=List.mem_of_find?_eq_some hc
 simp at h1
 subst h1
 exact h2
theorem omore_le {l:List Ct} {t:Tm} {k:Int} (hk:0≤k) (h:∀ c∈l,0≤c.n∧c.n≤k):∀ c∈omore l t,0≤c.n∧c.n≤k+1:=by
 induction l with
 | nil=>intro c hc;simp [omore] at hc;subst hc;simp;omega
 | cons d l ih =>
  intro c hc
  have hd:=h d (List.mem_cons_self ..)
  have hl:∀ c∈l,0≤c.n∧c.n≤k:=fun c hc=>h c (List.mem_cons_of_mem _ hc)
  unfold omore at hc
  split at hc
  ·rcases List.mem_cons.1 hc with hc | hc
   ·subst hc;omega
   ·exact ih hl c hc
  ·split at hc
   ·rcases List.mem_cons.1 hc with hc | hc
    ·subst hc;simp;omega
    ·have:=hl c hc;omega
   ·rcases List.mem_cons.1 hc with hc | hc
    ·subst hc;simp;omega
    ·have:=h c hc;omega
end Go.Proofs.YtnbdnbcnlgnicaaGreat
namespace Go.Proofs.YtnbdnbcnlgnicaaGreat
open Go.RowKit Go.Shelf
attribute [local go_sem] Oper.semAt_some
theorem exo_lt {r:Int} {ns:List Nd} (hc:chk r ns=0) {x:Nd} (hx:x∈ns) {m:Int} (hm:m∈exo x):0≤m∧m<ns.length:=by
 unfold exo at hm
 have hk:=wi_iff.1 ((chk_zero hc).2.2.1 x hx)
 split at hm
 ·rename_i h11
  have a:=then_ok hc hx (by omega)
  have b:=else_ok hc hx h11
  split at hm
  ·simp at hm;omega
  ·simp at hm;omega
 ·split at hm
  ·rename_i h11 hw
   have:=wi_iff.1 hw
   have a:=then_ok hc hx (by omega)
   simp at hm;omega
  ·simp at hm
theorem info_ints:(Tryz.prog.info? 54).map (fun i=>(i.zero,i.size,i.bytes))=some (some (.slice none 0 0),1,24):=by kernel_rfl
theorem rowsAt_more (ns:List Nd) (k:Nat) (l:List Int) (m:Nat):rowsAt ns k (l++[(m:Int)]) m=rowsAt ns k l m++[(k:Int)]:=by
 simp [rowsAt,List.count_append,List.replicate_succ']
theorem rowsAt_else (ns:List Nd) (k:Nat) (l:List Int) {m j:Nat} (h:j≠m):rowsAt ns k (l++[(m:Int)]) j=rowsAt ns k l j:=by
 have:List.count (j:Int) [(m:Int)]=0:=by
  rw [List.count_eq_zero];simp;omega
 simp only [rowsAt,List.count_append,this,Nat.add_zero]
theorem made_rows (n:Nat):madeCells #[Value.slice none 0 0] n=(List.replicate n (Value.slice none 0 0)).toArray:=by
 apply Array.ext'
 rw [toList_madeCells_one]
theorem rows_new {w:World} {base rb L:Nat} {ns:List Nd} (h:w.heap[rb]?=some (.cells (madeCells #[Value.slice none 0 0] L) 54 (0,0))):RowsAt w base rb L (List.replicate L (.slice none 0 0)) (fun m=>pick (ahB ns m) 0):=by
 refine ⟨by rw [h,made_rows],by simp,fun m v hv=>?_,fun m1 m2 v1 v2 g h1 h2 e1 e2=>?_⟩
 ·obtain rfl:=List.eq_of_mem_replicate (List.mem_of_getElem? hv)
  exact World.ownsRow_nil _ _ _ _
 ·obtain rfl:=List.eq_of_mem_replicate (List.mem_of_getElem? h1)
  simp [Value.ownBlock] at e1
set_option maxRecDepth 100000 in
theorem linksAhead_in (n:Nat) (hn:4≤n) (r:Int) (b off cap:Nat) (ns:List Nd) (w:World) (hN:NodesAt w b off ns) (hc:chk r ns=0) :
 CallsIn Fence.wide n Tryz.prog 67 #[.agg #[.int .i64 r,.slice (some ⟨b,off,none⟩) ns.length cap]] w fun e w' =>∃ rb vs,e=.returned (.slice (some ⟨rb,0,none⟩) ns.length ns.length)∧RowsAt w' w.heap.size rb ns.length vs (fun m=>pick (ahB ns m) ns.length)∧Below w.heap.size w w' :=by
 have h1:1≤n:=by omega
 have h2:1≤n-1-1:=by omega
 have hl:=(chk_zero hc).1
 obtain ⟨i0,hi,hz0,hz1,hz2⟩:=info_parts info_int
 refine callsIn_of_wp_marks Tryz.func67 rfl trivial ?_ rfl
 simp only [Tryz.ntmps67,List.size_toArray,List.length_cons,List.length_nil,Nat.reduceAdd,Nat.reduceSub,Array.replicate_succ,Array.replicate_zero,List.push_toArray,List.append_toArray,List.nil_append,List.cons_append]
 have hms:∀ W:World,Sem.run Tryz.prog (Instr.makeSlice 53 (.int .i64 (ns.length:Int)) (.int .i64 (ns.length:Int))) W=.ok (.slice (some ⟨W.heap.size,0,none⟩) ns.length ns.length) (W.alloc (.cells (madeCells #[.slice none 0 0] ns.length) 54)):=fun W=>run_make_row' 53 54 _ 24 Tryz.underlying53 info_ints rfl .i64 .i64 ns.length (by omega) (by omega) W
 gi_wp2
 have hB0:Below w.heap.size w (((w.alloc (.cells #[.int .i64 r,.slice (some ⟨b,off,none⟩) ns.length cap] 24)).alloc (.cells (madeCells #[.slice none 0 0] ns.length) 54)).alloc (.cells #[.slice (some ⟨w.heap.size+1,0,none⟩) ns.length ns.length] 53)):=(((Below.refl _ w).alloc (Nat.le_refl _) _).alloc (by simp) _).alloc (by simp;omega) _
 have hbx0:Boxed (((w.alloc (.cells #[.int .i64 r,.slice (some ⟨b,off,none⟩) ns.length cap] 24)).alloc (.cells (madeCells #[.slice none 0 0] ns.length) 54)).alloc (.cells #[.slice (some ⟨w.heap.size+1,0,none⟩) ns.length ns.length] 53)) (w.heap.size+1+1) 53 (.slice (some ⟨w.heap.size+1,0,none⟩) ns.length ns.length):=by
  have:=Boxed.new ((w.alloc (.cells #[.int .i64 r,.slice (some ⟨b,off,none⟩) ns.length cap] 24)).alloc (.cells (madeCells #[.slice none 0 0] ns.length) 54)) 53 (.slice (some ⟨w.heap.size+1,0,none⟩) ns.length ns.length)
  simpa only [World.size_alloc] using this
 have hR0:RowsAt (((w.alloc (.cells #[.int .i64 r,.slice (some ⟨b,off,none⟩) ns.length cap] 24)).alloc (.cells (madeCells #[.slice none 0 0] ns.length) 54)).alloc (.cells #[.slice (some ⟨w.heap.size+1,0,none⟩) ns.length ns.length] 53)) w.heap.size (w.heap.size+1) ns.length (List.replicate ns.length (.slice none 0 0)) (fun m=>pick (ahB ns m) 0):=by
  refine rows_new ((Below.heap_alloc _ _ _ (by simp)).trans ?_)
  have:=World.alloc_heap_new (w.alloc (.cells #[.int .i64 r,.slice (some ⟨b,off,none⟩) ns.length cap] 24)) (.cells (madeCells #[.slice none 0 0] ns.length) 54)
  simpa only [World.size_alloc] using this
 generalize (((w.alloc (.cells #[.int .i64 r,.slice (some ⟨b,off,none⟩) ns.length cap] 24)).alloc (.cells (madeCells #[.slice none 0 0] ns.length) 54)).alloc (.cells #[.slice (some ⟨w.heap.size+1,0,none⟩) ns.length ns.length] 53))=W0 at hB0 hbx0 hR0 ⊢
 refine wpIn_loop (fun a W=>∃ (k:Nat) (u4 u5 u15 u16 u17 u18 u19 u20 u32:Value) (ds:List Nat),k≤ns.length∧(∃ vs,RowsAt W w.heap.size (w.heap.size+1) ns.length vs (fun m=>pick (ahB ns m) k))∧Boxed W (w.heap.size+1+1) 53 (.slice (some ⟨w.heap.size+1,0,none⟩) ns.length ns.length)∧Below w.heap.size w W∧Marks ds W∧(∀ D∈ds,w.heap.size≤D) ∧
  a={ tmps:=#[.agg #[.int .i64 r,.slice (some ⟨b,off,none⟩) ns.length cap],.pointer (some ⟨w.heap.size,0,none⟩),.slice none 0 0,.pointer (some ⟨w.heap.size+1+1,0,none⟩),u4,u5,undef,.pointer (some ⟨w.heap.size,1,none⟩),.slice (some ⟨b,off,none⟩) ns.length cap,.int .i64 ns.length,.slice (some ⟨w.heap.size+1,0,none⟩) ns.length ns.length,.pointer (some ⟨w.heap.size,1,none⟩),.slice (some ⟨b,off,none⟩) ns.length cap,.int .i64 ns.length,.int .i64 k,u15,u16,u17,u18,u19,u20,undef,undef,undef,undef,undef,undef,undef,undef,undef,undef,undef,u32,undef],defers:=ds.map markD })
  (fun a _=>ns.length-(intOf (a.tmps.getD 14 undef)).toNat) ?atStart ?round
 case atStart=>exact ⟨0,_,_,_,_,_,_,_,_,_,[],Nat.zero_le _,⟨_,hR0⟩,hbx0,hB0,Marks.nil _,by simp,rfl⟩
 case round =>
  rintro _ wr ⟨k,u4,u5,u15,u16,u17,u18,u19,u20,u32,ds,hk,⟨vs,hR⟩,hbx,hB,hM,hD', rfl⟩
  have hcb:=hbx.cell
  have hblx:=hbx.lt
  by_cases hlt:k<ns.length
  ·obtain ⟨x,hx⟩:=get_lt hlt
   have hN1:=hN.below hB hN.lt
   have c0:=hN1.c0 k x hx
   have c1:=hN1.c1 k x hx
   have c2:=hN1.c2 k x hx
   have c3:=hN1.c3 k x hx
   have c4:=hN1.c4 k x hx
   have c5:=hN1.c5 k x hx
   have hblt:=hN1.lt
   have HX:=hide' hx
   have HN:=hide' hN1
   have HR:=hide' hR
   clear hx hN1 hR
   gi_wp2_with (refine ⟨trivial,?_⟩;gi_at_call 85;refine (exits_in _ _ _ _ _ _ _ _).mono ?_;rintro e w' ⟨rfl,rfl⟩)
   have hBL:Below wr.heap.size wr (((wr.alloc (.cells #[.int .i64 k] 3)).alloc (.cells #[.int .i64 x.op,.int .i64 x.d,.int .i64 x.a,.int .i64 x.b,.int .i64 x.t,.int .i64 x.e] 47)).alloc (.cells #[.int .i64 x.op,.int .i64 x.d,.int .i64 x.a,.int .i64 x.b,.int .i64 x.t,.int .i64 x.e] 47)):=(((Below.refl _ wr).alloc (Nat.le_refl _) _).alloc (by simp) _).alloc (by simp;omega) _
   have hn4:Boxed (((wr.alloc (.cells #[.int .i64 k] 3)).alloc (.cells #[.int .i64 x.op,.int .i64 x.d,.int .i64 x.a,.int .i64 x.b,.int .i64 x.t,.int .i64 x.e] 47)).alloc (.cells #[.int .i64 x.op,.int .i64 x.d,.int .i64 x.a,.int .i64 x.b,.int .i64 x.t,.int .i64 x.e] 47)) wr.heap.size 3 (.int .i64 k):=((Boxed.new wr 3 (.int .i64 k)).alloc _).alloc _
   have hnb:NodeBox (((wr.alloc (.cells #[.int .i64 k] 3)).alloc (.cells #[.int .i64 x.op,.int .i64 x.d,.int .i64 x.a,.int .i64 x.b,.int .i64 x.t,.int .i64 x.e] 47)).alloc (.cells #[.int .i64 x.op,.int .i64 x.d,.int .i64 x.a,.int .i64 x.b,.int .i64 x.t,.int .i64 x.e] 47)) (wr.heap.size+1+1) x:=by
    have:=nodeBox_new ((wr.alloc (.cells #[.int .i64 k] 3)).alloc (.cells #[.int .i64 x.op,.int .i64 x.d,.int .i64 x.a,.int .i64 x.b,.int .i64 x.t,.int .i64 x.e] 47)) x
    simpa only [World.size_alloc] using this
   generalize (((wr.alloc (.cells #[.int .i64 k] 3)).alloc (.cells #[.int .i64 x.op,.int .i64 x.d,.int .i64 x.a,.int .i64 x.b,.int .i64 x.t,.int .i64 x.e] 47)).alloc (.cells #[.int .i64 x.op,.int .i64 x.d,.int .i64 x.a,.int .i64 x.b,.int .i64 x.t,.int .i64 x.e] 47))=WL at hBL hn4 hnb ⊢
   have hbxL:Boxed WL (w.heap.size+1+1) 53 _:=(hBL.block _ hbx.lt).trans hbx
   have hBL' :=hB.trans (hBL.mono hB.size)
   have hsL:=hBL.size
   have hsz:=hB.size
   have hltB:=hnb.lt
   have hmk:=chk_zero hc
   have hkx:=hmk.2.2.1 x (List.mem_of_getElem? HX.out)
   have hmx:∀ y:Ex x,0≤y.1∧y.1<ns.length:=fun y=>exo_lt hc (List.mem_of_getElem? HX.out) y.2
   clear hmk c0 c1 c2 c3 c4 c5 hcb
   refine wpIn_rangeFunc_ownG rfl h1 (gf:=110) (lb:=#[.pointer (some ⟨wr.heap.size+1+1,0,none⟩)]) rfl trivial (enters_of Tryz.func110 (by kernel_rfl) rfl)
    (exits_stops (n-1) (by omega) (wr.heap.size+1+1) x _ hnb) KT.trans (KT.putObj hltB) (Below.refl _ _) (fun _=>rfl)
    (fun pre W=>((∃ vs,RowsAt W w.heap.size (w.heap.size+1) ns.length vs (rowsAt ns k (pre.map (·.1)))∧∀ (j:Nat) (v:Value),vs[j]?=some v→v.ownBlock≠some wr.heap.size)∧Boxed W (w.heap.size+1+1) 53 (.slice (some ⟨w.heap.size+1,0,none⟩) ns.length ns.length)∧Boxed W wr.heap.size 3 (.int .i64 k)∧NodeBox W (wr.heap.size+1+1) x∧Marks ds W)∧Below w.heap.size w W)
    (fun _ _ _=>False)
    (OwnFrom.and ?own (ownFrom_below (by omega) (by omega)))
    (fun _ _ _ _ _ hs _ _=>hs)
    ⟨⟨⟨vs,by rw [show rowsAt ns k (([]:List (Ex x)).map (·.1))=fun m=>pick (ahB ns m) k from rowsAt_nil ns k];exact HR.out.below hBL,fun j v hj e=>by have:=((HR.out.own j v hj).lt _ e).2;omega⟩,hbxL,hn4,hnb,hM.below hBL⟩,hBL'⟩
    (fun y=>{ tmps:=#[.agg #[.int .i64 r,.slice (some ⟨b,off,none⟩) ns.length cap],.pointer (some ⟨w.heap.size,0,none⟩),.slice none 0 0,.pointer (some ⟨w.heap.size+1+1,0,none⟩),.pointer (some ⟨wr.heap.size,0,none⟩),.pointer (some ⟨wr.heap.size+1,0,none⟩),.int .i64 y.1,.pointer (some ⟨w.heap.size,1,none⟩),.slice (some ⟨b,off,none⟩) ns.length cap,.int .i64 ns.length,.slice (some ⟨w.heap.size+1,0,none⟩) ns.length ns.length,.pointer (some ⟨w.heap.size,1,none⟩),.slice (some ⟨b,off,none⟩) ns.length cap,.int .i64 ns.length,.int .i64 k,.bool true,.int .i64 k,.pointer (some ⟨b,off+k*6,none⟩),.agg #[.int .i64 x.op,.int .i64 x.d,.int .i64 x.a,.int .i64 x.b,.int .i64 x.t,.int .i64 x.e],.agg #[.int .i64 x.op,.int .i64 x.d,.int .i64 x.a,.int .i64 x.b,.int .i64 x.t,.int .i64 x.e],.func (.func 110) #[] #[.pointer (some ⟨wr.heap.size+1+1,0,none⟩)],.int .i64 y.1,undef,undef,undef,undef,undef,undef,undef,undef,undef,undef,u32,undef],defers:=[] }) ?assign ?body ?done ?stop
   case own =>
    rintro pre A C row ⟨⟨vs,hvs,hno⟩,hb1,hb2,hb3,hm1⟩ hg hr
    have hcl:∀ (b:Nat) (o:Obj),A.heap[b]?=some o→o.isCells=true→some b≠row:=fun b o h1 h2 e=>by
     obtain ⟨_,o', h3,h4⟩:=hr b e.symm
     rw [h1] at h3;cases h3;rw [h2] at h4;cases h4
    exact ⟨⟨vs,hvs.kept hg (fun r e=>(hr r e).2),hno⟩,hb1.kept hg (hcl _ _ hb1 rfl),hb2.kept hg (hcl _ _ hb2 rfl),(hg.block _ hb3.lt (hcl _ _ hb3 rfl)).trans hb3,hm1.grown hg fun q e hq=>by
     have h1:=(hr q e).1
     have h2:=hM.lt hq
     omega⟩
   case assign =>
    intro l y W K hK
    gi_wp2
    exact hK
   case body =>
    rintro l pre y W ⟨⟨⟨vs,hvs,hno⟩,hb1,hb2,hb3,hm1⟩,hB1⟩ hpl
    obtain ⟨hm0,hm2⟩:=hmx y
    obtain ⟨m,hmy⟩:=Int.eq_ofNat_of_zero_le hm0
    have hml:m<ns.length:=by omega
    have hml' :m<vs.length:=by rw [hvs.len];exact hml
    obtain ⟨v,hv⟩:=get_lt hml'
    have hown:=hvs.own m v hv
    have hcb:=hb1.cell
    have hck:=hb2.cell
    have hrc:W.cell? ⟨w.heap.size+1,m,none⟩=some v:=by rw [blk_cell hvs.blk];simpa using hv
    have hpl2:pre.length<2:=Nat.lt_of_lt_of_le hpl (exo_len x)
    have hrl:=rowsAt_len ns k (pre.map (·.1)) m
    rw [List.length_map] at hrl
    obtain ⟨g,cap1,w1,hrun,hown1,hgrow,hat,hgl⟩:=run_append_lies (P:=Tryz.prog) (W.drew.alloc (.cells #[.int .i64 k] 3)) 54 54 w.heap.size 3 i0 (.int .i64 0) 1 8 Tryz.underlying54 hi hz0 hz1 hz2 rfl (by decide) v _ _ (World.ownsRow.alloc (show W.drew.ownsRow _ _ _ _ _ _ from hown) _) ⟨W.heap.size,0,none⟩ 1 1 [.int .i64 k] rfl (cell_one_new _ _ _) (by simp [Value.oneCell']) (by decide) (by unfold maxLen;omega) (by omega) (by have:=hB1.size;simp;omega) _ rfl
    have HO:=hide' hown1
    have HG:=hide' hgrow
    have HA:=hide' hat
    have HV:=hide' hvs
    have HM:=hide' hm1
    have HH:=hide' hv
    have HW:=hide' hown
    have HNO:=hide' hno
    have HB3:=hide' hb3
    clear hno hb3
    have hb1' :Boxed w1 (w.heap.size+1+1) 53 (.slice (some ⟨w.heap.size+1,0,none⟩) ns.length ns.length):=Boxed.kept (Boxed.alloc (show Boxed W.drew _ _ _ from hb1) _) hgrow (owns_ne_ty hown hb1 (by decide))
    have hr1' :w1.heap[w.heap.size+1]?=some (.cells vs.toArray 54 (0,0)):=(hgrow.block _ (by have:=(Array.getElem?_eq_some_iff.1 hvs.blk).1;simp;omega) (owns_ne_ty hown hvs.blk (by decide))).trans ((Below.heap_alloc W.drew _ _ (Array.getElem?_eq_some_iff.1 hvs.blk).1).trans hvs.blk)
    have q1:=hb1'.cell
    have q2:=blk_frozen hr1' m
    have q3:=blk_cell hr1' m
    have q3' :vs.toArray[m]?=some v:=by simpa using hv
    rw [q3'] at q3
    rw [hmy]
    have HR1:=hide' hr1'
    have HB1:=hide' hb1'
    clear hown1 hgrow hat hvs hm1 hv hown hr1' q3'
    have hlt1:(m:Int)<(ns.length:Int):=by omega
    have z1:=hb1.lt
    have z2:=hb2.lt
    have z3:w.heap.size+1<W.heap.size:=by omega
    generalize hN0:(rowsAt ns k (List.map (fun x=>x.val) pre) m).length=N0 at hrun HO HW hrl
    have HN0:=hide' hN0
    clear hN0
    simp [go_sem] at hrun
    gi_wp2
    refine region_inv (by kernel_rfl) (fun listed a w' =>∃ u22 u23 u24 u25 u26 u27 u28 u29 u30 u31:Value,listed.size=11∧a={ tmps:=#[.agg #[.int .i64 r,.slice (some ⟨b,off,none⟩) ns.length cap],.pointer (some ⟨w.heap.size,0,none⟩),.slice none 0 0,.pointer (some ⟨w.heap.size+1+1,0,none⟩),.pointer (some ⟨wr.heap.size,0,none⟩),.pointer (some ⟨wr.heap.size+1,0,none⟩),.int .i64 (m:Int),.pointer (some ⟨w.heap.size,1,none⟩),.slice (some ⟨b,off,none⟩) ns.length cap,.int .i64 ns.length,.slice (some ⟨w.heap.size+1,0,none⟩) ns.length ns.length,.pointer (some ⟨w.heap.size,1,none⟩),.slice (some ⟨b,off,none⟩) ns.length cap,.int .i64 ns.length,.int .i64 k,.bool true,.int .i64 k,.pointer (some ⟨b,off+k*6,none⟩),.agg #[.int .i64 x.op,.int .i64 x.d,.int .i64 x.a,.int .i64 x.b,.int .i64 x.t,.int .i64 x.e],.agg #[.int .i64 x.op,.int .i64 x.d,.int .i64 x.a,.int .i64 x.b,.int .i64 x.t,.int .i64 x.e],.func (.func 110) #[] #[.pointer (some ⟨wr.heap.size+1+1,0,none⟩)],.int .i64 (m:Int),u22,u23,u24,u25,u26,u27,u28,u29,u30,u31,u32,undef],defers:=[] }∧(listed.getD 0 false=true→u22=.slice (some ⟨w.heap.size+1,0,none⟩) ns.length ns.length)∧(listed.getD 1 false=true→u23=.int .i64 (m:Int))∧(listed.getD 2 false=true→u24=.slice (some ⟨w.heap.size+1,0,none⟩) ns.length ns.length)∧(listed.getD 3 false=true→u25=.int .i64 (m:Int))∧(listed.getD 4 false=true→u26=.pointer (some ⟨w.heap.size+1,m,none⟩))∧(listed.getD 5 false=true→u27=v)∧(listed.getD 6 false=true→u28=.int .i64 (k:Int))∧(listed.getD 7 false=true→u29=.slice (some ⟨W.heap.size,0,none⟩) 1 1)∧(listed.getD 8 false=true→u30=.slice (some ⟨g,0,none⟩) (N0+1) cap1)∧(listed.getD 9 false=true→u31=.pointer (some ⟨w.heap.size+1,m,none⟩))∧((listed.getD 7 false=false∧listed.getD 8 false=false∧listed.getD 10 false=false∧w' =W.drew)∨(listed.getD 6 false=true∧listed.getD 7 false=true∧listed.getD 8 false=false∧listed.getD 10 false=false∧w' =W.drew.alloc (.cells #[.int .i64 k] 3))∨(listed.getD 5 false=true∧listed.getD 6 false=true∧listed.getD 7 false=true∧listed.getD 8 false=true∧listed.getD 10 false=false∧w' =w1)∨((∀ j,j<11→listed.getD j false=true)∧w' =w1.setCell ⟨w.heap.size+1,m,none⟩ (.slice (some ⟨g,0,none⟩) (N0+1) cap1)))) ?hg ?hsz ?h0 ?hs ?h1
    case hg =>
     intro i o ho
     match i,ho with
     | 0,ho | 1,ho | 2,ho | 3,ho | 4,ho | 5,ho | 6,ho | 7,ho | 8,ho | 9,ho | 10,ho=>simp at ho;subst ho;simp [Region.binds]
     | i+11,ho=>simp at ho
    case hsz=>rintro listed a w' ⟨_,_,_,_,_,_,_,_,_,_,h,_⟩;simpa using h
    case h0 =>
     refine ⟨_,_,_,_,_,_,_,_,_,_,by simp,rfl,by simp,by simp,by simp,by simp,by simp,by simp,by simp,by simp,by simp,by simp,Or.inl ⟨by simp,by simp,by simp,rfl⟩⟩
    case hs =>
     rintro listed a w' i o ⟨u22,u23,u24,u25,u26,u27,u28,u29,u30,u31,hsz,rfl,e0,e1,e2,e3,e4,e5,e6,e7,e8,e9,hw⟩ hC ho hl hd
     have hlt11:i<11:=(Array.getElem?_eq_some_iff.1 ho).1
     have hl' :listed.getD i false=false:=by
      simp only [Array.getD] at hl ⊢
      rw [dif_pos (by omega)] at hl ⊢;exact hl
     have keep:∀ j,j≠i→(listed.setIfInBounds i true).getD j false=listed.getD j false:=fun j hj=>getD_set_ne false (fun e=>hj e.symm)
     have sett:(listed.setIfInBounds i true).getD i false=true:=by simp [hsz,hlt11]
     have hsz' :(listed.setIfInBounds i true).size=11:=by simp [hsz]
     clear hl
     match i,hlt11 with
     | 0,_ =>
      simp at ho;subst ho
      clear hd
      rcases hw with ⟨h7,h8,h10,rfl⟩ | ⟨h6,h7,h8,h10,rfl⟩ | ⟨h5,h6,h7,h8,h10,hwe⟩ | ⟨hall,rfl⟩
      ·refine Oper.wpIn_mono (K:=fun a' w'' =>a' ={ tmps:=#[.agg #[.int .i64 r,.slice (some ⟨b,off,none⟩) ns.length cap],.pointer (some ⟨w.heap.size,0,none⟩),.slice none 0 0,.pointer (some ⟨w.heap.size+1+1,0,none⟩),.pointer (some ⟨wr.heap.size,0,none⟩),.pointer (some ⟨wr.heap.size+1,0,none⟩),.int .i64 (m:Int),.pointer (some ⟨w.heap.size,1,none⟩),.slice (some ⟨b,off,none⟩) ns.length cap,.int .i64 ns.length,.slice (some ⟨w.heap.size+1,0,none⟩) ns.length ns.length,.pointer (some ⟨w.heap.size,1,none⟩),.slice (some ⟨b,off,none⟩) ns.length cap,.int .i64 ns.length,.int .i64 k,.bool true,.int .i64 k,.pointer (some ⟨b,off+k*6,none⟩),.agg #[.int .i64 x.op,.int .i64 x.d,.int .i64 x.a,.int .i64 x.b,.int .i64 x.t,.int .i64 x.e],.agg #[.int .i64 x.op,.int .i64 x.d,.int .i64 x.a,.int .i64 x.b,.int .i64 x.t,.int .i64 x.e],.func (.func 110) #[] #[.pointer (some ⟨wr.heap.size+1+1,0,none⟩)],.int .i64 (m:Int),.slice (some ⟨w.heap.size+1,0,none⟩) ns.length ns.length,u23,u24,u25,u26,u27,u28,u29,u30,u31,u32,undef],defers:=[] }∧w'' =W.drew) (fun a' w'' h=>?_) ?_
       ·obtain ⟨rfl,rfl⟩:=h
        exact ⟨_,_,_,_,_,_,_,_,_,_,hsz', rfl,fun _=>rfl,fun h=>e1 (by rwa [keep 1 (by omega)] at h),fun h=>e2 (by rwa [keep 2 (by omega)] at h),fun h=>e3 (by rwa [keep 3 (by omega)] at h),fun h=>e4 (by rwa [keep 4 (by omega)] at h),fun h=>e5 (by rwa [keep 5 (by omega)] at h),fun h=>e6 (by rwa [keep 6 (by omega)] at h),fun h=>e7 (by rwa [keep 7 (by omega)] at h),fun h=>e8 (by rwa [keep 8 (by omega)] at h),fun h=>e9 (by rwa [keep 9 (by omega)] at h),Or.inl ⟨(keep 7 (by omega)).trans h7,(keep 8 (by omega)).trans h8,(keep 10 (by omega)).trans h10,rfl⟩⟩
       ·go_simp
      ·refine Oper.wpIn_mono (K:=fun a' w'' =>a' ={ tmps:=#[.agg #[.int .i64 r,.slice (some ⟨b,off,none⟩) ns.length cap],.pointer (some ⟨w.heap.size,0,none⟩),.slice none 0 0,.pointer (some ⟨w.heap.size+1+1,0,none⟩),.pointer (some ⟨wr.heap.size,0,none⟩),.pointer (some ⟨wr.heap.size+1,0,none⟩),.int .i64 (m:Int),.pointer (some ⟨w.heap.size,1,none⟩),.slice (some ⟨b,off,none⟩) ns.length cap,.int .i64 ns.length,.slice (some ⟨w.heap.size+1,0,none⟩) ns.length ns.length,.pointer (some ⟨w.heap.size,1,none⟩),.slice (some ⟨b,off,none⟩) ns.length cap,.int .i64 ns.length,.int .i64 k,.bool true,.int .i64 k,.pointer (some ⟨b,off+k*6,none⟩),.agg #[.int .i64 x.op,.int .i64 x.d,.int .i64 x.a,.int .i64 x.b,.int .i64 x.t,.int .i64 x.e],.agg #[.int .i64 x.op,.int .i64 x.d,.int .i64 x.a,.int .i64 x.b,.int .i64 x.t,.int .i64 x.e],.func (.func 110) #[] #[.pointer (some ⟨wr.heap.size+1+1,0,none⟩)],.int .i64 (m:Int),.slice (some ⟨w.heap.size+1,0,none⟩) ns.length ns.length,u23,u24,u25,u26,u27,u28,u29,u30,u31,u32,undef],defers:=[] }∧w'' =W.drew.alloc (.cells #[.int .i64 k] 3)) (fun a' w'' h=>?_) ?_
       ·obtain ⟨rfl,rfl⟩:=h
        exact ⟨_,_,_,_,_,_,_,_,_,_,hsz', rfl,fun _=>rfl,fun h=>e1 (by rwa [keep 1 (by omega)] at h),fun h=>e2 (by rwa [keep 2 (by omega)] at h),fun h=>e3 (by rwa [keep 3 (by omega)] at h),fun h=>e4 (by rwa [keep 4 (by omega)] at h),fun h=>e5 (by rwa [keep 5 (by omega)] at h),fun h=>e6 (by rwa [keep 6 (by omega)] at h),fun h=>e7 (by rwa [keep 7 (by omega)] at h),fun h=>e8 (by rwa [keep 8 (by omega)] at h),fun h=>e9 (by rwa [keep 9 (by omega)] at h),Or.inr (Or.inl ⟨(keep 6 (by omega)).trans h6,(keep 7 (by omega)).trans h7,(keep 8 (by omega)).trans h8,(keep 10 (by omega)).trans h10,rfl⟩)⟩
       ·go_simp
      ·obtain rfl:=hwe.symm
       refine Oper.wpIn_mono (K:=fun a' w'' =>a' ={ tmps:=#[.agg #[.int .i64 r,.slice (some ⟨b,off,none⟩) ns.length cap],.pointer (some ⟨w.heap.size,0,none⟩),.slice none 0 0,.pointer (some ⟨w.heap.size+1+1,0,none⟩),.pointer (some ⟨wr.heap.size,0,none⟩),.pointer (some ⟨wr.heap.size+1,0,none⟩),.int .i64 (m:Int),.pointer (some ⟨w.heap.size,1,none⟩),.slice (some ⟨b,off,none⟩) ns.length cap,.int .i64 ns.length,.slice (some ⟨w.heap.size+1,0,none⟩) ns.length ns.length,.pointer (some ⟨w.heap.size,1,none⟩),.slice (some ⟨b,off,none⟩) ns.length cap,.int .i64 ns.length,.int .i64 k,.bool true,.int .i64 k,.pointer (some ⟨b,off+k*6,none⟩),.agg #[.int .i64 x.op,.int .i64 x.d,.int .i64 x.a,.int .i64 x.b,.int .i64 x.t,.int .i64 x.e],.agg #[.int .i64 x.op,.int .i64 x.d,.int .i64 x.a,.int .i64 x.b,.int .i64 x.t,.int .i64 x.e],.func (.func 110) #[] #[.pointer (some ⟨wr.heap.size+1+1,0,none⟩)],.int .i64 (m:Int),.slice (some ⟨w.heap.size+1,0,none⟩) ns.length ns.length,u23,u24,u25,u26,u27,u28,u29,u30,u31,u32,undef],defers:=[] }∧w'' =w1) (fun a' w'' h=>?_) ?_
       ·obtain ⟨rfl,rfl⟩:=h
        exact ⟨_,_,_,_,_,_,_,_,_,_,hsz', rfl,fun _=>rfl,fun h=>e1 (by rwa [keep 1 (by omega)] at h),fun h=>e2 (by rwa [keep 2 (by omega)] at h),fun h=>e3 (by rwa [keep 3 (by omega)] at h),fun h=>e4 (by rwa [keep 4 (by omega)] at h),fun h=>e5 (by rwa [keep 5 (by omega)] at h),fun h=>e6 (by rwa [keep 6 (by omega)] at h),fun h=>e7 (by rwa [keep 7 (by omega)] at h),fun h=>e8 (by rwa [keep 8 (by omega)] at h),fun h=>e9 (by rwa [keep 9 (by omega)] at h),Or.inr (Or.inr (Or.inl ⟨(keep 5 (by omega)).trans h5,(keep 6 (by omega)).trans h6,(keep 7 (by omega)).trans h7,(keep 8 (by omega)).trans h8,(keep 10 (by omega)).trans h10,rfl⟩))⟩
       ·go_simp
      ·rw [hall 0 (by omega)] at hl'; cases hl'
     | 1,_ =>
      simp at ho;subst ho
      clear hd
      rcases hw with ⟨h7,h8,h10,rfl⟩ | ⟨h6,h7,h8,h10,rfl⟩ | ⟨h5,h6,h7,h8,h10,hwe⟩ | ⟨hall,rfl⟩
      ·refine Oper.wpIn_mono (K:=fun a' w'' =>a' ={ tmps:=#[.agg #[.int .i64 r,.slice (some ⟨b,off,none⟩) ns.length cap],.pointer (some ⟨w.heap.size,0,none⟩),.slice none 0 0,.pointer (some ⟨w.heap.size+1+1,0,none⟩),.pointer (some ⟨wr.heap.size,0,none⟩),.pointer (some ⟨wr.heap.size+1,0,none⟩),.int .i64 (m:Int),.pointer (some ⟨w.heap.size,1,none⟩),.slice (some ⟨b,off,none⟩) ns.length cap,.int .i64 ns.length,.slice (some ⟨w.heap.size+1,0,none⟩) ns.length ns.length,.pointer (some ⟨w.heap.size,1,none⟩),.slice (some ⟨b,off,none⟩) ns.length cap,.int .i64 ns.length,.int .i64 k,.bool true,.int .i64 k,.pointer (some ⟨b,off+k*6,none⟩),.agg #[.int .i64 x.op,.int .i64 x.d,.int .i64 x.a,.int .i64 x.b,.int .i64 x.t,.int .i64 x.e],.agg #[.int .i64 x.op,.int .i64 x.d,.int .i64 x.a,.int .i64 x.b,.int .i64 x.t,.int .i64 x.e],.func (.func 110) #[] #[.pointer (some ⟨wr.heap.size+1+1,0,none⟩)],.int .i64 (m:Int),u22,.int .i64 (m:Int),u24,u25,u26,u27,u28,u29,u30,u31,u32,undef],defers:=[] }∧w'' =W.drew) (fun a' w'' h=>?_) ?_
       ·obtain ⟨rfl,rfl⟩:=h
        exact ⟨_,_,_,_,_,_,_,_,_,_,hsz', rfl,fun h=>e0 (by rwa [keep 0 (by omega)] at h),fun _=>rfl,fun h=>e2 (by rwa [keep 2 (by omega)] at h),fun h=>e3 (by rwa [keep 3 (by omega)] at h),fun h=>e4 (by rwa [keep 4 (by omega)] at h),fun h=>e5 (by rwa [keep 5 (by omega)] at h),fun h=>e6 (by rwa [keep 6 (by omega)] at h),fun h=>e7 (by rwa [keep 7 (by omega)] at h),fun h=>e8 (by rwa [keep 8 (by omega)] at h),fun h=>e9 (by rwa [keep 9 (by omega)] at h),Or.inl ⟨(keep 7 (by omega)).trans h7,(keep 8 (by omega)).trans h8,(keep 10 (by omega)).trans h10,rfl⟩⟩
       ·go_simp
      ·refine Oper.wpIn_mono (K:=fun a' w'' =>a' ={ tmps:=#[.agg #[.int .i64 r,.slice (some ⟨b,off,none⟩) ns.length cap],.pointer (some ⟨w.heap.size,0,none⟩),.slice none 0 0,.pointer (some ⟨w.heap.size+1+1,0,none⟩),.pointer (some ⟨wr.heap.size,0,none⟩),.pointer (some ⟨wr.heap.size+1,0,none⟩),.int .i64 (m:Int),.pointer (some ⟨w.heap.size,1,none⟩),.slice (some ⟨b,off,none⟩) ns.length cap,.int .i64 ns.length,.slice (some ⟨w.heap.size+1,0,none⟩) ns.length ns.length,.pointer (some ⟨w.heap.size,1,none⟩),.slice (some ⟨b,off,none⟩) ns.length cap,.int .i64 ns.length,.int .i64 k,.bool true,.int .i64 k,.pointer (some ⟨b,off+k*6,none⟩),.agg #[.int .i64 x.op,.int .i64 x.d,.int .i64 x.a,.int .i64 x.b,.int .i64 x.t,.int .i64 x.e],.agg #[.int .i64 x.op,.int .i64 x.d,.int .i64 x.a,.int .i64 x.b,.int .i64 x.t,.int .i64 x.e],.func (.func 110) #[] #[.pointer (some ⟨wr.heap.size+1+1,0,none⟩)],.int .i64 (m:Int),u22,.int .i64 (m:Int),u24,u25,u26,u27,u28,u29,u30,u31,u32,undef],defers:=[] }∧w'' =W.drew.alloc (.cells #[.int .i64 k] 3)) (fun a' w'' h=>?_) ?_
       ·obtain ⟨rfl,rfl⟩:=h
        exact ⟨_,_,_,_,_,_,_,_,_,_,hsz', rfl,fun h=>e0 (by rwa [keep 0 (by omega)] at h),fun _=>rfl,fun h=>e2 (by rwa [keep 2 (by omega)] at h),fun h=>e3 (by rwa [keep 3 (by omega)] at h),fun h=>e4 (by rwa [keep 4 (by omega)] at h),fun h=>e5 (by rwa [keep 5 (by omega)] at h),fun h=>e6 (by rwa [keep 6 (by omega)] at h),fun h=>e7 (by rwa [keep 7 (by omega)] at h),fun h=>e8 (by rwa [keep 8 (by omega)] at h),fun h=>e9 (by rwa [keep 9 (by omega)] at h),Or.inr (Or.inl ⟨(keep 6 (by omega)).trans h6,(keep 7 (by omega)).trans h7,(keep 8 (by omega)).trans h8,(keep 10 (by omega)).trans h10,rfl⟩)⟩
       ·go_simp
      ·obtain rfl:=hwe.symm
       refine Oper.wpIn_mono (K:=fun a' w'' =>a' ={ tmps:=#[.agg #[.int .i64 r,.slice (some ⟨b,off,none⟩) ns.length cap],.pointer (some ⟨w.heap.size,0,none⟩),.slice none 0 0,.pointer (some ⟨w.heap.size+1+1,0,none⟩),.pointer (some ⟨wr.heap.size,0,none⟩),.pointer (some ⟨wr.heap.size+1,0,none⟩),.int .i64 (m:Int),.pointer (some ⟨w.heap.size,1,none⟩),.slice (some ⟨b,off,none⟩) ns.length cap,.int .i64 ns.length,.slice (some ⟨w.heap.size+1,0,none⟩) ns.length ns.length,.pointer (some ⟨w.heap.size,1,none⟩),.slice (some ⟨b,off,none⟩) ns.length cap,.int .i64 ns.length,.int .i64 k,.bool true,.int .i64 k,.pointer (some ⟨b,off+k*6,none⟩),.agg #[.int .i64 x.op,.int .i64 x.d,.int .i64 x.a,.int .i64 x.b,.int .i64 x.t,.int .i64 x.e],.agg #[.int .i64 x.op,.int .i64 x.d,.int .i64 x.a,.int .i64 x.b,.int .i64 x.t,.int .i64 x.e],.func (.func 110) #[] #[.pointer (some ⟨wr.heap.size+1+1,0,none⟩)],.int .i64 (m:Int),u22,.int .i64 (m:Int),u24,u25,u26,u27,u28,u29,u30,u31,u32,undef],defers:=[] }∧w'' =w1) (fun a' w'' h=>?_) ?_
       ·obtain ⟨rfl,rfl⟩:=h
        exact ⟨_,_,_,_,_,_,_,_,_,_,hsz', rfl,fun h=>e0 (by rwa [keep 0 (by omega)] at h),fun _=>rfl,fun h=>e2 (by rwa [keep 2 (by omega)] at h),fun h=>e3 (by rwa [keep 3 (by omega)] at h),fun h=>e4 (by rwa [keep 4 (by omega)] at h),fun h=>e5 (by rwa [keep 5 (by omega)] at h),fun h=>e6 (by rwa [keep 6 (by omega)] at h),fun h=>e7 (by rwa [keep 7 (by omega)] at h),fun h=>e8 (by rwa [keep 8 (by omega)] at h),fun h=>e9 (by rwa [keep 9 (by omega)] at h),Or.inr (Or.inr (Or.inl ⟨(keep 5 (by omega)).trans h5,(keep 6 (by omega)).trans h6,(keep 7 (by omega)).trans h7,(keep 8 (by omega)).trans h8,(keep 10 (by omega)).trans h10,rfl⟩))⟩
       ·go_simp
      ·rw [hall 1 (by omega)] at hl'; cases hl'
     | 2,_ =>
      simp at ho;subst ho
      clear hd
      rcases hw with ⟨h7,h8,h10,rfl⟩ | ⟨h6,h7,h8,h10,rfl⟩ | ⟨h5,h6,h7,h8,h10,hwe⟩ | ⟨hall,rfl⟩
      ·refine Oper.wpIn_mono (K:=fun a' w'' =>a' ={ tmps:=#[.agg #[.int .i64 r,.slice (some ⟨b,off,none⟩) ns.length cap],.pointer (some ⟨w.heap.size,0,none⟩),.slice none 0 0,.pointer (some ⟨w.heap.size+1+1,0,none⟩),.pointer (some ⟨wr.heap.size,0,none⟩),.pointer (some ⟨wr.heap.size+1,0,none⟩),.int .i64 (m:Int),.pointer (some ⟨w.heap.size,1,none⟩),.slice (some ⟨b,off,none⟩) ns.length cap,.int .i64 ns.length,.slice (some ⟨w.heap.size+1,0,none⟩) ns.length ns.length,.pointer (some ⟨w.heap.size,1,none⟩),.slice (some ⟨b,off,none⟩) ns.length cap,.int .i64 ns.length,.int .i64 k,.bool true,.int .i64 k,.pointer (some ⟨b,off+k*6,none⟩),.agg #[.int .i64 x.op,.int .i64 x.d,.int .i64 x.a,.int .i64 x.b,.int .i64 x.t,.int .i64 x.e],.agg #[.int .i64 x.op,.int .i64 x.d,.int .i64 x.a,.int .i64 x.b,.int .i64 x.t,.int .i64 x.e],.func (.func 110) #[] #[.pointer (some ⟨wr.heap.size+1+1,0,none⟩)],.int .i64 (m:Int),u22,u23,.slice (some ⟨w.heap.size+1,0,none⟩) ns.length ns.length,u25,u26,u27,u28,u29,u30,u31,u32,undef],defers:=[] }∧w'' =W.drew) (fun a' w'' h=>?_) ?_
       ·obtain ⟨rfl,rfl⟩:=h
        exact ⟨_,_,_,_,_,_,_,_,_,_,hsz', rfl,fun h=>e0 (by rwa [keep 0 (by omega)] at h),fun h=>e1 (by rwa [keep 1 (by omega)] at h),fun _=>rfl,fun h=>e3 (by rwa [keep 3 (by omega)] at h),fun h=>e4 (by rwa [keep 4 (by omega)] at h),fun h=>e5 (by rwa [keep 5 (by omega)] at h),fun h=>e6 (by rwa [keep 6 (by omega)] at h),fun h=>e7 (by rwa [keep 7 (by omega)] at h),fun h=>e8 (by rwa [keep 8 (by omega)] at h),fun h=>e9 (by rwa [keep 9 (by omega)] at h),Or.inl ⟨(keep 7 (by omega)).trans h7,(keep 8 (by omega)).trans h8,(keep 10 (by omega)).trans h10,rfl⟩⟩
       ·go_simp
      ·refine Oper.wpIn_mono (K:=fun a' w'' =>a' ={ tmps:=#[.agg #[.int .i64 r,.slice (some ⟨b,off,none⟩) ns.length cap],.pointer (some ⟨w.heap.size,0,none⟩),.slice none 0 0,.pointer (some ⟨w.heap.size+1+1,0,none⟩),.pointer (some ⟨wr.heap.size,0,none⟩),.pointer (some ⟨wr.heap.size+1,0,none⟩),.int .i64 (m:Int),.pointer (some ⟨w.heap.size,1,none⟩),.slice (some ⟨b,off,none⟩) ns.length cap,.int .i64 ns.length,.slice (some ⟨w.heap.size+1,0,none⟩) ns.length ns.length,.pointer (some ⟨w.heap.size,1,none⟩),.slice (some ⟨b,off,none⟩) ns.length cap,.int .i64 ns.length,.int .i64 k,.bool true,.int .i64 k,.pointer (some ⟨b,off+k*6,none⟩),.agg #[.int .i64 x.op,.int .i64 x.d,.int .i64 x.a,.int .i64 x.b,.int .i64 x.t,.int .i64 x.e],.agg #[.int .i64 x.op,.int .i64 x.d,.int .i64 x.a,.int .i64 x.b,.int .i64 x.t,.int .i64 x.e],.func (.func 110) #[] #[.pointer (some ⟨wr.heap.size+1+1,0,none⟩)],.int .i64 (m:Int),u22,u23,.slice (some ⟨w.heap.size+1,0,none⟩) ns.length ns.length,u25,u26,u27,u28,u29,u30,u31,u32,undef],defers:=[] }∧w'' =W.drew.alloc (.cells #[.int .i64 k] 3)) (fun a' w'' h=>?_) ?_
       ·obtain ⟨rfl,rfl⟩:=h
        exact ⟨_,_,_,_,_,_,_,_,_,_,hsz', rfl,fun h=>e0 (by rwa [keep 0 (by omega)] at h),fun h=>e1 (by rwa [keep 1 (by omega)] at h),fun _=>rfl,fun h=>e3 (by rwa [keep 3 (by omega)] at h),fun h=>e4 (by rwa [keep 4 (by omega)] at h),fun h=>e5 (by rwa [keep 5 (by omega)] at h),fun h=>e6 (by rwa [keep 6 (by omega)] at h),fun h=>e7 (by rwa [keep 7 (by omega)] at h),fun h=>e8 (by rwa [keep 8 (by omega)] at h),fun h=>e9 (by rwa [keep 9 (by omega)] at h),Or.inr (Or.inl ⟨(keep 6 (by omega)).trans h6,(keep 7 (by omega)).trans h7,(keep 8 (by omega)).trans h8,(keep 10 (by omega)).trans h10,rfl⟩)⟩
       ·go_simp
      ·obtain rfl:=hwe.symm
       refine Oper.wpIn_mono (K:=fun a' w'' =>a' ={ tmps:=#[.agg #[.int .i64 r,.slice (some ⟨b,off,none⟩) ns.length cap],.pointer (some ⟨w.heap.size,0,none⟩),.slice none 0 0,.pointer (some ⟨w.heap.size+1+1,0,none⟩),.pointer (some ⟨wr.heap.size,0,none⟩),.pointer (some ⟨wr.heap.size+1,0,none⟩),.int .i64 (m:Int),.pointer (some ⟨w.heap.size,1,none⟩),.slice (some ⟨b,off,none⟩) ns.length cap,.int .i64 ns.length,.slice (some ⟨w.heap.size+1,0,none⟩) ns.length ns.length,.pointer (some ⟨w.heap.size,1,none⟩),.slice (some ⟨b,off,none⟩) ns.length cap,.int .i64 ns.length,.int .i64 k,.bool true,.int .i64 k,.pointer (some ⟨b,off+k*6,none⟩),.agg #[.int .i64 x.op,.int .i64 x.d,.int .i64 x.a,.int .i64 x.b,.int .i64 x.t,.int .i64 x.e],.agg #[.int .i64 x.op,.int .i64 x.d,.int .i64 x.a,.int .i64 x.b,.int .i64 x.t,.int .i64 x.e],.func (.func 110) #[] #[.pointer (some ⟨wr.heap.size+1+1,0,none⟩)],.int .i64 (m:Int),u22,u23,.slice (some ⟨w.heap.size+1,0,none⟩) ns.length ns.length,u25,u26,u27,u28,u29,u30,u31,u32,undef],defers:=[] }∧w'' =w1) (fun a' w'' h=>?_) ?_
       ·obtain ⟨rfl,rfl⟩:=h
        exact ⟨_,_,_,_,_,_,_,_,_,_,hsz', rfl,fun h=>e0 (by rwa [keep 0 (by omega)] at h),fun h=>e1 (by rwa [keep 1 (by omega)] at h),fun _=>rfl,fun h=>e3 (by rwa [keep 3 (by omega)] at h),fun h=>e4 (by rwa [keep 4 (by omega)] at h),fun h=>e5 (by rwa [keep 5 (by omega)] at h),fun h=>e6 (by rwa [keep 6 (by omega)] at h),fun h=>e7 (by rwa [keep 7 (by omega)] at h),fun h=>e8 (by rwa [keep 8 (by omega)] at h),fun h=>e9 (by rwa [keep 9 (by omega)] at h),Or.inr (Or.inr (Or.inl ⟨(keep 5 (by omega)).trans h5,(keep 6 (by omega)).trans h6,(keep 7 (by omega)).trans h7,(keep 8 (by omega)).trans h8,(keep 10 (by omega)).trans h10,rfl⟩))⟩
       ·go_simp
      ·rw [hall 2 (by omega)] at hl'; cases hl'
     | 3,_ =>
      simp at ho;subst ho
      clear hd
      rcases hw with ⟨h7,h8,h10,rfl⟩ | ⟨h6,h7,h8,h10,rfl⟩ | ⟨h5,h6,h7,h8,h10,hwe⟩ | ⟨hall,rfl⟩
      ·refine Oper.wpIn_mono (K:=fun a' w'' =>a' ={ tmps:=#[.agg #[.int .i64 r,.slice (some ⟨b,off,none⟩) ns.length cap],.pointer (some ⟨w.heap.size,0,none⟩),.slice none 0 0,.pointer (some ⟨w.heap.size+1+1,0,none⟩),.pointer (some ⟨wr.heap.size,0,none⟩),.pointer (some ⟨wr.heap.size+1,0,none⟩),.int .i64 (m:Int),.pointer (some ⟨w.heap.size,1,none⟩),.slice (some ⟨b,off,none⟩) ns.length cap,.int .i64 ns.length,.slice (some ⟨w.heap.size+1,0,none⟩) ns.length ns.length,.pointer (some ⟨w.heap.size,1,none⟩),.slice (some ⟨b,off,none⟩) ns.length cap,.int .i64 ns.length,.int .i64 k,.bool true,.int .i64 k,.pointer (some ⟨b,off+k*6,none⟩),.agg #[.int .i64 x.op,.int .i64 x.d,.int .i64 x.a,.int .i64 x.b,.int .i64 x.t,.int .i64 x.e],.agg #[.int .i64 x.op,.int .i64 x.d,.int .i64 x.a,.int .i64 x.b,.int .i64 x.t,.int .i64 x.e],.func (.func 110) #[] #[.pointer (some ⟨wr.heap.size+1+1,0,none⟩)],.int .i64 (m:Int),u22,u23,u24,.int .i64 (m:Int),u26,u27,u28,u29,u30,u31,u32,undef],defers:=[] }∧w'' =W.drew) (fun a' w'' h=>?_) ?_
       ·obtain ⟨rfl,rfl⟩:=h
        exact ⟨_,_,_,_,_,_,_,_,_,_,hsz', rfl,fun h=>e0 (by rwa [keep 0 (by omega)] at h),fun h=>e1 (by rwa [keep 1 (by omega)] at h),fun h=>e2 (by rwa [keep 2 (by omega)] at h),fun _=>rfl,fun h=>e4 (by rwa [keep 4 (by omega)] at h),fun h=>e5 (by rwa [keep 5 (by omega)] at h),fun h=>e6 (by rwa [keep 6 (by omega)] at h),fun h=>e7 (by rwa [keep 7 (by omega)] at h),fun h=>e8 (by rwa [keep 8 (by omega)] at h),fun h=>e9 (by rwa [keep 9 (by omega)] at h),Or.inl ⟨(keep 7 (by omega)).trans h7,(keep 8 (by omega)).trans h8,(keep 10 (by omega)).trans h10,rfl⟩⟩
       ·go_simp
      ·refine Oper.wpIn_mono (K:=fun a' w'' =>a' ={ tmps:=#[.agg #[.int .i64 r,.slice (some ⟨b,off,none⟩) ns.length cap],.pointer (some ⟨w.heap.size,0,none⟩),.slice none 0 0,.pointer (some ⟨w.heap.size+1+1,0,none⟩),.pointer (some ⟨wr.heap.size,0,none⟩),.pointer (some ⟨wr.heap.size+1,0,none⟩),.int .i64 (m:Int),.pointer (some ⟨w.heap.size,1,none⟩),.slice (some ⟨b,off,none⟩) ns.length cap,.int .i64 ns.length,.slice (some ⟨w.heap.size+1,0,none⟩) ns.length ns.length,.pointer (some ⟨w.heap.size,1,none⟩),.slice (some ⟨b,off,none⟩) ns.length cap,.int .i64 ns.length,.int .i64 k,.bool true,.int .i64 k,.pointer (some ⟨b,off+k*6,none⟩),.agg #[.int .i64 x.op,.int .i64 x.d,.int .i64 x.a,.int .i64 x.b,.int .i64 x.t,.int .i64 x.e],.agg #[.int .i64 x.op,.int .i64 x.d,.int .i64 x.a,.int .i64 x.b,.int .i64 x.t,.int .i64 x.e],.func (.func 110) #[] #[.pointer (some ⟨wr.heap.size+1+1,0,none⟩)],.int .i64 (m:Int),u22,u23,u24,.int .i64 (m:Int),u26,u27,u28,u29,u30,u31,u32,undef],defers:=[] }∧w'' =W.drew.alloc (.cells #[.int .i64 k] 3)) (fun a' w'' h=>?_) ?_
       ·obtain ⟨rfl,rfl⟩:=h
        exact ⟨_,_,_,_,_,_,_,_,_,_,hsz', rfl,fun h=>e0 (by rwa [keep 0 (by omega)] at h),fun h=>e1 (by rwa [keep 1 (by omega)] at h),fun h=>e2 (by rwa [keep 2 (by omega)] at h),fun _=>rfl,fun h=>e4 (by rwa [keep 4 (by omega)] at h),fun h=>e5 (by rwa [keep 5 (by omega)] at h),fun h=>e6 (by rwa [keep 6 (by omega)] at h),fun h=>e7 (by rwa [keep 7 (by omega)] at h),fun h=>e8 (by rwa [keep 8 (by omega)] at h),fun h=>e9 (by rwa [keep 9 (by omega)] at h),Or.inr (Or.inl ⟨(keep 6 (by omega)).trans h6,(keep 7 (by omega)).trans h7,(keep 8 (by omega)).trans h8,(keep 10 (by omega)).trans h10,rfl⟩)⟩
       ·go_simp
      ·obtain rfl:=hwe.symm
       refine Oper.wpIn_mono (K:=fun a' w'' =>a' ={ tmps:=#[.agg #[.int .i64 r,.slice (some ⟨b,off,none⟩) ns.length cap],.pointer (some ⟨w.heap.size,0,none⟩),.slice none 0 0,.pointer (some ⟨w.heap.size+1+1,0,none⟩),.pointer (some ⟨wr.heap.size,0,none⟩),.pointer (some ⟨wr.heap.size+1,0,none⟩),.int .i64 (m:Int),.pointer (some ⟨w.heap.size,1,none⟩),.slice (some ⟨b,off,none⟩) ns.length cap,.int .i64 ns.length,.slice (some ⟨w.heap.size+1,0,none⟩) ns.length ns.length,.pointer (some ⟨w.heap.size,1,none⟩),.slice (some ⟨b,off,none⟩) ns.length cap,.int .i64 ns.length,.int .i64 k,.bool true,.int .i64 k,.pointer (some ⟨b,off+k*6,none⟩),.agg #[.int .i64 x.op,.int .i64 x.d,.int .i64 x.a,.int .i64 x.b,.int .i64 x.t,.int .i64 x.e],.agg #[.int .i64 x.op,.int .i64 x.d,.int .i64 x.a,.int .i64 x.b,.int .i64 x.t,.int .i64 x.e],.func (.func 110) #[] #[.pointer (some ⟨wr.heap.size+1+1,0,none⟩)],.int .i64 (m:Int),u22,u23,u24,.int .i64 (m:Int),u26,u27,u28,u29,u30,u31,u32,undef],defers:=[] }∧w'' =w1) (fun a' w'' h=>?_) ?_
       ·obtain ⟨rfl,rfl⟩:=h
        exact ⟨_,_,_,_,_,_,_,_,_,_,hsz', rfl,fun h=>e0 (by rwa [keep 0 (by omega)] at h),fun h=>e1 (by rwa [keep 1 (by omega)] at h),fun h=>e2 (by rwa [keep 2 (by omega)] at h),fun _=>rfl,fun h=>e4 (by rwa [keep 4 (by omega)] at h),fun h=>e5 (by rwa [keep 5 (by omega)] at h),fun h=>e6 (by rwa [keep 6 (by omega)] at h),fun h=>e7 (by rwa [keep 7 (by omega)] at h),fun h=>e8 (by rwa [keep 8 (by omega)] at h),fun h=>e9 (by rwa [keep 9 (by omega)] at h),Or.inr (Or.inr (Or.inl ⟨(keep 5 (by omega)).trans h5,(keep 6 (by omega)).trans h6,(keep 7 (by omega)).trans h7,(keep 8 (by omega)).trans h8,(keep 10 (by omega)).trans h10,rfl⟩))⟩
       ·go_simp
      ·rw [hall 3 (by omega)] at hl'; cases hl'
     | 4,_ =>
      simp at ho;subst ho
      have d2:listed.getD 2 false=true:=hd ⟨2,.data⟩ (by simp) rfl
      have d3:listed.getD 3 false=true:=hd ⟨3,.data⟩ (by simp) rfl
      obtain rfl:=(e2 d2).symm
      obtain rfl:=(e3 d3).symm
      clear hd
      rcases hw with ⟨h7,h8,h10,rfl⟩ | ⟨h6,h7,h8,h10,rfl⟩ | ⟨h5,h6,h7,h8,h10,hwe⟩ | ⟨hall,rfl⟩
      ·refine Oper.wpIn_mono (K:=fun a' w'' =>a' ={ tmps:=#[.agg #[.int .i64 r,.slice (some ⟨b,off,none⟩) ns.length cap],.pointer (some ⟨w.heap.size,0,none⟩),.slice none 0 0,.pointer (some ⟨w.heap.size+1+1,0,none⟩),.pointer (some ⟨wr.heap.size,0,none⟩),.pointer (some ⟨wr.heap.size+1,0,none⟩),.int .i64 (m:Int),.pointer (some ⟨w.heap.size,1,none⟩),.slice (some ⟨b,off,none⟩) ns.length cap,.int .i64 ns.length,.slice (some ⟨w.heap.size+1,0,none⟩) ns.length ns.length,.pointer (some ⟨w.heap.size,1,none⟩),.slice (some ⟨b,off,none⟩) ns.length cap,.int .i64 ns.length,.int .i64 k,.bool true,.int .i64 k,.pointer (some ⟨b,off+k*6,none⟩),.agg #[.int .i64 x.op,.int .i64 x.d,.int .i64 x.a,.int .i64 x.b,.int .i64 x.t,.int .i64 x.e],.agg #[.int .i64 x.op,.int .i64 x.d,.int .i64 x.a,.int .i64 x.b,.int .i64 x.t,.int .i64 x.e],.func (.func 110) #[] #[.pointer (some ⟨wr.heap.size+1+1,0,none⟩)],.int .i64 (m:Int),u22,u23,.slice (some ⟨w.heap.size+1,0,none⟩) ns.length ns.length,.int .i64 (m:Int),.pointer (some ⟨w.heap.size+1,m,none⟩),u27,u28,u29,u30,u31,u32,undef],defers:=[] }∧w'' =W.drew) (fun a' w'' h=>?_) ?_
       ·obtain ⟨rfl,rfl⟩:=h
        exact ⟨_,_,_,_,_,_,_,_,_,_,hsz', rfl,fun h=>e0 (by rwa [keep 0 (by omega)] at h),fun h=>e1 (by rwa [keep 1 (by omega)] at h),fun _=>rfl,fun _=>rfl,fun _=>rfl,fun h=>e5 (by rwa [keep 5 (by omega)] at h),fun h=>e6 (by rwa [keep 6 (by omega)] at h),fun h=>e7 (by rwa [keep 7 (by omega)] at h),fun h=>e8 (by rwa [keep 8 (by omega)] at h),fun h=>e9 (by rwa [keep 9 (by omega)] at h),Or.inl ⟨(keep 7 (by omega)).trans h7,(keep 8 (by omega)).trans h8,(keep 10 (by omega)).trans h10,rfl⟩⟩
       ·go_simp
      ·refine Oper.wpIn_mono (K:=fun a' w'' =>a' ={ tmps:=#[.agg #[.int .i64 r,.slice (some ⟨b,off,none⟩) ns.length cap],.pointer (some ⟨w.heap.size,0,none⟩),.slice none 0 0,.pointer (some ⟨w.heap.size+1+1,0,none⟩),.pointer (some ⟨wr.heap.size,0,none⟩),.pointer (some ⟨wr.heap.size+1,0,none⟩),.int .i64 (m:Int),.pointer (some ⟨w.heap.size,1,none⟩),.slice (some ⟨b,off,none⟩) ns.length cap,.int .i64 ns.length,.slice (some ⟨w.heap.size+1,0,none⟩) ns.length ns.length,.pointer (some ⟨w.heap.size,1,none⟩),.slice (some ⟨b,off,none⟩) ns.length cap,.int .i64 ns.length,.int .i64 k,.bool true,.int .i64 k,.pointer (some ⟨b,off+k*6,none⟩),.agg #[.int .i64 x.op,.int .i64 x.d,.int .i64 x.a,.int .i64 x.b,.int .i64 x.t,.int .i64 x.e],.agg #[.int .i64 x.op,.int .i64 x.d,.int .i64 x.a,.int .i64 x.b,.int .i64 x.t,.int .i64 x.e],.func (.func 110) #[] #[.pointer (some ⟨wr.heap.size+1+1,0,none⟩)],.int .i64 (m:Int),u22,u23,.slice (some ⟨w.heap.size+1,0,none⟩) ns.length ns.length,.int .i64 (m:Int),.pointer (some ⟨w.heap.size+1,m,none⟩),u27,u28,u29,u30,u31,u32,undef],defers:=[] }∧w'' =W.drew.alloc (.cells #[.int .i64 k] 3)) (fun a' w'' h=>?_) ?_
       ·obtain ⟨rfl,rfl⟩:=h
        exact ⟨_,_,_,_,_,_,_,_,_,_,hsz', rfl,fun h=>e0 (by rwa [keep 0 (by omega)] at h),fun h=>e1 (by rwa [keep 1 (by omega)] at h),fun _=>rfl,fun _=>rfl,fun _=>rfl,fun h=>e5 (by rwa [keep 5 (by omega)] at h),fun h=>e6 (by rwa [keep 6 (by omega)] at h),fun h=>e7 (by rwa [keep 7 (by omega)] at h),fun h=>e8 (by rwa [keep 8 (by omega)] at h),fun h=>e9 (by rwa [keep 9 (by omega)] at h),Or.inr (Or.inl ⟨(keep 6 (by omega)).trans h6,(keep 7 (by omega)).trans h7,(keep 8 (by omega)).trans h8,(keep 10 (by omega)).trans h10,rfl⟩)⟩
       ·go_simp
      ·obtain rfl:=hwe.symm
       refine Oper.wpIn_mono (K:=fun a' w'' =>a' ={ tmps:=#[.agg #[.int .i64 r,.slice (some ⟨b,off,none⟩) ns.length cap],.pointer (some ⟨w.heap.size,0,none⟩),.slice none 0 0,.pointer (some ⟨w.heap.size+1+1,0,none⟩),.pointer (some ⟨wr.heap.size,0,none⟩),.pointer (some ⟨wr.heap.size+1,0,none⟩),.int .i64 (m:Int),.pointer (some ⟨w.heap.size,1,none⟩),.slice (some ⟨b,off,none⟩) ns.length cap,.int .i64 ns.length,.slice (some ⟨w.heap.size+1,0,none⟩) ns.length ns.length,.pointer (some ⟨w.heap.size,1,none⟩),.slice (some ⟨b,off,none⟩) ns.length cap,.int .i64 ns.length,.int .i64 k,.bool true,.int .i64 k,.pointer (some ⟨b,off+k*6,none⟩),.agg #[.int .i64 x.op,.int .i64 x.d,.int .i64 x.a,.int .i64 x.b,.int .i64 x.t,.int .i64 x.e],.agg #[.int .i64 x.op,.int .i64 x.d,.int .i64 x.a,.int .i64 x.b,.int .i64 x.t,.int .i64 x.e],.func (.func 110) #[] #[.pointer (some ⟨wr.heap.size+1+1,0,none⟩)],.int .i64 (m:Int),u22,u23,.slice (some ⟨w.heap.size+1,0,none⟩) ns.length ns.length,.int .i64 (m:Int),.pointer (some ⟨w.heap.size+1,m,none⟩),u27,u28,u29,u30,u31,u32,undef],defers:=[] }∧w'' =w1) (fun a' w'' h=>?_) ?_
       ·obtain ⟨rfl,rfl⟩:=h
        exact ⟨_,_,_,_,_,_,_,_,_,_,hsz', rfl,fun h=>e0 (by rwa [keep 0 (by omega)] at h),fun h=>e1 (by rwa [keep 1 (by omega)] at h),fun _=>rfl,fun _=>rfl,fun _=>rfl,fun h=>e5 (by rwa [keep 5 (by omega)] at h),fun h=>e6 (by rwa [keep 6 (by omega)] at h),fun h=>e7 (by rwa [keep 7 (by omega)] at h),fun h=>e8 (by rwa [keep 8 (by omega)] at h),fun h=>e9 (by rwa [keep 9 (by omega)] at h),Or.inr (Or.inr (Or.inl ⟨(keep 5 (by omega)).trans h5,(keep 6 (by omega)).trans h6,(keep 7 (by omega)).trans h7,(keep 8 (by omega)).trans h8,(keep 10 (by omega)).trans h10,rfl⟩))⟩
       ·go_simp
      ·rw [hall 4 (by omega)] at hl'; cases hl'
     | 5,_ =>
      simp at ho;subst ho
      have d4:listed.getD 4 false=true:=hd ⟨4,.data⟩ (by simp) rfl
      obtain rfl:=(e4 d4).symm
      clear hd
      rcases hw with ⟨h7,h8,h10,rfl⟩ | ⟨h6,h7,h8,h10,rfl⟩ | ⟨h5,h6,h7,h8,h10,hwe⟩ | ⟨hall,rfl⟩
      ·refine Oper.wpIn_mono (K:=fun a' w'' =>a' ={ tmps:=#[.agg #[.int .i64 r,.slice (some ⟨b,off,none⟩) ns.length cap],.pointer (some ⟨w.heap.size,0,none⟩),.slice none 0 0,.pointer (some ⟨w.heap.size+1+1,0,none⟩),.pointer (some ⟨wr.heap.size,0,none⟩),.pointer (some ⟨wr.heap.size+1,0,none⟩),.int .i64 (m:Int),.pointer (some ⟨w.heap.size,1,none⟩),.slice (some ⟨b,off,none⟩) ns.length cap,.int .i64 ns.length,.slice (some ⟨w.heap.size+1,0,none⟩) ns.length ns.length,.pointer (some ⟨w.heap.size,1,none⟩),.slice (some ⟨b,off,none⟩) ns.length cap,.int .i64 ns.length,.int .i64 k,.bool true,.int .i64 k,.pointer (some ⟨b,off+k*6,none⟩),.agg #[.int .i64 x.op,.int .i64 x.d,.int .i64 x.a,.int .i64 x.b,.int .i64 x.t,.int .i64 x.e],.agg #[.int .i64 x.op,.int .i64 x.d,.int .i64 x.a,.int .i64 x.b,.int .i64 x.t,.int .i64 x.e],.func (.func 110) #[] #[.pointer (some ⟨wr.heap.size+1+1,0,none⟩)],.int .i64 (m:Int),u22,u23,u24,u25,.pointer (some ⟨w.heap.size+1,m,none⟩),v,u28,u29,u30,u31,u32,undef],defers:=[] }∧w'' =W.drew) (fun a' w'' h=>?_) ?_
       ·obtain ⟨rfl,rfl⟩:=h
        exact ⟨_,_,_,_,_,_,_,_,_,_,hsz', rfl,fun h=>e0 (by rwa [keep 0 (by omega)] at h),fun h=>e1 (by rwa [keep 1 (by omega)] at h),fun h=>e2 (by rwa [keep 2 (by omega)] at h),fun h=>e3 (by rwa [keep 3 (by omega)] at h),fun _=>rfl,fun _=>rfl,fun h=>e6 (by rwa [keep 6 (by omega)] at h),fun h=>e7 (by rwa [keep 7 (by omega)] at h),fun h=>e8 (by rwa [keep 8 (by omega)] at h),fun h=>e9 (by rwa [keep 9 (by omega)] at h),Or.inl ⟨(keep 7 (by omega)).trans h7,(keep 8 (by omega)).trans h8,(keep 10 (by omega)).trans h10,rfl⟩⟩
       ·go_simp
      ·refine Oper.wpIn_mono (K:=fun a' w'' =>a' ={ tmps:=#[.agg #[.int .i64 r,.slice (some ⟨b,off,none⟩) ns.length cap],.pointer (some ⟨w.heap.size,0,none⟩),.slice none 0 0,.pointer (some ⟨w.heap.size+1+1,0,none⟩),.pointer (some ⟨wr.heap.size,0,none⟩),.pointer (some ⟨wr.heap.size+1,0,none⟩),.int .i64 (m:Int),.pointer (some ⟨w.heap.size,1,none⟩),.slice (some ⟨b,off,none⟩) ns.length cap,.int .i64 ns.length,.slice (some ⟨w.heap.size+1,0,none⟩) ns.length ns.length,.pointer (some ⟨w.heap.size,1,none⟩),.slice (some ⟨b,off,none⟩) ns.length cap,.int .i64 ns.length,.int .i64 k,.bool true,.int .i64 k,.pointer (some ⟨b,off+k*6,none⟩),.agg #[.int .i64 x.op,.int .i64 x.d,.int .i64 x.a,.int .i64 x.b,.int .i64 x.t,.int .i64 x.e],.agg #[.int .i64 x.op,.int .i64 x.d,.int .i64 x.a,.int .i64 x.b,.int .i64 x.t,.int .i64 x.e],.func (.func 110) #[] #[.pointer (some ⟨wr.heap.size+1+1,0,none⟩)],.int .i64 (m:Int),u22,u23,u24,u25,.pointer (some ⟨w.heap.size+1,m,none⟩),v,u28,u29,u30,u31,u32,undef],defers:=[] }∧w'' =W.drew.alloc (.cells #[.int .i64 k] 3)) (fun a' w'' h=>?_) ?_
       ·obtain ⟨rfl,rfl⟩:=h
        exact ⟨_,_,_,_,_,_,_,_,_,_,hsz', rfl,fun h=>e0 (by rwa [keep 0 (by omega)] at h),fun h=>e1 (by rwa [keep 1 (by omega)] at h),fun h=>e2 (by rwa [keep 2 (by omega)] at h),fun h=>e3 (by rwa [keep 3 (by omega)] at h),fun _=>rfl,fun _=>rfl,fun h=>e6 (by rwa [keep 6 (by omega)] at h),fun h=>e7 (by rwa [keep 7 (by omega)] at h),fun h=>e8 (by rwa [keep 8 (by omega)] at h),fun h=>e9 (by rwa [keep 9 (by omega)] at h),Or.inr (Or.inl ⟨(keep 6 (by omega)).trans h6,(keep 7 (by omega)).trans h7,(keep 8 (by omega)).trans h8,(keep 10 (by omega)).trans h10,rfl⟩)⟩
       ·go_simp
      ·rw [h5] at hl'; cases hl'
      ·rw [hall 5 (by omega)] at hl'; cases hl'
     | 6,_ =>
      simp at ho;subst ho
      clear hd
      rcases hw with ⟨h7,h8,h10,rfl⟩ | ⟨h6,h7,h8,h10,rfl⟩ | ⟨h5,h6,h7,h8,h10,hwe⟩ | ⟨hall,rfl⟩
      ·refine Oper.wpIn_mono (K:=fun a' w'' =>a' ={ tmps:=#[.agg #[.int .i64 r,.slice (some ⟨b,off,none⟩) ns.length cap],.pointer (some ⟨w.heap.size,0,none⟩),.slice none 0 0,.pointer (some ⟨w.heap.size+1+1,0,none⟩),.pointer (some ⟨wr.heap.size,0,none⟩),.pointer (some ⟨wr.heap.size+1,0,none⟩),.int .i64 (m:Int),.pointer (some ⟨w.heap.size,1,none⟩),.slice (some ⟨b,off,none⟩) ns.length cap,.int .i64 ns.length,.slice (some ⟨w.heap.size+1,0,none⟩) ns.length ns.length,.pointer (some ⟨w.heap.size,1,none⟩),.slice (some ⟨b,off,none⟩) ns.length cap,.int .i64 ns.length,.int .i64 k,.bool true,.int .i64 k,.pointer (some ⟨b,off+k*6,none⟩),.agg #[.int .i64 x.op,.int .i64 x.d,.int .i64 x.a,.int .i64 x.b,.int .i64 x.t,.int .i64 x.e],.agg #[.int .i64 x.op,.int .i64 x.d,.int .i64 x.a,.int .i64 x.b,.int .i64 x.t,.int .i64 x.e],.func (.func 110) #[] #[.pointer (some ⟨wr.heap.size+1+1,0,none⟩)],.int .i64 (m:Int),u22,u23,u24,u25,u26,u27,.int .i64 (k:Int),u29,u30,u31,u32,undef],defers:=[] }∧w'' =W.drew) (fun a' w'' h=>?_) ?_
       ·obtain ⟨rfl,rfl⟩:=h
        exact ⟨_,_,_,_,_,_,_,_,_,_,hsz', rfl,fun h=>e0 (by rwa [keep 0 (by omega)] at h),fun h=>e1 (by rwa [keep 1 (by omega)] at h),fun h=>e2 (by rwa [keep 2 (by omega)] at h),fun h=>e3 (by rwa [keep 3 (by omega)] at h),fun h=>e4 (by rwa [keep 4 (by omega)] at h),fun h=>e5 (by rwa [keep 5 (by omega)] at h),fun _=>rfl,fun h=>e7 (by rwa [keep 7 (by omega)] at h),fun h=>e8 (by rwa [keep 8 (by omega)] at h),fun h=>e9 (by rwa [keep 9 (by omega)] at h),Or.inl ⟨(keep 7 (by omega)).trans h7,(keep 8 (by omega)).trans h8,(keep 10 (by omega)).trans h10,rfl⟩⟩
       ·go_simp
      ·rw [h6] at hl'; cases hl'
      ·rw [h6] at hl'; cases hl'
      ·rw [hall 6 (by omega)] at hl'; cases hl'
     | 7,_ =>
      simp at ho;subst ho
      have d6:listed.getD 6 false=true:=hd ⟨6,.data⟩ (by simp) rfl
      obtain rfl:=(e6 d6).symm
      clear hd
      rcases hw with ⟨h7,h8,h10,rfl⟩ | ⟨h6,h7,h8,h10,rfl⟩ | ⟨h5,h6,h7,h8,h10,hwe⟩ | ⟨hall,rfl⟩
      ·refine Oper.wpIn_mono (K:=fun a' w'' =>a' ={ tmps:=#[.agg #[.int .i64 r,.slice (some ⟨b,off,none⟩) ns.length cap],.pointer (some ⟨w.heap.size,0,none⟩),.slice none 0 0,.pointer (some ⟨w.heap.size+1+1,0,none⟩),.pointer (some ⟨wr.heap.size,0,none⟩),.pointer (some ⟨wr.heap.size+1,0,none⟩),.int .i64 (m:Int),.pointer (some ⟨w.heap.size,1,none⟩),.slice (some ⟨b,off,none⟩) ns.length cap,.int .i64 ns.length,.slice (some ⟨w.heap.size+1,0,none⟩) ns.length ns.length,.pointer (some ⟨w.heap.size,1,none⟩),.slice (some ⟨b,off,none⟩) ns.length cap,.int .i64 ns.length,.int .i64 k,.bool true,.int .i64 k,.pointer (some ⟨b,off+k*6,none⟩),.agg #[.int .i64 x.op,.int .i64 x.d,.int .i64 x.a,.int .i64 x.b,.int .i64 x.t,.int .i64 x.e],.agg #[.int .i64 x.op,.int .i64 x.d,.int .i64 x.a,.int .i64 x.b,.int .i64 x.t,.int .i64 x.e],.func (.func 110) #[] #[.pointer (some ⟨wr.heap.size+1+1,0,none⟩)],.int .i64 (m:Int),u22,u23,u24,u25,u26,u27,.int .i64 (k:Int),.slice (some ⟨W.heap.size,0,none⟩) 1 1,u30,u31,u32,undef],defers:=[] }∧w'' =W.drew.alloc (.cells #[.int .i64 k] 3)) (fun a' w'' h=>?_) ?_
       ·obtain ⟨rfl,rfl⟩:=h
        exact ⟨_,_,_,_,_,_,_,_,_,_,hsz', rfl,fun h=>e0 (by rwa [keep 0 (by omega)] at h),fun h=>e1 (by rwa [keep 1 (by omega)] at h),fun h=>e2 (by rwa [keep 2 (by omega)] at h),fun h=>e3 (by rwa [keep 3 (by omega)] at h),fun h=>e4 (by rwa [keep 4 (by omega)] at h),fun h=>e5 (by rwa [keep 5 (by omega)] at h),fun _=>rfl,fun _=>rfl,fun h=>e8 (by rwa [keep 8 (by omega)] at h),fun h=>e9 (by rwa [keep 9 (by omega)] at h),Or.inr (Or.inl ⟨(keep 6 (by omega)).trans d6,sett,(keep 8 (by omega)).trans h8,(keep 10 (by omega)).trans h10,rfl⟩)⟩
       ·go_simp
      ·rw [h7] at hl'; cases hl'
      ·rw [h7] at hl'; cases hl'
      ·rw [hall 7 (by omega)] at hl'; cases hl'
     | 8,_ =>
      simp at ho;subst ho
      have d5:listed.getD 5 false=true:=hd ⟨5,.data⟩ (by simp) rfl
      have d7:listed.getD 7 false=true:=hd ⟨7,.data⟩ (by simp) rfl
      obtain rfl:=(e5 d5).symm
      obtain rfl:=(e7 d7).symm
      clear hd
      rcases hw with ⟨h7,h8,h10,rfl⟩ | ⟨h6,h7,h8,h10,rfl⟩ | ⟨h5,h6,h7,h8,h10,hwe⟩ | ⟨hall,rfl⟩
      ·rw [d7] at h7;cases h7
      ·refine Oper.wpIn_mono (K:=fun a' w'' =>a' ={ tmps:=#[.agg #[.int .i64 r,.slice (some ⟨b,off,none⟩) ns.length cap],.pointer (some ⟨w.heap.size,0,none⟩),.slice none 0 0,.pointer (some ⟨w.heap.size+1+1,0,none⟩),.pointer (some ⟨wr.heap.size,0,none⟩),.pointer (some ⟨wr.heap.size+1,0,none⟩),.int .i64 (m:Int),.pointer (some ⟨w.heap.size,1,none⟩),.slice (some ⟨b,off,none⟩) ns.length cap,.int .i64 ns.length,.slice (some ⟨w.heap.size+1,0,none⟩) ns.length ns.length,.pointer (some ⟨w.heap.size,1,none⟩),.slice (some ⟨b,off,none⟩) ns.length cap,.int .i64 ns.length,.int .i64 k,.bool true,.int .i64 k,.pointer (some ⟨b,off+k*6,none⟩),.agg #[.int .i64 x.op,.int .i64 x.d,.int .i64 x.a,.int .i64 x.b,.int .i64 x.t,.int .i64 x.e],.agg #[.int .i64 x.op,.int .i64 x.d,.int .i64 x.a,.int .i64 x.b,.int .i64 x.t,.int .i64 x.e],.func (.func 110) #[] #[.pointer (some ⟨wr.heap.size+1+1,0,none⟩)],.int .i64 (m:Int),u22,u23,u24,u25,u26,v,u28,.slice (some ⟨W.heap.size,0,none⟩) 1 1,.slice (some ⟨g,0,none⟩) (N0+1) cap1,u31,u32,undef],defers:=[] }∧w'' =w1) (fun a' w'' h=>?_) ?_
       ·obtain ⟨rfl,rfl⟩:=h
        exact ⟨_,_,_,_,_,_,_,_,_,_,hsz', rfl,fun h=>e0 (by rwa [keep 0 (by omega)] at h),fun h=>e1 (by rwa [keep 1 (by omega)] at h),fun h=>e2 (by rwa [keep 2 (by omega)] at h),fun h=>e3 (by rwa [keep 3 (by omega)] at h),fun h=>e4 (by rwa [keep 4 (by omega)] at h),fun _=>rfl,fun h=>e6 (by rwa [keep 6 (by omega)] at h),fun _=>rfl,fun _=>rfl,fun h=>e9 (by rwa [keep 9 (by omega)] at h),Or.inr (Or.inr (Or.inl ⟨(keep 5 (by omega)).trans d5,(keep 6 (by omega)).trans h6,(keep 7 (by omega)).trans h7,sett,(keep 10 (by omega)).trans h10,rfl⟩))⟩
       ·go_simp
      ·rw [h8] at hl'; cases hl'
      ·rw [hall 8 (by omega)] at hl'; cases hl'
     | 9,_ =>
      simp at ho;subst ho
      have d0:listed.getD 0 false=true:=hd ⟨0,.phase⟩ (by simp) rfl
      have d1:listed.getD 1 false=true:=hd ⟨1,.phase⟩ (by simp) rfl
      have d2:listed.getD 2 false=true:=hd ⟨2,.phase⟩ (by simp) rfl
      have d3:listed.getD 3 false=true:=hd ⟨3,.phase⟩ (by simp) rfl
      have d4:listed.getD 4 false=true:=hd ⟨4,.phase⟩ (by simp) rfl
      have d5:listed.getD 5 false=true:=hd ⟨5,.phase⟩ (by simp) rfl
      have d6:listed.getD 6 false=true:=hd ⟨6,.phase⟩ (by simp) rfl
      have d7:listed.getD 7 false=true:=hd ⟨7,.phase⟩ (by simp) rfl
      have d8:listed.getD 8 false=true:=hd ⟨8,.phase⟩ (by simp) rfl
      obtain rfl:=(e0 d0).symm
      obtain rfl:=(e1 d1).symm
      obtain rfl:=(e2 d2).symm
      obtain rfl:=(e3 d3).symm
      obtain rfl:=(e4 d4).symm
      obtain rfl:=(e5 d5).symm
      obtain rfl:=(e6 d6).symm
      obtain rfl:=(e7 d7).symm
      obtain rfl:=(e8 d8).symm
      clear hd
      rcases hw with ⟨h7,h8,h10,rfl⟩ | ⟨h6,h7,h8,h10,rfl⟩ | ⟨h5,h6,h7,h8,h10,hwe⟩ | ⟨hall,rfl⟩
      ·rw [d8] at h8;cases h8
      ·rw [d8] at h8;cases h8
      ·obtain rfl:=hwe.symm
       refine Oper.wpIn_mono (K:=fun a' w'' =>a' ={ tmps:=#[.agg #[.int .i64 r,.slice (some ⟨b,off,none⟩) ns.length cap],.pointer (some ⟨w.heap.size,0,none⟩),.slice none 0 0,.pointer (some ⟨w.heap.size+1+1,0,none⟩),.pointer (some ⟨wr.heap.size,0,none⟩),.pointer (some ⟨wr.heap.size+1,0,none⟩),.int .i64 (m:Int),.pointer (some ⟨w.heap.size,1,none⟩),.slice (some ⟨b,off,none⟩) ns.length cap,.int .i64 ns.length,.slice (some ⟨w.heap.size+1,0,none⟩) ns.length ns.length,.pointer (some ⟨w.heap.size,1,none⟩),.slice (some ⟨b,off,none⟩) ns.length cap,.int .i64 ns.length,.int .i64 k,.bool true,.int .i64 k,.pointer (some ⟨b,off+k*6,none⟩),.agg #[.int .i64 x.op,.int .i64 x.d,.int .i64 x.a,.int .i64 x.b,.int .i64 x.t,.int .i64 x.e],.agg #[.int .i64 x.op,.int .i64 x.d,.int .i64 x.a,.int .i64 x.b,.int .i64 x.t,.int .i64 x.e],.func (.func 110) #[] #[.pointer (some ⟨wr.heap.size+1+1,0,none⟩)],.int .i64 (m:Int),.slice (some ⟨w.heap.size+1,0,none⟩) ns.length ns.length,.int .i64 (m:Int),.slice (some ⟨w.heap.size+1,0,none⟩) ns.length ns.length,.int .i64 (m:Int),.pointer (some ⟨w.heap.size+1,m,none⟩),v,.int .i64 (k:Int),.slice (some ⟨W.heap.size,0,none⟩) 1 1,.slice (some ⟨g,0,none⟩) (N0+1) cap1,.pointer (some ⟨w.heap.size+1,m,none⟩),u32,undef],defers:=[] }∧w'' =w1) (fun a' w'' h=>?_) ?_
       ·obtain ⟨rfl,rfl⟩:=h
        exact ⟨_,_,_,_,_,_,_,_,_,_,hsz', rfl,fun _=>rfl,fun _=>rfl,fun _=>rfl,fun _=>rfl,fun _=>rfl,fun _=>rfl,fun _=>rfl,fun _=>rfl,fun _=>rfl,fun _=>rfl,Or.inr (Or.inr (Or.inl ⟨(keep 5 (by omega)).trans h5,(keep 6 (by omega)).trans h6,(keep 7 (by omega)).trans h7,(keep 8 (by omega)).trans h8,(keep 10 (by omega)).trans h10,rfl⟩))⟩
       ·go_simp
      ·rw [hall 9 (by omega)] at hl'; cases hl'
     | 10,_ =>
      simp at ho;subst ho
      have d0:listed.getD 0 false=true:=hd ⟨0,.phase⟩ (by simp) rfl
      have d1:listed.getD 1 false=true:=hd ⟨1,.phase⟩ (by simp) rfl
      have d2:listed.getD 2 false=true:=hd ⟨2,.phase⟩ (by simp) rfl
      have d3:listed.getD 3 false=true:=hd ⟨3,.phase⟩ (by simp) rfl
      have d4:listed.getD 4 false=true:=hd ⟨4,.phase⟩ (by simp) rfl
      have d5:listed.getD 5 false=true:=hd ⟨5,.phase⟩ (by simp) rfl
      have d6:listed.getD 6 false=true:=hd ⟨6,.phase⟩ (by simp) rfl
      have d7:listed.getD 7 false=true:=hd ⟨7,.phase⟩ (by simp) rfl
      have d8:listed.getD 8 false=true:=hd ⟨8,.phase⟩ (by simp) rfl
      have d9:listed.getD 9 false=true:=hd ⟨9,.data⟩ (by simp) rfl
      obtain rfl:=(e0 d0).symm
      obtain rfl:=(e1 d1).symm
      obtain rfl:=(e2 d2).symm
      obtain rfl:=(e3 d3).symm
      obtain rfl:=(e4 d4).symm
      obtain rfl:=(e5 d5).symm
      obtain rfl:=(e6 d6).symm
      obtain rfl:=(e7 d7).symm
      obtain rfl:=(e8 d8).symm
      obtain rfl:=(e9 d9).symm
      clear hd
      rcases hw with ⟨h7,h8,h10,rfl⟩ | ⟨h6,h7,h8,h10,rfl⟩ | ⟨h5,h6,h7,h8,h10,hwe⟩ | ⟨hall,rfl⟩
      ·rw [d8] at h8;cases h8
      ·rw [d8] at h8;cases h8
      ·obtain rfl:=hwe.symm
       refine Oper.wpIn_mono (K:=fun a' w'' =>a' ={ tmps:=#[.agg #[.int .i64 r,.slice (some ⟨b,off,none⟩) ns.length cap],.pointer (some ⟨w.heap.size,0,none⟩),.slice none 0 0,.pointer (some ⟨w.heap.size+1+1,0,none⟩),.pointer (some ⟨wr.heap.size,0,none⟩),.pointer (some ⟨wr.heap.size+1,0,none⟩),.int .i64 (m:Int),.pointer (some ⟨w.heap.size,1,none⟩),.slice (some ⟨b,off,none⟩) ns.length cap,.int .i64 ns.length,.slice (some ⟨w.heap.size+1,0,none⟩) ns.length ns.length,.pointer (some ⟨w.heap.size,1,none⟩),.slice (some ⟨b,off,none⟩) ns.length cap,.int .i64 ns.length,.int .i64 k,.bool true,.int .i64 k,.pointer (some ⟨b,off+k*6,none⟩),.agg #[.int .i64 x.op,.int .i64 x.d,.int .i64 x.a,.int .i64 x.b,.int .i64 x.t,.int .i64 x.e],.agg #[.int .i64 x.op,.int .i64 x.d,.int .i64 x.a,.int .i64 x.b,.int .i64 x.t,.int .i64 x.e],.func (.func 110) #[] #[.pointer (some ⟨wr.heap.size+1+1,0,none⟩)],.int .i64 (m:Int),.slice (some ⟨w.heap.size+1,0,none⟩) ns.length ns.length,.int .i64 (m:Int),.slice (some ⟨w.heap.size+1,0,none⟩) ns.length ns.length,.int .i64 (m:Int),.pointer (some ⟨w.heap.size+1,m,none⟩),v,.int .i64 (k:Int),.slice (some ⟨W.heap.size,0,none⟩) 1 1,.slice (some ⟨g,0,none⟩) (N0+1) cap1,.pointer (some ⟨w.heap.size+1,m,none⟩),u32,undef],defers:=[] }∧w'' =w1.setCell ⟨w.heap.size+1,m,none⟩ (.slice (some ⟨g,0,none⟩) (N0+1) cap1)) (fun a' w'' h=>?_) ?_
       ·obtain ⟨rfl,rfl⟩:=h
        refine ⟨_,_,_,_,_,_,_,_,_,_,hsz', rfl,fun _=>rfl,fun _=>rfl,fun _=>rfl,fun _=>rfl,fun _=>rfl,fun _=>rfl,fun _=>rfl,fun _=>rfl,fun _=>rfl,fun _=>rfl,Or.inr (Or.inr (Or.inr ⟨fun j hj=>?_,rfl⟩))⟩
        match j,hj with
        | 0,_=>exact (keep 0 (by omega)).trans d0
        | 1,_=>exact (keep 1 (by omega)).trans d1
        | 2,_=>exact (keep 2 (by omega)).trans d2
        | 3,_=>exact (keep 3 (by omega)).trans d3
        | 4,_=>exact (keep 4 (by omega)).trans d4
        | 5,_=>exact (keep 5 (by omega)).trans d5
        | 6,_=>exact (keep 6 (by omega)).trans d6
        | 7,_=>exact (keep 7 (by omega)).trans d7
        | 8,_=>exact (keep 8 (by omega)).trans d8
        | 9,_=>exact (keep 9 (by omega)).trans d9
        | 10,_=>exact sett
       ·go_simp
      ·rw [hall 10 (by omega)] at hl'; cases hl'
    case h1 =>
     rintro listed a w' ⟨_,_,_,_,_,_,_,_,_,_,hsz,rfl,_,_,_,_,_,_,_,_,_,_,hw⟩ hall
     rcases hw with ⟨h7,_⟩ | ⟨_,_,h8,_⟩ | ⟨_,_,_,_,h10,_⟩ | ⟨_,rfl⟩
     ·rw [hall 7 (by decide)] at h7;cases h7
     ·rw [hall 8 (by decide)] at h8;cases h8
     ·rw [hall 10 (by decide)] at h10;cases h10
     have hown:=HW.out
     have hgrow:=HG.out
     have hvs:=HV.out
     have hv:=HH.out
     have hrowc:∀ (j:Nat) (o:Obj),v.ownBlock=some j→(W.drew.alloc (.cells #[.int .i64 k] 3)).heap[j]?=some o→w.heap.size≤j∧∃ cur,o=.cells cur 3 (0,0):=by
      intro j o ej hj
      rcases hown.2 with ⟨rfl,_⟩ | ⟨g', cap', cur', rfl,hb', hgb,_⟩
      ·simp [Value.ownBlock] at ej
      ·obtain rfl:g' =j:=by simpa [Value.ownBlock] using ej
       rw [Below.heap_alloc W.drew _ _ (Array.getElem?_eq_some_iff.1 hgb).1] at hj
       rw [show W.drew.heap[g']?=W.heap[g']? from rfl,hgb] at hj
       cases hj
       exact ⟨hb', _,rfl⟩
     have hbA:Below W.heap.size W (W.drew.alloc (.cells #[.int .i64 k] 3)):=(Below.refl _ W).drew.alloc (Nat.le_refl _) _
     have hsA:W.heap.size≤(W.drew.alloc (.cells #[.int .i64 k] 3)).heap.size:=hbA.size
     have hlive:∀ j,v.ownBlock=some j→∃ o,(W.drew.alloc (.cells #[.int .i64 k] 3)).heap[j]?=some o:=fun j ej=>by
      have:=(hown.lt j ej).2
      exact ⟨_,Array.getElem?_eq_getElem (by omega)⟩
     have hKO:KeepsOthers W (w1.setCell ⟨w.heap.size+1,m,none⟩ (.slice (some ⟨g,0,none⟩) (N0+1) cap1)):=by
      refine ((KeepsOthers.drew W).trans (KeepsOthers.alloc W.drew _)).trans ((KeepsOthers.of_grownBy hgrow fun j o ej hj=>?_).trans (KeepsOthers.setCell _ _ _))
      obtain ⟨_,cur,rfl⟩:=hrowc j o ej hj
      rfl
     have hgB:∀ j,v.ownBlock=some j→w.heap.size≤j:=fun j ej=>by
      obtain ⟨o,ho⟩:=hlive j ej
      exact (hrowc j o ej ho).1
     have hBf:Below w.heap.size W (w1.setCell ⟨w.heap.size+1,m,none⟩ (.slice (some ⟨g,0,none⟩) (N0+1) cap1)) :=
      ((hbA.mono (by omega)).grown hgrow (by omega) hgB).setCell (p:=⟨w.heap.size+1,m,none⟩) (by simp) _
     have hKT:KT (wr.heap.size+1+1) W (w1.setCell ⟨w.heap.size+1,m,none⟩ (.slice (some ⟨g,0,none⟩) (N0+1) cap1)):=by
      refine ((KT.of_below hbA HB3.out.lt).trans (KT.grown hgrow (by have:=HB3.out.lt;omega) fun j ej=>?_)).trans (KT.setCell HR1.out (by decide) (by omega) _)
      obtain ⟨o,ho⟩:=hlive j ej
      obtain ⟨_,cur,rfl⟩:=hrowc j o ej ho
      exact ⟨fun e=>owns_ne_ty hown HB3.out (by decide) (by rw [ej,e]),_,_,_,ho,by decide⟩
     have hrw:RowsAt (w1.setCell ⟨w.heap.size+1,m,none⟩ (.slice (some ⟨g,0,none⟩) (N0+1) cap1)) w.heap.size (w.heap.size+1) ns.length (vs.set m (.slice (some ⟨g,0,none⟩) (N0+1) cap1)) (rowsAt ns k ((pre++[y]).map (·.1))):=by
      have e1:rowsAt ns k ((pre++[y]).map (·.1))=rowsAt ns k (pre.map (·.1)++[(m:Int)]):=by rw [List.map_append];simp [hmy]
      have e2:(rowsAt ns k (pre.map (·.1)++[(m:Int)]) m).length=N0+1:=by rw [rowsAt_more,List.length_append,HN0.out];rfl
      rw [e1,← e2]
      refine RowsAt.grow (hvs.below hbA) hv hgrow ?_ ?_ fun j hj=>rowsAt_else ns k _ hj
      ·rcases HA.out with h | h
       ·exact Or.inl h
       ·right;rw [h];exact Nat.le_refl _
      ·have:=HO.out
       rw [e2]
       rw [rowsAt_more,List.map_append]
       exact this
     refine ⟨hKO.from _,hKT,⟨⟨_,hrw,fun j u hj e=>?_⟩,?_,?_,hKT.node HB3.out,HM.out.others hKO⟩,hB1.trans hBf⟩
     ·rw [List.getElem?_set] at hj
      split at hj
      ·cases hj
       simp only [Value.ownBlock,Option.some.injEq] at e
       rcases HA.out with h | h
       ·exact HNO.out m v hv (by rw [h,e])
       ·have:=hb2.lt;omega
      ·exact HNO.out j u hj e
     ·exact (Below.heap_setCell _ _ _ _ (by simp)).trans HB1.out
     ·refine (Below.heap_setCell _ _ _ _ (by simp;omega)).trans ?_
      exact Boxed.kept (Boxed.alloc (show Boxed W.drew _ _ _ from hb2) _) hgrow (fun e=>HNO.out m v hv e.symm)
   case done =>
    rintro D ys W hD rfl ⟨⟨⟨vs,hvs,hno⟩,hb1,hb2,hb3,hm1⟩,hB1⟩ hK
    have hrow:=hvs
    rw [exoA_map,rowsAt_done ns k HX.out hkx] at hrow
    have HRR:=hide' hrow
    have HM1:=hide' (hm1.cons hK fun E hE=>by have:=hM.lt hE;omega)
    clear hvs hrow hm1
    gi_wp2
    refine ⟨⟨k+1,_,_,_,_,_,_,_,_,_,D::ds,by omega,⟨vs,HRR.out⟩,hb1,hB1,HM1.out,fun E hE=>?_,rfl⟩,?_⟩
    ·rcases List.mem_cons.1 hE with rfl | hE
     ·omega
     ·exact hD' E hE
    ·simp [intOf];omega
   case stop =>
    rintro D c pre W _ _ h _
    exact h.elim
  ·have ek:k=ns.length:=by omega
   have HK:=hide' ek
   clear ek
   gi_wp2
   refine leaves_marks ds _ hM hD' fun W' hS=>?_
   refine ⟨_,results_tmp rfl _ _ _,w.heap.size+1,vs,rfl,?_,hB.trans hS.below⟩
   have:=hS.rows hR
   rw [HK.out] at this
   exact this
end Go.Proofs.YtnbdnbcnlgnicaaGreat
namespace Go.Proofs.YtnbdnbcnlgnicaaGreat
open Go.RowKit
theorem aheadOf_any (r:Int) (b off cap:Nat) (ns:List Nd) (n:Nat) (w:World) (hN:NodesAt w b off ns) (hl:ns.length≤256) :
 Calls Tryz.prog 28 #[.agg #[.int .i64 r,.slice (some ⟨b,off,none⟩) ns.length cap],.int .i64 n] w fun e w' =>∃ v,e=.returned v∧w'.ownsRow w.heap.size 3 1 v (pick (ahB ns n) ns.length).length ((pick (ahB ns n) ns.length).map (Value.int .i64))∧Below w.heap.size w w' :=by
 obtain ⟨i0,hi,hz0,hz1,hz2⟩:=info_parts info_int
 go_enter Tryz.func28,Tryz.ntmps28
 go_wp2
 have q0:(w.alloc (.cells #[.int .i64 r,.slice (some ⟨b,off,none⟩) ns.length cap] 24)).cell? ⟨w.heap.size,0,none⟩=some (.int .i64 r):=by simp
 have q1:(w.alloc (.cells #[.int .i64 r,.slice (some ⟨b,off,none⟩) ns.length cap] 24)).cell? ⟨w.heap.size,1,none⟩=some (.slice (some ⟨b,off,none⟩) ns.length cap):=by simp
 have hN1:NodesAt (w.alloc (.cells #[.int .i64 r,.slice (some ⟨b,off,none⟩) ns.length cap] 24)) b off ns:=hN.below ((Below.refl w.heap.size w).alloc (Nat.le_refl _) _) hN.lt
 have hB1:Below w.heap.size w (w.alloc (.cells #[.int .i64 r,.slice (some ⟨b,off,none⟩) ns.length cap] 24)):=(Below.refl w.heap.size w).alloc (Nat.le_refl _) _
 have hS1:(w.alloc (.cells #[.int .i64 r,.slice (some ⟨b,off,none⟩) ns.length cap] 24)).heap.size=w.heap.size+1:=by simp
 have hblt:=hN.lt
 clear hN
 generalize w.alloc (.cells #[.int .i64 r,.slice (some ⟨b,off,none⟩) ns.length cap] 24)=W at q0 q1 hN1 hB1 hS1 ⊢
 go_loopw [5,6] (fun v i wr=>∃ k:Nat,k≤ns.length∧i=.int .i64 k∧wr.ownsRow (w.heap.size+1) 3 1 v (pick (ahB ns n) k).length ((pick (ahB ns n) k).map (Value.int .i64))∧Below (w.heap.size+1) W wr) (fun _ i _=>ns.length-(intOf i).toNat)
 case atStart=>exact ⟨0,Nat.zero_le _,rfl,World.ownsRow_nil _ _ _ _,Below.refl _ _⟩
 case round =>
  obtain ⟨k,hk,rfl,hown,hb⟩:=hrel
  have hsz:=hb.size
  have hN2:=hN1.below hb (by omega)
  have p0:wr.cell? ⟨w.heap.size,0,none⟩=some (.int .i64 r):=by rw [hb.cell (p:=⟨w.heap.size,0,none⟩) (by simp)];exact q0
  have p1:wr.cell? ⟨w.heap.size,1,none⟩=some (.slice (some ⟨b,off,none⟩) ns.length cap):=by rw [hb.cell (p:=⟨w.heap.size,1,none⟩) (by simp)];exact q1
  have hsw:w.heap.size<wr.heap.size:=by omega
  by_cases hlt:k<ns.length
  ·obtain ⟨y,hy⟩:=get_lt hlt
   have HY:=hide hy
   clear hy
   go_wp2_with fail
   refine (leads_any r b off cap ns k n y wr hN2 HY.out).mono ?_
   rintro e w1 ⟨rfl,hb1⟩
   have hs1:=hb1.size
   have hown1:=ownsRow_below hown hb1 (Nat.le_refl _)
   have hB2:Below (w.heap.size+1) W w1:=hb.trans (hb1.mono (by omega))
   clear hown hb hb1 p0 p1 hN2
   have hah:ahB ns n k=ldB y n:=ahB_at HY.out
   have HA:=hide hah
   clear hah
   cases hld:ldB y n
   ·go_wp2
    go_roundw
    case rel=>exact ⟨k+1,by omega,by go_num,by rw [pick_no (by rw [HA.out];exact hld)];exact hown1,hB2⟩
    case measure=>simp [intOf];omega
   ·have hpl:=pick_len (ahB ns n) k
    go_wp2_with (at_builtin;refine wpList_append_own _ rfl (.tmp 18) (.tmp 20) 54 rfl (w.heap.size+1) 3 i0 (.int .i64 0) 1 8 Tryz.underlying54 hi hz0 hz1 hz2 rfl (by decide) _ _ _ rfl (hown1.alloc _) ⟨w1.heap.size,0,none⟩ 1 1 [.int .i64 k] rfl rfl ?c1 ?c2 ?c3 ?c4 ?c5 ?_)
    case c1 =>
     intro j u hj
     match j,hj with
     | 0,hj=>simp at hj;subst hj;simp [Addr.add]
    case c2=>intro u hu;simp at hu;subst hu;rfl
    case c3=>unfold maxLen;omega
    case c4=>omega
    case c5=>simp;omega
    intro v' w2 hown2 hg2 _
    have hlt1:=hown1.lt
    have hB3:Below (w.heap.size+1) W w2:=(hB2.alloc (by omega) _).grown hg2 (by simp;omega) (fun k hk=>(hlt1 k hk).1)
    have hown3:w2.ownsRow (w.heap.size+1) 3 1 v' (pick (ahB ns n) (k+1)).length ((pick (ahB ns n) (k+1)).map (Value.int .i64)):=by
     rw [pick_yes (by rw [HA.out];exact hld)];simpa using hown2
    clear hown2 hg2 hlt1 hown1
    go_wp2
    go_roundw
    case rel=>exact ⟨k+1,by omega,by go_num,hown3,hB3⟩
    case measure=>simp [intOf];omega
  ·have ek:k=ns.length:=by omega
   have HK:=hide ek
   clear ek
   go_wp2
   go_ret
   refine ⟨_,rfl,?_,hB1.trans (hb.mono (by omega))⟩
   rw [← HK.out]
   exact ownsRow_base hown (by omega)
end Go.Proofs.YtnbdnbcnlgnicaaGreat
