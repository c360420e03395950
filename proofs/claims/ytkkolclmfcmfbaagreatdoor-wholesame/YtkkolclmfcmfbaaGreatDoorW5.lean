/-
  Of the proof of WholeSame: RS, GW, LO, TK, TW, TX, TZ, TM.
-/
import Derived.Test.YtkkolclmfcmfbaaGreatDoorW1
import Derived.Test.YtkkolclmfcmfbaaGreatDoorW2
import Derived.Test.YtkkolclmfcmfbaaGreatDoorW3
import Derived.Test.YtkkolclmfcmfbaaGreatDoorW4
import Derived.Deep.CutRange
import Derived.Deep.OwnRows
import Derived.Deep.RegionWith
import Derived.RangeFuncBox
import Derived.Deep.RegionHeld3
import Derived.Laws.AppendOwn
import Derived.OrdersIn
import Derived.ControlIn
set_option linter.unusedVariables false
set_option linter.unusedSimpArgs false
set_option maxHeartbeats 40000000
namespace Go.Proofs.YtkkolclmfcmfbaaGreatDoor
open Go.RowKit Go.Maps Go.ChangeMaps
theorem stp_regs (x:Nd) (s:St):(stp x s).regs.length=s.regs.length:=by
 unfold stp;repeat' split
 all_goals simp [setR]
theorem stp_pc {r:Int} {ns:List Nd} {x:Nd} (h:NodeOk r ns.length x) (s:St):(stp x s).pc<ns.length:=by
 have ht:=h.t
 unfold stp;repeat' split
 all_goals (try (simp only;omega))
 rename_i h11 _
 have he:=h.e h11
 simp only;omega
theorem step_any {r:Int} {B s mb rb mp nb noff ncap rc:Nat} {ns:List Nd} {w:World} {σ:St} {v:Value} {ia:Option Addr} {ic n:Nat} {D:DataW Unit} (M:MA B s mb rb mp nb noff ncap rc ns w σ v ia ic n D) {x:Nd} (hx:ns[σ.pc]?=some x) (hlen:ns.length≤256) (hlt:σ.steps<131072) (hk:NodeOk r ns.length x) (hr:r=σ.regs.length) :
 Calls Tryz.prog 23 #[.pointer (some ⟨mb,0,none⟩)] w fun e w' =>e=.returned (.tuple #[])∧∃ v' ia' ic' n' D', MA B s mb rb mp nb noff ncap rc ns w' (stp x σ) v' ia' ic' n' D' ∧Below B w w' :=by
 have ht:=hk.t.1
 have hop:=hk.op
 by_cases h0:x.op=0
 ·exact step_skip M hx hlen hlt ht h0
 by_cases h1:x.op=1
 ·exact step_set M hx hlen hlt ht h1 (by have:=hk.d;unfold InR;omega)
 by_cases h2:x.op=2
 ·exact step_copy M hx hlen hlt ht h2 (by have:=hk.d;unfold InR;omega) (by have:=hk.a;unfold InR;omega)
 by_cases h9:x.op=9
 ·exact step_inn M hx hlen hlt ht h9 (by have:=hk.d;unfold InR;omega)
 by_cases h10:x.op=10
 ·exact step_out M hx hlen hlt ht h10 (by have:=hk.a;unfold InR;omega)
 by_cases h11:x.op=11
 ·exact step_iff M hx hlen hlt ht h11 (by have:=hk.a;unfold InR;omega) (hk.e h11).1
 by_cases h12:x.op=12
 ·exact step_end M hx hlen hlt ht h12 (by have:=hk.a;unfold InR;omega)
 ·exact step_arith M hx hlen hlt ht (by omega) (by have:=hk.d;unfold InR;omega) (by have:=hk.a;unfold InR;omega) (by have:=hk.b;unfold InR;omega)
theorem runN_pc {r:Int} {ns:List Nd} (ok:∀ x∈ns,NodeOk r ns.length x):∀ (n:Nat) (s:St),s.pc<ns.length→(runN ns n s).pc<ns.length
 | 0,s,h=>h
 | n+1,s,h=>by
  simp only [runN]
  split
  ·exact h
  ·rw [List.getElem?_eq_getElem h]
   exact runN_pc ok n _ (stp_pc (ok _ (List.getElem_mem h)) s)
theorem runN_regs {ns:List Nd}:∀ (n:Nat) (s:St),(runN ns n s).regs.length=s.regs.length
 | 0,s=>rfl
 | n+1,s=>by
  simp only [runN]
  split
  ·rfl
  ·split
   ·rw [runN_regs n,stp_regs]
   ·rfl
theorem stp_twf {r:Int} {len:Nat} (hlen:r≤64) {x:Nd} (h:NodeOk r len x) {s:St} (hs:∀ c∈s.cts,twf c.t):∀ c∈(stp x s).cts,twf c.t:=by
 unfold stp;repeat' split
 all_goals (try exact hs)
 intro c hc
 rcases omore_mem hc with hc | hc
 ·exact hs c hc
 ·rw [hc]
  have ho:=h.op
  have ha:=h.a
  have hb:=h.b
  refine ⟨small_wf (by simp [tmOf];omega) (by simp [tmOf];omega),small_wf (by simp [tmOf];omega) (by simp [tmOf];omega),small_wf (by simp [tmOf];omega) (by simp [tmOf];omega)⟩
theorem runN_twf {r:Int} {ns:List Nd} (hr:r≤64) (ok:∀ x∈ns,NodeOk r ns.length x):∀ (n:Nat) (s:St),(∀ c∈s.cts,twf c.t)→∀ c∈(runN ns n s).cts,twf c.t
 | 0,s,h=>h
 | n+1,s,h=>by
  simp only [runN]
  split
  ·exact h
  ·split
   ·rename_i x hx
    exact runN_twf hr ok n _ (stp_twf hr (ok _ (List.mem_of_getElem? hx)) h)
   ·exact h
theorem runN_succ {r:Int} {ns:List Nd} (ok:∀ x∈ns,NodeOk r ns.length x) (n:Nat) (s:St) (hs:s.pc<ns.length) (he:(runN ns n s).ended=false) {x:Nd} (hx:ns[(runN ns n s).pc]?=some x):runN ns (n+1) s=stp x (runN ns n s):=by
 rw [runN_add n 1 s (fun k _=>runN_pc ok k s hs)]
 simp [runN,he,hx]
theorem runN_stop {r:Int} {ns:List Nd} (ok:∀ x∈ns,NodeOk r ns.length x) (n m:Nat) (hnm:n≤m) (s:St) (hs:s.pc<ns.length) (he:(runN ns n s).ended=true):runN ns m s=runN ns n s:=by
 rw [show m=n+(m-n) by omega,runN_add n (m-n) s (fun k _=>runN_pc ok k s hs),runN_ended he]
def rerr (r:Int) (ns:List Nd) (il:Nat) (fuel:Int):Int:=if chk r ns=0 then if 256<il then 2 else if fuel<0∨131072<fuel then 3 else 0 else chk r ns
def fill5 (w:World) (b:Nat) (v0 v1 v2 v3 v4:Value):World:=((((w.setCell ⟨b,0,none⟩ v0).setCell ⟨b,1,none⟩ v1).setCell ⟨b,2,none⟩ v2).setCell ⟨b,3,none⟩ v3).setCell ⟨b,4,none⟩ v4
theorem fill5_blk {w:World} {b:Nat} {a0 a1 a2 a3 a4:Value} {t:TypeId} (h:w.heap[b]?=some (.cells #[a0,a1,a2,a3,a4] t (0,0))) (v0 v1 v2 v3 v4:Value):(fill5 w b v0 v1 v2 v3 v4).heap[b]?=some (.cells #[v0,v1,v2,v3,v4] t (0,0)):=by
 unfold fill5
 rw [blk_set v4 (blk_set v3 (blk_set v2 (blk_set v1 (blk_set v0 h))))]
 simp
theorem fill5_keeps (w:World) (b:Nat) (v0 v1 v2 v3 v4:Value):Keeps [b] w (fill5 w b v0 v1 v2 v3 v4):=(((((Keeps.refl [b] w).setCell (p:=⟨b,0,none⟩) (by simp) v0).setCell (p:=⟨b,1,none⟩) (by simp) v1).setCell (p:=⟨b,2,none⟩) (by simp) v2).setCell (p:=⟨b,3,none⟩) (by simp) v3).setCell (p:=⟨b,4,none⟩) (by simp) v4
theorem fill5_below {w:World} {b B:Nat} (hb:B≤b) (hB:B≤w.heap.size) (v0 v1 v2 v3 v4:Value):Below B w (fill5 w b v0 v1 v2 v3 v4):=by
 exact (fill5_keeps w b v0 v1 v2 v3 v4).below (by simp;omega) hB
theorem ret_cell {b:Nat} {v0 v1 v2 v3 v4:Value} {er:Int} {w:World} {tm:Array Value} {Q:Ending→World→Prop} (h:w.heap[b]?=some (.cells #[v0,v1,v2,v3,v4] 33 (0,0))) (h6:tm[6]?=some (.pointer (some ⟨b,0,none⟩))) (h7:tm[7]?=some (.int .i64 er))
 (hq:Q (.returned (.tuple #[.agg #[v0,v1,v2,v3,v4],.int .i64 er])) w):bodyPost Tryz.prog Tryz.f7 Q .ret ⟨tm,[]⟩ w:=by
 have c0:=blk_cell h 0
 have c1:=blk_cell h 1
 have c2:=blk_cell h 2
 have c3:=blk_cell h 3
 have c4:=blk_cell h 4
 simp at c0 c1 c2 c3 c4
 refine bodyPost_ret (v:=.tuple #[.agg #[v0,v1,v2,v3,v4],.int .i64 er]) ?_ rfl hq
 simp [results,Tryz.results7,go_sem,c0,c1,c2,c3,c4,h6,h7]
theorem run_wrong (r:Int) (a:Option Addr) (cap:Nat) (ns:List Nd) (ia:Option Addr) (il ic:Nat) (fuel:Int) (w:World) (hN:SlN w a ns) (hil:il≤9223372036854775807) (hw:rerr r ns il fuel≠0) :
 Calls Tryz.prog 7 #[.agg #[.int .i64 r,.slice a ns.length cap],.slice ia il ic,.int .i64 fuel] w fun e w' =>e=.returned (.tuple #[.agg #[.slice none 0 0,.int .i64 0,.bool false,.int .i64 0,.slice none 0 0],.int .i64 (rerr r ns il fuel)])∧Below w.heap.size w w' :=by
 go_enter Tryz.func7,Tryz.ntmps7
 go_wp2_with fail
 have hN1:SlN ((w.alloc (.cells #[.int .i64 r,.slice a ns.length cap] 24)).alloc (.cells #[.slice none 0 0,.int .i64 0,.bool false,.int .i64 0,.slice none 0 0] 33)) a ns:=hN.below (((Below.refl _ w).alloc (Nat.le_refl _) _).alloc (by simp) _)
 refine (check_any r a cap ns _ hN1).mono ?_
 rintro e w1 ⟨rfl,hb1⟩
 have hs1:=hb1.size
 simp only [World.size_alloc] at hs1 hb1
 have hB1:Below w.heap.size w w1:=(((Below.refl _ w).alloc (Nat.le_refl _) _).alloc (by simp) _).trans (hb1.mono (by omega))
 have hk:w1.heap[w.heap.size+1]?=some (.cells #[.slice none 0 0,.int .i64 0,.bool false,.int .i64 0,.slice none 0 0] 33 (0,0)):=by
  rw [hb1.block _ (by omega)]
  exact blk_new (by simp)
 have c0:=blk_cell hk 0
 have c1:=blk_cell hk 1
 have c2:=blk_cell hk 2
 have c3:=blk_cell hk 3
 have c4:=blk_cell hk 4
 have f0:=blk_frozen hk 0
 have f1:=blk_frozen hk 1
 have f2:=blk_frozen hk 2
 have f3:=blk_frozen hk 3
 have f4:=blk_frozen hk 4
 simp at c0 c1 c2 c3 c4
 have hsz:w.heap.size+1<w1.heap.size:=by omega
 have HK:=hide hk
 clear hk hb1 hN1
 have HB:=hide hB1
 clear hB1
 by_cases hc:chk r ns=0
 ·rw [hc]
  by_cases hi:256<il
  ·have hi' :(256:Int)<(il:Int):=by omega
   have HE:=hide (show rerr r ns il fuel=2 by simp [rerr,hc,hi])
   clear hc
   go_wp2
   have hk' :=fill5_blk HK.out (.slice none 0 0) (.int .i64 0) (.bool false) (.int .i64 0) (.slice none 0 0)
   refine ret_cell hk' rfl rfl ⟨by rw [HE.out],HB.out.trans (fill5_below (by omega) (by omega) _ _ _ _ _)⟩
  ·have hi' :¬ (256:Int)<(il:Int):=by omega
   have hf:fuel<0∨131072<fuel:=by
    unfold rerr at hw
    rw [if_pos hc,if_neg hi] at hw
    by_cases q:fuel<0∨131072<fuel
    ·exact q
    ·rw [if_neg q] at hw;exact absurd rfl hw
   have HE:=hide (show rerr r ns il fuel=3 by rw [rerr,if_pos hc,if_neg hi,if_pos hf])
   clear hc
   by_cases h0:fuel<0
   ·go_wp2
    have hk' :=fill5_blk HK.out (.slice none 0 0) (.int .i64 0) (.bool false) (.int .i64 0) (.slice none 0 0)
    refine ret_cell hk' rfl rfl ⟨by rw [HE.out],HB.out.trans (fill5_below (by omega) (by omega) _ _ _ _ _)⟩
   ·have h1:131072<fuel:=by omega
    go_wp2
    have hk' :=fill5_blk HK.out (.slice none 0 0) (.int .i64 0) (.bool false) (.int .i64 0) (.slice none 0 0)
    refine ret_cell hk' rfl rfl ⟨by rw [HE.out],HB.out.trans (fill5_below (by omega) (by omega) _ _ _ _ _)⟩
 ·have hcb:(chk r ns != 0)=true:=by simpa using hc
  have HE:=hide (show rerr r ns il fuel=chk r ns by simp [rerr,hc])
  generalize chk r ns=ch at *
  go_wp2
  have hk' :=fill5_blk HK.out (.slice none 0 0) (.int .i64 0) (.bool false) (.int .i64 0) (.slice none 0 0)
  refine ret_cell hk' rfl rfl ⟨by rw [HE.out],HB.out.trans (fill5_below (by omega) (by omega) _ _ _ _ _)⟩
def fin (r:Int) (ns:List Nd) (inp:List Int) (fuel:Int):St:=runN ns fuel.toNat (st0 r.toNat inp)
structure Start (B:Nat) (r:Int) (ns:List Nd) (inp:List Int) (nb noff cap:Nat) (ia:Option Addr) (ic:Nat) (w wx:World) (v9:Value):Prop where
 ma:∃ mb rb mp,v9=.pointer (some ⟨mb,0,none⟩)∧MA B (B+3) mb rb mp nb noff cap r.toNat ns wx (st0 r.toNat inp) (.slice none 0 0) ia ic 0 (.map [])
 below:Below B w wx
def PK (b:Nat) (v0 v1:Value) (u:World):Prop:=u.cell? ⟨b,0,none⟩=some v0∧u.cell? ⟨b,1,none⟩=some v1∧b<u.heap.size
theorem PK.drew {b:Nat} {v0 v1:Value} {u:World} (h:PK b v0 v1 u):PK b v0 v1 u.drew:=h
theorem PK.alloc {b:Nat} {v0 v1:Value} {u:World} (h:PK b v0 v1 u) (o:Obj):PK b v0 v1 (u.alloc o):=by
 obtain ⟨h0,h1,h2⟩:=h
 refine ⟨?_,?_,by simp;omega⟩
 ·rw [World.cell?_alloc_past _ _ _ (by omega)];exact h0
 ·rw [World.cell?_alloc_past _ _ _ (by omega)];exact h1
theorem three0 (w:World) (A B C:Obj):(((w.alloc A).alloc B).alloc C).drew.heap[w.heap.size]?=some A:=blk_drew (blk_alloc _ (blk_alloc _ (blk_new rfl)))
theorem three1 (w:World) (A B C:Obj):(((w.alloc A).alloc B).alloc C).drew.heap[w.heap.size+1]?=some B:=blk_drew (blk_alloc _ (blk_new (by simp)))
theorem three2 (w:World) (A B C:Obj):(((w.alloc A).alloc B).alloc C).drew.heap[w.heap.size+1+1]?=some C:=blk_drew (blk_new (by simp))
theorem three_below (w:World) (A B C:Obj):Below w.heap.size w (((w.alloc A).alloc B).alloc C).drew:=((((Below.refl _ w).alloc (Nat.le_refl _) _).alloc (by simp) _).alloc (by simp;omega) _).drew
theorem made_row (n:Nat):madeCells #[Value.int .i64 0] n=((List.replicate n (0:Int)).map (Value.int .i64)).toArray:=by
 apply Array.ext'
 rw [toList_madeCells_one]
 simp
theorem start_of {w1 wx:World} {B mb rb mp rn nb noff cap ic:Nat} {ns:List Nd} {inp:List Int} {ia:Option Addr} (hB:B≤w1.heap.size)
 (hm:wx.heap[mb]?=some (.cells #[.slice none 0 0,.int .i64 0,.bool false,.int .i64 0,.slice none 0 0,.slice (some ⟨nb,noff,none⟩) ns.length cap,.int .i64 0,.slice ia inp.length ic,.slice (some ⟨rb,0,none⟩) rn rn,.map (some mp)] 61 (0,0)))
 (hr:wx.heap[rb]?=some (.cells (madeCells #[.int .i64 0] rn) 3 (0,0))) (hp:wx.heap[mp]?=some (.map #[] 0))
 (hg:w1.heap.size≤mb∧w1.heap.size≤rb∧w1.heap.size≤mp∧mb<w1.heap.size+3∧rb<w1.heap.size+3∧mp<w1.heap.size+3∧mb≠rb∧mb≠mp∧rb≠mp)
 (hb:Below w1.heap.size w1 wx) (hs:w1.heap.size+3≤wx.heap.size) (hN:NodesAt w1 nb noff ns) (hI:InAt w1 B ia inp) (hic:inp.length≤ic) (hrn:rn≤64) :
 Start w1.heap.size rn ns inp nb noff cap ia ic w1 wx (.pointer (some ⟨mb,0,none⟩)):=by
 have hI' :InAt wx w1.heap.size ia inp:=by
  rcases hI with h | ⟨b,off,rfl,hlt,h⟩
  ·exact Or.inl h
  ·exact Or.inr ⟨b,off,rfl,by omega,fun j z hz=>by rw [hb.cell (p:=⟨b,_,none⟩) (by simp;omega)];exact h j z hz⟩
 have ho:wx.ownsMap Tryz.prog 57 (plainElem (H:=Unit) Tryz.prog 3) mp 0 (.map []):=by
  obtain ⟨es,clock,hb', F,hs', hD⟩:=World.ownsMap_made w1 Tryz.prog 57 (plainElem (H:=Unit) Tryz.prog 3)
  rw [blk_new rfl] at hb'
  cases hb'
  exact ⟨#[],0,hp,F,hs', hD⟩
 refine ⟨⟨mb,rb,mp,rfl,?_⟩,hb⟩
 exact {
  hm:=by simpa [st0] using hm
  hr:=by rw [hr,made_row];simp [st0]
  ho:=ho
  hout:=World.ownsRow_nil _ _ _ _
  hin:=hI'
  hic:=hic
  hN:=hN.below hb hN.lt
  hnb:=hN.lt
  geo:=hg
  hs:=hs
  hn:=Nat.zero_le _
  hst:=by simp [st0]
  hol:=by simp [st0]
  hrl:=by simp [st0];exact hrn
  rel:=⟨⟨_,rfl⟩,fun t ht z=>by simp [st0,ctOf];rfl⟩
  srt:=List.Pairwise.nil
  cb:=by simp [st0] }
theorem owns_val {w:World} {base:Nat} {e:TypeId} {size:Nat} {v:Value} {n:Nat} {xs:List Value} (h:w.ownsRow base e size v n xs):∃ a c,v=.slice a n c:=by
 rcases h.2 with ⟨q,rfl⟩ | ⟨g,cap,cur,q,_⟩
 ·exact ⟨_,_,q⟩
 ·exact ⟨_,_,q⟩
theorem run_ok (r:Int) (nb noff cap:Nat) (ns:List Nd) (ia:Option Addr) (ic:Nat) (inp:List Int) (fuel:Int) (w:World) (hN:NodesAt w nb noff ns) (hI:InAt w w.heap.size ia inp) (hic:inp.length≤ic) (hw:rerr r ns inp.length fuel=0) :
 Calls Tryz.prog 7 #[.agg #[.int .i64 r,.slice (some ⟨nb,noff,none⟩) ns.length cap],.slice ia inp.length ic,.int .i64 fuel] w fun e w' =>∃ vo vc,e=.returned (.tuple #[.agg #[vo,.int .i64 (fin r ns inp fuel).ret,.bool (fin r ns inp fuel).ended,.int .i64 (fin r ns inp fuel).steps,vc],.int .i64 0]) ∧
  w'.ownsRow w.heap.size 3 1 vo (fin r ns inp fuel).out.length ((fin r ns inp fuel).out.map (Value.int .i64))∧w'.ownsRow w.heap.size 64 4 vc (fin r ns inp fuel).cts.length ((fin r ns inp fuel).cts.flatMap encCt)∧Below w.heap.size w w' :=by
 have hc:chk r ns=0:=by
  by_cases hc:chk r ns=0
  ·exact hc
  ·rw [rerr,if_neg hc] at hw;exact hw
 have hi:¬ 256<inp.length:=by
  intro q;rw [rerr,if_pos hc,if_pos q] at hw;omega
 have hf:¬ (fuel<0∨131072<fuel):=by
  intro q;rw [rerr,if_pos hc,if_neg hi,if_pos q] at hw;omega
 have hf0:¬ fuel<0:=fun q=>hf (Or.inl q)
 have hf1:¬ 131072<fuel:=fun q=>hf (Or.inr q)
 have hi' :¬ (256:Int)<(inp.length:Int):=by omega
 have CZ:=hide (chk_zero hc)
 have hr1:1≤r∧r≤64:=CZ.out.2.1
 have hl1:1≤ns.length∧ns.length≤256:=CZ.out.1
 have OK:=hide (fun x hx=>node_ok hc (x:=x) hx)
 clear hf
 go_enter Tryz.func7,Tryz.ntmps7
 go_wp2_with fail
 have hb0:Below w.heap.size w ((w.alloc (.cells #[.int .i64 r,.slice (some ⟨nb,noff,none⟩) ns.length cap] 24)).alloc (.cells #[.slice none 0 0,.int .i64 0,.bool false,.int .i64 0,.slice none 0 0] 33)):=((Below.refl _ w).alloc (Nat.le_refl _) _).alloc (by simp) _
 refine (check_any r _ cap ns _ (Or.inr ⟨nb,noff,rfl,hN.below hb0 hN.lt⟩)).mono ?_
 rintro e w1 ⟨rfl,hb1⟩
 have hs1:=hb1.size
 simp only [World.size_alloc] at hs1 hb1
 have hB1:Below w.heap.size w w1:=hb0.trans (hb1.mono (by omega))
 have hp:w1.heap[w.heap.size]?=some (.cells #[.int .i64 r,.slice (some ⟨nb,noff,none⟩) ns.length cap] 24 (0,0)):=by
  rw [hb1.block _ (by omega)]
  exact blk_alloc _ (blk_new rfl)
 have hk:w1.heap[w.heap.size+1]?=some (.cells #[.slice none 0 0,.int .i64 0,.bool false,.int .i64 0,.slice none 0 0] 33 (0,0)):=by
  rw [hb1.block _ (by omega)]
  exact blk_new (by simp)
 have c0:=blk_cell hp 0
 have c1:=blk_cell hp 1
 simp at c0 c1
 have hsz:w.heap.size+1<w1.heap.size:=by omega
 have HK:=hide hk
 have HB:=hide hB1
 have HN:=hide (hN.below hB1 hN.lt)
 have HI:=hide (hI.below hB1)
 clear hk hb1 hb0 hB1 hN hI hp
 rw [hc]
 clear hc
 obtain ⟨rn,hrn⟩:=Int.eq_ofNat_of_zero_le (show 0≤r by omega)
 have hr64:rn≤64:=by omega
 have hrp:1≤rn:=by omega
 subst hrn
 go_wp2
 go_cut [9] from 27 to 34 (fun v9 wx=>Start w1.heap.size rn ns inp nb noff cap ia ic w1 wx v9)
 case first =>
  have hmk:∀ W:World,Sem.run Tryz.prog (Instr.makeMap 59 none) W=.ok (.map (some W.heap.size)) (W.alloc (.map #[] 0)):=fun W=>rfl
  have hms:∀ W:World,Sem.run Tryz.prog (Instr.makeSlice 25 (.int .i64 (rn:Int)) (.int .i64 (rn:Int))) W=.ok (.slice (some ⟨W.heap.size,0,none⟩) rn rn) (W.alloc (.cells (madeCells #[.int .i64 0] rn) 3)):=fun W=>run_make_row' 25 3 _ 8 Tryz.underlying25 info_int rfl .i64 .i64 rn (by omega) (by omega) W
  have PK1:=hide (show PK w.heap.size (.int .i64 (rn:Int)) (.slice (some ⟨nb,noff,none⟩) ns.length cap) w1 from ⟨c0,c1,by omega⟩)
  go_region_held3 (fun u=>u.cell? ⟨w.heap.size,0,none⟩=some (.int .i64 (rn:Int))∧u.cell? ⟨w.heap.size,1,none⟩=some (.slice (some ⟨nb,noff,none⟩) ns.length cap)∧w.heap.size<u.heap.size) (first | exact PK1.out | exact PK1.out.drew | exact (PK1.out.drew.alloc _) | exact ((PK1.out.drew.alloc _).alloc _) | exact (((PK1.out.drew.alloc _).alloc _).alloc _) | exact (PK1.out.alloc _).drew | exact ((PK1.out.alloc _).alloc _).drew | exact (((PK1.out.alloc _).alloc _).alloc _).drew) (fail)
  all_goals (go_wp2;go_meet)
  all_goals first
   | exact start_of (by omega) (three2 _ _ _ _) (three0 _ _ _ _) (three1 _ _ _ _) (by omega) (three_below _ _ _ _) (by simp) HN.out HI.out hic hr64
   | exact start_of (by omega) (three1 _ _ _ _) (three0 _ _ _ _) (three2 _ _ _ _) (by omega) (three_below _ _ _ _) (by simp) HN.out HI.out hic hr64
   | exact start_of (by omega) (three2 _ _ _ _) (three1 _ _ _ _) (three0 _ _ _ _) (by omega) (three_below _ _ _ _) (by simp) HN.out HI.out hic hr64
   | exact start_of (by omega) (three1 _ _ _ _) (three2 _ _ _ _) (three0 _ _ _ _) (by omega) (three_below _ _ _ _) (by simp) HN.out HI.out hic hr64
   | exact start_of (by omega) (three0 _ _ _ _) (three1 _ _ _ _) (three2 _ _ _ _) (by omega) (three_below _ _ _ _) (by simp) HN.out HI.out hic hr64
   | exact start_of (by omega) (three0 _ _ _ _) (three2 _ _ _ _) (three1 _ _ _ _) (by omega) (three_below _ _ _ _) (by simp) HN.out HI.out hic hr64
 case rest =>
  obtain ⟨⟨mb,rb,mp,rfl,M⟩,hBx⟩:=hcut
  have hkc:wc.heap[w.heap.size+1]?=some (.cells #[.slice none 0 0,.int .i64 0,.bool false,.int .i64 0,.slice none 0 0] 33 (0,0)):=by rw [hBx.block _ (by omega)];exact HK.out
  have HKc:=hide hkc
  have HBx:=hide hBx
  have HM:=hide M
  clear hkc M hBx c0 c1
  go_wp2
  go_loopw [] (fun wr=>∃ k v ia' ic' n D,MA w1.heap.size (w1.heap.size+3) mb rb mp nb noff cap rn ns wr (runN ns k (st0 rn inp)) v ia' ic' n D∧(runN ns k (st0 rn inp)).steps=k∧k≤fuel.toNat∧Below w1.heap.size w1 wr) (fun wr=>fuel.toNat-(intOf ((wr.cell? ⟨mb,3,none⟩).getD undef)).toNat)
  case atStart=>exact ⟨0,_,_,_,_,_,HM.out,rfl,Nat.zero_le _,HBx.out⟩
  case round =>
   obtain ⟨k,v,ia', ic', n,D,M,hst,hk,hB⟩:=hrel
   have hpc:=runN_pc OK.out k (st0 rn inp) (by simp [st0];omega)
   have hrg:(rn:Int)=(runN ns k (st0 rn inp)).regs.length:=by rw [runN_regs];simp [st0]
   have HW:=hide (runN_twf (r:=rn) (by omega) OK.out k (st0 rn inp) (by simp [st0]))
   have HS:=hide (fun x hx he=>runN_succ OK.out k (st0 rn inp) (by simp [st0];omega) he (x:=x) hx)
   have HF:=hide (fun he=>runN_stop OK.out k fuel.toNat hk (st0 rn inp) (by simp [st0];omega) he)
   have HFin:=hide (show fin rn ns inp fuel=runN ns fuel.toNat (st0 rn inp) by simp [fin])
   generalize hσ:runN ns k (st0 rn inp)=σ at M hst hpc hrg HW HS HF
   have HRG:=hide hrg
   clear hrg
   have Hσ:=hide hσ
   clear hσ
   have m2:=blk_cell M.hm 2
   have m3:=blk_cell M.hm 3
   have m9:=blk_cell M.hm 9
   simp at m2 m3 m9
   have HM1:=hide M
   have HB1:=hide hB
   have hBs:=hB.size
   have hme:=m3
   clear M hB
   cases he:σ.ended
   ·rw [he] at m2
    by_cases hlt:(σ.steps:Int)<fuel
    ·go_wp2_with fail
     obtain ⟨x,hx⟩:=get_lt hpc
     refine (step_any HM1.out hx hl1.2 (by omega) (OK.out x (List.mem_of_getElem? hx)) HRG.out).mono ?_
     rintro e w2 ⟨rfl,v', ia2,ic2,n2,D2,M2,hb2⟩
     have HS2:=hide (HS.out x hx he)
     have HM2:=hide M2
     have HB2:=hide (HB1.out.trans hb2)
     clear M2 hb2 m2 m3 m9 hx
     go_wp2
     go_roundw
     case rel=>exact ⟨k+1,v', ia2,ic2,n2,D2,by rw [HS2.out];exact HM2.out,by rw [HS2.out,stp_steps,hst],by omega,HB2.out⟩
     case measure =>
      have q:=blk_cell HM2.out.hm 3
      simp at q
      rw [q,hme]
      simp [intOf,stp_steps]
      omega
    ·have hlt' :fuel≤(σ.steps:Int):=by omega
     go_wp2_with fail
     have hfin:fin rn ns inp fuel=σ:=by
      rw [HFin.out]
      rw [show fuel.toNat=k by omega];exact Hσ.out
     have HZ:=hide hfin
     clear hfin
     refine (counts_any sorts_ct mp n D σ.cts wr HM1.out.ho HM1.out.rel HM1.out.srt HW.out (by have:=HM1.out.hn;have:=HM1.out.hst;omega)).mono ?_
     rintro e w3 ⟨vc,rfl,hoc,hb3⟩
     obtain ⟨av,cv,rfl⟩:=owns_val hoc
     have hs3:=hb3.size
     have hmlt:=blk_lt HM1.out.hm
     have hm3:w3.heap[mb]?=_:=(hb3.block mb hmlt).trans HM1.out.hm
     have hk3:w3.heap[w.heap.size+1]?=some (.cells #[.slice none 0 0,.int .i64 0,.bool false,.int .i64 0,.slice none 0 0] 33 (0,0)):=by
      rw [hb3.block _ (by omega),HB1.out.block _ (by omega)];exact HK.out
     have ho3:=ownsRow_below HM1.out.hout hb3 (by omega)
     have HFX:=hide (And.intro hm3 (And.intro hk3 (And.intro ho3 (And.intro hoc hb3))))
     have d4:=blk_cell hm3 4
     have g4:=blk_frozen hm3 4
     simp at d4
     clear hm3 hk3 ho3 hoc hb3 m2 m3 m9 hme
     go_upto_region 12 with fail
     have hm4:=blk_set (i:=4) (.slice av σ.cts.length cv) HFX.out.1
     have hne:w.heap.size+1≠mb:=by have:=HM1.out.geo;omega
     have hk4:=blk_set_ne (i:=4) (.slice av σ.cts.length cv) HFX.out.2.1 hne
     have ho4:=(ownsRow_below (B:=w3.heap.size) HFX.out.2.2.1 (Below.refl _ _) (Nat.le_refl _))
     have K4:Keeps [mb] w3 (w3.setCell ⟨mb,4,none⟩ (.slice av σ.cts.length cv)):=(Keeps.refl [mb] w3).setCell (p:=⟨mb,4,none⟩) (by simp) _
     have ho5:=K4.owns HFX.out.2.2.1 (by have:=HM1.out.geo;simp;omega)
     have ho6:=K4.owns HFX.out.2.2.2.1 (by simp;omega)
     have hB4:Below w.heap.size w (w3.setCell ⟨mb,4,none⟩ (.slice av σ.cts.length cv)):=HB.out.trans ((HB1.out.mono (by omega)).trans ((HFX.out.2.2.2.2.mono (by omega)).trans (K4.below (by have:=HM1.out.geo;simp;omega) (by omega))))
     simp at hm4
     have d0:=blk_cell hm4 0
     have d1:=blk_cell hm4 1
     have d2:=blk_cell hm4 2
     have d3:=blk_cell hm4 3
     have d4' :=blk_cell hm4 4
     have e0:=blk_cell hk4 0
     have e1:=blk_cell hk4 1
     have e2:=blk_cell hk4 2
     have e3:=blk_cell hk4 3
     have e4:=blk_cell hk4 4
     have f0:=blk_frozen hk4 0
     have f1:=blk_frozen hk4 1
     have f2:=blk_frozen hk4 2
     have f3:=blk_frozen hk4 3
     have f4:=blk_frozen hk4 4
     simp only [List.getElem?_toArray,List.getElem?_cons_zero,List.getElem?_cons_succ] at d0 d1 d2 d3 d4' e0 e1 e2 e3 e4
     have HY:=hide (And.intro hk4 (And.intro ho5 (And.intro ho6 hB4)))
     clear hm4 hk4 ho4 K4 ho5 ho6 hB4 d4 g4
     generalize w3.setCell ⟨mb,4,none⟩ (.slice av σ.cts.length cv)=W4 at *
     obtain ⟨ao,co,hvo⟩:=owns_val HY.out.2.1
     subst hvo
     go_wp2
     refine ret_cell (fill5_blk HY.out.1 _ _ _ _ _) rfl rfl ?_
     rw [HZ.out]
     have KF:=fill5_keeps W4 (w.heap.size+1) (.slice ao σ.out.length co) (.int .i64 σ.ret) (.bool false) (.int .i64 (k:Int)) (.slice av σ.cts.length cv)
     exact ⟨_,_,by rw [he,hst],ownsRow_base (KF.owns HY.out.2.1 (by simp;omega)) (by omega),ownsRow_base (KF.owns HY.out.2.2.1 (by simp;omega)) (by omega),HY.out.2.2.2.trans (KF.below (by simp) HY.out.2.2.2.size)⟩
   ·rw [he] at m2
    go_wp2_with fail
    have hfin:fin rn ns inp fuel=σ:=by
     rw [HFin.out]
     rw [HF.out he]
    have HZ:=hide hfin
    clear hfin
    refine (counts_any sorts_ct mp n D σ.cts wr HM1.out.ho HM1.out.rel HM1.out.srt HW.out (by have:=HM1.out.hn;have:=HM1.out.hst;omega)).mono ?_
    rintro e w3 ⟨vc,rfl,hoc,hb3⟩
    obtain ⟨av,cv,rfl⟩:=owns_val hoc
    have hs3:=hb3.size
    have hmlt:=blk_lt HM1.out.hm
    have hm3:w3.heap[mb]?=_:=(hb3.block mb hmlt).trans HM1.out.hm
    have hk3:w3.heap[w.heap.size+1]?=some (.cells #[.slice none 0 0,.int .i64 0,.bool false,.int .i64 0,.slice none 0 0] 33 (0,0)):=by
     rw [hb3.block _ (by omega),HB1.out.block _ (by omega)];exact HK.out
    have ho3:=ownsRow_below HM1.out.hout hb3 (by omega)
    have HFX:=hide (And.intro hm3 (And.intro hk3 (And.intro ho3 (And.intro hoc hb3))))
    have d4:=blk_cell hm3 4
    have g4:=blk_frozen hm3 4
    simp at d4
    clear hm3 hk3 ho3 hoc hb3 m2 m3 m9 hme
    go_upto_region 12 with fail
    have hm4:=blk_set (i:=4) (.slice av σ.cts.length cv) HFX.out.1
    have hne:w.heap.size+1≠mb:=by have:=HM1.out.geo;omega
    have hk4:=blk_set_ne (i:=4) (.slice av σ.cts.length cv) HFX.out.2.1 hne
    have ho4:=(ownsRow_below (B:=w3.heap.size) HFX.out.2.2.1 (Below.refl _ _) (Nat.le_refl _))
    have K4:Keeps [mb] w3 (w3.setCell ⟨mb,4,none⟩ (.slice av σ.cts.length cv)):=(Keeps.refl [mb] w3).setCell (p:=⟨mb,4,none⟩) (by simp) _
    have ho5:=K4.owns HFX.out.2.2.1 (by have:=HM1.out.geo;simp;omega)
    have ho6:=K4.owns HFX.out.2.2.2.1 (by simp;omega)
    have hB4:Below w.heap.size w (w3.setCell ⟨mb,4,none⟩ (.slice av σ.cts.length cv)):=HB.out.trans ((HB1.out.mono (by omega)).trans ((HFX.out.2.2.2.2.mono (by omega)).trans (K4.below (by have:=HM1.out.geo;simp;omega) (by omega))))
    simp at hm4
    have d0:=blk_cell hm4 0
    have d1:=blk_cell hm4 1
    have d2:=blk_cell hm4 2
    have d3:=blk_cell hm4 3
    have d4' :=blk_cell hm4 4
    have e0:=blk_cell hk4 0
    have e1:=blk_cell hk4 1
    have e2:=blk_cell hk4 2
    have e3:=blk_cell hk4 3
    have e4:=blk_cell hk4 4
    have f0:=blk_frozen hk4 0
    have f1:=blk_frozen hk4 1
    have f2:=blk_frozen hk4 2
    have f3:=blk_frozen hk4 3
    have f4:=blk_frozen hk4 4
    simp only [List.getElem?_toArray,List.getElem?_cons_zero,List.getElem?_cons_succ] at d0 d1 d2 d3 d4' e0 e1 e2 e3 e4
    have HY:=hide (And.intro hk4 (And.intro ho5 (And.intro ho6 hB4)))
    clear hm4 hk4 ho4 K4 ho5 ho6 hB4 d4 g4
    generalize w3.setCell ⟨mb,4,none⟩ (.slice av σ.cts.length cv)=W4 at *
    obtain ⟨ao,co,hvo⟩:=owns_val HY.out.2.1
    subst hvo
    go_wp2
    refine ret_cell (fill5_blk HY.out.1 _ _ _ _ _) rfl rfl ?_
    rw [HZ.out]
    have KF:=fill5_keeps W4 (w.heap.size+1) (.slice ao σ.out.length co) (.int .i64 σ.ret) (.bool true) (.int .i64 (k:Int)) (.slice av σ.cts.length cv)
    exact ⟨_,_,by rw [he,hst],ownsRow_base (KF.owns HY.out.2.1 (by simp;omega)) (by omega),ownsRow_base (KF.owns HY.out.2.2.1 (by simp;omega)) (by omega),HY.out.2.2.2.trans (KF.below (by simp) HY.out.2.2.2.size)⟩
end Go.Proofs.YtkkolclmfcmfbaaGreatDoor
namespace Go.Proofs.YtkkolclmfcmfbaaGreatDoor
open Go.RowKit
def CtsAt (w:World) (a:Option Addr) (l:List Ct):Prop :=
 l=[]∨∃ b off,a=some ⟨b,off,none⟩∧b<w.heap.size∧∀ (j:Nat) (c:Ct),l[j]?=some c→w.cell? ⟨b,off+j*4,none⟩=some (.int .i64 c.t.op)∧w.cell? ⟨b,off+j*4+1,none⟩=some (.int .i64 c.t.a)∧w.cell? ⟨b,off+j*4+2,none⟩=some (.int .i64 c.t.b)∧w.cell? ⟨b,off+j*4+3,none⟩=some (.int .i64 c.n)
theorem CtsAt.below {w w' :World} {a:Option Addr} {l:List Ct} (h:CtsAt w a l) (hb:Below w.heap.size w w'):CtsAt w' a l:=by
 rcases h with h | ⟨b,off,rfl,hlt,h⟩
 ·exact Or.inl h
 ·refine Or.inr ⟨b,off,rfl,Nat.lt_of_lt_of_le hlt hb.size,fun j t ht=>?_⟩
  rw [hb.cell (p:=⟨b,_,none⟩) hlt,hb.cell (p:=⟨b,_,none⟩) hlt,hb.cell (p:=⟨b,_,none⟩) hlt,hb.cell (p:=⟨b,_,none⟩) hlt]
  exact h j t ht
theorem CtsAt.at {w:World} {a:Option Addr} {l:List Ct} (h:CtsAt w a l) {k:Nat} {c:Ct} (hk:l[k]?=some c):∃ b off,a=some ⟨b,off,none⟩∧b<w.heap.size∧w.cell? ⟨b,off+k*4,none⟩=some (.int .i64 c.t.op)∧w.cell? ⟨b,off+k*4+1,none⟩=some (.int .i64 c.t.a)∧w.cell? ⟨b,off+k*4+2,none⟩=some (.int .i64 c.t.b)∧w.cell? ⟨b,off+k*4+3,none⟩=some (.int .i64 c.n):=by
 rcases h with h | ⟨b,off,rfl,hlt,h⟩
 ·subst h;simp at hk
 ·exact ⟨b,off,rfl,hlt,h k c hk⟩
theorem cts_of_owns {w:World} {base:Nat} {e:TypeId} {v:Value} {l:List Ct} (h:w.ownsRow base e 4 v l.length (l.flatMap encCt)):∃ a cap,v=.slice a l.length cap∧CtsAt w a l:=by
 have hc:∀ g,v.ownBlock=some g→∀ j u,(l.flatMap encCt)[j]?=some u→w.cell? ((⟨g,0,none⟩:Addr).add j)=some u:=fun g hg=>h.cells hg
 obtain ⟨_,h⟩:=h
 rcases h with ⟨rfl,h0⟩ | ⟨g,cap,cur,rfl,h1,h2,h3,h4,h5,h6⟩
 ·have:l=[]:=List.eq_nil_of_length_eq_zero h0
  subst this
  exact ⟨none,0,rfl,Or.inl rfl⟩
 ·refine ⟨_,cap,rfl,Or.inr ⟨g,0,rfl,(Array.getElem?_eq_some_iff.1 h2).1,?_⟩⟩
  intro j t ht
  have e:∀ i,(⟨g,0,none⟩:Addr).add i=⟨g,0+i,none⟩:=by intro i;cases i <;> simp [Addr.add]
  have f:∀ i,i<4→∀ u,(encCt t)[i]?=some u→w.cell? ⟨g,0+(j*4+i),none⟩=some u:=by
   intro i hi u hu
   have:=hc g rfl (j*4+i) u (by rw [flat4 l j i t ht hi];exact hu)
   rwa [e] at this
  exact ⟨f 0 (by omega) _ rfl,f 1 (by omega) _ rfl,f 2 (by omega) _ rfl,f 3 (by omega) _ rfl⟩
def tmo (l:List Ct) (t:Tm):Int:=(ctOf l t).getD 0
theorem ctOf_split {l:List Ct} {t:Tm} {k:Nat} {c:Ct} (h:∀ d∈l.take k,d.t≠t) (hk:l[k]?=some c) (hc:c.t=t):ctOf l t=some c.n:=by
 induction l generalizing k with
 | nil=>simp at hk
 | cons d l ih =>
  cases k with
  | zero=>simp at hk;subst hk;rw [ctOf_cons,if_pos hc]
  | succ k =>
   simp at hk
   rw [ctOf_cons,if_neg (h d (by simp)),ih (k:=k) (fun e he=>h e (by simp [he])) hk]
theorem ctOf_not {l:List Ct} {t:Tm} (h:∀ d∈l,d.t≠t):ctOf l t=none:=by
 induction l with
 | nil=>rfl
 | cons d l ih=>rw [ctOf_cons,if_neg (h d (by simp)),ih fun e he=>h e (by simp [he])]
theorem take_more {l:List Ct} {t:Tm} {k:Nat} {c:Ct} (h:∀ d∈l.take k,d.t≠t) (hk:l[k]?=some c) (hc:c.t≠t):∀ d∈l.take (k+1),d.t≠t:=by
 rw [List.take_add_one,hk]
 intro d hd
 rw [List.mem_append] at hd
 rcases hd with hd | hd
 ·exact h d hd
 ·simp at hd;subst hd;exact hc
theorem times_any (v0 v1 v2 v3:Value) (a:Option Addr) (cap:Nat) (l:List Ct) (t:Tm) (w:World) (hC:CtsAt w a l) (hl:l.length≤9223372036854775807) :
 Calls Tryz.prog 21 #[.agg #[v0,v1,v2,v3,.slice a l.length cap],.agg #[.int .i64 t.op,.int .i64 t.a,.int .i64 t.b]] w fun e w' =>e=.returned (.int .i64 (tmo l t))∧Below w.heap.size w w' :=by
 go_enter Tryz.func21,Tryz.ntmps21
 go_wp2
 have hb0:Below w.heap.size w ((w.alloc (.cells #[v0,v1,v2,v3,.slice a l.length cap] 33)).alloc (.cells #[.int .i64 t.op,.int .i64 t.a,.int .i64 t.b] 57)):=((Below.refl _ w).alloc (Nat.le_refl _) _).alloc (by simp) _
 have hs0:((w.alloc (.cells #[v0,v1,v2,v3,.slice a l.length cap] 33)).alloc (.cells #[.int .i64 t.op,.int .i64 t.a,.int .i64 t.b] 57)).heap.size=w.heap.size+2:=by simp
 have hk0:((w.alloc (.cells #[v0,v1,v2,v3,.slice a l.length cap] 33)).alloc (.cells #[.int .i64 t.op,.int .i64 t.a,.int .i64 t.b] 57)).heap[w.heap.size+1]?=some (.cells #[.int .i64 t.op,.int .i64 t.a,.int .i64 t.b] 57 (0,0)):=blk_new (by simp)
 generalize (w.alloc (.cells #[v0,v1,v2,v3,.slice a l.length cap] 33)).alloc (.cells #[.int .i64 t.op,.int .i64 t.a,.int .i64 t.b] 57)=W0 at hb0 hs0 hk0 ⊢
 have HC:=hide (hC.below hb0)
 clear hC
 go_loopw [10] (fun i wr=>∃ k:Nat,k≤l.length∧i=.int .i64 k∧(∀ d∈l.take k,d.t≠t)∧Below W0.heap.size W0 wr) (fun i _=>l.length-(intOf i).toNat)
 case atStart=>exact ⟨0,Nat.zero_le _,rfl,by simp,Below.refl _ _⟩
 case round =>
  obtain ⟨k,hk,rfl,hn,hb⟩:=hrel
  have HN:=hide hn
  clear hn
  have t0:wr.cell? ⟨w.heap.size+1,0,none⟩=some (.int .i64 t.op):=by rw [hb.cell (p:=⟨w.heap.size+1,0,none⟩) (by simp;omega),blk_cell hk0];rfl
  have t1:wr.cell? ⟨w.heap.size+1,1,none⟩=some (.int .i64 t.a):=by rw [hb.cell (p:=⟨w.heap.size+1,1,none⟩) (by simp;omega),blk_cell hk0];rfl
  have t2:wr.cell? ⟨w.heap.size+1,2,none⟩=some (.int .i64 t.b):=by rw [hb.cell (p:=⟨w.heap.size+1,2,none⟩) (by simp;omega),blk_cell hk0];rfl
  have hsr:=hb.size
  have hBw:Below w.heap.size w wr:=hb0.trans (hb.mono hb0.size)
  have HB:=hide hBw
  have HBr:=hide hb
  have hwr:w.heap.size+1<wr.heap.size:=by omega
  clear hb hBw hk0
  by_cases hlt:k<l.length
  ·obtain ⟨c,hc⟩:∃ c,l[k]?=some c:=⟨l[k],List.getElem?_eq_getElem hlt⟩
   obtain ⟨b,off,rfl,hbl,c0,c1,c2,c3⟩:=(HC.out.below HBr.out).at hc
   have hlt' :(k:Int)<(l.length:Int):=by omega
   by_cases e:c.t=t
   ·subst e
    go_wp2
    go_ret
    refine ⟨ret_int ?_,HB.out.alloc (by omega) _⟩
    rw [tmo,ctOf_split HN.out hc rfl];rfl
   ·have HE:=hide e
    have HX:=hide hc
    clear e hc
    go_wp2
    all_goals first
     | refine ⟨⟨k+1,by omega,by go_num,take_more HN.out HX.out HE.out,HBr.out.alloc (by omega) _⟩,by simp [intOf];omega⟩
     | skip
    exfalso
    apply HE.out
    cases t;cases hct:c.t
    simp_all
  ·have hlt' :¬ (k:Int)<(l.length:Int):=by omega
   go_wp2
   go_ret
   refine ⟨ret_int ?_,HB.out⟩
   rw [tmo,ctOf_not (fun d hd=>HN.out d (by rw [List.take_of_length_le (by omega)];exact hd))]
   rfl
theorem in_two {w:World} {b:Nat} {x y:Int} (hb:b<w.heap.size) (h0:w.cell? ⟨b,0,none⟩=some (.int .i64 x)) (h1:w.cell? ⟨b,1,none⟩=some (.int .i64 y)):InAt w w.heap.size (some ⟨b,0,none⟩) [x,y]:=by
 refine Or.inr ⟨b,0,rfl,hb,?_⟩
 intro j z hz
 match j,hz with
 | 0,hz=>simp at hz;subst hz;exact h0
 | 1,hz=>simp at hz;subst hz;exact h1
 | j+2,hz=>simp at hz
theorem run_fit (r:Int) (nb noff cap:Nat) (ns:List Nd) (ia:Option Addr) (ic:Nat) (inp:List Int) (fuel:Int) (w:World) (hN:NodesAt w nb noff ns) (hI:InAt w w.heap.size ia inp) (hic:inp.length≤ic) (hw:rerr r ns inp.length fuel=0) :
 Calls Tryz.prog 7 #[.agg #[.int .i64 r,.slice (some ⟨nb,noff,none⟩) ns.length cap],.slice ia inp.length ic,.int .i64 fuel] w fun e w' =>∃ ao co ac cc,e=.returned (.tuple #[.agg #[.slice ao (fin r ns inp fuel).out.length co,.int .i64 (fin r ns inp fuel).ret,.bool (fin r ns inp fuel).ended,.int .i64 (fin r ns inp fuel).steps,.slice ac (fin r ns inp fuel).cts.length cc],.int .i64 0]) ∧
  IntsAt w' ao (fin r ns inp fuel).out∧CtsAt w' ac (fin r ns inp fuel).cts∧Below w.heap.size w w' ∧(fin r ns inp fuel).out.length≤co∧∀ (A:List Nat) (u:World),Keeps A w' u→(∀ x∈A,x<w.heap.size)→IntsAt u ao (fin r ns inp fuel).out∧CtsAt u ac (fin r ns inp fuel).cts:=by
 refine (run_ok r nb noff cap ns ia ic inp fuel w hN hI hic hw).mono ?_
 rintro e w' ⟨vo,vc,rfl,h1,h2,hb⟩
 have hle:∀ a c,vo=.slice a (fin r ns inp fuel).out.length c→(fin r ns inp fuel).out.length≤c:=by
  intro a c hv
  rcases h1.2 with ⟨q,h0⟩ | ⟨g,cap', cur,q,_,_,q2,_⟩
  ·omega
  ·rw [q] at hv;injection hv with e1 e2 e3;omega
 obtain ⟨ao,co,rfl,hI'⟩:=ints_of_owns h1
 obtain ⟨ac,cc,rfl,hC⟩:=cts_of_owns h2
 refine ⟨ao,co,ac,cc,rfl,hI', hC,hb,hle _ _ rfl,fun A u K hA=>?_⟩
 obtain ⟨a1,c1,e1,hI1⟩:=ints_of_owns (K.owns h1 hA)
 obtain ⟨a2,c2,e2,hC2⟩:=cts_of_owns (K.owns h2 hA)
 injection e1 with e1
 injection e2 with e2
 subst e1 e2
 exact ⟨hI1,hC2⟩
theorem same_one {w0:World} (a:Option Addr) (ca:Nat) (x:Int) (W:World) (hI:IntsAt w0 a [x]) (hB:Below w0.heap.size w0 W) :
 Calls Tryz.prog 20 #[.slice a 1 ca,.slice (some ⟨W.heap.size,0,none⟩) 1 1] (W.alloc (.cells #[.int .i64 x] 3)) fun e w' =>e=.returned (.bool true)∧Below w0.heap.size w0 w' :=by
 have hB1:Below w0.heap.size w0 (W.alloc (.cells #[.int .i64 x] 3)):=hB.alloc hB.size _
 have hJ:IntsAt (W.alloc (.cells #[.int .i64 x] 3)) (some ⟨W.heap.size,0,none⟩) [x]:=by
  refine Or.inr ⟨_,_,rfl,by simp,?_⟩
  intro j z hz
  match j,hz with
  | 0,hz=>simp at hz;subst hz;simp
  | j+1,hz=>simp at hz
 refine (sameInts_any a _ ca 1 [x] [x] _ (hI.below hB1) hJ (by simp) (by simp)).mono ?_
 rintro e w' ⟨rfl,n,rfl⟩
 exact ⟨by simp,below_drewN hB1 n⟩
theorem times_lit {w0:World} (v0 v1 v2 v3:Value) (a:Option Addr) (cap:Nat) (n:Int) (W:World) (hC:CtsAt w0 a [⟨⟨3,0,1⟩,n⟩]) (hB:Below w0.heap.size w0 W) :
 Calls Tryz.prog 21 #[.agg #[v0,v1,v2,v3,.slice a 1 cap],.agg #[.int .i64 3,.int .i64 0,.int .i64 1]] W fun e w' =>e=.returned (.int .i64 n)∧Below w0.heap.size w0 w' :=by
 refine (times_any v0 v1 v2 v3 a cap [⟨⟨3,0,1⟩,n⟩] ⟨3,0,1⟩ W (hC.below hB) (by simp)).mono ?_
 rintro e w' ⟨rfl,hb⟩
 exact ⟨by simp [tmo,ctOf],hB.trans (hb.mono hB.size)⟩
theorem IntsAt.take {w:World} {a:Option Addr} {l:List Int} (h:IntsAt w a l) (n:Nat):IntsAt w a (l.take n):=by
 rcases h with h | ⟨b,off,rfl,hlt,h⟩
 ·left;rw [h];simp
 ·refine Or.inr ⟨b,off,rfl,hlt,fun j z hz=>h j z ?_⟩
  rw [List.getElem?_take] at hz
  split at hz
  ·exact hz
  ·cases hz
theorem begins_any (a b:Option Addr) (ca cb:Nat) (xs ys:List Int) (w:World) (hx:IntsAt w a xs) (hy:IntsAt w b ys) (hl:xs.length≤140737488351232) (hl' :ys.length≤140737488351232) (hca:xs.length≤ca) (hp:ys <+: xs) :
 Calls Tryz.prog 25 #[.slice a xs.length ca,.slice b ys.length cb] w fun e w' =>e=.returned (.bool true)∧Below w.heap.size w w' :=by
 have hle:=hp.length_le
 have ht:xs.take ys.length=ys:=(List.prefix_iff_eq_take.1 hp).symm
 have hle' :(ys.length:Int)≤(xs.length:Int):=by omega
 go_enter Tryz.func25,Tryz.ntmps25
 go_wp2_with fail
 have hT:=hx.take ys.length
 rw [ht] at hT
 refine (sameInts_any a b ca cb ys ys w hT hy hl' hl').mono ?_
 rintro e w1 ⟨rfl,n,rfl⟩
 go_wp2
 go_ret
 exact ⟨by simp,below_drewN (Below.refl _ _) n⟩
def res (r:Int) (ns:List Nd) (inp:List Int) (fuel:Int):St:=if rerr r ns inp.length fuel=0 then fin r ns inp fuel else st0 0 []
theorem stp_out (x:Nd) (s:St):s.out <+: (stp x s).out∧(stp x s).out.length≤s.out.length+1:=by
 unfold stp;repeat' split
 all_goals simp
theorem stp_cts (x:Nd) (s:St):(stp x s).cts.length≤s.cts.length+1:=by
 unfold stp;repeat' split
 all_goals (try simp)
 exact omore_len _ _
theorem runN_out {ns:List Nd}:∀ (n:Nat) (s:St),s.out <+: (runN ns n s).out∧(runN ns n s).out.length≤s.out.length+n
 | 0,s=>by simp [runN]
 | n+1,s=>by
  simp only [runN]
  split
  ·simp
  ·split
   ·rename_i x _
    have h1:=runN_out (ns:=ns) n (stp x s)
    have h2:=stp_out x s
    exact ⟨h2.1.trans h1.1,by omega⟩
   ·simp
theorem runN_cts {ns:List Nd}:∀ (n:Nat) (s:St),(runN ns n s).cts.length≤s.cts.length+n
 | 0,s=>by simp [runN]
 | n+1,s=>by
  simp only [runN]
  split
  ·omega
  ·split
   ·rename_i x _
    have h1:=runN_cts (ns:=ns) n (stp x s)
    have h2:=stp_cts x s
    omega
   ·omega
theorem rerr_zero {r:Int} {ns:List Nd} {il:Nat} {fuel:Int} (h:rerr r ns il fuel=0):chk r ns=0∧il≤256∧0≤fuel∧fuel≤131072:=by
 unfold rerr at h
 split at h
 ·split at h
  ·omega
  ·split at h
   ·omega
   ·omega
 ·rename_i hc;exact absurd h hc
theorem res_len (r:Int) (ns:List Nd) (inp:List Int) (fuel:Int):(res r ns inp fuel).out.length≤131072∧(res r ns inp fuel).cts.length≤131072:=by
 unfold res
 split
 ·rename_i h
  have hz:=rerr_zero h
  have h1:=(runN_out (ns:=ns) fuel.toNat (st0 r.toNat inp)).2
  have h2:=runN_cts (ns:=ns) fuel.toNat (st0 r.toNat inp)
  simp only [st0,List.length_nil] at h1 h2
  constructor
  ·show (runN ns fuel.toNat (st0 r.toNat inp)).out.length≤_
   simp only [st0];omega
  ·show (runN ns fuel.toNat (st0 r.toNat inp)).cts.length≤_
   simp only [st0];omega
 ·simp [st0]
theorem run_any (r:Int) (a:Option Addr) (cap:Nat) (ns:List Nd) (ia:Option Addr) (ic:Nat) (inp:List Int) (fuel:Int) (w:World) (hN:SlN w a ns) (hI:IntsAt w ia inp) (hic:inp.length≤ic) (hil:inp.length≤9223372036854775807) :
 Calls Tryz.prog 7 #[.agg #[.int .i64 r,.slice a ns.length cap],.slice ia inp.length ic,.int .i64 fuel] w fun e w' =>∃ ao co ac cc,e=.returned (.tuple #[.agg #[.slice ao (res r ns inp fuel).out.length co,.int .i64 (res r ns inp fuel).ret,.bool (res r ns inp fuel).ended,.int .i64 (res r ns inp fuel).steps,.slice ac (res r ns inp fuel).cts.length cc],.int .i64 (rerr r ns inp.length fuel)]) ∧
  IntsAt w' ao (res r ns inp fuel).out∧CtsAt w' ac (res r ns inp fuel).cts∧Below w.heap.size w w' ∧(res r ns inp fuel).out.length≤co∧∀ (A:List Nat) (u:World),Keeps A w' u→(∀ x∈A,x<w.heap.size)→IntsAt u ao (res r ns inp fuel).out∧CtsAt u ac (res r ns inp fuel).cts:=by
 by_cases h:rerr r ns inp.length fuel=0
 ·obtain ⟨b,off,rfl,hNb⟩:=hN.some (chk_zero (rerr_zero h).1).1.1
  have e:res r ns inp fuel=fin r ns inp fuel:=by rw [res,if_pos h]
  rw [e,h]
  exact run_fit r b off cap ns ia ic inp fuel w hNb hI hic h
 ·have e:res r ns inp fuel=st0 0 []:=by rw [res,if_neg h]
  rw [e]
  refine (run_wrong r a cap ns ia inp.length ic fuel w hN hil h).mono ?_
  rintro e w' ⟨rfl,hb⟩
  exact ⟨none,0,none,0,rfl,Or.inl rfl,Or.inl rfl,hb,by simp [st0],fun _ _ _ _=>⟨Or.inl rfl,Or.inl rfl⟩⟩
theorem run_at {w0:World} (r:Int) (a:Option Addr) (cap:Nat) (ns:List Nd) (ia:Option Addr) (ic:Nat) (inp:List Int) (fuel:Int) (w:World) (hN:SlN w0 a ns) (hI:IntsAt w0 ia inp) (hic:inp.length≤ic) (hil:inp.length≤9223372036854775807) (hB:Below w0.heap.size w0 w) :
 Calls Tryz.prog 7 #[.agg #[.int .i64 r,.slice a ns.length cap],.slice ia inp.length ic,.int .i64 fuel] w fun e w' =>∃ ao co ac cc,e=.returned (.tuple #[.agg #[.slice ao (res r ns inp fuel).out.length co,.int .i64 (res r ns inp fuel).ret,.bool (res r ns inp fuel).ended,.int .i64 (res r ns inp fuel).steps,.slice ac (res r ns inp fuel).cts.length cc],.int .i64 (rerr r ns inp.length fuel)]) ∧
  IntsAt w' ao (res r ns inp fuel).out∧CtsAt w' ac (res r ns inp fuel).cts∧Below w.heap.size w w' ∧(res r ns inp fuel).out.length≤co∧(∀ (A:List Nat) (u:World),Keeps A w' u→(∀ x∈A,x<w.heap.size)→IntsAt u ao (res r ns inp fuel).out∧CtsAt u ac (res r ns inp fuel).cts)∧Below w0.heap.size w0 w' :=by
 refine (run_any r a cap ns ia ic inp fuel w (hN.below hB) (hI.below hB) hic hil).mono ?_
 rintro e w' ⟨ao,co,ac,cc,rfl,hI', hC', hb', hco,hQ⟩
 exact ⟨ao,co,ac,cc,rfl,hI', hC', hb', hco,hQ,hB.trans (hb'.mono hB.size)⟩
theorem run_at1 (r:Int) (a:Option Addr) (cap:Nat) (ns:List Nd) (ia:Option Addr) (ic:Nat) (inp:List Int) (fuel:Int) (W:World) (hN:SlN W a ns) (hI:IntsAt W ia inp) (hic:inp.length≤ic) (hil:inp.length≤9223372036854775807) :
 Calls Tryz.prog 7 #[.agg #[.int .i64 r,.slice a ns.length cap],.slice ia inp.length ic,.int .i64 fuel] W.drew fun e w' =>∃ ao co ac cc,e=.returned (.tuple #[.agg #[.slice ao (res r ns inp fuel).out.length co,.int .i64 (res r ns inp fuel).ret,.bool (res r ns inp fuel).ended,.int .i64 (res r ns inp fuel).steps,.slice ac (res r ns inp fuel).cts.length cc],.int .i64 (rerr r ns inp.length fuel)]) ∧
  IntsAt w' ao (res r ns inp fuel).out∧CtsAt w' ac (res r ns inp fuel).cts∧(res r ns inp fuel).out.length≤co∧Below W.heap.size W w' :=by
 refine (run_at r a cap ns ia ic inp fuel W.drew hN hI hic hil (Below.refl _ W).drew).mono ?_
 rintro e w' ⟨ao,co,ac,cc,rfl,hI', hC', hb', hco,hQ,hB⟩
 exact ⟨ao,co,ac,cc,rfl,hI', hC', hco,hB⟩
theorem run_at2 (r:Int) (a:Option Addr) (cap:Nat) (ns:List Nd) (ia:Option Addr) (ic:Nat) (inp:List Int) (fuel:Int) (W:World) (hN:SlN W a ns) (hI:IntsAt W ia inp) (hic:inp.length≤ic) (hil:inp.length≤9223372036854775807) :
 Calls Tryz.prog 7 #[.agg #[.int .i64 r,.slice a ns.length cap],.slice ia inp.length ic,.int .i64 fuel] (W.alloc (.cells #[.slice none 0 0,.int .i64 0,.bool false,.int .i64 0,.slice none 0 0] 33)).drew fun e w' =>∃ ao co ac cc,e=.returned (.tuple #[.agg #[.slice ao (res r ns inp fuel).out.length co,.int .i64 (res r ns inp fuel).ret,.bool (res r ns inp fuel).ended,.int .i64 (res r ns inp fuel).steps,.slice ac (res r ns inp fuel).cts.length cc],.int .i64 (rerr r ns inp.length fuel)]) ∧
  IntsAt w' ao (res r ns inp fuel).out∧CtsAt w' ac (res r ns inp fuel).cts∧(res r ns inp fuel).out.length≤co∧Below W.heap.size W w' ∧w'.heap[W.heap.size]?=some (.cells #[.slice none 0 0,.int .i64 0,.bool false,.int .i64 0,.slice none 0 0] 33 (0,0)) ∧
  ∀ v0 v1 v2 v3 v4,IntsAt (fill5 w' W.heap.size v0 v1 v2 v3 v4) ao (res r ns inp fuel).out∧CtsAt (fill5 w' W.heap.size v0 v1 v2 v3 v4) ac (res r ns inp fuel).cts:=by
 refine (run_at r a cap ns ia ic inp fuel _ hN hI hic hil (((Below.refl _ W).alloc (Nat.le_refl _) _).drew)).mono ?_
 rintro e w' ⟨ao,co,ac,cc,rfl,hI', hC', hb', hco,hQ,hB⟩
 refine ⟨ao,co,ac,cc,rfl,hI', hC', hco,hB,?_,fun v0 v1 v2 v3 v4=>hQ _ _ (fill5_keeps w' W.heap.size v0 v1 v2 v3 v4) ?_⟩
 ·rw [hb'.block _ (by show W.heap.size<(W.alloc _).heap.size;simp)]
  exact blk_drew (blk_new rfl)
 ·intro x hx
  simp at hx
  subst hx
  show W.heap.size<(W.alloc _).heap.size
  simp
structure Got (σ:St) (er:Int) (W wx:World) (v12 v13:Value):Prop where
 blk:∃ b ao co ac cc,v12=.pointer (some ⟨b,0,none⟩)∧wx.heap[b]?=some (.cells #[.slice ao σ.out.length co,.int .i64 σ.ret,.bool σ.ended,.int .i64 σ.steps,.slice ac σ.cts.length cc] 33 (0,0))∧IntsAt wx ao σ.out∧CtsAt wx ac σ.cts∧σ.out.length≤co
 val:v13=.int .i64 er
 below:Below W.heap.size W wx
theorem few_any (ia:Option Addr) (ic:Nat) (inp:List Int) (w:World) (hic:inp.length≤ic) (hil:inp.length≤9223372036854775807) :
 Calls Tryz.prog 8 #[.slice ia inp.length ic] w fun e w' =>e=.returned (.slice ia (inp.take 256).length ic)∧w' =w:=by
 by_cases h0:256<inp.length
 ·have e:(inp.take 256).length=256:=by simp;omega
  have h1:(256:Int)<(inp.length:Int):=by omega
  have h2:(256:Int)≤(ic:Int):=by omega
  rw [e]
  go_enter Tryz.func8,Tryz.ntmps8
  go_wp2
  go_ret
  exact ⟨by simp,rfl⟩
 ·have e:inp.take 256=inp:=List.take_of_length_le (by omega)
  have h1:¬ (256:Int)<(inp.length:Int):=by omega
  rw [e]
  go_enter Tryz.func8,Tryz.ntmps8
  go_wp2
  go_ret
  exact ⟨by simp,rfl⟩
structure Doing (σa σb σc:St):Prop where
 b1:σb.ended=true→σa.ended=true∧σa.ret=σb.ret∧σa.out=σb.out
 b2:σb.out <+: σa.out
 c1:σa.ended=true→σc.ended=true∧σa.ret=σc.ret∧σa.out=σc.out
 c2:σa.out <+: σc.out
theorem sameInts_dr {W:World} (a b:Option Addr) (ca cb:Nat) (xs ys:List Int) (u:World) (hu:∃ k,u=W.drewN k) (hx:IntsAt W a xs) (hy:IntsAt W b ys) (hl:xs.length≤140737488351232) (hl' :ys.length≤140737488351232) (he:xs=ys) :
 Calls Tryz.prog 20 #[.slice a xs.length ca,.slice b ys.length cb] u fun e w' =>e=.returned (.bool true)∧∃ k,w' =W.drewN k:=by
 obtain ⟨k,rfl⟩:=hu
 refine (sameInts_any a b ca cb xs ys _ (hx.below (below_drewN (Below.refl _ _) k)) (hy.below (below_drewN (Below.refl _ _) k)) hl hl').mono ?_
 rintro e w1 ⟨rfl,n,rfl⟩
 subst he
 exact ⟨by simp,k+n,by rw [World.drewN_drewN]⟩
theorem begins_dr {W:World} (a b:Option Addr) (ca cb:Nat) (xs ys:List Int) (u:World) (hu:∃ k,u=W.drewN k) (hx:IntsAt W a xs) (hy:IntsAt W b ys) (hl:xs.length≤140737488351232) (hl' :ys.length≤140737488351232) (hca:xs.length≤ca) (hp:ys <+: xs) :
 Calls Tryz.prog 25 #[.slice a xs.length ca,.slice b ys.length cb] u fun e w' =>e=.returned (.bool true)∧∃ k,w' =W.drewN k:=by
 obtain ⟨k,rfl⟩:=hu
 have hle:=hp.length_le
 have ht:xs.take ys.length=ys:=(List.prefix_iff_eq_take.1 hp).symm
 have hle' :(ys.length:Int)≤(xs.length:Int):=by omega
 have hT:=hx.take ys.length
 rw [ht] at hT
 have HT:=hide (hT.below (below_drewN (Below.refl _ _) k))
 have HY:=hide (hy.below (below_drewN (Below.refl _ _) k))
 clear hx hy hT hp ht
 generalize hV:W.drewN k=V at HT HY ⊢
 go_enter Tryz.func25,Tryz.ntmps25
 go_wp2_with fail
 refine (sameInts_any a b ca cb ys ys V HT.out HY.out hl' hl').mono ?_
 rintro e w1 ⟨rfl,n,rfl⟩
 go_wp2
 go_ret
 refine ⟨by simp,k+n,?_⟩
 rw [← hV,World.drewN_drewN]
set_option maxRecDepth 100000 in
theorem does_any (r r' :Int) (a b:Option Addr) (ca cb:Nat) (ns ms:List Nd) (ia:Option Addr) (ic:Nat) (inp:List Int) (n:Int) (w:World) (hN:SlN w a ns) (hM:SlN w b ms) (hI:IntsAt w ia inp) (hic:inp.length≤ic) (hil:inp.length≤9223372036854775807)
 (hn0:0≤n) (hn1:n<400) (hml:ms.length≤256) (h1:rerr r ns inp.length n=0) (h2:rerr r' ms inp.length n=0) (h3:rerr r' ms inp.length (n*((ms.length:Int)+1)+ms.length)=0)
 (hD:Doing (res r ns inp n) (res r' ms inp n) (res r' ms inp (n*((ms.length:Int)+1)+ms.length))) :
 Calls Tryz.prog 10 #[.agg #[.int .i64 r,.slice a ns.length ca],.agg #[.int .i64 r', .slice b ms.length cb],.slice ia inp.length ic,.int .i64 n] w fun e w' =>e=.returned (.bool true)∧Below w.heap.size w w' :=by
 have hK0:0≤n*((ms.length:Int)+1):=Int.mul_nonneg hn0 (by omega)
 have hK1:n*((ms.length:Int)+1)≤400*257:=Int.le_trans (Int.mul_le_mul_of_nonneg_right (by omega) (by omega)) (Int.mul_le_mul_of_nonneg_left (by omega) (by omega))
 have HWW:=hide (show wrap64 (wrap64 (n*((ms.length:Int)+1))+(ms.length:Int))=n*((ms.length:Int)+1)+ms.length by unfold wrap64;omega)
 have hml' :(ms.length:Int)+1≤257:=by omega
 have HK:=hide (And.intro hK0 hK1)
 have H1:=hide h1
 have H2:=hide h2
 have H3:=hide h3
 have HD:=hide hD
 clear h1 h2 h3 hD hK0 hK1
 go_enter Tryz.func10,Tryz.ntmps10
 go_wp2_with fail
 have hb0:Below w.heap.size w ((w.alloc (.cells #[.int .i64 r,.slice a ns.length ca] 24)).alloc (.cells #[.int .i64 r', .slice b ms.length cb] 24)):=((Below.refl _ w).alloc (Nat.le_refl _) _).alloc (by simp) _
 have hp0:((w.alloc (.cells #[.int .i64 r,.slice a ns.length ca] 24)).alloc (.cells #[.int .i64 r', .slice b ms.length cb] 24)).heap[w.heap.size]?=some (.cells #[.int .i64 r,.slice a ns.length ca] 24 (0,0)):=(Below.heap_alloc _ _ _ (by simp)).trans (World.alloc_heap_new w _)
 have hq0:((w.alloc (.cells #[.int .i64 r,.slice a ns.length ca] 24)).alloc (.cells #[.int .i64 r', .slice b ms.length cb] 24)).heap[w.heap.size+1]?=some (.cells #[.int .i64 r', .slice b ms.length cb] 24 (0,0)):=by
  have:=World.alloc_heap_new (w.alloc (.cells #[.int .i64 r,.slice a ns.length ca] 24)) (.cells #[.int .i64 r', .slice b ms.length cb] 24)
  rwa [World.size_alloc] at this
 generalize ((w.alloc (.cells #[.int .i64 r,.slice a ns.length ca] 24)).alloc (.cells #[.int .i64 r', .slice b ms.length cb] 24))=W0 at hb0 hp0 hq0 ⊢
 have HN:=hide (hN.below hb0)
 have HM:=hide (hM.below hb0)
 have HI:=hide (hI.below hb0)
 have HB0:=hide hb0
 clear hN hM hI hb0
 refine (run_any r a ca ns ia ic inp n W0 HN.out HI.out hic hil).mono ?_
 rintro e w1 ⟨aoa,coa,aca,cca,rfl,hI1,hC1,hb1,hco1,_⟩
 rw [H1.out]
 generalize hσa:res r ns inp n=σa at *
 have Hσa:=hide hσa
 clear hσa
 go_upto_region 2 with fail
 have hx:Below w1.heap.size w1 (w1.alloc (.cells #[.slice aoa σa.out.length coa,.int .i64 σa.ret,.bool σa.ended,.int .i64 σa.steps,.slice aca σa.cts.length cca] 33)):=(Below.refl _ w1).alloc (Nat.le_refl _) _
 have hra:(w1.alloc (.cells #[.slice aoa σa.out.length coa,.int .i64 σa.ret,.bool σa.ended,.int .i64 σa.steps,.slice aca σa.cts.length cca] 33)).heap[w1.heap.size]?=some (.cells #[.slice aoa σa.out.length coa,.int .i64 σa.ret,.bool σa.ended,.int .i64 σa.steps,.slice aca σa.cts.length cca] 33 (0,0)):=World.alloc_heap_new w1 _
 have hBa:Below W0.heap.size W0 (w1.alloc (.cells #[.slice aoa σa.out.length coa,.int .i64 σa.ret,.bool σa.ended,.int .i64 σa.steps,.slice aca σa.cts.length cca] 33)):=hb1.trans (hx.mono hb1.size)
 replace hp0:=(hBa.block _ (blk_lt hp0)).trans hp0
 replace hq0:=(hBa.block _ (blk_lt hq0)).trans hq0
 have HIa:=hide (hI1.below hx)
 have HOa:=hide hco1
 generalize (w1.alloc (.cells #[.slice aoa σa.out.length coa,.int .i64 σa.ret,.bool σa.ended,.int .i64 σa.steps,.slice aca σa.cts.length cca] 33))=W1 at hBa hra HIa hp0 hq0 ⊢
 generalize w1.heap.size=Ra at hra ⊢
 clear hx hC1 hI1 hb1 hco1
 have p0:=blk_cell hq0 0
 have p1:=blk_cell hq0 1
 simp at p0 p1
 have pl:=blk_lt hq0
 have HBa:=hide hBa
 have Hra:=hide hra
 have Hq:=hide hq0
 clear hBa hra hq0 hp0
 go_upto_region 3 with (go_at_call 7;refine (run_any r' b cb ms ia ic inp n W1 (HM.out.below HBa.out) (HI.out.below HBa.out) hic hil).mono ?_;rintro e w2 ⟨aob,cob,acb,ccb,rfl,hI2,hC2,hb2,hco2,_⟩;rw [H2.out];generalize hσb:res r' ms inp n=σb at *;have Hσb:=hide hσb;clear hσb)
 have hra:=Hra.out
 have hq0:=Hq.out
 clear Hra Hq p0 p1 pl
 have hx:Below w2.heap.size w2 (w2.alloc (.cells #[.slice aob σb.out.length cob,.int .i64 σb.ret,.bool σb.ended,.int .i64 σb.steps,.slice acb σb.cts.length ccb] 33)):=(Below.refl _ w2).alloc (Nat.le_refl _) _
 have hrb:(w2.alloc (.cells #[.slice aob σb.out.length cob,.int .i64 σb.ret,.bool σb.ended,.int .i64 σb.steps,.slice acb σb.cts.length ccb] 33)).heap[w2.heap.size]?=some (.cells #[.slice aob σb.out.length cob,.int .i64 σb.ret,.bool σb.ended,.int .i64 σb.steps,.slice acb σb.cts.length ccb] 33 (0,0)):=World.alloc_heap_new w2 _
 have hBb:Below W1.heap.size W1 (w2.alloc (.cells #[.slice aob σb.out.length cob,.int .i64 σb.ret,.bool σb.ended,.int .i64 σb.steps,.slice acb σb.cts.length ccb] 33)):=hb2.trans (hx.mono hb2.size)
 replace hra:=(hBb.block _ (blk_lt hra)).trans hra
 replace hq0:=(hBb.block _ (blk_lt hq0)).trans hq0
 have HIb:=hide (hI2.below hx)
 have HOb:=hide hco2
 generalize (w2.alloc (.cells #[.slice aob σb.out.length cob,.int .i64 σb.ret,.bool σb.ended,.int .i64 σb.steps,.slice acb σb.cts.length ccb] 33))=W2 at hBb hrb HIb hra hq0 ⊢
 generalize w2.heap.size=Rb at hrb ⊢
 clear hx hC2 hI2 hb2 hco2
 have p0:=blk_cell hq0 0
 have p1:=blk_cell hq0 1
 simp at p0 p1
 have pl:=blk_lt hq0
 have HBab:=hide (HBa.out.trans (hBb.mono HBa.out.size))
 have HBb:=hide hBb
 have Hra:=hide hra
 have Hrb:=hide hrb
 clear hBb hra hrb hq0
 go_upto_region 4 with (go_at_call 7;rw [HWW.out];refine (run_any r' b cb ms ia ic inp _ W2 (HM.out.below HBab.out) (HI.out.below HBab.out) hic hil).mono ?_;rintro e w3 ⟨aoc,coc,acc,ccc,rfl,hI3,hC3,hb3,hco3,_⟩;rw [H3.out];generalize hσc:res r' ms inp (n*((ms.length:Int)+1)+ms.length)=σc at *;have Hσc:=hide hσc;clear hσc)
 have hra:=Hra.out
 have hrb:=Hrb.out
 clear Hra Hrb p0 p1 pl
 have hx:Below w3.heap.size w3 (w3.alloc (.cells #[.slice aoc σc.out.length coc,.int .i64 σc.ret,.bool σc.ended,.int .i64 σc.steps,.slice acc σc.cts.length ccc] 33)):=(Below.refl _ w3).alloc (Nat.le_refl _) _
 have hrc:(w3.alloc (.cells #[.slice aoc σc.out.length coc,.int .i64 σc.ret,.bool σc.ended,.int .i64 σc.steps,.slice acc σc.cts.length ccc] 33)).heap[w3.heap.size]?=some (.cells #[.slice aoc σc.out.length coc,.int .i64 σc.ret,.bool σc.ended,.int .i64 σc.steps,.slice acc σc.cts.length ccc] 33 (0,0)):=World.alloc_heap_new w3 _
 have hBc:Below W2.heap.size W2 (w3.alloc (.cells #[.slice aoc σc.out.length coc,.int .i64 σc.ret,.bool σc.ended,.int .i64 σc.steps,.slice acc σc.cts.length ccc] 33)):=hb3.trans (hx.mono hb3.size)
 replace hra:=(hBc.block _ (blk_lt hra)).trans hra
 replace hrb:=(hBc.block _ (blk_lt hrb)).trans hrb
 have HIc:=hide (hI3.below hx)
 have HOc:=hide hco3
 generalize (w3.alloc (.cells #[.slice aoc σc.out.length coc,.int .i64 σc.ret,.bool σc.ended,.int .i64 σc.steps,.slice acc σc.cts.length ccc] 33))=W3 at hBc hrc HIc hra hrb ⊢
 generalize w3.heap.size=Rc at hrc ⊢
 clear hx hC3 hI3 hb3 hco3
 have HIa' :=hide (HIa.out.below (HBb.out.trans (hBc.mono HBb.out.size)))
 have HIb' :=hide (HIb.out.below hBc)
 have HBW:=hide (HB0.out.trans ((HBab.out.trans (hBc.mono HBab.out.size)).mono HB0.out.size))
 have HLa:=hide (res_len r ns inp n)
 have HLb:=hide (res_len r' ms inp n)
 have HLc:=hide (res_len r' ms inp (n*((ms.length:Int)+1)+ms.length))
 rw [Hσa.out] at HLa
 rw [Hσb.out] at HLb
 rw [Hσc.out] at HLc
 have HF:=hide HBW.out
 have ka0:=blk_cell hra 0
 have ka1:=blk_cell hra 1
 have ka2:=blk_cell hra 2
 have kb0:=blk_cell hrb 0
 have kb1:=blk_cell hrb 1
 have kb2:=blk_cell hrb 2
 have kc0:=blk_cell hrc 0
 have kc1:=blk_cell hrc 1
 have kc2:=blk_cell hrc 2
 simp at ka0 ka1 ka2 kb0 kb1 kb2 kc0 kc1 kc2
 have kla:=blk_lt hra
 have klb:=blk_lt hrb
 have klc:=blk_lt hrc
 clear hra hrb hrc hBc HIa HIb HBa HBab HBb HN HM HI HB0 Hσa Hσb Hσc HWW HK
 obtain ⟨D1,D2,D3,D4⟩:=HD.out
 have HD1:=hide D1
 have HD2:=hide D2
 have HD3:=hide D3
 have HD4:=hide D4
 clear D1 D2 D3 D4 HD
 cases eb:σb.ended
 ·cases ea:σa.ended
  ·rw [eb] at kb2
   rw [ea] at ka2
   clear eb ea
   go_wp2_with fail
   refine (begins_dr aoa aob coa cob σa.out σb.out _ ⟨0,rfl⟩ HIa'.out HIb'.out (by have:=HLa.out;omega) (by have:=HLb.out;omega) HOa.out HD2.out).mono ?_
   rintro e wx ⟨rfl,m,rfl⟩
   go_wp2_with fail
   refine (begins_dr aoc aoa coc coa σc.out σa.out _ ⟨_,rfl⟩ HIc.out HIa'.out (by have:=HLc.out;omega) (by have:=HLa.out;omega) HOc.out HD4.out).mono ?_
   rintro e wx ⟨rfl,m,rfl⟩
   go_wp2
   go_ret
   exact ⟨by simp,below_drewN HF.out _⟩
  ·rw [eb] at kb2
   clear eb
   have hc:=HD3.out ea
   have ec:=hc.1
   have oc:=hide hc.2.2
   rw [ea] at ka2
   rw [ec] at kc2
   rw [← hc.2.1] at kc1
   clear hc ec ea
   go_wp2_with fail
   refine (begins_dr aoa aob coa cob σa.out σb.out _ ⟨0,rfl⟩ HIa'.out HIb'.out (by have:=HLa.out;omega) (by have:=HLb.out;omega) HOa.out HD2.out).mono ?_
   rintro e wx ⟨rfl,m,rfl⟩
   go_wp2_with fail
   refine (sameInts_dr aoa aoc coa coc σa.out σc.out _ ⟨_,rfl⟩ HIa'.out HIc.out (by have:=HLa.out;omega) (by have:=HLc.out;omega) oc.out).mono ?_
   rintro e wx ⟨rfl,m,rfl⟩
   go_wp2_with fail
   refine (begins_dr aoc aoa coc coa σc.out σa.out _ ⟨_,rfl⟩ HIc.out HIa'.out (by have:=HLc.out;omega) (by have:=HLa.out;omega) HOc.out HD4.out).mono ?_
   rintro e wx ⟨rfl,m,rfl⟩
   go_wp2
   go_ret
   exact ⟨by simp,below_drewN HF.out _⟩
 ·have hb:=HD1.out eb
  have ea:=hb.1
  have ob:=hide hb.2.2
  rw [← hb.2.1] at kb1
  clear hb
  rw [eb] at kb2
  clear eb
  have hc:=HD3.out ea
  have ec:=hc.1
  have oc:=hide hc.2.2
  rw [ea] at ka2
  rw [ec] at kc2
  rw [← hc.2.1] at kc1
  clear hc ec ea
  go_wp2_with fail
  refine (sameInts_dr aoa aob coa cob σa.out σb.out _ ⟨0,rfl⟩ HIa'.out HIb'.out (by have:=HLa.out;omega) (by have:=HLb.out;omega) ob.out).mono ?_
  rintro e wx ⟨rfl,m,rfl⟩
  go_wp2_with fail
  refine (begins_dr aoa aob coa cob σa.out σb.out _ ⟨_,rfl⟩ HIa'.out HIb'.out (by have:=HLa.out;omega) (by have:=HLb.out;omega) HOa.out HD2.out).mono ?_
  rintro e wx ⟨rfl,m,rfl⟩
  go_wp2_with fail
  refine (sameInts_dr aoa aoc coa coc σa.out σc.out _ ⟨_,rfl⟩ HIa'.out HIc.out (by have:=HLa.out;omega) (by have:=HLc.out;omega) oc.out).mono ?_
  rintro e wx ⟨rfl,m,rfl⟩
  go_wp2_with fail
  refine (begins_dr aoc aoa coc coa σc.out σa.out _ ⟨_,rfl⟩ HIc.out HIa'.out (by have:=HLc.out;omega) (by have:=HLa.out;omega) HOc.out HD4.out).mono ?_
  rintro e wx ⟨rfl,m,rfl⟩
  go_wp2
  go_ret
  exact ⟨by simp,below_drewN HF.out _⟩
end Go.Proofs.YtkkolclmfcmfbaaGreatDoor
namespace Go.Proofs.YtkkolclmfcmfbaaGreatDoor
open Go.RowKit Go.Shelf
set_option maxRecDepth 100000 in
theorem clone_in (n:Nat) (b off cap:Nat) (ns:List Nd) (w:World) (hN:NodesAt w b off ns) (hl:1≤ns.length∧ns.length≤512) :
 CallsIn Fence.wide n Tryz.prog 15 #[.slice (some ⟨b,off,none⟩) ns.length cap] w fun e w' =>∃ v,e=.returned v∧w'.ownsRow w.heap.size 48 6 v ns.length (ns.flatMap encNd)∧Below w.heap.size w w' :=by
 obtain ⟨i0,hi0,hz0,hz1,hz2⟩:=info_parts info_node
 have q22:∀ (w:World) (a:Option Addr) (n c n' c' :Nat),(binOp .eql 22 (.slice a n c) (.slice none n' c')).run Tryz.prog w=.ok (.bool a.isNone) w:=fun w a n c n' c' =>Lib.run_eql_slice_nil w _ _ a n c n' c' Tryz.underlying22
 refine callsIn_of_wp Tryz.func15 rfl trivial ?_ rfl
 simp only [Tryz.ntmps15,List.size_toArray,List.length_cons,List.length_nil,Nat.reduceAdd,Nat.reduceSub,Array.replicate_succ,Array.replicate_zero,List.push_toArray,List.append_toArray,List.nil_append,List.cons_append]
 have hbT:Below w.heap.size w (w.alloc (.cells #[] 48)):=(Below.refl _ w).alloc (Nat.le_refl _) _
 gi_wp2_with (gi_at_builtin;refine wpListIn_append_own _ rfl _ _ 22 rfl w.heap.size 48 i0 _ 6 48 Tryz.underlying22 hi0 hz0 hz1 hz2 rfl (by decide) (.slice (some ⟨w.heap.size,0,none⟩) 0 0) 0 [] rfl ⟨rfl,Or.inr ⟨w.heap.size,0,#[],rfl,Nat.le_refl _,World.alloc_heap_new w _,Nat.le_refl _,by decide,rfl,rfl⟩⟩ ⟨b,off,none⟩ ns.length cap (ns.flatMap encNd) rfl (flat_len 6 encNd encNd_len ns) (nodes_flat (hN.below hbT hN.lt)) (encNd_one ns) (by unfold maxLen;omega) (by omega) (by simp) ?_;intro v' w1 hown hgrow _)
 rw [Nat.zero_add,List.nil_append] at hown
 go_ret
 exact ⟨v', rfl,hown,hbT.grown hgrow hbT.size (fun k e=>by simp [Value.ownBlock] at e;omega)⟩
theorem turn_at (x:Nd) (fr tq:Int) (w:World) :
 Calls Tryz.prog 51 #[.agg #[.int .i64 x.op,.int .i64 x.d,.int .i64 x.a,.int .i64 x.b,.int .i64 x.t,.int .i64 x.e],.int .i64 fr,.int .i64 tq] w fun e w' =>e=.returned (.agg #[.int .i64 (trn x fr tq).op,.int .i64 (trn x fr tq).d,.int .i64 (trn x fr tq).a,.int .i64 (trn x fr tq).b,.int .i64 (trn x fr tq).t,.int .i64 (trn x fr tq).e])∧w' =(w.alloc (.cells (encNd (trn x fr tq)).toArray 48)).alloc (.cells (encNd (trn x fr tq)).toArray 48):=by
 obtain ⟨op,d,a,b,t,e⟩:=x
 go_enter Tryz.func51,Tryz.ntmps51
 go_wp2
 all_goals refine bodyPost_ret (v:=.agg #[.int .i64 (trn ⟨op,d,a,b,t,e⟩ fr tq).op,.int .i64 (trn ⟨op,d,a,b,t,e⟩ fr tq).d,.int .i64 (trn ⟨op,d,a,b,t,e⟩ fr tq).a,.int .i64 (trn ⟨op,d,a,b,t,e⟩ fr tq).b,.int .i64 (trn ⟨op,d,a,b,t,e⟩ fr tq).t,.int .i64 (trn ⟨op,d,a,b,t,e⟩ fr tq).e]) ?_ rfl ⟨rfl,?_⟩
 all_goals (rename_i h1 h2;simp only [beq_iff_eq,beq_eq_false_iff_ne,ne_eq] at h1 h2;simp [results,Tryz.results51,go_sem,trn,encNd,h1,h2])
end Go.Proofs.YtkkolclmfcmfbaaGreatDoor
namespace Go.Proofs.YtkkolclmfcmfbaaGreatDoor
open Go
section
variable {P:Program} {ops:Array Oper} {Q:Exit→Act→World→Prop} {md:Region.Mode} {S:World→Prop} {fuel:Nat} {listed:Array Bool} {a:Act} {w:World}
theorem tkn (i:Nat) (oi:Oper) (h:wpAnyH P md ops Q S fuel (listed.setIfInBounds i true) (a.put oi.dst undef) w) (hQ:∀ c a w,Q (.panic c) (a.put oi.dst undef) w→Q (.panic c) a w:=by exact fun _ _ _ h=>h) (hi:ops[i]?=some oi:=by rfl)
 (hs:Region.noSelect ops=true:=by as_aux_lemma=>kernel_rfl) (hf:Region.free md ops listed i=true:=by as_aux_lemma=>kernel_rfl) (hr:(Region.ready md ops listed).contains i=true:=by as_aux_lemma=>kernel_rfl) (hw:Region.wanted oi (yielded ops a.tmps)=false:=by as_aux_lemma=>rfl) (hS:S w:=by assumption):wpAnyH P md ops Q S (fuel+1) listed a w :=
 wpAnyH_take (v:=undef) hi hs hf hr hQ (Or.inr ⟨hw,rfl⟩) hS h
theorem tky (i:Nat) (oi:Oper) {v:Value} (hv:∀ w,S w→(execOp a.eval oi).run P w=.ok (.value v) w) (h:wpAnyH P md ops Q S fuel (listed.setIfInBounds i true) (a.put oi.dst v) w) (hQ:∀ c a w,Q (.panic c) (a.put oi.dst v) w→Q (.panic c) a w:=by exact fun _ _ _ h=>h) (hi:ops[i]?=some oi:=by rfl)
 (hs:Region.noSelect ops=true:=by as_aux_lemma=>kernel_rfl) (hf:Region.free md ops listed i=true:=by as_aux_lemma=>kernel_rfl) (hr:(Region.ready md ops listed).contains i=true:=by as_aux_lemma=>kernel_rfl) (hw:Region.wanted oi (yielded ops a.tmps)=true:=by as_aux_lemma=>rfl) (hS:S w:=by assumption):wpAnyH P md ops Q S (fuel+1) listed a w :=
 wpAnyH_take hi hs hf hr hQ (Or.inl ⟨hw,hv⟩) hS h
end
theorem tW1 {α:Type} (l:List α) (i:Nat) (a:α):l.toArray.setIfInBounds i a=(l.set i a).toArray:=List.setIfInBounds_toArray l i a
theorem tW2 {α:Type} {x a:α} {xs:List α}:(x::xs).set 0 a=a::xs:=rfl
theorem tW3 {α:Type} {x a:α} {i:Nat} {xs:List α}:(x::xs).set (i+1) a=x::xs.set i a:=rfl
theorem cset {w:World} {b b' i j:Nat} {v:Value} (h:b≠b'):(w.setCell ⟨b', j,none⟩ v).cell? ⟨b,i,none⟩=w.cell? ⟨b,i,none⟩:=World.cell?_of_block (by simp [World.setCell,Array.getElem?_modify,Ne.symm h])
section
variable {P:Program} {ops:Array Oper} {Q:Exit→Act→World→Prop} {md:Region.Mode} {S:World→Prop} {fuel:Nat} {listed:Array Bool} {a a' :Act} {w:World} {oi:Oper} {v:Value}
theorem tkw (i:Nat) (h:wpAnyH P md ops Q S fuel (listed.setIfInBounds i true) a' w) (hi:ops[i]?=some oi:=by rfl) (hw:Region.wanted oi (yielded ops a.tmps)=true:=by as_aux_lemma=>rfl)
 (hv:∀ w,S w→(execOp a.eval oi).run P w=.ok (.value v) w:=by intro w hSw;(try dsimp only at hSw);go_simp;all_goals with_reducible rfl) (ha:a.put oi.dst v=a' :=by (try simp only [Act.put,tW1,tW2,tW3]);rfl)
 (hQ:∀ c a w,Q (.panic c) (a.put oi.dst v) w→Q (.panic c) a w:=by first | exact hQp _ _ | exact fun _ _ _ h=>h) (hs:Region.noSelect ops=true:=by as_aux_lemma=>kernel_rfl) (hf:Region.free md ops listed i=true:=by as_aux_lemma=>kernel_rfl) (hr:(Region.ready md ops listed).contains i=true:=by as_aux_lemma=>kernel_rfl) (hS:S w:=by assumption):wpAnyH P md ops Q S (fuel+1) listed a w :=
 wpAnyH_take hi hs hf hr hQ (Or.inl ⟨hw,hv⟩) hS (by rw [ha];exact h)
theorem tkx (i:Nat) (h:wpAnyH P md ops Q S fuel (listed.setIfInBounds i true) a' w) (hi:ops[i]?=some oi:=by rfl) (hw:Region.wanted oi (yielded ops a.tmps)=false:=by as_aux_lemma=>rfl) (ha:a.put oi.dst undef=a' :=by (try simp only [Act.put,tW1,tW2,tW3]);rfl)
 (hQ:∀ c a w,Q (.panic c) (a.put oi.dst undef) w→Q (.panic c) a w:=by first | exact hQp _ _ | exact fun _ _ _ h=>h) (hs:Region.noSelect ops=true:=by as_aux_lemma=>kernel_rfl) (hf:Region.free md ops listed i=true:=by as_aux_lemma=>kernel_rfl) (hr:(Region.ready md ops listed).contains i=true:=by as_aux_lemma=>kernel_rfl) (hS:S w:=by assumption):wpAnyH P md ops Q S (fuel+1) listed a w :=
 wpAnyH_take (v:=undef) hi hs hf hr hQ (Or.inr ⟨hw,rfl⟩) hS (by rw [ha];exact h)
theorem tkv {k:Nat} (h:wpAnyH P md ops Q S fuel ((listed.setIfInBounds k true).setIfInBounds (k+1) true) a' w) (hi:ops[k+1]?=some oi:=by rfl) (hw:Region.wanted oi (yielded ops a.tmps)=true:=by as_aux_lemma=>rfl)
 (hv:∀ w,S w→(execOp a.eval oi).run P w=.ok (.value v) w:=by intro w hSw;(try dsimp only at hSw);go_simp;all_goals with_reducible rfl) (ha:a.put oi.dst v=a' :=by (try simp only [Act.put,tW1,tW2,tW3]);rfl)
 (hQ:∀ c a w,Q (.panic c) (a.put oi.dst v) w→Q (.panic c) a w:=by first | exact hQp _ _ | exact fun _ _ _ h=>h) (hs:Region.noSelect ops=true:=by as_aux_lemma=>kernel_rfl) (hf:Region.free md ops (listed.setIfInBounds k true) (k+1)=true:=by as_aux_lemma=>kernel_rfl) (hr:(Region.ready md ops (listed.setIfInBounds k true)).contains (k+1)=true:=by as_aux_lemma=>kernel_rfl) (hS:S w:=by assumption):wpAnyH P md ops Q S (fuel+1) (listed.setIfInBounds k true) a w :=
 tkw (k+1) h hi hw hv ha hQ hs hf hr hS
theorem tku {k:Nat} (h:wpAnyH P md ops Q S fuel ((listed.setIfInBounds k true).setIfInBounds (k+1) true) a' w) (hi:ops[k+1]?=some oi:=by rfl) (hw:Region.wanted oi (yielded ops a.tmps)=false:=by as_aux_lemma=>rfl) (ha:a.put oi.dst undef=a' :=by (try simp only [Act.put,tW1,tW2,tW3]);rfl)
 (hQ:∀ c a w,Q (.panic c) (a.put oi.dst undef) w→Q (.panic c) a w:=by first | exact hQp _ _ | exact fun _ _ _ h=>h) (hs:Region.noSelect ops=true:=by as_aux_lemma=>kernel_rfl) (hf:Region.free md ops (listed.setIfInBounds k true) (k+1)=true:=by as_aux_lemma=>kernel_rfl) (hr:(Region.ready md ops (listed.setIfInBounds k true)).contains (k+1)=true:=by as_aux_lemma=>kernel_rfl) (hS:S w:=by assumption):wpAnyH P md ops Q S (fuel+1) (listed.setIfInBounds k true) a w :=
 tkx (k+1) h hi hw ha hQ hs hf hr hS
theorem tkr (i:Nat) (h:∀ K' :Act→World→Prop,Go.Shut (∀ a w,S w→(S w→wpAnyH P md ops Q S fuel (listed.setIfInBounds i true) a w)→K' a w)→if Region.wanted oi (yielded ops a.tmps)=true then Oper.wp P oi a w K' Q else K' (a.put oi.dst undef) w) (hi:ops[i]?=some oi:=by rfl) (hr:Region.ready md ops listed=[i]:=by as_aux_lemma=>kernel_rfl):wpAnyH P md ops Q S (fuel+1) listed a w :=
 wpAnyH_ready hr (by simp) (AllReadyH.cons hi h AllReadyH.nil)
end
section
variable {P:Program} {ops:Array Oper} {Q:Exit→Act→World→Prop} {md:Region.Mode} {S:World→Prop} {s:Nat}
def wpAnyL (P:Program) (md:Region.Mode) (ops:Array Oper) (Q:Exit→Act→World→Prop) (S:World→Prop) (s:Nat):Nat→Array Bool→Act→World→Prop
 | 0,listed,a,w=>Region.ready md ops listed=[]∧Q .normal a w
 | fuel+1,listed,a,w=>(Region.ready md ops listed=[]→Q .normal a w)∧∀ i∈Region.ready md ops listed,wpOp P ops Q i (fun a' w' =>((listed.setIfInBounds i true).getD s true=false→S w')∧wpAnyL P md ops Q S s fuel (listed.setIfInBounds i true) a' w') a w
theorem wpAny_of_L:∀ (fuel:Nat) (listed:Array Bool) (a:Act) (w:World),wpAnyL P md ops Q S s fuel listed a w→wpAny P md ops Q fuel listed a w
 | 0,_,_,_,h=>h
 | fuel+1,_,_,_,h=>⟨h.1,fun i hi=>wpOp_mono (fun a' w' h' =>wpAny_of_L fuel _ a' w' h'.2) (h.2 i hi)⟩
def waits (md:Region.Mode) (ops:Array Oper) (s i:Nat):Bool:=s != i&&match ops[s]? with
 | some o=>o.after.any fun e=>Region.binds md e&&e.on==i
 | none=>false
theorem wpAnyL_first {i:Nat} {oi:Oper} {v:Value} (hi:ops[i]?=some oi) (hsel:∀ (j:Nat) (o:Oper) cs b,ops[j]?=some o→o.op≠ .select cs b)
 (hQ:∀ c a w,Q (.panic c) (a.put oi.dst v) w→Q (.panic c) a w) (hw:waits md ops s i=true) :
 ∀ (fuel:Nat) (listed:Array Bool) (a:Act) (w:World),
  (∀ j oj,ops[j]?=some oj→j≠i→listed.getD j true=false→(∀ e∈oj.after,Region.binds md e=true→e.on≠i)→oi.apart ops oj=true) →
  i∈Region.ready md ops listed→YieldsIf P ops S oi v a→S w→listed.getD s true=false →
  wpAnyL P md ops Q S s fuel (listed.setIfInBounds i true) (a.put oi.dst v) w→wpAnyL P md ops Q S s (fuel+1) listed a w:=by
 have hsi:s≠i:=by simp only [waits,Bool.and_eq_true,bne_iff_ne] at hw;exact hw.1
 have hdep:∃ os,ops[s]?=some os∧∃ e∈os.after,Region.binds md e=true∧e.on=i:=by
  simp only [waits,Bool.and_eq_true] at hw
  have h2:=hw.2
  cases ho:ops[s]? with
  | none=>rw [ho] at h2;simp at h2
  | some os =>
   rw [ho] at h2
   simp only [Array.any_eq_true', Bool.and_eq_true,beq_iff_eq] at h2
   obtain ⟨e,he,hb,ho'⟩:=h2
   exact ⟨os,rfl,e,he,hb,ho'⟩
 intro fuel
 induction fuel with
 | zero =>
  intro listed a w _ hr hy hS _ H
  refine ⟨fun h=>(by rw [h] at hr;cases hr),fun j hj=>?_⟩
  by_cases hji:j=i
  ·subst hji;exact hy.wpOp hi hS ⟨fun _=>hS,H⟩
  ·have:=ready_mono hj hji
   rw [H.1] at this
   cases this
 | succ fuel ih =>
  intro listed a w hfree hr hy hS hun H
  refine ⟨fun h=>(by rw [h] at hr;cases hr),fun j hj=>?_⟩
  by_cases hji:j=i
  ·subst hji;exact hy.wpOp hi hS ⟨fun _=>hS,H⟩
  ·have h1:=H.2 j (ready_mono hj hji)
   obtain ⟨hjun,oj,hoj,hall⟩:=mem_ready.1 hj
   have hnot:∀ e∈oj.after,Region.binds md e=true→e.on≠i:=fun e he hb heq=>by
    have h1:=hall e he hb
    have h0:=(mem_ready.1 hr).1
    rw [heq] at h1
    rcases Nat.lt_or_ge i listed.size with h' | h'
    ·simp [h'] at h0 h1;rw [h0] at h1;cases h1
    ·simp [Array.getElem?_eq_none h'] at h1
   have hjs:j≠s:=fun e=>by
    subst e
    obtain ⟨os,ho,e,he,hb,he'⟩:=hdep
    rw [ho] at hoj
    cases hoj
    exact hnot e he hb he'
   have h2:=wpOp_putIf hoj (hfree j oj hoj hji hjun hnot) (fun cs b=>hsel i oi cs b hi) (fun cs b=>hsel j oj cs b hoj) hQ hy h1
   have hfree' :∀ k ok,ops[k]?=some ok→k≠i→(listed.setIfInBounds j true).getD k true=false →
    (∀ e∈ok.after,Region.binds md e=true→e.on≠i)→oi.apart ops ok=true:=fun k ok hk hki hun hno=>by
    refine hfree k ok hk hki ?_ hno
    by_cases hjk:j=k
    ·subst hjk;exact hjun
    ·rw [getD_set_ne true hjk] at hun;exact hun
   have hu1:(listed.setIfInBounds j true).getD s true=false:=by rw [getD_set_ne true hjs];exact hun
   have hu2:((listed.setIfInBounds i true).setIfInBounds j true).getD s true=false:=by rw [getD_set_ne true hjs,getD_set_ne true (Ne.symm hsi)];exact hun
   refine wpOp_mono (fun a' w' h3=>⟨fun _=>h3.2.1 hu2,ih (listed.setIfInBounds j true) a' w' hfree' (ready_mono hr (Ne.symm hji)) h3.1 (h3.2.1 hu2) hu1 ?_⟩) h2
   rw [Array.setIfInBounds_comm _ _ hji]
   exact h3.2.2
theorem wp_region_L (s:Nat) {id:Nat} {a:Act} {w:World} (hm:P.follows .mixedOrders=true) (hS:S w.drew)
 (h:S w.drew→wpAnyL P .any ops Q S s ops.size (Array.replicate ops.size false) a w.drew):(Code.region id ops true).wp P Q a w :=
 wp_region_any hm (wpAny_of_L _ _ _ _ (h hS))
variable {fuel:Nat} {listed:Array Bool} {a a' :Act} {w:World} {oi:Oper} {v:Value}
theorem tlw (i:Nat) (h:wpAnyL P md ops Q S s fuel (listed.setIfInBounds i true) a' w) (hi:ops[i]?=some oi:=by rfl) (hw:Region.wanted oi (yielded ops a.tmps)=true:=by as_aux_lemma=>kernel_rfl)
 (hv:∀ w,S w→(execOp a.eval oi).run P w=.ok (.value v) w:=by intro w hSw;(try dsimp only at hSw);go_simp;all_goals with_reducible rfl) (ha:a.put oi.dst v=a' :=by (try simp only [Act.put,tW1,tW2,tW3]);rfl)
 (hQ:∀ c a w,Q (.panic c) (a.put oi.dst v) w→Q (.panic c) a w:=by first | exact hQp _ _ | exact fun _ _ _ h=>h) (hs:(Region.noSelect ops&&Region.free md ops listed i&&(Region.ready md ops listed).contains i&&waits md ops s i&&!listed.getD s true)=true:=by as_aux_lemma=>kernel_rfl) (hS:S w:=by assumption):wpAnyL P md ops Q S s (fuel+1) listed a w:=by
 simp only [Bool.and_eq_true,Bool.not_eq_true'] at hs
 obtain ⟨⟨⟨⟨h1,h2⟩,h3⟩,h4⟩,h5⟩:=hs
 exact wpAnyL_first hi (Region.noSelect_spec h1) hQ h4 fuel listed a w (Region.free_spec hi h2) (by simpa using h3) (Or.inl ⟨hw,hv⟩) hS h5 (by rw [ha];exact h)
theorem tlv {k:Nat} (h:wpAnyL P md ops Q S s fuel ((listed.setIfInBounds k true).setIfInBounds (k+1) true) a' w) (hi:ops[k+1]?=some oi:=by rfl) (hw:Region.wanted oi (yielded ops a.tmps)=true:=by as_aux_lemma=>kernel_rfl)
 (hv:∀ w,S w→(execOp a.eval oi).run P w=.ok (.value v) w:=by intro w hSw;(try dsimp only at hSw);go_simp;all_goals with_reducible rfl) (ha:a.put oi.dst v=a' :=by (try simp only [Act.put,tW1,tW2,tW3]);rfl)
 (hQ:∀ c a w,Q (.panic c) (a.put oi.dst v) w→Q (.panic c) a w:=by first | exact hQp _ _ | exact fun _ _ _ h=>h) (hs:(Region.noSelect ops&&Region.free md ops (listed.setIfInBounds k true) (k+1)&&(Region.ready md ops (listed.setIfInBounds k true)).contains (k+1)&&waits md ops s (k+1)&&!(listed.setIfInBounds k true).getD s true)=true:=by as_aux_lemma=>kernel_rfl) (hS:S w:=by assumption):wpAnyL P md ops Q S s (fuel+1) (listed.setIfInBounds k true) a w :=
 tlw (k+1) h hi hw hv ha hQ hs hS
theorem tlr (i:Nat) (h:∀ K' :Act→World→Prop,Go.Shut (∀ a w,S w→(S w→wpAnyL P md ops Q S s fuel (listed.setIfInBounds i true) a w)→K' a w)→if Region.wanted oi (yielded ops a.tmps)=true then Oper.wp P oi a w K' Q else K' (a.put oi.dst undef) w) (hi:ops[i]?=some oi:=by rfl) (hr:Region.ready md ops listed=[i]:=by as_aux_lemma=>kernel_rfl):wpAnyL P md ops Q S s (fuel+1) listed a w:=by
 refine ⟨fun h0=>(by rw [hr] at h0;cases h0),fun j hj=>?_⟩
 rw [hr,List.mem_singleton] at hj
 subst hj
 exact wpOp_step hi (fun K' hK=>h K' (fun a w hS hW=>hK a w ⟨fun _=>hS,hW hS⟩))
theorem tls (i:Nat) (h:∀ K' :Act→World→Prop,Go.Shut (∀ a w,wpAnyL P md ops Q S i fuel (listed.setIfInBounds i true) a w→K' a w)→if Region.wanted oi (yielded ops a.tmps)=true then Oper.wp P oi a w K' Q else K' (a.put oi.dst undef) w) (hi:ops[i]?=some oi:=by rfl) (hr:Region.ready md ops listed=[i]:=by as_aux_lemma=>kernel_rfl):wpAnyL P md ops Q S i (fuel+1) listed a w:=by
 refine ⟨fun h0=>(by rw [hr] at h0;cases h0),fun j hj=>?_⟩
 rw [hr,List.mem_singleton] at hj
 subst hj
 exact wpOp_step hi (fun K' hK=>h K' (fun a w hW=>hK a w ⟨fun h0=>(by
  rw [Array.getD_eq_getD_getElem?,Array.getElem?_setIfInBounds,if_pos rfl] at h0
  split at h0 <;> cases h0),hW⟩))
theorem wpAnyL_done (hr:Region.ready md ops listed=[]) (h:Q .normal a w):∀ fuel,wpAnyL P md ops Q S s fuel listed a w
 | 0=>⟨hr,h⟩
 | _+1=>⟨fun _=>h,by rw [hr];simp⟩
end
def calmQ (Q:Exit→Act→World→Prop) (e:Exit) (a:Act) (w:World):Prop:=(∀ c,e≠ .panic c)∧Q e a w
theorem wp_region_calm {P:Program} {ops:Array Oper} {Q:Exit→Act→World→Prop} {S:World→Prop} {id:Nat} {a:Act} {w:World} (hm:P.follows .mixedOrders=true) (hS:S w.drew)
 (h:(∀ (d:Option Nat) (v:Value) c a w,calmQ Q (.panic c) (a.put d v) w→calmQ Q (.panic c) a w)→S w.drew→wpAnyH P .any ops (calmQ Q) S ops.size (Array.replicate ops.size false) a w.drew):(Code.region id ops true).wp P Q a w :=
 Code.wp_mono (fun _ _ _ h=>h.2) (wp_region_held_drew hm hS (h fun _ _ c _ _ q=>absurd rfl (q.1 c)))
section
variable {F:Fence} {n:Nat} {P:Program} {ops:Array Oper} {Q:Exit→Act→World→Prop} {md:Region.Mode} {S:World→Prop} {s:Nat}
def nodefer (ops:Array Oper):Bool:=ops.all fun o=>match o.op with
 | .defer _=>false
 | _=>true
theorem nodefer_at (h:nodefer ops=true) {i:Nat} {o:Oper} (ho:ops[i]?=some o):∀ c,o.op≠ .defer c:=fun c e=>by
 have:=Array.all_eq_true_iff_forall_mem.1 h o (Array.mem_of_getElem? ho)
 rw [e] at this
 cases this
def YieldsI (P:Program) (ops:Array Oper) (S:World→Prop) (o:Oper) (v:Value) (a:Act):Prop:=YieldsIf P ops S o v a∧∀ w,o.about P w a.eval=none
theorem YieldsI.op {i:Nat} {o:Oper} {v:Value} {a:Act} (hd:∀ c,o.op≠ .defer c) (hi:ops[i]?=some o) (hy:YieldsI P ops S o v a) {K:Act→World→Prop} {w:World} (hS:S w) (h:K (a.put o.dst v) w):wpOpIn F n P ops Q i K a w:=by
 unfold wpOpIn
 simp only [hi]
 have hab:∀ f,o.about P w a.eval=some f→F.fn f:=fun f hf=>by rw [hy.2 w] at hf;cases hf
 rcases hy.1 with ⟨hw,hv⟩ | ⟨hw,rfl⟩
 ·simp only [hw,if_true,Oper.wpIn,Oper.semAt_eq _ _ _ hd,hv w hS,Oper.uponIn];exact ⟨hab,h⟩
 ·simp only [hw,Bool.false_eq_true,if_false];exact ⟨hab,h⟩
theorem YieldsI.same {o:Oper} {v:Value} {a a' :Act} (hy:YieldsI P ops S o v a) (he:execOp a'.eval o=execOp a.eval o) (hw:Region.wanted o (yielded ops a'.tmps)=Region.wanted o (yielded ops a.tmps)) (hb:∀ w,o.about P w a'.eval=o.about P w a.eval):YieldsI P ops S o v a' :=
 ⟨hy.1.of_same he hw,fun w=>by rw [hb w];exact hy.2 w⟩
theorem wpOpIn_putI {j:Nat} {oi oj:Oper} {v:Value} (hdj:∀ c,oj.op≠ .defer c) (hj:ops[j]?=some oj) (hap:oi.apart ops oj=true) (hsi:∀ cs b,oi.op≠ .select cs b) (hsj:∀ cs b,oj.op≠ .select cs b)
 (hQ:∀ c a w,Q (.panic c) (a.put oi.dst v) w→Q (.panic c) a w) {K:Act→World→Prop} {a:Act} {w:World} (hy:YieldsI P ops S oi v a) (h:wpOpIn F n P ops Q j K (a.put oi.dst v) w):wpOpIn F n P ops Q j (fun a' w' =>YieldsI P ops S oi v a' ∧K (a'.put oi.dst v) w') a w:=by
 obtain ⟨h1,h2,h3⟩:=Oper.apart_spec hap
 have keep:∀ (a:Act),YieldsI P ops S oi v a→∀ u,YieldsI P ops S oi v (a.put oj.dst u):=fun a hy u=>hy.same (execOp_put oi hsi a oj.dst u h3) (wanted_put oi a oj.dst u h3) (fun w=>about_put oi w a oj.dst u h3)
 have keepD:∀ d,YieldsI P ops S oi v { a with defers:=d::a.defers }:=fun d=>hy.same rfl rfl (fun _=>rfl)
 unfold wpOpIn at *
 simp only [hj] at *
 rw [wanted_put oj a oi.dst v h1,about_put oj w a oi.dst v h1] at h
 split
 ·rename_i hw
  simp only [hw,if_true] at h
  unfold Oper.wpIn at *
  rw [about_put oj w a oi.dst v h1] at h
  refine ⟨h.1,?_⟩
  have h:=h.2
  rw [Oper.semAt_eq _ _ _ hdj,execOp_put oj hsj a oi.dst v h1] at h
  rw [Oper.semAt_eq _ _ _ hdj]
  generalize (execOp a.eval oj).run P w=r at *
  have hR:∀ (u:Value) (w'' :World),K ((a.put oi.dst v).put oj.dst u) w'' →YieldsI P ops S oi v (a.put oj.dst u)∧K ((a.put oj.dst u).put oi.dst v) w'' :=fun u w'' h=>⟨keep a hy u,by rw [← Act.put_comm a v u h2];exact h⟩
  cases r with
  | ok x w' =>
   cases x <;> simp only [Oper.uponIn] at h ⊢
   case value u=>exact hR _ _ h
   case skip=>exact hR _ _ h
   case defer d =>
    refine ⟨keep _ (keepD d) _,?_⟩
    rw [← Act.put_comm _ v undef h2,← Act.put_defers]
    exact h
   case enter f args =>
    refine ⟨h.1,CallsIn.mono h.2 fun e w'' he=>?_⟩
    cases e with
    | returned u=>exact hR _ _ he
    | panicked c=>exact hQ _ _ _ he
    | outgrown=>exact he
   case row row args=>exact ⟨h.1,RowsIn.mono h.2 fun u w'' he=>hR _ _ he⟩
   case round l f tmps assign body =>
    refine ⟨h.1,RoundIn.mono h.2 fun e w'' he=>?_⟩
    cases e with
    | returned u=>exact hR _ _ he
    | panicked c=>exact hQ _ _ _ he
    | outgrown=>exact he
  | halt x w' =>
   cases x <;> simp only [Oper.uponIn] at h ⊢
   case panic u=>exact hQ _ _ _ h
 ·rename_i hw
  simp only [hw] at h
  exact ⟨h.1,keep a hy _,by rw [← Act.put_comm a v undef h2];exact h.2⟩
def wpAnyI (F:Fence) (n:Nat) (P:Program) (md:Region.Mode) (ops:Array Oper) (Q:Exit→Act→World→Prop) (S:World→Prop) (s:Nat):Nat→Array Bool→Act→World→Prop
 | 0,listed,a,w=>Region.ready md ops listed=[]∧Q .normal a w
 | fuel+1,listed,a,w=>(Region.ready md ops listed=[]→Q .normal a w)∧∀ i∈Region.ready md ops listed,wpOpIn F n P ops Q i (fun a' w' =>((listed.setIfInBounds i true).getD s true=false→S w')∧wpAnyI F n P md ops Q S s fuel (listed.setIfInBounds i true) a' w') a w
theorem wpAnyIn_of_I:∀ (fuel:Nat) (listed:Array Bool) (a:Act) (w:World),wpAnyI F n P md ops Q S s fuel listed a w→wpAnyIn F n P md ops Q fuel listed a w
 | 0,_,_,_,h=>h
 | fuel+1,_,_,_,h=>⟨h.1,fun i hi=>wpOpIn_mono (fun a' w' h' =>wpAnyIn_of_I fuel _ a' w' h'.2) (h.2 i hi)⟩
theorem wpAnyI_first {i:Nat} {oi:Oper} {v:Value} (hnd:nodefer ops=true) (hi:ops[i]?=some oi) (hsel:∀ (j:Nat) (o:Oper) cs b,ops[j]?=some o→o.op≠ .select cs b)
 (hQ:∀ c a w,Q (.panic c) (a.put oi.dst v) w→Q (.panic c) a w) (hw:waits md ops s i=true) :
 ∀ (fuel:Nat) (listed:Array Bool) (a:Act) (w:World),
  (∀ j oj,ops[j]?=some oj→j≠i→listed.getD j true=false→(∀ e∈oj.after,Region.binds md e=true→e.on≠i)→oi.apart ops oj=true) →
  i∈Region.ready md ops listed→YieldsI P ops S oi v a→S w→listed.getD s true=false →
  wpAnyI F n P md ops Q S s fuel (listed.setIfInBounds i true) (a.put oi.dst v) w→wpAnyI F n P md ops Q S s (fuel+1) listed a w:=by
 have hsi:s≠i:=by simp only [waits,Bool.and_eq_true,bne_iff_ne] at hw;exact hw.1
 have hdep:∃ os,ops[s]?=some os∧∃ e∈os.after,Region.binds md e=true∧e.on=i:=by
  simp only [waits,Bool.and_eq_true] at hw
  have h2:=hw.2
  cases ho:ops[s]? with
  | none=>rw [ho] at h2;simp at h2
  | some os =>
   rw [ho] at h2
   simp only [Array.any_eq_true', Bool.and_eq_true,beq_iff_eq] at h2
   obtain ⟨e,he,hb,ho'⟩:=h2
   exact ⟨os,rfl,e,he,hb,ho'⟩
 intro fuel
 induction fuel with
 | zero =>
  intro listed a w _ hr hy hS _ H
  refine ⟨fun h=>(by rw [h] at hr;cases hr),fun j hj=>?_⟩
  by_cases hji:j=i
  ·subst hji;exact hy.op (nodefer_at hnd hi) hi hS ⟨fun _=>hS,H⟩
  ·have:=ready_mono hj hji
   rw [H.1] at this
   cases this
 | succ fuel ih =>
  intro listed a w hfree hr hy hS hun H
  refine ⟨fun h=>(by rw [h] at hr;cases hr),fun j hj=>?_⟩
  by_cases hji:j=i
  ·subst hji;exact hy.op (nodefer_at hnd hi) hi hS ⟨fun _=>hS,H⟩
  ·have h1:=H.2 j (ready_mono hj hji)
   obtain ⟨hjun,oj,hoj,hall⟩:=mem_ready.1 hj
   have hnot:∀ e∈oj.after,Region.binds md e=true→e.on≠i:=fun e he hb heq=>by
    have h1:=hall e he hb
    have h0:=(mem_ready.1 hr).1
    rw [heq] at h1
    rcases Nat.lt_or_ge i listed.size with h' | h'
    ·simp [h'] at h0 h1;rw [h0] at h1;cases h1
    ·simp [Array.getElem?_eq_none h'] at h1
   have hjs:j≠s:=fun e=>by
    subst e
    obtain ⟨os,ho,e,he,hb,he'⟩:=hdep
    rw [ho] at hoj
    cases hoj
    exact hnot e he hb he'
   have h2:=wpOpIn_putI (nodefer_at hnd hoj) hoj (hfree j oj hoj hji hjun hnot) (fun cs b=>hsel i oi cs b hi) (fun cs b=>hsel j oj cs b hoj) hQ hy h1
   have hfree' :∀ k ok,ops[k]?=some ok→k≠i→(listed.setIfInBounds j true).getD k true=false→(∀ e∈ok.after,Region.binds md e=true→e.on≠i)→oi.apart ops ok=true:=fun k ok hk hki hun hno=>by
    refine hfree k ok hk hki ?_ hno
    by_cases hjk:j=k
    ·subst hjk;exact hjun
    ·rw [getD_set_ne true hjk] at hun;exact hun
   have hu1:(listed.setIfInBounds j true).getD s true=false:=by rw [getD_set_ne true hjs];exact hun
   have hu2:((listed.setIfInBounds i true).setIfInBounds j true).getD s true=false:=by rw [getD_set_ne true hjs,getD_set_ne true (Ne.symm hsi)];exact hun
   refine wpOpIn_mono (fun a' w' h3=>⟨fun _=>h3.2.1 hu2,ih (listed.setIfInBounds j true) a' w' hfree' (ready_mono hr (Ne.symm hji)) h3.1 (h3.2.1 hu2) hu1 ?_⟩) h2
   rw [Array.setIfInBounds_comm _ _ hji]
   exact h3.2.2
theorem wpIn_region_I (s:Nat) {id:Nat} {a:Act} {w:World} (hm:P.follows .mixedOrders=true) (hS:S w.drew) (h:(∀ (d:Option Nat) (v:Value) c a w,calmQ Q (.panic c) (a.put d v) w→calmQ Q (.panic c) a w)→S w.drew→wpAnyI F n P .any ops (calmQ Q) S s ops.size (Array.replicate ops.size false) a w.drew):(Code.region id ops true).wpIn F n P Q a w :=
 wpIn_mono (wpIn_region_any hm (wpAnyIn_of_I _ _ _ _ (h (fun _ _ c _ _ q=>absurd rfl (q.1 c)) hS))) (fun _ _ _ h=>h.2)
variable {fuel:Nat} {listed:Array Bool} {a a' :Act} {w:World} {oi:Oper} {v:Value}
theorem tiw (i:Nat) (h:wpAnyI F n P md ops Q S s fuel (listed.setIfInBounds i true) a' w) (hi:ops[i]?=some oi:=by rfl) (hw:Region.wanted oi (yielded ops a.tmps)=true:=by as_aux_lemma=>kernel_rfl)
 (hv:∀ w,S w→(execOp a.eval oi).run P w=.ok (.value v) w:=by intro w hSw;(try dsimp only at hSw);go_simp;all_goals with_reducible rfl) (ha:a.put oi.dst v=a' :=by (try simp only [Act.put,tW1,tW2,tW3]);rfl) (hb:∀ w,oi.about P w a.eval=none:=by exact fun _=>rfl)
 (hQ:∀ c a w,Q (.panic c) (a.put oi.dst v) w→Q (.panic c) a w:=by first | exact hQp _ _ | exact fun _ _ _ h=>h) (hs:(Region.noSelect ops&&Region.free md ops listed i&&(Region.ready md ops listed).contains i&&waits md ops s i&&!listed.getD s true&&nodefer ops)=true:=by as_aux_lemma=>kernel_rfl) (hS:S w:=by assumption):wpAnyI F n P md ops Q S s (fuel+1) listed a w:=by
 simp only [Bool.and_eq_true,Bool.not_eq_true'] at hs
 obtain ⟨⟨⟨⟨⟨h1,h2⟩,h3⟩,h4⟩,h5⟩,h6⟩:=hs
 exact wpAnyI_first h6 hi (Region.noSelect_spec h1) hQ h4 fuel listed a w (Region.free_spec hi h2) (by simpa using h3) ⟨Or.inl ⟨hw,hv⟩,hb⟩ hS h5 (by rw [ha];exact h)
theorem tiv {k:Nat} (h:wpAnyI F n P md ops Q S s fuel ((listed.setIfInBounds k true).setIfInBounds (k+1) true) a' w) (hi:ops[k+1]?=some oi:=by rfl) (hw:Region.wanted oi (yielded ops a.tmps)=true:=by as_aux_lemma=>kernel_rfl)
 (hv:∀ w,S w→(execOp a.eval oi).run P w=.ok (.value v) w:=by intro w hSw;(try dsimp only at hSw);go_simp;all_goals with_reducible rfl) (ha:a.put oi.dst v=a' :=by (try simp only [Act.put,tW1,tW2,tW3]);rfl) (hb:∀ w,oi.about P w a.eval=none:=by exact fun _=>rfl)
 (hQ:∀ c a w,Q (.panic c) (a.put oi.dst v) w→Q (.panic c) a w:=by first | exact hQp _ _ | exact fun _ _ _ h=>h) (hs:(Region.noSelect ops&&Region.free md ops (listed.setIfInBounds k true) (k+1)&&(Region.ready md ops (listed.setIfInBounds k true)).contains (k+1)&&waits md ops s (k+1)&&!(listed.setIfInBounds k true).getD s true&&nodefer ops)=true:=by as_aux_lemma=>kernel_rfl) (hS:S w:=by assumption):wpAnyI F n P md ops Q S s (fuel+1) (listed.setIfInBounds k true) a w :=
 tiw (k+1) h hi hw hv ha hb hQ hs hS
theorem tir (i:Nat) (h:∀ K' :Act→World→Prop,Go.Shut (∀ a w,S w→(S w→wpAnyI F n P md ops Q S s fuel (listed.setIfInBounds i true) a w)→K' a w)→Oper.wpIn F n P oi a w K' Q) (hi:ops[i]?=some oi:=by rfl) (hw:Region.wanted oi (yielded ops a.tmps)=true:=by as_aux_lemma=>kernel_rfl) (hr:Region.ready md ops listed=[i]:=by as_aux_lemma=>kernel_rfl):wpAnyI F n P md ops Q S s (fuel+1) listed a w:=by
 refine ⟨fun h0=>(by rw [hr] at h0;cases h0),fun j hj=>?_⟩
 rw [hr,List.mem_singleton] at hj
 subst hj
 exact wpOpIn_step hi (fun K' hK=>by rw [if_pos hw];exact h K' (fun a w hS hW=>hK a w ⟨fun _=>hS,hW hS⟩))
theorem tia (i:Nat) {w' :World} {xv yv v' :Value} (x y:Operand) (t:TypeId) (hr:(Builtin.append_ #[t,t] oi.type #[xv,yv]).run P w=.ok v' w') (hS:S w') (h:S w' →wpAnyI F n P md ops Q S s fuel (listed.setIfInBounds i true) a' w') (hi:ops[i]?=some oi:=by rfl) (ho:oi.op=.call { callee:=.builtin .append,args:=#[x,y],argTypes:=#[t,t] }:=by rfl) (hx:a.eval x=xv:=by rfl) (hy:a.eval y=yv:=by rfl) (hw:Region.wanted oi (yielded ops a.tmps)=true:=by as_aux_lemma=>kernel_rfl) (ha:a.put oi.dst v' =a' :=by (try simp only [Act.put,tW1,tW2,tW3]);rfl) (hrd:Region.ready md ops listed=[i]:=by as_aux_lemma=>kernel_rfl):wpAnyI F n P md ops Q S s (fuel+1) listed a w:=by
 refine tir i (fun K hK=>?_) hi hw hrd
 unfold Oper.wpIn
 rw [Oper.semAt_eq _ _ _ (fun c e=>by rw [ho] at e;cases e)]
 refine ⟨fun f hf=>?_,?_⟩
 ·exfalso
  unfold Oper.about at hf
  simp [ho,resolve,Sem.run_pure] at hf
  cases hf
 unfold execOp
 simp only [ho,resolve,invoke,builtin,Sem.run_bind,Sem.run_pure,Result.andThen_ok,List.map_toArray,List.map_cons,List.map_nil,hx,hy,hr]
 show K (a.put oi.dst v') w'
 rw [ha]
 exact hK.out _ _ hS h
theorem tis (i:Nat) (h:∀ K' :Act→World→Prop,Go.Shut (∀ a w,wpAnyI F n P md ops Q S i fuel (listed.setIfInBounds i true) a w→K' a w)→Oper.wpIn F n P oi a w K' Q) (hi:ops[i]?=some oi:=by rfl) (hw:Region.wanted oi (yielded ops a.tmps)=true:=by as_aux_lemma=>kernel_rfl) (hr:Region.ready md ops listed=[i]:=by as_aux_lemma=>kernel_rfl):wpAnyI F n P md ops Q S i (fuel+1) listed a w:=by
 refine ⟨fun h0=>(by rw [hr] at h0;cases h0),fun j hj=>?_⟩
 rw [hr,List.mem_singleton] at hj
 subst hj
 exact wpOpIn_step hi (fun K' hK=>by
  rw [if_pos hw]
  exact h K' (fun a w hW=>hK a w ⟨fun h0=>(by
   rw [Array.getD_eq_getD_getElem?,Array.getElem?_setIfInBounds,if_pos rfl] at h0
   split at h0 <;> cases h0),hW⟩))
theorem wpAnyI_done (hr:Region.ready md ops listed=[]) (h:Q .normal a w):∀ fuel,wpAnyI F n P md ops Q S s fuel listed a w
 | 0=>⟨hr,h⟩
 | _+1=>⟨fun _=>h,by rw [hr];simp⟩
end
end Go.Proofs.YtkkolclmfcmfbaaGreatDoor
