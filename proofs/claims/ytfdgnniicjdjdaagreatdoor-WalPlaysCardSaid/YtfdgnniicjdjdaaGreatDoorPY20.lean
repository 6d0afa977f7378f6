import Derived.Test.YtfdgnniicjdjdaaGreatDoorPY99
import Derived.Test.YtfdgnniicjdjdaaGreatDoorPY17
import Derived.Test.YtfdgnniicjdjdaaGreatDoorPY19
import Derived.Test.YtfdgnniicjdjdaaGreatDoorPY01
namespace Go.Proofs.YtfdgnniicjdjdaaGreatDoor
open Go.Lib (hid)
set_option maxHeartbeats 8000000
open Go.RowKit Go.ChangeShapes Go.WideShapes
set_option linter.unusedVariables false
set_option maxRecDepth 10000
set_option linter.unusedSimpArgs false
theorem z0w {fn:Func} {P1 P2:Tmp} (h:fn.results=#[.cell P1 32,.cell P2 35]) (tmps:Array Value) (W:World) (R0 R1:Nat) (cs0 cs1:Array Value) (hp0:tmps.getD P1 undef=.pointer (some ⟨R0,0,none⟩)) (hp1:tmps.getD P2 undef=.pointer (some ⟨R1,0,none⟩))
 (h0:W.heap[R0]?=some (.cells cs0 32 (0,0))) (h1:W.heap[R1]?=some (.cells cs1 35 (0,0))) (hs0:cs0.size=2) (hs1:cs1.size=3):(results fn tmps).run Tryz.prog W=.ok (.tuple #[.agg cs0,.agg cs1]) W:=by
 have e0:=run_loadVar_row (P:=Tryz.prog) W R0 32 32 cs0 (0,0) _ h0 Tryz.underlying32 rfl (by rw [hs0];kernel_rfl)
 have e1:=run_loadVar_row (P:=Tryz.prog) W R1 35 35 cs1 (0,0) _ h1 Tryz.underlying35 rfl (by rw [hs1];kernel_rfl)
 have hp0':tmps[P1]?.getD undef=.pointer (some ⟨R0,0,none⟩):=by simpa using hp0
 have hp1':tmps[P2]?.getD undef=.pointer (some ⟨R1,0,none⟩):=by simpa using hp1
 simp only [results,h]
 simp [Sem.run_bind,Result.andThen,hp0',hp1',asAddr,e0,e1]
theorem z2k (w:World) (c0 c1 c2 c3 c4:Array Value) (T0 T1 T2 T3 T4:TypeId):∃ W,W=((((w.alloc (.cells c0 T0)).alloc (.cells c1 T1)).alloc (.cells c2 T2)).alloc (.cells c3 T3)).alloc (.cells c4 T4)∧W.heap[w.heap.size]?=some (.cells c0 T0 (0,0))∧W.heap[w.heap.size+1]?=some (.cells c1 T1 (0,0))∧W.heap[w.heap.size+1+1]?=some (.cells c2 T2 (0,0)) ∧
 W.heap[w.heap.size+1+1+1]?=some (.cells c3 T3 (0,0))∧W.heap[w.heap.size+1+1+1+1]?=some (.cells c4 T4 (0,0))∧Below w.heap.size w W∧W.heap.size=w.heap.size+5:=by
 refine⟨_,rfl,?_⟩
 have s0:(w.alloc (.cells c0 T0)).heap.size=w.heap.size+1:=by simp
 have b2:=z2o (w.alloc (.cells c0 T0)) c1 c2 T1 T2
 rw [s0] at b2
 have s2:(((w.alloc (.cells c0 T0)).alloc (.cells c1 T1)).alloc (.cells c2 T2)).heap.size=w.heap.size+1+1+1:=by simp
 have b4:=z2o (((w.alloc (.cells c0 T0)).alloc (.cells c1 T1)).alloc (.cells c2 T2)) c3 c4 T3 T4
 rw [s2] at b4
 have hB:Below (w.heap.size+1) (w.alloc (.cells c0 T0)) (((w.alloc (.cells c0 T0)).alloc (.cells c1 T1)).alloc (.cells c2 T2)):=b2.2.2
 have hB4:Below (w.heap.size+1+1+1) (((w.alloc (.cells c0 T0)).alloc (.cells c1 T1)).alloc (.cells c2 T2)) (((((w.alloc (.cells c0 T0)).alloc (.cells c1 T1)).alloc (.cells c2 T2)).alloc (.cells c3 T3)).alloc (.cells c4 T4)):=b4.2.2
 have h0:=z0e w (.cells c0 T0)
 refine⟨?_,?_,?_,b4.1,b4.2.1,?_,by simp⟩
 · rw [hB4.block _ (by omega),hB.block _ (by omega)];exact h0
 · rw [hB4.block _ (by omega)];exact b2.1
 · rw [hB4.block _ (by omega)];exact b2.2.1
 · exact (((Below.refl _ _).alloc (Nat.le_refl _) _).trans (hB.mono (by omega))).trans (hB4.mono (by omega))
structure Wd where
 k:Nat
 i:Int
 q:Option Addr
 m:Nat
 cq:Nat
 b:List Int
 n:Int
def Wd.x (y:Wd):Dw:=if y.k=0 then .put y.i y.b else if y.k=1 then .grow y.b else if y.k=2 then .drop y.n else .cut y.n
def ewd (y:Wd):List Value:=[.int .i64 (y.k:Nat),.int .i64 y.i,.slice y.q y.m y.cq,.int .i64 y.n]
theorem z4v (y:Wd):(ewd y).length=4:=rfl
theorem q1c (y:Wd):∀ u∈ewd y,u.oneCell'=true:=by
 intro u hu
 simp only [ewd,List.mem_cons,List.not_mem_nil,or_false] at hu
 rcases hu with rfl | rfl | rfl | rfl <;> rfl
def wd0':Wd:=⟨0,0,none,0,0,[],0⟩
structure Wd.ok (w:World) (Q:Nat→Prop) (y:Wd):Prop where
 bl:BL w y.q y.m y.cq y.b
 q0:0<y.m→∀ a,y.q=some a→Q a.block
 k3:y.k≤3
theorem Wd.ok.keep {w w':World} {Q S:Nat→Prop} {y:Wd} (h:y.ok w Q) (hc:Chg S w w') (hs:∀ k,Q k→¬ S k):y.ok w' Q:=⟨BL.keep h.bl hc fun h0 a ha=>hs _ (h.q0 h0 a ha),h.q0,h.k3⟩
theorem Wd.ok.later {w w':World} {Q:Nat→Prop} {y:Wd} (h:y.ok w Q) (hb:Below w.heap.size w w'):y.ok w' Q:=h.keep (Chg.of_below (S:=fun _=>False) hb) fun _ _ h=>h
theorem bl_q {w:World} {p:Option Addr} {n c:Nat} {L:List Int} {Q R:Nat→Prop} (h:BL w p n c L) (hq:0<n→∀ a,p=some a→Q a.block) (hs:∀ k,Q k→k<w.heap.size→R k):0<n→∀ a,p=some a→R a.block:=fun h0 a ha=>by
 obtain⟨b,off,hp,hlt,_⟩:=BL.at h h0
 have h1:=hq h0 a ha
 rw [hp] at ha
 cases ha
 exact hs b h1 hlt
theorem Wd.ok.mono {w:World} {Q R:Nat→Prop} {y:Wd} (h:y.ok w Q) (hs:∀ k,Q k→k<w.heap.size→R k):y.ok w R:=⟨h.bl,bl_q h.bl h.q0 hs,h.k3⟩
structure Td (w:World) (Q:Nat→Prop) (lp:Option Addr) (ln lc:Nat) (L:List Dw):Prop where
 row:∃ AL:List Wd,SlG ewd 4 wd0' w lp ln lc AL∧AL.map Wd.x=L∧∀ y∈AL,y.ok w Q
 q:0<ln→∀ a,lp=some a→Q a.block
theorem Td.keep {w w':World} {Q S:Nat→Prop} {lp:Option Addr} {ln lc:Nat} {L:List Dw} (h:Td w Q lp ln lc L) (hc:Chg S w w') (hs:∀ k,Q k→¬ S k):Td w' Q lp ln lc L:=by
 obtain⟨⟨AL,h1,h2,h3⟩,h4⟩:=h
 exact⟨⟨AL,h1.turn hc.size fun h0 a ha hl=>hc.block _ hl (hs _ (h4 h0 a ha)),h2,fun y hy=>(h3 y hy).keep hc hs⟩,h4⟩
theorem Td.mono {w:World} {Q R:Nat→Prop} {lp:Option Addr} {ln lc:Nat} {L:List Dw} (h:Td w Q lp ln lc L) (hs:∀ k,Q k→k<w.heap.size→R k):Td w R lp ln lc L:=by
 obtain⟨⟨AL,h1,h2,h3⟩,h4⟩:=h
 refine⟨⟨AL,h1,h2,fun y hy=>(h3 y hy).mono hs⟩,fun h0 a ha=>?_⟩
 obtain⟨b,off,hp,hlt,_⟩:=h1.cell h0
 have h5:=h4 h0 a ha
 rw [hp] at ha
 cases ha
 exact hs b h5 hlt
theorem Td.nil (w:World) (Q:Nat→Prop):Td w Q none 0 0 []:=⟨⟨[],SlG.empty w,rfl,fun y hy=>by cases hy⟩,fun h=>by omega⟩
structure RdD (w:World) (Q:Nat→Prop) (p:Option Addr) (c:Nat) (tp:Option Addr) (tc:Nat) (lp:Option Addr) (lc:Nat) (d:DS):Prop where
 rv:RV w Q p c d.s d.V
 rt:Rt w tp tc d.t.B
 tq:0<d.t.B.length→∀ a,tp=some a→Q a.block
 td:Td w Q lp d.L.length lc d.L
 n4:d.V.length≤1024
 s4:d.s≤4096
 z:64≤d.z∧d.z≤4096
theorem RdD.keep {w w':World} {Q S:Nat→Prop} {p tp lp:Option Addr} {c tc lc:Nat} {d:DS} (h:RdD w Q p c tp tc lp lc d) (hc:Chg S w w') (hs:∀ k,Q k→¬ S k):RdD w' Q p c tp tc lp lc d :=
 ⟨h.rv.keep hc hs,h.rt.keep hc fun h0 a ha=>hs _ (h.tq h0 a ha),h.tq,h.td.keep hc hs,h.n4,h.s4,h.z⟩
theorem RdD.later {w w':World} {Q:Nat→Prop} {p tp lp:Option Addr} {c tc lc:Nat} {d:DS} (h:RdD w Q p c tp tc lp lc d) (hb:Below w.heap.size w w'):RdD w' Q p c tp tc lp lc d:=h.keep (Chg.of_below (S:=fun _=>False) hb) fun _ _ h=>h
theorem RdD.mono {w:World} {Q R:Nat→Prop} {p tp lp:Option Addr} {c tc lc:Nat} {d:DS} (h:RdD w Q p c tp tc lp lc d) (hs:∀ k,Q k→k<w.heap.size→R k):RdD w R p c tp tc lp lc d :=
 ⟨h.rv.mono hs,h.rt,bl_q h.rt.bl h.tq hs,h.td.mono hs,h.n4,h.s4,h.z⟩
abbrev rdc (p:Option Addr) (n c s:Nat) (tp:Option Addr) (tn tc F z:Nat) (lp:Option Addr) (ln lc M:Nat):Array Value:=#[.slice p n c,.int .i64 (s:Nat),.slice tp tn tc,.int .i64 (F:Nat),.int .i64 (z:Nat),.slice lp ln lc,.int .i64 (M:Nat)]
def RdDo (w:World) (Q:Nat→Prop) (s z n:Nat) (V:List (List Int)) (t:TS) (e:Ending) (w':World):Prop :=
 ∃ p c tp tc,e=.returned (.tuple #[.agg #[.slice p n c,.int .i64 (s:Nat)],.agg #[.slice tp t.B.length tc,.int .i64 (t.f*z:Nat),.int .i64 (z:Nat)]])∧RV w' Q p c s V∧Rt w' tp tc t.B∧(0<t.B.length→∀ a,tp=some a→Q a.block)∧Below w.heap.size w w'
theorem z1s {w W2 W':World} {Q:Nat→Prop} {s z n:Nat} {V:List (List Int)} {t:TS} {p tp:Option Addr} {c tc R0 R1 n1 F1:Nat} (hc:Chg (fun k=>k=R0∨k=R1) W2 W') (hb:Below w.heap.size w W2) (hr0:w.heap.size≤R0) (hr1:w.heap.size≤R1)
 (hv:RV W2 (fun k=>Q k∧k≠R0∧k≠R1) p c s V) (ht:Rt W2 tp tc t.B) (htq:0<t.B.length→∀ a,tp=some a→Q a.block∧a.block≠R0∧a.block≠R1) (hn1:t.B.length=n1) (hF1:t.f*z=F1):RdDo w Q s z n V t (.returned (.tuple #[.agg #[.slice p n c,.int .i64 (s:Nat)],.agg #[.slice tp n1 tc,.int .i64 (F1:Nat),.int .i64 (z:Nat)]])) W':=by
 subst hn1
 subst hF1
 exact⟨p,c,tp,tc,rfl,(hv.keep hc fun k hk hs=>by omega).mono fun k hk _=>hk.1,ht.keep hc fun h0 a ha hs=>by have:=htq h0 a ha;omega,fun h0 a ha=>(htq h0 a ha).1,hc.below hb hb.size fun k hk=>by omega⟩
theorem z3d {W:World} {R0 R1:Nat} {u0 u1 v0 v1 v2:Value} (x0 x1 y0 y1 y2:Value) (h0:W.heap[R0]?=some (.cells #[u0,u1] 32 (0,0))) (h1:W.heap[R1]?=some (.cells #[v0,v1,v2] 35 (0,0))) (hne:R0≠R1) :
 (((((W.setCell ⟨R0,0,none⟩ x0).setCell ⟨R0,1,none⟩ x1).setCell ⟨R1,0,none⟩ y0).setCell ⟨R1,1,none⟩ y1).setCell ⟨R1,2,none⟩ y2).heap[R0]?=some (.cells #[x0,x1] 32 (0,0)) ∧
 (((((W.setCell ⟨R0,0,none⟩ x0).setCell ⟨R0,1,none⟩ x1).setCell ⟨R1,0,none⟩ y0).setCell ⟨R1,1,none⟩ y1).setCell ⟨R1,2,none⟩ y2).heap[R1]?=some (.cells #[y0,y1,y2] 35 (0,0)) ∧
 Chg (fun k=>k=R0∨k=R1) W (((((W.setCell ⟨R0,0,none⟩ x0).setCell ⟨R0,1,none⟩ x1).setCell ⟨R1,0,none⟩ y0).setCell ⟨R1,1,none⟩ y1).setCell ⟨R1,2,none⟩ y2):=by
 have ha:Chg (fun k=>k=R0) W ((W.setCell ⟨R0,0,none⟩ x0).setCell ⟨R0,1,none⟩ x1):=((Chg.refl (fun k=>k=R0) W).setCell ⟨R0,0,none⟩ _ fun _=>rfl).setCell ⟨R0,1,none⟩ _ fun _=>rfl
 have hb:Chg (fun k=>k=R1) ((W.setCell ⟨R0,0,none⟩ x0).setCell ⟨R0,1,none⟩ x1) (((((W.setCell ⟨R0,0,none⟩ x0).setCell ⟨R0,1,none⟩ x1).setCell ⟨R1,0,none⟩ y0).setCell ⟨R1,1,none⟩ y1).setCell ⟨R1,2,none⟩ y2):=(((Chg.refl (fun k=>k=R1) _).setCell ⟨R1,0,none⟩ _ fun _=>rfl).setCell ⟨R1,1,none⟩ _ fun _=>rfl).setCell ⟨R1,2,none⟩ _ fun _=>rfl
 have g0:((W.setCell ⟨R0,0,none⟩ x0).setCell ⟨R0,1,none⟩ x1).heap[R0]?=some (.cells #[x0,x1] 32 (0,0)):=z0m 1 _ (z0m 0 _ h0)
 have g1:((W.setCell ⟨R0,0,none⟩ x0).setCell ⟨R0,1,none⟩ x1).heap[R1]?=some (.cells #[v0,v1,v2] 35 (0,0)):=(ha.block R1 (z0k h1) (fun e=>hne e.symm)).trans h1
 exact⟨(hb.block R0 (z0k g0) hne).trans g0,z0m 2 _ (z0m 1 _ (z0m 0 _ g1)),(ha.mono fun _ _ h=>Or.inl h).trans hb fun _ _ h=>Or.inr h⟩
theorem z2n {W:World} {R0 R1:Nat} {u0 u1 v0 v1 v2:Value} (x0 x1 y0 y1 y2:Value) (h0:W.heap[R0]?=some (.cells #[u0,u1] 32 (0,0))) (h1:W.heap[R1]?=some (.cells #[v0,v1,v2] 35 (0,0))) (hne:R0≠R1) :
 (((((W.setCell ⟨R1,0,none⟩ y0).setCell ⟨R1,1,none⟩ y1).setCell ⟨R1,2,none⟩ y2).setCell ⟨R0,0,none⟩ x0).setCell ⟨R0,1,none⟩ x1).heap[R0]?=some (.cells #[x0,x1] 32 (0,0)) ∧
 (((((W.setCell ⟨R1,0,none⟩ y0).setCell ⟨R1,1,none⟩ y1).setCell ⟨R1,2,none⟩ y2).setCell ⟨R0,0,none⟩ x0).setCell ⟨R0,1,none⟩ x1).heap[R1]?=some (.cells #[y0,y1,y2] 35 (0,0)) ∧
 Chg (fun k=>k=R0∨k=R1) W (((((W.setCell ⟨R1,0,none⟩ y0).setCell ⟨R1,1,none⟩ y1).setCell ⟨R1,2,none⟩ y2).setCell ⟨R0,0,none⟩ x0).setCell ⟨R0,1,none⟩ x1):=by
 have ha:Chg (fun k=>k=R1) W (((W.setCell ⟨R1,0,none⟩ y0).setCell ⟨R1,1,none⟩ y1).setCell ⟨R1,2,none⟩ y2):=(((Chg.refl (fun k=>k=R1) _).setCell ⟨R1,0,none⟩ _ fun _=>rfl).setCell ⟨R1,1,none⟩ _ fun _=>rfl).setCell ⟨R1,2,none⟩ _ fun _=>rfl
 have hb:Chg (fun k=>k=R0) (((W.setCell ⟨R1,0,none⟩ y0).setCell ⟨R1,1,none⟩ y1).setCell ⟨R1,2,none⟩ y2) (((((W.setCell ⟨R1,0,none⟩ y0).setCell ⟨R1,1,none⟩ y1).setCell ⟨R1,2,none⟩ y2).setCell ⟨R0,0,none⟩ x0).setCell ⟨R0,1,none⟩ x1):=((Chg.refl (fun k=>k=R0) _).setCell ⟨R0,0,none⟩ _ fun _=>rfl).setCell ⟨R0,1,none⟩ _ fun _=>rfl
 have g1:(((W.setCell ⟨R1,0,none⟩ y0).setCell ⟨R1,1,none⟩ y1).setCell ⟨R1,2,none⟩ y2).heap[R1]?=some (.cells #[y0,y1,y2] 35 (0,0)):=z0m 2 _ (z0m 1 _ (z0m 0 _ h1))
 have g0:(((W.setCell ⟨R1,0,none⟩ y0).setCell ⟨R1,1,none⟩ y1).setCell ⟨R1,2,none⟩ y2).heap[R0]?=some (.cells #[u0,u1] 32 (0,0)):=(ha.block R0 (z0k h0) hne).trans h0
 exact⟨z0m 1 _ (z0m 0 _ g0),(hb.block R1 (z0k g1) (fun e=>hne e.symm)).trans g1,(ha.mono fun _ _ h=>Or.inr h).trans hb fun _ _ h=>Or.inl h⟩
theorem rdo_put (p tp:Option Addr) (c tc n s z:Nat) (V:List (List Int)) (t:TS) (i x nn:Int) (q:Option Addr) (m cq:Nat) (b:List Int) (w:World) (Q:Nat→Prop) (hQ:∀ k,w.heap.size≤k→Q k) (hV:RV w Q p c s V) (hn:V.length=n) (hn4:n≤1024) (hs4:s≤4096) (hT:Rt w tp tc t.B) (htq:0<t.B.length→∀ a,tp=some a→Q a.block) (hb:BL w q m cq b) (hx:x<0) :
 Calls Tryz.prog 104 #[.agg #[.slice p n c,.int .i64 (s:Nat)],.agg #[.slice tp t.B.length tc,.int .i64 (t.f*z:Nat),.int .i64 (z:Nat)],.agg #[.int .i64 0,.int .i64 i,.slice q m cq,.int .i64 nn],.int .i64 x] w (RdDo w Q s z n (z6c s V i b s) t):=by
 obtain⟨W1,hW1,h0,h1,h2,h3,h4,hbw,hsz⟩:=z2k w #[.slice p n c,.int .i64 (s:Nat)] #[.slice tp t.B.length tc,.int .i64 (t.f*z:Nat),.int .i64 (z:Nat)] #[.int .i64 0,.int .i64 i,.slice q m cq,.int .i64 nn] #[.slice none 0 0,.int .i64 0] #[.slice none 0 0,.int .i64 0,.int .i64 0] 32 35 71 32 35
 have HW1:=hid hW1
 have HTT:Hid (Rt W1 tp tc t.B):=hid (hT.later hbw)
 have HTQ:Hid (0<t.B.length→∀ a,tp=some a→Q a.block∧a.block≠w.heap.size+1+1+1∧a.block≠w.heap.size+1+1+1+1):=hid fun h0 a ha=>by
  have h1:=htq h0 a ha
  have h2:=hT.lt h0 a ha
  exact⟨h1,by omega,by omega⟩
 have HP:=hid (refput_any p c n s V i q m cq b W1 (fun k=>Q k∧k≠w.heap.size+1+1+1∧k≠w.heap.size+1+1+1+1) (fun k hk=>⟨hQ k (by have:=hbw.size;omega),by omega,by omega⟩) ((hV.mono (fun k hk hl=>⟨hk,by omega,by omega⟩)).later hbw) hn hn4 hs4 (SlG.later hb hbw))
 have H1:=hid h1
 have H3:=hid h3
 have H4:=hid h4
 have HBW:=hid hbw
 have HSZ:=hid hsz
 have hd:decide (x<0)=true:=decide_eq_true hx
 have HTN:=hid (rfl:t.B.length=t.B.length)
 have HTF:=hid (rfl:t.f*z=t.f*z)
 clear hW1 h0 h1 h2 h3 h4 hbw hsz hT htq hb hV hn
 generalize hn1:t.B.length=n1 at *
 generalize hF1:t.f*z=F1 at *
 have HN1:=hid hn1
 have HF1:=hid hF1
 clear hn1 hF1
 go_enter Tryz.func104,Tryz.ntmps104
 go_wp2_with fail
 rw [← HW1.out]
 refine HP.out.mono ?_
 rintro e w2 ⟨p',c',rfl,hv2,hb2⟩
 have hb3:Below w2.heap.size w2 (w2.alloc (.cells #[.slice p' n c',.int .i64 (s:Nat)] 32)):=(Below.refl _ _).alloc (Nat.le_refl _) _
 have hb13:=hb2.trans (hb3.mono hb2.size)
 have hX:=z0e w2 (.cells #[.slice p' n c',.int .i64 (s:Nat)] 32)
 have hT3:=z0b H1.out hb13
 have hR0:=z0b H3.out hb13
 have hR1:=z0b H4.out hb13
 have HV3:=hid (hv2.later hb3)
 have HT3:=hid (HTT.out.later hb13)
 have HB3:=hid (HBW.out.trans (hb13.mono HBW.out.size))
 clear HW1 HP HTT H1 H3 H4 HBW HSZ hv2 hb2 hb3 hb13
 go_wp2_with fail
 generalize w2.alloc (.cells #[.slice p' n c',.int .i64 (s:Nat)] 32)=W3 at *
 generalize w2.heap.size=X at *
 have HA:=hid (z3d (.slice p' n c') (.int .i64 (s:Nat)) (.slice tp n1 tc) (.int .i64 (F1:Nat)) (.int .i64 (z:Nat)) hR0 hR1 (by omega))
 have HB:=hid (z2n (.slice p' n c') (.int .i64 (s:Nat)) (.slice tp n1 tc) (.int .i64 (F1:Nat)) (.int .i64 (z:Nat)) hR0 hR1 (by omega))
 have a0:=z0a (j:=0) hX (v:=.slice p' n c') rfl
 have a1:=z0a (j:=1) hX (v:=.int .i64 (s:Nat)) rfl
 have b0:=z0a (j:=0) hT3 (v:=.slice tp n1 tc) rfl
 have b1:=z0a (j:=1) hT3 (v:=.int .i64 (F1:Nat)) rfl
 have b2:=z0a (j:=2) hT3 (v:=.int .i64 (z:Nat)) rfl
 have c0:=z0a (j:=0) hR0 (v:=.slice none 0 0) rfl
 have c1:=z0a (j:=1) hR0 (v:=.int .i64 0) rfl
 have d0:=z0a (j:=0) hR1 (v:=.slice none 0 0) rfl
 have d1:=z0a (j:=1) hR1 (v:=.int .i64 0) rfl
 have d2:=z0a (j:=2) hR1 (v:=.int .i64 0) rfl
 have e0:=z0c 0 hR0
 have e1:=z0c 1 hR0
 have f0:=z0c 0 hR1
 have f1:=z0c 1 hR1
 have f2:=z0c 2 hR1
 clear hX hT3 hR0 hR1
 have HE:Hid (∀ W',Chg (fun k=>k=w.heap.size+1+1+1∨k=w.heap.size+1+1+1+1) W3 W'→RdDo w Q s z n (z6c s V i b s) t (.returned (.tuple #[.agg #[.slice p' n c',.int .i64 (s:Nat)],.agg #[.slice tp n1 tc,.int .i64 (F1:Nat),.int .i64 (z:Nat)]])) W'):=hid fun W' hc =>
  z1s hc HB3.out (by omega) (by omega) HV3.out HT3.out (fun h0=>HTQ.out (by have:=HN1.out;omega)) HN1.out HF1.out
 go_region
 all_goals go_wp2_with fail
 all_goals
  refine bodyPost_ret (v:=.tuple #[.agg #[.slice p' n c',.int .i64 (s:Nat)],.agg #[.slice tp n1 tc,.int .i64 (F1:Nat),.int .i64 (z:Nat)]]) ?_ rfl ?_
  · first
     | exact z0w rfl _ _ (w.heap.size+1+1+1) (w.heap.size+1+1+1+1) _ _ rfl rfl HA.out.1 HA.out.2.1 rfl rfl
     | exact z0w rfl _ _ (w.heap.size+1+1+1) (w.heap.size+1+1+1+1) _ _ rfl rfl HB.out.1 HB.out.2.1 rfl rfl
  · first
     | exact HE.out _ HA.out.2.2
     | exact HE.out _ HB.out.2.2
     | exact HE.out _ (HA.out.2.2.drewN 1)
     | exact HE.out _ (HB.out.2.2.drewN 1)
theorem rdo_tear (p tp:Option Addr) (c tc n s z:Nat) (V:List (List Int)) (t:TS) (i x nn:Int) (q:Option Addr) (m cq:Nat) (b:List Int) (w:World) (Q:Nat→Prop) (hQ:∀ k,w.heap.size≤k→Q k) (hV:RV w Q p c s V) (hn:V.length=n) (hn4:n≤1024) (hs4:s≤4096) (hT:Rt w tp tc t.B) (htq:0<t.B.length→∀ a,tp=some a→Q a.block) (hb:BL w q m cq b) (hx:0≤x) :
 Calls Tryz.prog 104 #[.agg #[.slice p n c,.int .i64 (s:Nat)],.agg #[.slice tp t.B.length tc,.int .i64 (t.f*z:Nat),.int .i64 (z:Nat)],.agg #[.int .i64 0,.int .i64 i,.slice q m cq,.int .i64 nn],.int .i64 x] w (RdDo w Q s z n (z6c s V i b (kp x s)) t):=by
 obtain⟨W1,hW1,h0,h1,h2,h3,h4,hbw,hsz⟩:=z2k w #[.slice p n c,.int .i64 (s:Nat)] #[.slice tp t.B.length tc,.int .i64 (t.f*z:Nat),.int .i64 (z:Nat)] #[.int .i64 0,.int .i64 i,.slice q m cq,.int .i64 nn] #[.slice none 0 0,.int .i64 0] #[.slice none 0 0,.int .i64 0,.int .i64 0] 32 35 71 32 35
 have HW1:=hid hW1
 have HTT:Hid (Rt W1 tp tc t.B):=hid (hT.later hbw)
 have HTQ:Hid (0<t.B.length→∀ a,tp=some a→Q a.block∧a.block≠w.heap.size+1+1+1∧a.block≠w.heap.size+1+1+1+1):=hid fun h0 a ha=>by
  have h1:=htq h0 a ha
  have h2:=hT.lt h0 a ha
  exact⟨h1,by omega,by omega⟩
 have HP:=hid (reftear_any p c n s V i x q m cq b W1 (fun k=>Q k∧k≠w.heap.size+1+1+1∧k≠w.heap.size+1+1+1+1) (fun k hk=>⟨hQ k (by have:=hbw.size;omega),by omega,by omega⟩) ((hV.mono (fun k hk hl=>⟨hk,by omega,by omega⟩)).later hbw) hn hn4 hs4 (SlG.later hb hbw))
 have H1:=hid h1
 have H3:=hid h3
 have H4:=hid h4
 have HBW:=hid hbw
 have HSZ:=hid hsz
 have hd:decide (x<0)=false:=decide_eq_false (by omega)
 have HTN:=hid (rfl:t.B.length=t.B.length)
 have HTF:=hid (rfl:t.f*z=t.f*z)
 clear hW1 h0 h1 h2 h3 h4 hbw hsz hT htq hb hV hn
 generalize hn1:t.B.length=n1 at *
 generalize hF1:t.f*z=F1 at *
 have HN1:=hid hn1
 have HF1:=hid hF1
 clear hn1 hF1
 go_enter Tryz.func104,Tryz.ntmps104
 go_wp2_with fail
 rw [← HW1.out]
 refine HP.out.mono ?_
 rintro e w2 ⟨p',c',rfl,hv2,hb2⟩
 have hb3:Below w2.heap.size w2 (w2.alloc (.cells #[.slice p' n c',.int .i64 (s:Nat)] 32)):=(Below.refl _ _).alloc (Nat.le_refl _) _
 have hb13:=hb2.trans (hb3.mono hb2.size)
 have hX:=z0e w2 (.cells #[.slice p' n c',.int .i64 (s:Nat)] 32)
 have hT3:=z0b H1.out hb13
 have hR0:=z0b H3.out hb13
 have hR1:=z0b H4.out hb13
 have HV3:=hid (hv2.later hb3)
 have HT3:=hid (HTT.out.later hb13)
 have HB3:=hid (HBW.out.trans (hb13.mono HBW.out.size))
 clear HW1 HP HTT H1 H3 H4 HBW HSZ hv2 hb2 hb3 hb13
 go_wp2_with fail
 generalize w2.alloc (.cells #[.slice p' n c',.int .i64 (s:Nat)] 32)=W3 at *
 generalize w2.heap.size=X at *
 have HA:=hid (z3d (.slice p' n c') (.int .i64 (s:Nat)) (.slice tp n1 tc) (.int .i64 (F1:Nat)) (.int .i64 (z:Nat)) hR0 hR1 (by omega))
 have HB:=hid (z2n (.slice p' n c') (.int .i64 (s:Nat)) (.slice tp n1 tc) (.int .i64 (F1:Nat)) (.int .i64 (z:Nat)) hR0 hR1 (by omega))
 have a0:=z0a (j:=0) hX (v:=.slice p' n c') rfl
 have a1:=z0a (j:=1) hX (v:=.int .i64 (s:Nat)) rfl
 have b0:=z0a (j:=0) hT3 (v:=.slice tp n1 tc) rfl
 have b1:=z0a (j:=1) hT3 (v:=.int .i64 (F1:Nat)) rfl
 have b2:=z0a (j:=2) hT3 (v:=.int .i64 (z:Nat)) rfl
 have c0:=z0a (j:=0) hR0 (v:=.slice none 0 0) rfl
 have c1:=z0a (j:=1) hR0 (v:=.int .i64 0) rfl
 have d0:=z0a (j:=0) hR1 (v:=.slice none 0 0) rfl
 have d1:=z0a (j:=1) hR1 (v:=.int .i64 0) rfl
 have d2:=z0a (j:=2) hR1 (v:=.int .i64 0) rfl
 have e0:=z0c 0 hR0
 have e1:=z0c 1 hR0
 have f0:=z0c 0 hR1
 have f1:=z0c 1 hR1
 have f2:=z0c 2 hR1
 clear hX hT3 hR0 hR1
 have HE:Hid (∀ W',Chg (fun k=>k=w.heap.size+1+1+1∨k=w.heap.size+1+1+1+1) W3 W'→RdDo w Q s z n (z6c s V i b (kp x s)) t (.returned (.tuple #[.agg #[.slice p' n c',.int .i64 (s:Nat)],.agg #[.slice tp n1 tc,.int .i64 (F1:Nat),.int .i64 (z:Nat)]])) W'):=hid fun W' hc =>
  z1s hc HB3.out (by omega) (by omega) HV3.out HT3.out (fun h0=>HTQ.out (by have:=HN1.out;omega)) HN1.out HF1.out
 go_region
 all_goals go_wp2_with fail
 all_goals
  refine bodyPost_ret (v:=.tuple #[.agg #[.slice p' n c',.int .i64 (s:Nat)],.agg #[.slice tp n1 tc,.int .i64 (F1:Nat),.int .i64 (z:Nat)]]) ?_ rfl ?_
  · first
     | exact z0w rfl _ _ (w.heap.size+1+1+1) (w.heap.size+1+1+1+1) _ _ rfl rfl HA.out.1 HA.out.2.1 rfl rfl
     | exact z0w rfl _ _ (w.heap.size+1+1+1) (w.heap.size+1+1+1+1) _ _ rfl rfl HB.out.1 HB.out.2.1 rfl rfl
  · first
     | exact HE.out _ HA.out.2.2
     | exact HE.out _ HB.out.2.2
     | exact HE.out _ (HA.out.2.2.drewN 1)
     | exact HE.out _ (HB.out.2.2.drewN 1)
theorem Chg.drew1 {S:Nat→Prop} {a b:World} (h:Chg S a b):Chg S a b.drew:=⟨h.os,h.tape,h.output,h.size,h.block⟩
def TOut (W1 w':World) (Q:Nat→Prop) (z:Nat) (t':TS) (R0 R1:Nat) (e:Ending) (w5:World):Prop :=
 ∃ p5 c5 n5 F5,e=.returned (.agg #[.slice p5 n5 c5,.int .i64 (F5:Nat),.int .i64 (z:Nat)])∧Hid (t'.B.length=n5)∧Hid (t'.f*z=F5)∧Hid (Rt w5 p5 c5 t'.B)∧Hid (0<t'.B.length→∀ a,p5=some a→Q a.block∧a.block≠R0∧a.block≠R1)∧Chg (fun k=>k=R0∨k=R1) W1 w5∧w5.heap[R0]?=w'.heap[R0]?∧w5.heap[R1]?=w'.heap[R1]?
theorem z6m {W1 w':World} {Q:Nat→Prop} {fn:_} {args:Array Value} {z R0 R1:Nat} {tp:Option Addr} {t t':TS} (hc:Chg (fun k=>k=R0∨k=R1) W1 w') (hcall:Calls Tryz.prog fn args w' (z7j w' tp z t t')) (htq:0<t.B.length→∀ a,tp=some a→Q a.block∧a.block≠R0∧a.block≠R1) (hQ:∀ k,W1.heap.size≤k→Q k) (h0:R0<W1.heap.size) (h1:R1<W1.heap.size):Calls Tryz.prog fn args w' (TOut W1 w' Q z t' R0 R1):=by
 refine hcall.mono ?_
 rintro e w5 ⟨p5,c5,rfl,g1,g2,g3⟩
 have hs:=hc.size
 refine⟨p5,c5,_,_,rfl,hid rfl,hid rfl,hid g1,hid fun h0 a ha=>?_,hc.trans (Chg.of_below (S:=fun k=>k=R0∨k=R1) g3) fun _ _ h=>h,g3.block _ (by omega),g3.block _ (by omega)⟩
 rcases g2 h0 a ha with ⟨a',ha',he,hp⟩ | hge
 · have:=htq hp a' ha'
   rw [← he]
   exact this
 · exact⟨hQ _ (by omega),by omega,by omega⟩
theorem z6v {W:World} {R0 R1:Nat} {x0 x1 v0 v1 v2:Value} (y0 y1 y2:Value) (h0:W.heap[R0]?=some (.cells #[x0,x1] 32 (0,0))) (h1:W.heap[R1]?=some (.cells #[v0,v1,v2] 35 (0,0))) (hne:R0≠R1) :
 (((W.setCell ⟨R1,0,none⟩ y0).setCell ⟨R1,1,none⟩ y1).setCell ⟨R1,2,none⟩ y2).heap[R0]?=some (.cells #[x0,x1] 32 (0,0)) ∧
 (((W.setCell ⟨R1,0,none⟩ y0).setCell ⟨R1,1,none⟩ y1).setCell ⟨R1,2,none⟩ y2).heap[R1]?=some (.cells #[y0,y1,y2] 35 (0,0)) ∧
 Chg (fun k=>k=R0∨k=R1) W (((W.setCell ⟨R1,0,none⟩ y0).setCell ⟨R1,1,none⟩ y1).setCell ⟨R1,2,none⟩ y2):=by
 have ha:Chg (fun k=>k=R1) W (((W.setCell ⟨R1,0,none⟩ y0).setCell ⟨R1,1,none⟩ y1).setCell ⟨R1,2,none⟩ y2):=(((Chg.refl (fun k=>k=R1) _).setCell ⟨R1,0,none⟩ _ fun _=>rfl).setCell ⟨R1,1,none⟩ _ fun _=>rfl).setCell ⟨R1,2,none⟩ _ fun _=>rfl
 exact⟨(ha.block R0 (z0k h0) hne).trans h0,z0m 2 _ (z0m 1 _ (z0m 0 _ h1)),ha.mono fun _ _ h=>Or.inr h⟩
theorem BL.take {w:World} {p:Option Addr} {n c:Nat} {L:List Int} (h:BL w p n c L) (k:Nat) (hk:k≤n):BL w p k c (L.take k):=by
 refine⟨by rw [List.length_take,h.len];omega,Nat.le_trans hk h.cap,h.max,h.nil,fun h0=>?_⟩
 obtain⟨b,off,hp,hlt,hc⟩:=h.cell (by omega)
 refine⟨b,off,hp,hlt,fun j hj i v hv=>hc j (by omega) i v ?_⟩
 have e:(L.take k).getD j 0=L.getD j 0:=by rw [List.getD,List.getD,List.getElem?_take,if_pos hj]
 rw [e] at hv
 exact hv
theorem rdo_grow (p tp:Option Addr) (c tc n s z:Nat) (V:List (List Int)) (t:TS) (i x nn:Int) (q:Option Addr) (m cq:Nat) (b:List Int) (w:World) (Q:Nat→Prop) (hQ:∀ k,w.heap.size≤k→Q k) (hV:RV w Q p c s V) (hn:V.length=n) (hT:Rt w tp tc t.B) (htq:0<t.B.length→∀ a,tp=some a→Q a.block) (hb:BL w q m cq b) (hx:x<0) (hbig:t.B.length+m≤1000000) :
 Calls Tryz.prog 104 #[.agg #[.slice p n c,.int .i64 (s:Nat)],.agg #[.slice tp t.B.length tc,.int .i64 (t.f*z:Nat),.int .i64 (z:Nat)],.agg #[.int .i64 1,.int .i64 i,.slice q m cq,.int .i64 nn],.int .i64 x] w (RdDo w Q s z n V (appT t b)):=by
 obtain⟨W1,hW1,h0,h1,h2,h3,h4,hbw,hsz⟩:=z2k w #[.slice p n c,.int .i64 (s:Nat)] #[.slice tp t.B.length tc,.int .i64 (t.f*z:Nat),.int .i64 (z:Nat)] #[.int .i64 1,.int .i64 i,.slice q m cq,.int .i64 nn] #[.slice none 0 0,.int .i64 0] #[.slice none 0 0,.int .i64 0,.int .i64 0] 32 35 71 32 35
 have HW1:=hid hW1
 have HTQ:Hid (0<t.B.length→∀ a,tp=some a→Q a.block∧a.block≠w.heap.size+1+1+1∧a.block≠w.heap.size+1+1+1+1):=hid fun h0 a ha=>by
  have h1:=htq h0 a ha
  have h2:=hT.lt h0 a ha
  exact⟨h1,by omega,by omega⟩
 have HV1:=hid ((hV.mono (T:=fun k=>Q k∧k≠w.heap.size+1+1+1∧k≠w.heap.size+1+1+1+1) (fun k hk hl=>⟨hk,by omega,by omega⟩)).later hbw)
 have hT1:=hT.later hbw
 have hbl:=SlG.later hb hbw
 have hd:decide (x<0)=true:=decide_eq_true hx
 have HAP:Hid (∀ w',Chg (fun k=>k=w.heap.size+1+1+1∨k=w.heap.size+1+1+1+1) W1 w'→Calls Tryz.prog 149 #[.agg #[.slice tp t.B.length tc,.int .i64 (t.f*z:Nat),.int .i64 (z:Nat)],.slice q m cq] w' (TOut W1 w' Q z (appT t b) (w.heap.size+1+1+1) (w.heap.size+1+1+1+1))):=hid fun w' hc =>
  z6m hc (z7q tp tc z t q m cq b w' (hT1.keep hc fun h0 a ha hs=>by have:=HTQ.out h0 a ha;omega) (BL.keep hbl hc fun h0 a ha hs=>by
   obtain⟨b9,off9,he9,hlt9,_⟩:=BL.at hb h0
   rw [he9] at ha
   cases ha
   have hs9:b9=w.heap.size+1+1+1∨b9=w.heap.size+1+1+1+1:=hs
   omega) hbig) HTQ.out (fun k hk=>hQ k (by have:=hbw.size;omega)) (by omega) (by omega)
 have HS:Hid (∀ w',Chg (fun k=>k=w.heap.size+1+1+1∨k=w.heap.size+1+1+1+1) W1 w'→w'.cell? ⟨w.heap.size,0,none⟩=some (.slice p n c)∧w'.cell? ⟨w.heap.size,1,none⟩=some (.int .i64 (s:Nat))∧w'.cell? ⟨w.heap.size+1,0,none⟩=some (.slice tp t.B.length tc)∧w'.cell? ⟨w.heap.size+1,1,none⟩=some (.int .i64 (t.f*z:Nat))∧w'.cell? ⟨w.heap.size+1,2,none⟩=some (.int .i64 (z:Nat))∧w'.cell? ⟨w.heap.size+1+1,3,none⟩=some (.int .i64 nn)):=hid fun w' hc=>by
  have g0:=(hc.block _ (z0k h0) (by omega)).trans h0
  have g1:=(hc.block _ (z0k h1) (by omega)).trans h1
  have g2:=(hc.block _ (z0k h2) (by omega)).trans h2
  exact⟨z0a (j:=0) g0 rfl,z0a (j:=1) g0 rfl,z0a (j:=0) g1 rfl,z0a (j:=1) g1 rfl,z0a (j:=2) g1 rfl,z0a (j:=3) g2 rfl⟩
 have H3:=hid h3
 have H4:=hid h4
 have HBW:=hid hbw
 have HT1:=hid hT1
 clear hW1 h0 h1 h2 h3 h4 hbw hT htq hb hV hn hsz hT1 hbl
 generalize hn1:t.B.length=n1 at HS HW1 HAP ⊢
 generalize hF1:t.f*z=F1 at HS HW1 HAP ⊢
 have HN1:=hid hn1
 have HF1:=hid hF1
 clear hn1 hF1
 go_enter Tryz.func104,Tryz.ntmps104
 go_wp2_with fail
 rw [← HW1.out]
 obtain⟨a0,a1,b0,b1,b2,b3⟩:=HS.out W1 (Chg.refl _ _)
 have c0:=z0a (j:=0) H3.out (v:=.slice none 0 0) rfl
 have c1:=z0a (j:=1) H3.out (v:=.int .i64 0) rfl
 have e0:=z0c 0 H3.out
 have e1:=z0c 1 H3.out
 go_region_held3 (fun w'=>w'.cell? ⟨w.heap.size,0,none⟩=some (.slice p n c)∧w'.cell? ⟨w.heap.size,1,none⟩=some (.int .i64 (s:Nat))∧w'.cell? ⟨w.heap.size+1,0,none⟩=some (.slice tp n1 tc)∧w'.cell? ⟨w.heap.size+1,1,none⟩=some (.int .i64 (F1:Nat))∧w'.cell? ⟨w.heap.size+1,2,none⟩=some (.int .i64 (z:Nat))∧w'.cell? ⟨w.heap.size+1+1,3,none⟩=some (.int .i64 nn)) ((refine HS.out _ ?_;(repeat (first | exact Chg.refl _ _ | exact hc5 | refine Chg.drewN ?_ _ | refine Chg.drew1 ?_ | refine Chg.setCell ?_ _ _ (fun _=>by first | exact Or.inl rfl | exact Or.inr rfl)))))
  (first
   | (go_at_call 149;(with_reducible refine (HAP.out _ ?_).mono ?_);(repeat (first | exact Chg.refl _ _ | exact hc5 | refine Chg.drewN ?_ _ | refine Chg.drew1 ?_ | refine Chg.setCell ?_ _ _ (fun _=>by first | exact Or.inl rfl | exact Or.inr rfl)));rintro e w5 ⟨p5,c5,n5,F5,rfl,hn5,hF5,ht5,hq5,hc5,k0,k1⟩;
      have hR1:=k1.trans H4.out;
      (first
       | (have hR0:=k0.trans H3.out;have HA:=hid (z3d (.slice p n c) (.int .i64 (s:Nat)) (.slice p5 n5 c5) (.int .i64 (F5:Nat)) (.int .i64 (z:Nat)) hR0 hR1 (by omega));have HB:=hid (z2n (.slice p n c) (.int .i64 (s:Nat)) (.slice p5 n5 c5) (.int .i64 (F5:Nat)) (.int .i64 (z:Nat)) hR0 hR1 (by omega));have c2:=z0a (j:=0) hR0 (v:=.slice none 0 0) rfl;have c3:=z0a (j:=1) hR0 (v:=.int .i64 0) rfl;have e2:=z0c 0 hR0;have e3:=z0c 1 hR0)
       | (have hR0:=k0.trans (z0m 1 (.int .i64 (s:Nat)) (z0m 0 (.slice p n c) H3.out));have HA:=hid (z6v (.slice p5 n5 c5) (.int .i64 (F5:Nat)) (.int .i64 (z:Nat)) hR0 hR1 (by omega))));
      have d0:=z0a (j:=0) hR1 (v:=.slice none 0 0) rfl;have d1:=z0a (j:=1) hR1 (v:=.int .i64 0) rfl;have d2:=z0a (j:=2) hR1 (v:=.int .i64 0) rfl;have f0:=z0c 0 hR1;have f1:=z0c 1 hR1;have f2:=z0c 2 hR1;
      have HC5:=hid hc5;clear hR0 hR1 k0 k1))
 all_goals go_wp2_with fail
 all_goals
  refine bodyPost_ret (v:=.tuple #[.agg #[.slice p n c,.int .i64 (s:Nat)],.agg #[.slice p5 n5 c5,.int .i64 (F5:Nat),.int .i64 (z:Nat)]]) ?_ rfl ?_
  · first
     | exact z0w rfl _ _ (w.heap.size+1+1+1) (w.heap.size+1+1+1+1) _ _ rfl rfl HA.out.1 HA.out.2.1 rfl rfl
     | exact z0w rfl _ _ (w.heap.size+1+1+1) (w.heap.size+1+1+1+1) _ _ rfl rfl HB.out.1 HB.out.2.1 rfl rfl
  · have hv5:=HV1.out.keep HC5.out fun k hk hs=>by omega
    have hb5:=HC5.out.below HBW.out HBW.out.size fun k hk=>by omega
    first
     | exact z1s HA.out.2.2 hb5 (by omega) (by omega) hv5 ht5.out hq5.out hn5.out hF5.out
     | exact z1s HB.out.2.2 hb5 (by omega) (by omega) hv5 ht5.out hq5.out hn5.out hF5.out
     | exact z1s (HA.out.2.2.drewN 1) hb5 (by omega) (by omega) hv5 ht5.out hq5.out hn5.out hF5.out
     | exact z1s (HB.out.2.2.drewN 1) hb5 (by omega) (by omega) hv5 ht5.out hq5.out hn5.out hF5.out
theorem rdo_growl (p tp:Option Addr) (c tc n s z:Nat) (V:List (List Int)) (t:TS) (i x nn:Int) (q:Option Addr) (m cq:Nat) (b:List Int) (w:World) (Q:Nat→Prop) (hQ:∀ k,w.heap.size≤k→Q k) (hV:RV w Q p c s V) (hn:V.length=n) (hT:Rt w tp tc t.B) (htq:0<t.B.length→∀ a,tp=some a→Q a.block) (hb:BL w q m cq b) (hx:0≤x) (hm:(m:Int)≤x) (hbig:t.B.length+m≤1000000) :
 Calls Tryz.prog 104 #[.agg #[.slice p n c,.int .i64 (s:Nat)],.agg #[.slice tp t.B.length tc,.int .i64 (t.f*z:Nat),.int .i64 (z:Nat)],.agg #[.int .i64 1,.int .i64 i,.slice q m cq,.int .i64 nn],.int .i64 x] w (RdDo w Q s z n V (appT t b)):=by
 obtain⟨W1,hW1,h0,h1,h2,h3,h4,hbw,hsz⟩:=z2k w #[.slice p n c,.int .i64 (s:Nat)] #[.slice tp t.B.length tc,.int .i64 (t.f*z:Nat),.int .i64 (z:Nat)] #[.int .i64 1,.int .i64 i,.slice q m cq,.int .i64 nn] #[.slice none 0 0,.int .i64 0] #[.slice none 0 0,.int .i64 0,.int .i64 0] 32 35 71 32 35
 have HW1:=hid hW1
 have HTQ:Hid (0<t.B.length→∀ a,tp=some a→Q a.block∧a.block≠w.heap.size+1+1+1∧a.block≠w.heap.size+1+1+1+1):=hid fun h0 a ha=>by
  have h1:=htq h0 a ha
  have h2:=hT.lt h0 a ha
  exact⟨h1,by omega,by omega⟩
 have HV1:=hid ((hV.mono (T:=fun k=>Q k∧k≠w.heap.size+1+1+1∧k≠w.heap.size+1+1+1+1) (fun k hk hl=>⟨hk,by omega,by omega⟩)).later hbw)
 have hT1:=hT.later hbw
 have hbl:=SlG.later hb hbw
 have hd:decide (x<0)=false:=decide_eq_false (by omega)
 have hd2:decide (x<(m:Int))=false:=decide_eq_false (by omega)
 have HAP:Hid (∀ w',Chg (fun k=>k=w.heap.size+1+1+1∨k=w.heap.size+1+1+1+1) W1 w'→Calls Tryz.prog 149 #[.agg #[.slice tp t.B.length tc,.int .i64 (t.f*z:Nat),.int .i64 (z:Nat)],.slice q m cq] w' (TOut W1 w' Q z (appT t b) (w.heap.size+1+1+1) (w.heap.size+1+1+1+1))):=hid fun w' hc =>
  z6m hc (z7q tp tc z t q m cq b w' (hT1.keep hc fun h0 a ha hs=>by have:=HTQ.out h0 a ha;omega) (BL.keep hbl hc fun h0 a ha hs=>by
   obtain⟨b9,off9,he9,hlt9,_⟩:=BL.at hb h0
   rw [he9] at ha
   cases ha
   have hs9:b9=w.heap.size+1+1+1∨b9=w.heap.size+1+1+1+1:=hs
   omega) hbig) HTQ.out (fun k hk=>hQ k (by have:=hbw.size;omega)) (by omega) (by omega)
 have HS:Hid (∀ w',Chg (fun k=>k=w.heap.size+1+1+1∨k=w.heap.size+1+1+1+1) W1 w'→w'.cell? ⟨w.heap.size,0,none⟩=some (.slice p n c)∧w'.cell? ⟨w.heap.size,1,none⟩=some (.int .i64 (s:Nat))∧w'.cell? ⟨w.heap.size+1,0,none⟩=some (.slice tp t.B.length tc)∧w'.cell? ⟨w.heap.size+1,1,none⟩=some (.int .i64 (t.f*z:Nat))∧w'.cell? ⟨w.heap.size+1,2,none⟩=some (.int .i64 (z:Nat))∧w'.cell? ⟨w.heap.size+1+1,3,none⟩=some (.int .i64 nn)):=hid fun w' hc=>by
  have g0:=(hc.block _ (z0k h0) (by omega)).trans h0
  have g1:=(hc.block _ (z0k h1) (by omega)).trans h1
  have g2:=(hc.block _ (z0k h2) (by omega)).trans h2
  exact⟨z0a (j:=0) g0 rfl,z0a (j:=1) g0 rfl,z0a (j:=0) g1 rfl,z0a (j:=1) g1 rfl,z0a (j:=2) g1 rfl,z0a (j:=3) g2 rfl⟩
 have H3:=hid h3
 have H4:=hid h4
 have HBW:=hid hbw
 have HT1:=hid hT1
 clear hW1 h0 h1 h2 h3 h4 hbw hT htq hb hV hn hsz hT1 hbl
 generalize hn1:t.B.length=n1 at HS HW1 HAP ⊢
 generalize hF1:t.f*z=F1 at HS HW1 HAP ⊢
 have HN1:=hid hn1
 have HF1:=hid hF1
 clear hn1 hF1
 go_enter Tryz.func104,Tryz.ntmps104
 go_wp2_with fail
 rw [← HW1.out]
 obtain⟨a0,a1,b0,b1,b2,b3⟩:=HS.out W1 (Chg.refl _ _)
 have c0:=z0a (j:=0) H3.out (v:=.slice none 0 0) rfl
 have c1:=z0a (j:=1) H3.out (v:=.int .i64 0) rfl
 have e0:=z0c 0 H3.out
 have e1:=z0c 1 H3.out
 go_region_held3 (fun w'=>w'.cell? ⟨w.heap.size,0,none⟩=some (.slice p n c)∧w'.cell? ⟨w.heap.size,1,none⟩=some (.int .i64 (s:Nat))∧w'.cell? ⟨w.heap.size+1,0,none⟩=some (.slice tp n1 tc)∧w'.cell? ⟨w.heap.size+1,1,none⟩=some (.int .i64 (F1:Nat))∧w'.cell? ⟨w.heap.size+1,2,none⟩=some (.int .i64 (z:Nat))∧w'.cell? ⟨w.heap.size+1+1,3,none⟩=some (.int .i64 nn)) ((refine HS.out _ ?_;(repeat (first | exact Chg.refl _ _ | exact hc5 | refine Chg.drewN ?_ _ | refine Chg.drew1 ?_ | refine Chg.setCell ?_ _ _ (fun _=>by first | exact Or.inl rfl | exact Or.inr rfl)))))
  (first
   | (go_at_call 149;(with_reducible refine (HAP.out _ ?_).mono ?_);(repeat (first | exact Chg.refl _ _ | exact hc5 | refine Chg.drewN ?_ _ | refine Chg.drew1 ?_ | refine Chg.setCell ?_ _ _ (fun _=>by first | exact Or.inl rfl | exact Or.inr rfl)));rintro e w5 ⟨p5,c5,n5,F5,rfl,hn5,hF5,ht5,hq5,hc5,k0,k1⟩;
      have hR1:=k1.trans H4.out;
      (first
       | (have hR0:=k0.trans H3.out;have HA:=hid (z3d (.slice p n c) (.int .i64 (s:Nat)) (.slice p5 n5 c5) (.int .i64 (F5:Nat)) (.int .i64 (z:Nat)) hR0 hR1 (by omega));have HB:=hid (z2n (.slice p n c) (.int .i64 (s:Nat)) (.slice p5 n5 c5) (.int .i64 (F5:Nat)) (.int .i64 (z:Nat)) hR0 hR1 (by omega));have c2:=z0a (j:=0) hR0 (v:=.slice none 0 0) rfl;have c3:=z0a (j:=1) hR0 (v:=.int .i64 0) rfl;have e2:=z0c 0 hR0;have e3:=z0c 1 hR0)
       | (have hR0:=k0.trans (z0m 1 (.int .i64 (s:Nat)) (z0m 0 (.slice p n c) H3.out));have HA:=hid (z6v (.slice p5 n5 c5) (.int .i64 (F5:Nat)) (.int .i64 (z:Nat)) hR0 hR1 (by omega))));
      have d0:=z0a (j:=0) hR1 (v:=.slice none 0 0) rfl;have d1:=z0a (j:=1) hR1 (v:=.int .i64 0) rfl;have d2:=z0a (j:=2) hR1 (v:=.int .i64 0) rfl;have f0:=z0c 0 hR1;have f1:=z0c 1 hR1;have f2:=z0c 2 hR1;
      have HC5:=hid hc5;clear hR0 hR1 k0 k1))
 all_goals go_wp2_with fail
 all_goals
  refine bodyPost_ret (v:=.tuple #[.agg #[.slice p n c,.int .i64 (s:Nat)],.agg #[.slice p5 n5 c5,.int .i64 (F5:Nat),.int .i64 (z:Nat)]]) ?_ rfl ?_
  · first
     | exact z0w rfl _ _ (w.heap.size+1+1+1) (w.heap.size+1+1+1+1) _ _ rfl rfl HA.out.1 HA.out.2.1 rfl rfl
     | exact z0w rfl _ _ (w.heap.size+1+1+1) (w.heap.size+1+1+1+1) _ _ rfl rfl HB.out.1 HB.out.2.1 rfl rfl
  · have hv5:=HV1.out.keep HC5.out fun k hk hs=>by omega
    have hb5:=HC5.out.below HBW.out HBW.out.size fun k hk=>by omega
    first
     | exact z1s HA.out.2.2 hb5 (by omega) (by omega) hv5 ht5.out hq5.out hn5.out hF5.out
     | exact z1s HB.out.2.2 hb5 (by omega) (by omega) hv5 ht5.out hq5.out hn5.out hF5.out
     | exact z1s (HA.out.2.2.drewN 1) hb5 (by omega) (by omega) hv5 ht5.out hq5.out hn5.out hF5.out
     | exact z1s (HB.out.2.2.drewN 1) hb5 (by omega) (by omega) hv5 ht5.out hq5.out hn5.out hF5.out
theorem rdo_grown (p tp:Option Addr) (c tc n s z:Nat) (V:List (List Int)) (t:TS) (i x nn:Int) (q:Option Addr) (m cq:Nat) (b:List Int) (w:World) (Q:Nat→Prop) (hQ:∀ k,w.heap.size≤k→Q k) (hV:RV w Q p c s V) (hn:V.length=n) (hT:Rt w tp tc t.B) (htq:0<t.B.length→∀ a,tp=some a→Q a.block) (hb:BL w q m cq b) (k:Nat) (hx:x=k) (hk:k<m) (hbig:t.B.length+k≤1000000) :
 Calls Tryz.prog 104 #[.agg #[.slice p n c,.int .i64 (s:Nat)],.agg #[.slice tp t.B.length tc,.int .i64 (t.f*z:Nat),.int .i64 (z:Nat)],.agg #[.int .i64 1,.int .i64 i,.slice q m cq,.int .i64 nn],.int .i64 x] w (RdDo w Q s z n V (appT t (b.take k))):=by
 obtain⟨W1,hW1,h0,h1,h2,h3,h4,hbw,hsz⟩:=z2k w #[.slice p n c,.int .i64 (s:Nat)] #[.slice tp t.B.length tc,.int .i64 (t.f*z:Nat),.int .i64 (z:Nat)] #[.int .i64 1,.int .i64 i,.slice q m cq,.int .i64 nn] #[.slice none 0 0,.int .i64 0] #[.slice none 0 0,.int .i64 0,.int .i64 0] 32 35 71 32 35
 have HW1:=hid hW1
 have HTQ:Hid (0<t.B.length→∀ a,tp=some a→Q a.block∧a.block≠w.heap.size+1+1+1∧a.block≠w.heap.size+1+1+1+1):=hid fun h0 a ha=>by
  have h1:=htq h0 a ha
  have h2:=hT.lt h0 a ha
  exact⟨h1,by omega,by omega⟩
 have HV1:=hid ((hV.mono (T:=fun k=>Q k∧k≠w.heap.size+1+1+1∧k≠w.heap.size+1+1+1+1) (fun k hk hl=>⟨hk,by omega,by omega⟩)).later hbw)
 have hT1:=hT.later hbw
 have hbl:=SlG.later hb hbw
 subst hx
 have hd:decide ((k:Int)<0)=false:=decide_eq_false (by omega)
 have hd2:decide ((k:Int)<(m:Int))=true:=decide_eq_true (by omega)
 have hkc:k≤cq:=Nat.le_trans (Nat.le_of_lt hk) hb.cap
 have HAP:Hid (∀ w',Chg (fun k=>k=w.heap.size+1+1+1∨k=w.heap.size+1+1+1+1) W1 w'→Calls Tryz.prog 149 #[.agg #[.slice tp t.B.length tc,.int .i64 (t.f*z:Nat),.int .i64 (z:Nat)],.slice q k cq] w' (TOut W1 w' Q z (appT t (b.take k)) (w.heap.size+1+1+1) (w.heap.size+1+1+1+1))):=hid fun w' hc =>
  z6m hc (z7q tp tc z t q k cq (b.take k) w' (hT1.keep hc fun h0 a ha hs=>by have:=HTQ.out h0 a ha;omega) (BL.take (BL.keep hbl hc fun h0 a ha hs=>by
   obtain⟨b9,off9,he9,hlt9,_⟩:=BL.at hb h0
   rw [he9] at ha
   cases ha
   have hs9:b9=w.heap.size+1+1+1∨b9=w.heap.size+1+1+1+1:=hs
   omega) k (by omega)) hbig) HTQ.out (fun k hk=>hQ k (by have:=hbw.size;omega)) (by omega) (by omega)
 have HS:Hid (∀ w',Chg (fun k=>k=w.heap.size+1+1+1∨k=w.heap.size+1+1+1+1) W1 w'→w'.cell? ⟨w.heap.size,0,none⟩=some (.slice p n c)∧w'.cell? ⟨w.heap.size,1,none⟩=some (.int .i64 (s:Nat))∧w'.cell? ⟨w.heap.size+1,0,none⟩=some (.slice tp t.B.length tc)∧w'.cell? ⟨w.heap.size+1,1,none⟩=some (.int .i64 (t.f*z:Nat))∧w'.cell? ⟨w.heap.size+1,2,none⟩=some (.int .i64 (z:Nat))∧w'.cell? ⟨w.heap.size+1+1,3,none⟩=some (.int .i64 nn)):=hid fun w' hc=>by
  have g0:=(hc.block _ (z0k h0) (by omega)).trans h0
  have g1:=(hc.block _ (z0k h1) (by omega)).trans h1
  have g2:=(hc.block _ (z0k h2) (by omega)).trans h2
  exact⟨z0a (j:=0) g0 rfl,z0a (j:=1) g0 rfl,z0a (j:=0) g1 rfl,z0a (j:=1) g1 rfl,z0a (j:=2) g1 rfl,z0a (j:=3) g2 rfl⟩
 have H3:=hid h3
 have H4:=hid h4
 have HBW:=hid hbw
 have HT1:=hid hT1
 clear hW1 h0 h1 h2 h3 h4 hbw hT htq hb hV hn hsz hT1 hbl
 generalize hn1:t.B.length=n1 at HS HW1 HAP ⊢
 generalize hF1:t.f*z=F1 at HS HW1 HAP ⊢
 have HN1:=hid hn1
 have HF1:=hid hF1
 clear hn1 hF1
 go_enter Tryz.func104,Tryz.ntmps104
 go_wp2_with fail
 rw [← HW1.out]
 obtain⟨a0,a1,b0,b1,b2,b3⟩:=HS.out W1 (Chg.refl _ _)
 have c0:=z0a (j:=0) H3.out (v:=.slice none 0 0) rfl
 have c1:=z0a (j:=1) H3.out (v:=.int .i64 0) rfl
 have e0:=z0c 0 H3.out
 have e1:=z0c 1 H3.out
 go_region_held3 (fun w'=>w'.cell? ⟨w.heap.size,0,none⟩=some (.slice p n c)∧w'.cell? ⟨w.heap.size,1,none⟩=some (.int .i64 (s:Nat))∧w'.cell? ⟨w.heap.size+1,0,none⟩=some (.slice tp n1 tc)∧w'.cell? ⟨w.heap.size+1,1,none⟩=some (.int .i64 (F1:Nat))∧w'.cell? ⟨w.heap.size+1,2,none⟩=some (.int .i64 (z:Nat))∧w'.cell? ⟨w.heap.size+1+1,3,none⟩=some (.int .i64 nn)) ((refine HS.out _ ?_;(repeat (first | exact Chg.refl _ _ | exact hc5 | refine Chg.drewN ?_ _ | refine Chg.drew1 ?_ | refine Chg.setCell ?_ _ _ (fun _=>by first | exact Or.inl rfl | exact Or.inr rfl)))))
  (first
   | (go_at_call 149;(with_reducible refine (HAP.out _ ?_).mono ?_);(repeat (first | exact Chg.refl _ _ | exact hc5 | refine Chg.drewN ?_ _ | refine Chg.drew1 ?_ | refine Chg.setCell ?_ _ _ (fun _=>by first | exact Or.inl rfl | exact Or.inr rfl)));rintro e w5 ⟨p5,c5,n5,F5,rfl,hn5,hF5,ht5,hq5,hc5,k0,k1⟩;
      have hR1:=k1.trans H4.out;
      (first
       | (have hR0:=k0.trans H3.out;have HA:=hid (z3d (.slice p n c) (.int .i64 (s:Nat)) (.slice p5 n5 c5) (.int .i64 (F5:Nat)) (.int .i64 (z:Nat)) hR0 hR1 (by omega));have HB:=hid (z2n (.slice p n c) (.int .i64 (s:Nat)) (.slice p5 n5 c5) (.int .i64 (F5:Nat)) (.int .i64 (z:Nat)) hR0 hR1 (by omega));have c2:=z0a (j:=0) hR0 (v:=.slice none 0 0) rfl;have c3:=z0a (j:=1) hR0 (v:=.int .i64 0) rfl;have e2:=z0c 0 hR0;have e3:=z0c 1 hR0)
       | (have hR0:=k0.trans (z0m 1 (.int .i64 (s:Nat)) (z0m 0 (.slice p n c) H3.out));have HA:=hid (z6v (.slice p5 n5 c5) (.int .i64 (F5:Nat)) (.int .i64 (z:Nat)) hR0 hR1 (by omega))));
      have d0:=z0a (j:=0) hR1 (v:=.slice none 0 0) rfl;have d1:=z0a (j:=1) hR1 (v:=.int .i64 0) rfl;have d2:=z0a (j:=2) hR1 (v:=.int .i64 0) rfl;have f0:=z0c 0 hR1;have f1:=z0c 1 hR1;have f2:=z0c 2 hR1;
      have HC5:=hid hc5;clear hR0 hR1 k0 k1))
 all_goals go_wp2_with fail
 all_goals
  refine bodyPost_ret (v:=.tuple #[.agg #[.slice p n c,.int .i64 (s:Nat)],.agg #[.slice p5 n5 c5,.int .i64 (F5:Nat),.int .i64 (z:Nat)]]) ?_ rfl ?_
  · first
     | exact z0w rfl _ _ (w.heap.size+1+1+1) (w.heap.size+1+1+1+1) _ _ rfl rfl HA.out.1 HA.out.2.1 rfl rfl
     | exact z0w rfl _ _ (w.heap.size+1+1+1) (w.heap.size+1+1+1+1) _ _ rfl rfl HB.out.1 HB.out.2.1 rfl rfl
  · have hv5:=HV1.out.keep HC5.out fun k hk hs=>by omega
    have hb5:=HC5.out.below HBW.out HBW.out.size fun k hk=>by omega
    first
     | exact z1s HA.out.2.2 hb5 (by omega) (by omega) hv5 ht5.out hq5.out hn5.out hF5.out
     | exact z1s HB.out.2.2 hb5 (by omega) (by omega) hv5 ht5.out hq5.out hn5.out hF5.out
     | exact z1s (HA.out.2.2.drewN 1) hb5 (by omega) (by omega) hv5 ht5.out hq5.out hn5.out hF5.out
     | exact z1s (HB.out.2.2.drewN 1) hb5 (by omega) (by omega) hv5 ht5.out hq5.out hn5.out hF5.out
theorem rdo_drop (p tp:Option Addr) (c tc n s z:Nat) (V:List (List Int)) (t:TS) (i x nn:Int) (q:Option Addr) (m cq:Nat) (b:List Int) (w:World) (Q:Nat→Prop) (hQ:∀ k,w.heap.size≤k→Q k) (hV:RV w Q p c s V) (hn:V.length=n) (hT:Rt w tp tc t.B) (htq:0<t.B.length→∀ a,tp=some a→Q a.block) (hb:BL w q m cq b) (hx:x<0) (hz:64≤z∧z≤4096) (hbig:t.f*z+t.B.length≤1000000) :
 Calls Tryz.prog 104 #[.agg #[.slice p n c,.int .i64 (s:Nat)],.agg #[.slice tp t.B.length tc,.int .i64 (t.f*z:Nat),.int .i64 (z:Nat)],.agg #[.int .i64 2,.int .i64 i,.slice q m cq,.int .i64 nn],.int .i64 x] w (RdDo w Q s z n V (z7y z t nn)):=by
 obtain⟨W1,hW1,h0,h1,h2,h3,h4,hbw,hsz⟩:=z2k w #[.slice p n c,.int .i64 (s:Nat)] #[.slice tp t.B.length tc,.int .i64 (t.f*z:Nat),.int .i64 (z:Nat)] #[.int .i64 2,.int .i64 i,.slice q m cq,.int .i64 nn] #[.slice none 0 0,.int .i64 0] #[.slice none 0 0,.int .i64 0,.int .i64 0] 32 35 71 32 35
 have HW1:=hid hW1
 have HTQ:Hid (0<t.B.length→∀ a,tp=some a→Q a.block∧a.block≠w.heap.size+1+1+1∧a.block≠w.heap.size+1+1+1+1):=hid fun h0 a ha=>by
  have h1:=htq h0 a ha
  have h2:=hT.lt h0 a ha
  exact⟨h1,by omega,by omega⟩
 have HV1:=hid ((hV.mono (T:=fun k=>Q k∧k≠w.heap.size+1+1+1∧k≠w.heap.size+1+1+1+1) (fun k hk hl=>⟨hk,by omega,by omega⟩)).later hbw)
 have hT1:=hT.later hbw
 have hbl:=SlG.later hb hbw
 have hd:decide (x<0)=true:=decide_eq_true hx
 have HAP:Hid (∀ w',Chg (fun k=>k=w.heap.size+1+1+1∨k=w.heap.size+1+1+1+1) W1 w'→Calls Tryz.prog 150 #[.agg #[.slice tp t.B.length tc,.int .i64 (t.f*z:Nat),.int .i64 (z:Nat)],.int .i64 nn] w' (TOut W1 w' Q z (z7y z t nn) (w.heap.size+1+1+1) (w.heap.size+1+1+1+1))):=hid fun w' hc =>
  z6m hc (refdrop_any tp tc z t nn w' (hT1.keep hc fun h0 a ha hs=>by have:=HTQ.out h0 a ha;omega) hz hbig) HTQ.out (fun k hk=>hQ k (by have:=hbw.size;omega)) (by omega) (by omega)
 have HS:Hid (∀ w',Chg (fun k=>k=w.heap.size+1+1+1∨k=w.heap.size+1+1+1+1) W1 w'→w'.cell? ⟨w.heap.size,0,none⟩=some (.slice p n c)∧w'.cell? ⟨w.heap.size,1,none⟩=some (.int .i64 (s:Nat))∧w'.cell? ⟨w.heap.size+1,0,none⟩=some (.slice tp t.B.length tc)∧w'.cell? ⟨w.heap.size+1,1,none⟩=some (.int .i64 (t.f*z:Nat))∧w'.cell? ⟨w.heap.size+1,2,none⟩=some (.int .i64 (z:Nat))∧w'.cell? ⟨w.heap.size+1+1,3,none⟩=some (.int .i64 nn)):=hid fun w' hc=>by
  have g0:=(hc.block _ (z0k h0) (by omega)).trans h0
  have g1:=(hc.block _ (z0k h1) (by omega)).trans h1
  have g2:=(hc.block _ (z0k h2) (by omega)).trans h2
  exact⟨z0a (j:=0) g0 rfl,z0a (j:=1) g0 rfl,z0a (j:=0) g1 rfl,z0a (j:=1) g1 rfl,z0a (j:=2) g1 rfl,z0a (j:=3) g2 rfl⟩
 have H3:=hid h3
 have H4:=hid h4
 have HBW:=hid hbw
 have HT1:=hid hT1
 clear hW1 h0 h1 h2 h3 h4 hbw hT htq hb hV hn hsz hT1 hbl
 generalize hn1:t.B.length=n1 at HS HW1 HAP ⊢
 generalize hF1:t.f*z=F1 at HS HW1 HAP ⊢
 have HN1:=hid hn1
 have HF1:=hid hF1
 clear hn1 hF1
 go_enter Tryz.func104,Tryz.ntmps104
 go_wp2_with fail
 rw [← HW1.out]
 obtain⟨a0,a1,b0,b1,b2,b3⟩:=HS.out W1 (Chg.refl _ _)
 have c0:=z0a (j:=0) H3.out (v:=.slice none 0 0) rfl
 have c1:=z0a (j:=1) H3.out (v:=.int .i64 0) rfl
 have e0:=z0c 0 H3.out
 have e1:=z0c 1 H3.out
 go_region_held3 (fun w'=>w'.cell? ⟨w.heap.size,0,none⟩=some (.slice p n c)∧w'.cell? ⟨w.heap.size,1,none⟩=some (.int .i64 (s:Nat))∧w'.cell? ⟨w.heap.size+1,0,none⟩=some (.slice tp n1 tc)∧w'.cell? ⟨w.heap.size+1,1,none⟩=some (.int .i64 (F1:Nat))∧w'.cell? ⟨w.heap.size+1,2,none⟩=some (.int .i64 (z:Nat))∧w'.cell? ⟨w.heap.size+1+1,3,none⟩=some (.int .i64 nn)) ((refine HS.out _ ?_;(repeat (first | exact Chg.refl _ _ | exact hc5 | refine Chg.drewN ?_ _ | refine Chg.drew1 ?_ | refine Chg.setCell ?_ _ _ (fun _=>by first | exact Or.inl rfl | exact Or.inr rfl)))))
  (first
   | (go_at_call 150;(with_reducible refine (HAP.out _ ?_).mono ?_);(repeat (first | exact Chg.refl _ _ | exact hc5 | refine Chg.drewN ?_ _ | refine Chg.drew1 ?_ | refine Chg.setCell ?_ _ _ (fun _=>by first | exact Or.inl rfl | exact Or.inr rfl)));rintro e w5 ⟨p5,c5,n5,F5,rfl,hn5,hF5,ht5,hq5,hc5,k0,k1⟩;
      have hR1:=k1.trans H4.out;
      (first
       | (have hR0:=k0.trans H3.out;have HA:=hid (z3d (.slice p n c) (.int .i64 (s:Nat)) (.slice p5 n5 c5) (.int .i64 (F5:Nat)) (.int .i64 (z:Nat)) hR0 hR1 (by omega));have HB:=hid (z2n (.slice p n c) (.int .i64 (s:Nat)) (.slice p5 n5 c5) (.int .i64 (F5:Nat)) (.int .i64 (z:Nat)) hR0 hR1 (by omega));have c2:=z0a (j:=0) hR0 (v:=.slice none 0 0) rfl;have c3:=z0a (j:=1) hR0 (v:=.int .i64 0) rfl;have e2:=z0c 0 hR0;have e3:=z0c 1 hR0)
       | (have hR0:=k0.trans (z0m 1 (.int .i64 (s:Nat)) (z0m 0 (.slice p n c) H3.out));have HA:=hid (z6v (.slice p5 n5 c5) (.int .i64 (F5:Nat)) (.int .i64 (z:Nat)) hR0 hR1 (by omega))));
      have d0:=z0a (j:=0) hR1 (v:=.slice none 0 0) rfl;have d1:=z0a (j:=1) hR1 (v:=.int .i64 0) rfl;have d2:=z0a (j:=2) hR1 (v:=.int .i64 0) rfl;have f0:=z0c 0 hR1;have f1:=z0c 1 hR1;have f2:=z0c 2 hR1;
      have HC5:=hid hc5;clear hR0 hR1 k0 k1))
 all_goals go_wp2_with fail
 all_goals
  refine bodyPost_ret (v:=.tuple #[.agg #[.slice p n c,.int .i64 (s:Nat)],.agg #[.slice p5 n5 c5,.int .i64 (F5:Nat),.int .i64 (z:Nat)]]) ?_ rfl ?_
  · first
     | exact z0w rfl _ _ (w.heap.size+1+1+1) (w.heap.size+1+1+1+1) _ _ rfl rfl HA.out.1 HA.out.2.1 rfl rfl
     | exact z0w rfl _ _ (w.heap.size+1+1+1) (w.heap.size+1+1+1+1) _ _ rfl rfl HB.out.1 HB.out.2.1 rfl rfl
  · have hv5:=HV1.out.keep HC5.out fun k hk hs=>by omega
    have hb5:=HC5.out.below HBW.out HBW.out.size fun k hk=>by omega
    first
     | exact z1s HA.out.2.2 hb5 (by omega) (by omega) hv5 ht5.out hq5.out hn5.out hF5.out
     | exact z1s HB.out.2.2 hb5 (by omega) (by omega) hv5 ht5.out hq5.out hn5.out hF5.out
     | exact z1s (HA.out.2.2.drewN 1) hb5 (by omega) (by omega) hv5 ht5.out hq5.out hn5.out hF5.out
     | exact z1s (HB.out.2.2.drewN 1) hb5 (by omega) (by omega) hv5 ht5.out hq5.out hn5.out hF5.out
theorem rdo_cut (p tp:Option Addr) (c tc n s z:Nat) (V:List (List Int)) (t:TS) (i x nn:Int) (q:Option Addr) (m cq:Nat) (b:List Int) (w:World) (Q:Nat→Prop) (hQ:∀ k,w.heap.size≤k→Q k) (hV:RV w Q p c s V) (hn:V.length=n) (hT:Rt w tp tc t.B) (htq:0<t.B.length→∀ a,tp=some a→Q a.block) (hb:BL w q m cq b) (hx:x<0) (hz:64≤z∧z≤4096) (hbig:t.f*z+t.B.length≤1000000) :
 Calls Tryz.prog 104 #[.agg #[.slice p n c,.int .i64 (s:Nat)],.agg #[.slice tp t.B.length tc,.int .i64 (t.f*z:Nat),.int .i64 (z:Nat)],.agg #[.int .i64 3,.int .i64 i,.slice q m cq,.int .i64 nn],.int .i64 x] w (RdDo w Q s z n V (cutT z t nn)):=by
 obtain⟨W1,hW1,h0,h1,h2,h3,h4,hbw,hsz⟩:=z2k w #[.slice p n c,.int .i64 (s:Nat)] #[.slice tp t.B.length tc,.int .i64 (t.f*z:Nat),.int .i64 (z:Nat)] #[.int .i64 3,.int .i64 i,.slice q m cq,.int .i64 nn] #[.slice none 0 0,.int .i64 0] #[.slice none 0 0,.int .i64 0,.int .i64 0] 32 35 71 32 35
 have HW1:=hid hW1
 have HTQ:Hid (0<t.B.length→∀ a,tp=some a→Q a.block∧a.block≠w.heap.size+1+1+1∧a.block≠w.heap.size+1+1+1+1):=hid fun h0 a ha=>by
  have h1:=htq h0 a ha
  have h2:=hT.lt h0 a ha
  exact⟨h1,by omega,by omega⟩
 have HV1:=hid ((hV.mono (T:=fun k=>Q k∧k≠w.heap.size+1+1+1∧k≠w.heap.size+1+1+1+1) (fun k hk hl=>⟨hk,by omega,by omega⟩)).later hbw)
 have hT1:=hT.later hbw
 have hbl:=SlG.later hb hbw
 have hd:decide (x<0)=true:=decide_eq_true hx
 have HAP:Hid (∀ w',Chg (fun k=>k=w.heap.size+1+1+1∨k=w.heap.size+1+1+1+1) W1 w'→Calls Tryz.prog 151 #[.agg #[.slice tp t.B.length tc,.int .i64 (t.f*z:Nat),.int .i64 (z:Nat)],.int .i64 nn] w' (TOut W1 w' Q z (cutT z t nn) (w.heap.size+1+1+1) (w.heap.size+1+1+1+1))):=hid fun w' hc =>
  z6m hc (refcut_any tp tc z t nn w' (hT1.keep hc fun h0 a ha hs=>by have:=HTQ.out h0 a ha;omega) hbig) HTQ.out (fun k hk=>hQ k (by have:=hbw.size;omega)) (by omega) (by omega)
 have HS:Hid (∀ w',Chg (fun k=>k=w.heap.size+1+1+1∨k=w.heap.size+1+1+1+1) W1 w'→w'.cell? ⟨w.heap.size,0,none⟩=some (.slice p n c)∧w'.cell? ⟨w.heap.size,1,none⟩=some (.int .i64 (s:Nat))∧w'.cell? ⟨w.heap.size+1,0,none⟩=some (.slice tp t.B.length tc)∧w'.cell? ⟨w.heap.size+1,1,none⟩=some (.int .i64 (t.f*z:Nat))∧w'.cell? ⟨w.heap.size+1,2,none⟩=some (.int .i64 (z:Nat))∧w'.cell? ⟨w.heap.size+1+1,3,none⟩=some (.int .i64 nn)):=hid fun w' hc=>by
  have g0:=(hc.block _ (z0k h0) (by omega)).trans h0
  have g1:=(hc.block _ (z0k h1) (by omega)).trans h1
  have g2:=(hc.block _ (z0k h2) (by omega)).trans h2
  exact⟨z0a (j:=0) g0 rfl,z0a (j:=1) g0 rfl,z0a (j:=0) g1 rfl,z0a (j:=1) g1 rfl,z0a (j:=2) g1 rfl,z0a (j:=3) g2 rfl⟩
 have H3:=hid h3
 have H4:=hid h4
 have HBW:=hid hbw
 have HT1:=hid hT1
 clear hW1 h0 h1 h2 h3 h4 hbw hT htq hb hV hn hsz hT1 hbl
 generalize hn1:t.B.length=n1 at HS HW1 HAP ⊢
 generalize hF1:t.f*z=F1 at HS HW1 HAP ⊢
 have HN1:=hid hn1
 have HF1:=hid hF1
 clear hn1 hF1
 go_enter Tryz.func104,Tryz.ntmps104
 go_wp2_with fail
 rw [← HW1.out]
 obtain⟨a0,a1,b0,b1,b2,b3⟩:=HS.out W1 (Chg.refl _ _)
 have c0:=z0a (j:=0) H3.out (v:=.slice none 0 0) rfl
 have c1:=z0a (j:=1) H3.out (v:=.int .i64 0) rfl
 have e0:=z0c 0 H3.out
 have e1:=z0c 1 H3.out
 go_region_held3 (fun w'=>w'.cell? ⟨w.heap.size,0,none⟩=some (.slice p n c)∧w'.cell? ⟨w.heap.size,1,none⟩=some (.int .i64 (s:Nat))∧w'.cell? ⟨w.heap.size+1,0,none⟩=some (.slice tp n1 tc)∧w'.cell? ⟨w.heap.size+1,1,none⟩=some (.int .i64 (F1:Nat))∧w'.cell? ⟨w.heap.size+1,2,none⟩=some (.int .i64 (z:Nat))∧w'.cell? ⟨w.heap.size+1+1,3,none⟩=some (.int .i64 nn)) ((refine HS.out _ ?_;(repeat (first | exact Chg.refl _ _ | exact hc5 | refine Chg.drewN ?_ _ | refine Chg.drew1 ?_ | refine Chg.setCell ?_ _ _ (fun _=>by first | exact Or.inl rfl | exact Or.inr rfl)))))
  (first
   | (go_at_call 151;(with_reducible refine (HAP.out _ ?_).mono ?_);(repeat (first | exact Chg.refl _ _ | exact hc5 | refine Chg.drewN ?_ _ | refine Chg.drew1 ?_ | refine Chg.setCell ?_ _ _ (fun _=>by first | exact Or.inl rfl | exact Or.inr rfl)));rintro e w5 ⟨p5,c5,n5,F5,rfl,hn5,hF5,ht5,hq5,hc5,k0,k1⟩;
      have hR1:=k1.trans H4.out;
      (first
       | (have hR0:=k0.trans H3.out;have HA:=hid (z3d (.slice p n c) (.int .i64 (s:Nat)) (.slice p5 n5 c5) (.int .i64 (F5:Nat)) (.int .i64 (z:Nat)) hR0 hR1 (by omega));have HB:=hid (z2n (.slice p n c) (.int .i64 (s:Nat)) (.slice p5 n5 c5) (.int .i64 (F5:Nat)) (.int .i64 (z:Nat)) hR0 hR1 (by omega));have c2:=z0a (j:=0) hR0 (v:=.slice none 0 0) rfl;have c3:=z0a (j:=1) hR0 (v:=.int .i64 0) rfl;have e2:=z0c 0 hR0;have e3:=z0c 1 hR0)
       | (have hR0:=k0.trans (z0m 1 (.int .i64 (s:Nat)) (z0m 0 (.slice p n c) H3.out));have HA:=hid (z6v (.slice p5 n5 c5) (.int .i64 (F5:Nat)) (.int .i64 (z:Nat)) hR0 hR1 (by omega))));
      have d0:=z0a (j:=0) hR1 (v:=.slice none 0 0) rfl;have d1:=z0a (j:=1) hR1 (v:=.int .i64 0) rfl;have d2:=z0a (j:=2) hR1 (v:=.int .i64 0) rfl;have f0:=z0c 0 hR1;have f1:=z0c 1 hR1;have f2:=z0c 2 hR1;
      have HC5:=hid hc5;clear hR0 hR1 k0 k1))
 all_goals go_wp2_with fail
 all_goals
  refine bodyPost_ret (v:=.tuple #[.agg #[.slice p n c,.int .i64 (s:Nat)],.agg #[.slice p5 n5 c5,.int .i64 (F5:Nat),.int .i64 (z:Nat)]]) ?_ rfl ?_
  · first
     | exact z0w rfl _ _ (w.heap.size+1+1+1) (w.heap.size+1+1+1+1) _ _ rfl rfl HA.out.1 HA.out.2.1 rfl rfl
     | exact z0w rfl _ _ (w.heap.size+1+1+1) (w.heap.size+1+1+1+1) _ _ rfl rfl HB.out.1 HB.out.2.1 rfl rfl
  · have hv5:=HV1.out.keep HC5.out fun k hk hs=>by omega
    have hb5:=HC5.out.below HBW.out HBW.out.size fun k hk=>by omega
    first
     | exact z1s HA.out.2.2 hb5 (by omega) (by omega) hv5 ht5.out hq5.out hn5.out hF5.out
     | exact z1s HB.out.2.2 hb5 (by omega) (by omega) hv5 ht5.out hq5.out hn5.out hF5.out
     | exact z1s (HA.out.2.2.drewN 1) hb5 (by omega) (by omega) hv5 ht5.out hq5.out hn5.out hF5.out
     | exact z1s (HB.out.2.2.drewN 1) hb5 (by omega) (by omega) hv5 ht5.out hq5.out hn5.out hF5.out
theorem rdo_nodrop (p tp:Option Addr) (c tc n s z:Nat) (V:List (List Int)) (t:TS) (i x nn:Int) (q:Option Addr) (m cq:Nat) (b:List Int) (w:World) (Q:Nat→Prop) (hQ:∀ k,w.heap.size≤k→Q k) (hV:RV w Q p c s V) (hn:V.length=n) (hT:Rt w tp tc t.B) (htq:0<t.B.length→∀ a,tp=some a→Q a.block) (hb:BL w q m cq b) (hx:0≤x) :
 Calls Tryz.prog 104 #[.agg #[.slice p n c,.int .i64 (s:Nat)],.agg #[.slice tp t.B.length tc,.int .i64 (t.f*z:Nat),.int .i64 (z:Nat)],.agg #[.int .i64 2,.int .i64 i,.slice q m cq,.int .i64 nn],.int .i64 x] w (RdDo w Q s z n V t):=by
 obtain⟨W1,hW1,h0,h1,h2,h3,h4,hbw,hsz⟩:=z2k w #[.slice p n c,.int .i64 (s:Nat)] #[.slice tp t.B.length tc,.int .i64 (t.f*z:Nat),.int .i64 (z:Nat)] #[.int .i64 2,.int .i64 i,.slice q m cq,.int .i64 nn] #[.slice none 0 0,.int .i64 0] #[.slice none 0 0,.int .i64 0,.int .i64 0] 32 35 71 32 35
 have HW1:=hid hW1
 have HTQ:Hid (0<t.B.length→∀ a,tp=some a→Q a.block∧a.block≠w.heap.size+1+1+1∧a.block≠w.heap.size+1+1+1+1):=hid fun h0 a ha=>by
  have h1:=htq h0 a ha
  have h2:=hT.lt h0 a ha
  exact⟨h1,by omega,by omega⟩
 have HV1:=hid ((hV.mono (T:=fun k=>Q k∧k≠w.heap.size+1+1+1∧k≠w.heap.size+1+1+1+1) (fun k hk hl=>⟨hk,by omega,by omega⟩)).later hbw)
 have hT1:=hT.later hbw
 have hbl:=SlG.later hb hbw
 have hd:decide (x<0)=false:=decide_eq_false (by omega)
 have HS:Hid (∀ w',Chg (fun k=>k=w.heap.size+1+1+1∨k=w.heap.size+1+1+1+1) W1 w'→w'.cell? ⟨w.heap.size,0,none⟩=some (.slice p n c)∧w'.cell? ⟨w.heap.size,1,none⟩=some (.int .i64 (s:Nat))∧w'.cell? ⟨w.heap.size+1,0,none⟩=some (.slice tp t.B.length tc)∧w'.cell? ⟨w.heap.size+1,1,none⟩=some (.int .i64 (t.f*z:Nat))∧w'.cell? ⟨w.heap.size+1,2,none⟩=some (.int .i64 (z:Nat))∧w'.cell? ⟨w.heap.size+1+1,3,none⟩=some (.int .i64 nn)):=hid fun w' hc=>by
  have g0:=(hc.block _ (z0k h0) (by omega)).trans h0
  have g1:=(hc.block _ (z0k h1) (by omega)).trans h1
  have g2:=(hc.block _ (z0k h2) (by omega)).trans h2
  exact⟨z0a (j:=0) g0 rfl,z0a (j:=1) g0 rfl,z0a (j:=0) g1 rfl,z0a (j:=1) g1 rfl,z0a (j:=2) g1 rfl,z0a (j:=3) g2 rfl⟩
 have H3:=hid h3
 have H4:=hid h4
 have HBW:=hid hbw
 have HT1:=hid hT1
 clear hW1 h0 h1 h2 h3 h4 hbw hT htq hb hV hn hsz hT1 hbl
 generalize hn1:t.B.length=n1 at HS HW1 ⊢
 generalize hF1:t.f*z=F1 at HS HW1 ⊢
 have HN1:=hid hn1
 have HF1:=hid hF1
 clear hn1 hF1
 go_enter Tryz.func104,Tryz.ntmps104
 go_wp2_with fail
 rw [← HW1.out]
 obtain⟨a0,a1,b0,b1,b2,b3⟩:=HS.out W1 (Chg.refl _ _)
 have c0:=z0a (j:=0) H3.out (v:=.slice none 0 0) rfl
 have c1:=z0a (j:=1) H3.out (v:=.int .i64 0) rfl
 have e0:=z0c 0 H3.out
 have e1:=z0c 1 H3.out
 have HA:=hid (z3d (.slice p n c) (.int .i64 (s:Nat)) (.slice tp n1 tc) (.int .i64 (F1:Nat)) (.int .i64 (z:Nat)) H3.out H4.out (by omega))
 have HB:=hid (z2n (.slice p n c) (.int .i64 (s:Nat)) (.slice tp n1 tc) (.int .i64 (F1:Nat)) (.int .i64 (z:Nat)) H3.out H4.out (by omega))
 have d0:=z0a (j:=0) H4.out (v:=.slice none 0 0) rfl
 have d1:=z0a (j:=1) H4.out (v:=.int .i64 0) rfl
 have d2:=z0a (j:=2) H4.out (v:=.int .i64 0) rfl
 have f0:=z0c 0 H4.out
 have f1:=z0c 1 H4.out
 have f2:=z0c 2 H4.out
 have HE:Hid (∀ W',Chg (fun k=>k=w.heap.size+1+1+1∨k=w.heap.size+1+1+1+1) W1 W'→RdDo w Q s z n V t (.returned (.tuple #[.agg #[.slice p n c,.int .i64 (s:Nat)],.agg #[.slice tp n1 tc,.int .i64 (F1:Nat),.int .i64 (z:Nat)]])) W'):=hid fun W' hc =>
  z1s hc HBW.out (by omega) (by omega) HV1.out HT1.out HTQ.out HN1.out HF1.out
 go_region
 all_goals go_wp2_with fail
 all_goals
  refine bodyPost_ret (v:=.tuple #[.agg #[.slice p n c,.int .i64 (s:Nat)],.agg #[.slice tp n1 tc,.int .i64 (F1:Nat),.int .i64 (z:Nat)]]) ?_ rfl ?_
  · first
     | exact z0w rfl _ _ (w.heap.size+1+1+1) (w.heap.size+1+1+1+1) _ _ rfl rfl HA.out.1 HA.out.2.1 rfl rfl
     | exact z0w rfl _ _ (w.heap.size+1+1+1) (w.heap.size+1+1+1+1) _ _ rfl rfl HB.out.1 HB.out.2.1 rfl rfl
  · first
     | exact HE.out _ HA.out.2.2
     | exact HE.out _ HB.out.2.2
     | exact HE.out _ (HA.out.2.2.drewN 1)
     | exact HE.out _ (HB.out.2.2.drewN 1)
theorem rdo_nocut (p tp:Option Addr) (c tc n s z:Nat) (V:List (List Int)) (t:TS) (i x nn:Int) (q:Option Addr) (m cq:Nat) (b:List Int) (w:World) (Q:Nat→Prop) (hQ:∀ k,w.heap.size≤k→Q k) (hV:RV w Q p c s V) (hn:V.length=n) (hT:Rt w tp tc t.B) (htq:0<t.B.length→∀ a,tp=some a→Q a.block) (hb:BL w q m cq b) (hx:0≤x) :
 Calls Tryz.prog 104 #[.agg #[.slice p n c,.int .i64 (s:Nat)],.agg #[.slice tp t.B.length tc,.int .i64 (t.f*z:Nat),.int .i64 (z:Nat)],.agg #[.int .i64 3,.int .i64 i,.slice q m cq,.int .i64 nn],.int .i64 x] w (RdDo w Q s z n V t):=by
 obtain⟨W1,hW1,h0,h1,h2,h3,h4,hbw,hsz⟩:=z2k w #[.slice p n c,.int .i64 (s:Nat)] #[.slice tp t.B.length tc,.int .i64 (t.f*z:Nat),.int .i64 (z:Nat)] #[.int .i64 3,.int .i64 i,.slice q m cq,.int .i64 nn] #[.slice none 0 0,.int .i64 0] #[.slice none 0 0,.int .i64 0,.int .i64 0] 32 35 71 32 35
 have HW1:=hid hW1
 have HTQ:Hid (0<t.B.length→∀ a,tp=some a→Q a.block∧a.block≠w.heap.size+1+1+1∧a.block≠w.heap.size+1+1+1+1):=hid fun h0 a ha=>by
  have h1:=htq h0 a ha
  have h2:=hT.lt h0 a ha
  exact⟨h1,by omega,by omega⟩
 have HV1:=hid ((hV.mono (T:=fun k=>Q k∧k≠w.heap.size+1+1+1∧k≠w.heap.size+1+1+1+1) (fun k hk hl=>⟨hk,by omega,by omega⟩)).later hbw)
 have hT1:=hT.later hbw
 have hbl:=SlG.later hb hbw
 have hd:decide (x<0)=false:=decide_eq_false (by omega)
 have HS:Hid (∀ w',Chg (fun k=>k=w.heap.size+1+1+1∨k=w.heap.size+1+1+1+1) W1 w'→w'.cell? ⟨w.heap.size,0,none⟩=some (.slice p n c)∧w'.cell? ⟨w.heap.size,1,none⟩=some (.int .i64 (s:Nat))∧w'.cell? ⟨w.heap.size+1,0,none⟩=some (.slice tp t.B.length tc)∧w'.cell? ⟨w.heap.size+1,1,none⟩=some (.int .i64 (t.f*z:Nat))∧w'.cell? ⟨w.heap.size+1,2,none⟩=some (.int .i64 (z:Nat))∧w'.cell? ⟨w.heap.size+1+1,3,none⟩=some (.int .i64 nn)):=hid fun w' hc=>by
  have g0:=(hc.block _ (z0k h0) (by omega)).trans h0
  have g1:=(hc.block _ (z0k h1) (by omega)).trans h1
  have g2:=(hc.block _ (z0k h2) (by omega)).trans h2
  exact⟨z0a (j:=0) g0 rfl,z0a (j:=1) g0 rfl,z0a (j:=0) g1 rfl,z0a (j:=1) g1 rfl,z0a (j:=2) g1 rfl,z0a (j:=3) g2 rfl⟩
 have H3:=hid h3
 have H4:=hid h4
 have HBW:=hid hbw
 have HT1:=hid hT1
 clear hW1 h0 h1 h2 h3 h4 hbw hT htq hb hV hn hsz hT1 hbl
 generalize hn1:t.B.length=n1 at HS HW1 ⊢
 generalize hF1:t.f*z=F1 at HS HW1 ⊢
 have HN1:=hid hn1
 have HF1:=hid hF1
 clear hn1 hF1
 go_enter Tryz.func104,Tryz.ntmps104
 go_wp2_with fail
 rw [← HW1.out]
 obtain⟨a0,a1,b0,b1,b2,b3⟩:=HS.out W1 (Chg.refl _ _)
 have c0:=z0a (j:=0) H3.out (v:=.slice none 0 0) rfl
 have c1:=z0a (j:=1) H3.out (v:=.int .i64 0) rfl
 have e0:=z0c 0 H3.out
 have e1:=z0c 1 H3.out
 have HA:=hid (z3d (.slice p n c) (.int .i64 (s:Nat)) (.slice tp n1 tc) (.int .i64 (F1:Nat)) (.int .i64 (z:Nat)) H3.out H4.out (by omega))
 have HB:=hid (z2n (.slice p n c) (.int .i64 (s:Nat)) (.slice tp n1 tc) (.int .i64 (F1:Nat)) (.int .i64 (z:Nat)) H3.out H4.out (by omega))
 have d0:=z0a (j:=0) H4.out (v:=.slice none 0 0) rfl
 have d1:=z0a (j:=1) H4.out (v:=.int .i64 0) rfl
 have d2:=z0a (j:=2) H4.out (v:=.int .i64 0) rfl
 have f0:=z0c 0 H4.out
 have f1:=z0c 1 H4.out
 have f2:=z0c 2 H4.out
 have HE:Hid (∀ W',Chg (fun k=>k=w.heap.size+1+1+1∨k=w.heap.size+1+1+1+1) W1 W'→RdDo w Q s z n V t (.returned (.tuple #[.agg #[.slice p n c,.int .i64 (s:Nat)],.agg #[.slice tp n1 tc,.int .i64 (F1:Nat),.int .i64 (z:Nat)]])) W'):=hid fun W' hc =>
  z1s hc HBW.out (by omega) (by omega) HV1.out HT1.out HTQ.out HN1.out HF1.out
 go_region
 all_goals go_wp2_with fail
 all_goals
  refine bodyPost_ret (v:=.tuple #[.agg #[.slice p n c,.int .i64 (s:Nat)],.agg #[.slice tp n1 tc,.int .i64 (F1:Nat),.int .i64 (z:Nat)]]) ?_ rfl ?_
  · first
     | exact z0w rfl _ _ (w.heap.size+1+1+1) (w.heap.size+1+1+1+1) _ _ rfl rfl HA.out.1 HA.out.2.1 rfl rfl
     | exact z0w rfl _ _ (w.heap.size+1+1+1) (w.heap.size+1+1+1+1) _ _ rfl rfl HB.out.1 HB.out.2.1 rfl rfl
  · first
     | exact HE.out _ HA.out.2.2
     | exact HE.out _ HB.out.2.2
     | exact HE.out _ (HA.out.2.2.drewN 1)
     | exact HE.out _ (HB.out.2.2.drewN 1)
def dwVx (s:Nat) (x:Int) (V:List (List Int)) (y:Dw):List (List Int):=if x<0 then dwV s V y else dwVn s x V y
def dwTx (z:Nat) (x:Int) (t:TS) (y:Dw):TS:=if x<0 then dwT z t y else dwTn x t y
theorem rdo_any (p tp:Option Addr) (c tc n s z:Nat) (V:List (List Int)) (t:TS) (y:Wd) (x:Int) (w:World) (Q:Nat→Prop) (hQ:∀ k,w.heap.size≤k→Q k) (hV:RV w Q p c s V) (hn:V.length=n) (hn4:n≤1024) (hs4:s≤4096) (hz:64≤z∧z≤4096) (hT:Rt w tp tc t.B) (htq:0<t.B.length→∀ a,tp=some a→Q a.block) (hy:y.ok w Q) (hbig:t.len z+y.x.wt≤1000000) :
 Calls Tryz.prog 104 #[.agg #[.slice p n c,.int .i64 (s:Nat)],.agg #[.slice tp t.B.length tc,.int .i64 (t.f*z:Nat),.int .i64 (z:Nat)],.agg #[.int .i64 (y.k:Nat),.int .i64 y.i,.slice y.q y.m y.cq,.int .i64 y.n],.int .i64 x] w (RdDo w Q s z n (dwVx s x V y.x) (dwTx z x t y.x)):=by
 obtain⟨k,i,q,m,cq,b,nn⟩:=y
 have hk:k=0∨k=1∨k=2∨k=3:=by have:=hy.k3;simp only at this;omega
 have hb:BL w q m cq b:=hy.bl
 have hbl:=hb.len
 clear hy
 unfold TS.len at hbig
 unfold dwVx dwTx
 rcases hk with rfl | rfl | rfl | rfl
 · have hyx:Wd.x ⟨0,i,q,m,cq,b,nn⟩=.put i b:=rfl
   rw [hyx] at hbig ⊢
   by_cases hx:x<0
   · rw [if_pos hx,if_pos hx]
     exact rdo_put p tp c tc n s z V t i x nn q m cq b w Q hQ hV hn hn4 hs4 hT htq hb hx
   · rw [if_neg hx,if_neg hx]
     exact rdo_tear p tp c tc n s z V t i x nn q m cq b w Q hQ hV hn hn4 hs4 hT htq hb (by omega)
 · have hyx:Wd.x ⟨1,i,q,m,cq,b,nn⟩=.grow b:=rfl
   rw [hyx] at hbig ⊢
   have hw:(Dw.grow b).wt=b.length:=rfl
   rw [hw] at hbig
   by_cases hx:x<0
   · rw [if_pos hx,if_pos hx]
     exact rdo_grow p tp c tc n s z V t i x nn q m cq b w Q hQ hV hn hT htq hb hx (by omega)
   · rw [if_neg hx,if_neg hx]
     by_cases hm:(m:Int)≤x
     · have h1:dwTn x t (.grow b)=appT t b:=by
        show appT t (b.take (kp x b.length))=_
        rw [List.take_of_length_le (by unfold kp;omega)]
       rw [h1]
       exact rdo_growl p tp c tc n s z V t i x nn q m cq b w Q hQ hV hn hT htq hb (by omega) hm (by omega)
     · obtain⟨k,rfl⟩:∃ k:Nat,x=k:=⟨x.toNat,by omega⟩
       have h1:dwTn (k:Int) t (.grow b)=appT t (b.take k):=by
        show appT t (b.take (kp (k:Int) b.length))=_
        rw [show kp (k:Int) b.length=k by unfold kp;omega]
       rw [h1]
       exact rdo_grown p tp c tc n s z V t i k nn q m cq b w Q hQ hV hn hT htq hb k rfl (by omega) (by omega)
 · have hyx:Wd.x ⟨2,i,q,m,cq,b,nn⟩=.drop nn:=rfl
   rw [hyx] at hbig ⊢
   by_cases hx:x<0
   · rw [if_pos hx,if_pos hx]
     exact rdo_drop p tp c tc n s z V t i x nn q m cq b w Q hQ hV hn hT htq hb hx hz (by omega)
   · rw [if_neg hx,if_neg hx]
     exact rdo_nodrop p tp c tc n s z V t i x nn q m cq b w Q hQ hV hn hT htq hb (by omega)
 · have hyx:Wd.x ⟨3,i,q,m,cq,b,nn⟩=.cut nn:=rfl
   rw [hyx] at hbig ⊢
   by_cases hx:x<0
   · rw [if_pos hx,if_pos hx]
     exact rdo_cut p tp c tc n s z V t i x nn q m cq b w Q hQ hV hn hT htq hb hx hz (by omega)
   · rw [if_neg hx,if_neg hx]
     exact rdo_nocut p tp c tc n s z V t i x nn q m cq b w Q hQ hV hn hT htq hb (by omega)
theorem dwVx_all {s:Nat} (V:List (List Int)) (y:Dw):dwVx s (-1) V y=dwV s V y:=if_pos (by omega)
theorem dwTx_all {z:Nat} (t:TS) (y:Dw):dwTx z (-1) t y=dwT z t y:=if_pos (by omega)
structure Se (w wr:World) (Q:Nat→Prop) (A s z n ln lc:Nat) (dc:Array Value) (lp:Option Addr) (AL:List Wd) (V:List (List Int)) (t:TS) (tot j:Nat) (pj tpj:Option Addr) (cj tcj nj Fj:Nat):Prop where
 bD:wr.heap[A]?=some (.cells dc 38 (0,0))
 b1:wr.heap[A+1]?=some (.cells #[.slice none 0 0,.int .i64 0] 32 (0,0))
 b2:wr.heap[A+1+1]?=some (.cells #[.slice none 0 0,.int .i64 0,.int .i64 0] 35 (0,0))
 b3:wr.heap[A+1+1+1]?=some (.cells #[.slice pj n cj,.int .i64 (s:Nat)] 32 (0,0))
 b4:wr.heap[A+1+1+1+1]?=some (.cells #[.slice tpj nj tcj,.int .i64 (Fj:Nat),.int .i64 (z:Nat)] 35 (0,0))
 rv:RV wr (fun k=>Q k∧¬ (A≤k∧k<A+5)) pj cj s (z5h s V ((AL.map Wd.x).take j))
 rt:Rt wr tpj tcj (z2y z t ((AL.map Wd.x).take j)).B
 tq:0<(z2y z t ((AL.map Wd.x).take j)).B.length→∀ a,tpj=some a→Q a.block∧¬ (A≤a.block∧a.block<A+5)
 hn:(z2y z t ((AL.map Wd.x).take j)).B.length=nj
 hF:(z2y z t ((AL.map Wd.x).take j)).f*z=Fj
 row:SlG ewd 4 wd0' wr lp ln lc AL
 lq:0<ln→∀ a,lp=some a→¬ (A≤a.block∧a.block<A+5)
 ok:∀ y∈AL,y.ok wr (fun k=>Q k∧¬ (A≤k∧k<A+5))
 below:Below w.heap.size w wr
 size:A+5≤wr.heap.size
 hA:w.heap.size=A
 hV:V.length=n
 tot:(z2y z t ((AL.map Wd.x).take j)).len z+wts ((AL.map Wd.x).drop j)≤tot
theorem take_next (L:List Dw) (j:Nat) (h:j<L.length):L.take (j+1)=L.take j ++ [L[j]]∧L.drop j=L[j]::L.drop (j+1):=⟨by rw [List.take_add_one,List.getElem?_eq_getElem h];rfl,by rw [List.drop_eq_getElem_cons h]⟩
theorem Se.next {w wr:World} {Q:Nat→Prop} {A s z n ln lc:Nat} {dc:Array Value} {lp:Option Addr} {AL:List Wd} {V:List (List Int)} {t:TS} {tot j:Nat} {pj tpj:Option Addr} {cj tcj nj Fj:Nat} (h:Se w wr Q A s z n ln lc dc lp AL V t tot j pj tpj cj tcj nj Fj)
 (hj:j<ln) (hQ:∀ k,w.heap.size≤k→Q k) (hn4:n≤1024) (hs4:s≤4096) (hz:64≤z∧z≤4096) (hbig:tot≤1000000) (x:Int) :
 ∃ y b off,AL.getD j wd0'=y∧lp=some ⟨b,off,none⟩∧wr.cell? ⟨b,off+j*4+0,none⟩=some (.int .i64 (y.k:Nat))∧wr.cell? ⟨b,off+j*4+1,none⟩=some (.int .i64 y.i)∧wr.cell? ⟨b,off+j*4+2,none⟩=some (.slice y.q y.m y.cq)∧wr.cell? ⟨b,off+j*4+3,none⟩=some (.int .i64 y.n) ∧
  (∀ w',Below wr.heap.size wr w'→Calls Tryz.prog 104 #[.agg #[.slice pj n cj,.int .i64 (s:Nat)],.agg #[.slice tpj nj tcj,.int .i64 (Fj:Nat),.int .i64 (z:Nat)],.agg #[.int .i64 (y.k:Nat),.int .i64 y.i,.slice y.q y.m y.cq,.int .i64 y.n],.int .i64 x] w' (RdDo w' (fun k=>Q k∧¬ (A≤k∧k<A+5)) s z n (dwVx s x (z5h s V ((AL.map Wd.x).take j)) y.x) (dwTx z x (z2y z t ((AL.map Wd.x).take j)) y.x))) ∧
  (z5h s V ((AL.map Wd.x).take (j+1))=dwV s (z5h s V ((AL.map Wd.x).take j)) y.x)∧(z2y z t ((AL.map Wd.x).take (j+1))=dwT z (z2y z t ((AL.map Wd.x).take j)) y.x) ∧
  (z2y z t ((AL.map Wd.x).take (j+1))).len z+wts ((AL.map Wd.x).drop (j+1))≤tot∧(AL.map Wd.x).drop j=y.x::(AL.map Wd.x).drop (j+1):=by
 have hl:=h.row.len
 have hjl:j<AL.length:=by omega
 have hjm:j<(AL.map Wd.x).length:=by rw [List.length_map];omega
 obtain⟨b,off,rfl,hlt,hc⟩:=h.row.cell (by omega)
 obtain⟨e1,e2⟩:=take_next (AL.map Wd.x) j hjm
 have hy:AL.getD j wd0'=AL[j]:=by rw [List.getD,List.getElem?_eq_getElem hjl];rfl
 have hx:(AL.map Wd.x)[j]=(AL[j]).x:=List.getElem_map ..
 have hok:=h.ok _ (List.getElem_mem hjl)
 have ht:=h.tot
 have hzp:0<z:=by omega
 have hs:=h.size
 rw [hx] at e1 e2
 have hw:wts ((AL.map Wd.x).drop j)=(AL[j]).x.wt+wts ((AL.map Wd.x).drop (j+1)):=by rw [e2,wts_cons]
 refine⟨AL[j],b,off,hy,rfl,hc j hj 0 _ (by rw [hy];rfl),hc j hj 1 _ (by rw [hy];rfl),hc j hj 2 _ (by rw [hy];rfl),hc j hj 3 _ (by rw [hy];rfl),fun w' hb=>?_,by rw [e1,z7x],by rw [e1,z5v],?_,e2⟩
 · rw [← h.hn,← h.hF]
   have hsz:=hb.size
   exact rdo_any pj tpj cj tcj n s z _ _ AL[j] x w' _ (fun k hk=>⟨hQ k (by have:=h.hA;omega),by omega⟩) (h.rv.later hb) (by rw [z5o,h.hV]) hn4 hs4 hz (h.rt.later hb) h.tq (hok.later hb) (by omega)
 · have h1:=dwT_len hzp (z2y z t ((AL.map Wd.x).take j)) (AL[j]).x
   rw [e1,z5v]
   omega
theorem Se.step {w wr w5 W':World} {Q:Nat→Prop} {A s z n ln lc:Nat} {dc:Array Value} {lp:Option Addr} {AL:List Wd} {V:List (List Int)} {t:TS} {tot j:Nat} {pj tpj:Option Addr} {cj tcj nj Fj:Nat} (h:Se w wr Q A s z n ln lc dc lp AL V t tot j pj tpj cj tcj nj Fj)
 {p5 tp5:Option Addr} {c5 tc5 n5 F5:Nat} {y:Wd} (eV:z5h s V ((AL.map Wd.x).take (j+1))=dwV s (z5h s V ((AL.map Wd.x).take j)) y.x) (eT:z2y z t ((AL.map Wd.x).take (j+1))=dwT z (z2y z t ((AL.map Wd.x).take j)) y.x) (eW:(z2y z t ((AL.map Wd.x).take (j+1))).len z+wts ((AL.map Wd.x).drop (j+1))≤tot)
 (hb:Below wr.heap.size wr w5) (hrv:RV w5 (fun k=>Q k∧¬ (A≤k∧k<A+5)) p5 c5 s (dwV s (z5h s V ((AL.map Wd.x).take j)) y.x)) (hrt:Rt w5 tp5 tc5 (dwT z (z2y z t ((AL.map Wd.x).take j)) y.x).B) (htq:0<(dwT z (z2y z t ((AL.map Wd.x).take j)) y.x).B.length→∀ a,tp5=some a→Q a.block∧¬ (A≤a.block∧a.block<A+5))
 (hn5:(dwT z (z2y z t ((AL.map Wd.x).take j)) y.x).B.length=n5) (hF5:(dwT z (z2y z t ((AL.map Wd.x).take j)) y.x).f*z=F5)
 (h3:W'.heap[A+1+1+1]?=some (.cells #[.slice p5 n c5,.int .i64 (s:Nat)] 32 (0,0))) (h4:W'.heap[A+1+1+1+1]?=some (.cells #[.slice tp5 n5 tc5,.int .i64 (F5:Nat),.int .i64 (z:Nat)] 35 (0,0))) (hc:Chg (fun k=>k=A+1+1+1∨k=A+1+1+1+1) w5 W') :
 Se w W' Q A s z n ln lc dc lp AL V t tot (j+1) p5 tp5 c5 tc5 n5 F5:=by
 have hs:=h.size
 have hA:=h.hA
 have hb5:=hb.size
 have hall:Chg (fun k=>k=A+1+1+1∨k=A+1+1+1+1) wr W':=(Chg.of_below (S:=fun k=>k=A+1+1+1∨k=A+1+1+1+1) hb).trans hc fun _ _ h=>h
 refine⟨(hall.block _ (by omega) (by omega)).trans h.bD,(hall.block _ (by omega) (by omega)).trans h.b1,(hall.block _ (by omega) (by omega)).trans h.b2,h3,h4,?_,?_,?_,?_,?_,?_,h.lq,?_,?_,?_,hA,h.hV,eW⟩
 · rw [eV]
   exact hrv.keep hc fun k hk hs=>by omega
 · rw [eT]
   exact hrt.keep hc fun h0 a ha hs=>by have:=(htq h0 a ha).2;omega
 · rw [eT]
   exact htq
 · rw [eT];exact hn5
 · rw [eT];exact hF5
 · exact h.row.turn hall.size fun h0 a ha hlt=>hall.block _ hlt (by have:=h.lq h0 a ha;omega)
 · exact fun y hy=>(h.ok y hy).keep hall fun k hk hs=>by omega
 · exact hall.below h.below h.below.size fun k hk=>by omega
 · have:=hall.size;omega
def Rnd (wr:World) (Q:Nat→Prop) (s z n:Nat) (V:List (List Int)) (t:TS) (e:Ending) (w5:World):Prop :=
 ∃ p5 c5 tp5 tc5 n5 F5,e=.returned (.tuple #[.agg #[.slice p5 n c5,.int .i64 (s:Nat)],.agg #[.slice tp5 n5 tc5,.int .i64 (F5:Nat),.int .i64 (z:Nat)]])∧Hid (RV w5 Q p5 c5 s V∧Rt w5 tp5 tc5 t.B∧(0<t.B.length→∀ a,tp5=some a→Q a.block)∧t.B.length=n5∧t.f*z=F5∧Below wr.heap.size wr w5)
theorem RdDo.rnd {wr w5:World} {Q:Nat→Prop} {s z n k:Nat} {V:List (List Int)} {t:TS} {e:Ending} (h:RdDo (wr.drewN k) Q s z n V t e w5):Rnd wr Q s z n V t e w5:=by
 obtain⟨p,c,tp,tc,rfl,h1,h2,h3,h4⟩:=h
 exact⟨p,c,tp,tc,_,_,rfl,hid ⟨h1,h2,h3,rfl,rfl,z4s h4⟩⟩
theorem Se.start {w W1:World} {Q:Nat→Prop} {s z n ln lc n1 F1 M:Nat} {p tp lp:Option Addr} {c tc:Nat} {dc:Array Value} {AL:List Wd} {V:List (List Int)} {t:TS} {tot:Nat}
 (h0:W1.heap[w.heap.size]?=some (.cells dc 38 (0,0))) (h1:W1.heap[w.heap.size+1]?=some (.cells #[.slice none 0 0,.int .i64 0] 32 (0,0))) (h2:W1.heap[w.heap.size+1+1]?=some (.cells #[.slice none 0 0,.int .i64 0,.int .i64 0] 35 (0,0)))
 (h3:W1.heap[w.heap.size+1+1+1]?=some (.cells #[.slice p n c,.int .i64 (s:Nat)] 32 (0,0))) (h4:W1.heap[w.heap.size+1+1+1+1]?=some (.cells #[.slice tp n1 tc,.int .i64 (F1:Nat),.int .i64 (z:Nat)] 35 (0,0))) (hb:Below w.heap.size w W1) (hsz:W1.heap.size=w.heap.size+5)
 (hV:RV w Q p c s V) (hn:V.length=n) (hT:Rt w tp tc t.B) (htq:0<t.B.length→∀ a,tp=some a→Q a.block) (hn1:t.B.length=n1) (hF1:t.f*z=F1) (hrow:SlG ewd 4 wd0' w lp ln lc AL) (hok:∀ y∈AL,y.ok w Q) (htot:t.len z+wts (AL.map Wd.x)≤tot) :
 Se w W1 Q w.heap.size s z n ln lc dc lp AL V t tot 0 p tp c tc n1 F1:=by
 refine⟨h0,h1,h2,h3,h4,(hV.mono fun k hk hl=>⟨hk,by omega⟩).later hb,hT.later hb,fun h a ha=>⟨htq h a ha,by have:=hT.lt h a ha;omega⟩,hn1,hF1,SlG.later hrow hb,fun h a ha=>?_,fun y hy=>((hok y hy).mono fun k hk hl=>⟨hk,by omega⟩).later hb,hb,by omega,rfl,hn,htot⟩
 obtain⟨b,off,hp,hlt,_⟩:=hrow.cell h
 rw [hp] at ha
 cases ha
 show ¬ (w.heap.size≤b∧b<w.heap.size+5)
 omega
theorem seen_walk (w:World) (Q:Nat→Prop) (hQ:∀ k,w.heap.size≤k→Q k) (s z n ln lc n1 F1 M:Nat) (p tp lp:Option Addr) (c tc:Nat) (AL:List Wd) (V:List (List Int)) (t:TS) (tot:Nat) (hn4:n≤1024) (hs4:s≤4096) (hz:64≤z∧z≤4096) (hbig:tot≤1000000)
 (hV:RV w Q p c s V) (hn:V.length=n) (hT:Rt w tp tc t.B) (htq:0<t.B.length→∀ a,tp=some a→Q a.block) (hn1:t.B.length=n1) (hF1:t.f*z=F1) (hrow:SlG ewd 4 wd0' w lp ln lc AL) (hok:∀ y∈AL,y.ok w Q) (htot:t.len z+wts (AL.map Wd.x)≤tot) :
 Calls Tryz.prog 59 #[.agg (rdc p n c s tp n1 tc F1 z lp ln lc M)] w (RdDo w Q s z n (z5h s V (AL.map Wd.x)) (z2y z t (AL.map Wd.x))):=by
 obtain⟨W1,hW1,h0,h1,h2,h3,h4,hbw,hsz⟩:=z2k w (rdc p n c s tp n1 tc F1 z lp ln lc M) #[.slice none 0 0,.int .i64 0] #[.slice none 0 0,.int .i64 0,.int .i64 0] #[.slice p n c,.int .i64 (s:Nat)] #[.slice tp n1 tc,.int .i64 (F1:Nat),.int .i64 (z:Nat)] 38 32 35 32 35
 have HS0:=hid (Se.start (Q:=Q) (M:=M) h0 h1 h2 h3 h4 hbw hsz hV hn hT htq hn1 hF1 hrow hok htot)
 have HW1:=hid hW1
 have HL:=hid hrow.len
 have HCAP:Hid (ln≤lc∧lc≤maxLen):=hid ⟨hrow.cap,hrow.max⟩
 have HA:Hid (w.heap.size=w.heap.size):=hid rfl
 clear hW1 h0 h1 h2 h3 h4 hbw hsz hV hn hT htq hn1 hF1 hrow hok htot
 go_enter Tryz.func59,Tryz.ntmps59
 go_wp2_with fail
 rw [← HW1.out]
 clear HW1 HA
 go_loopw [6] (fun i wr=>∃ (j:Nat) (pj tpj:Option Addr) (cj tcj nj Fj:Nat),j≤ln∧i=.int .i64 (j:Nat)∧Hid (Se w wr Q w.heap.size s z n ln lc (rdc p n c s tp n1 tc F1 z lp ln lc M) lp AL V t tot j pj tpj cj tcj nj Fj)) (fun i _=>ln-(intOf i).toNat)
 case atStart=>exact⟨0,p,tp,c,tc,n1,F1,Nat.zero_le _,rfl,HS0⟩
 case round =>
  obtain⟨j,pj,tpj,cj,tcj,nj,Fj,hj,rfl,HF⟩:=hrel
  have hcap:=HCAP.out.1
  have hmax:=HCAP.out.2
  have hln:ln≤9223372036854775807:=by
   have h1:=hcap
   have h2:=hmax
   unfold maxLen at h2
   omega
  have x5:=z0a (j:=5) HF.out.bD (v:=.slice lp ln lc) rfl
  have v0:=z0a (j:=0) HF.out.b3 (v:=.slice pj n cj) rfl
  have v1:=z0a (j:=1) HF.out.b3 (v:=.int .i64 (s:Nat)) rfl
  have t0:=z0a (j:=0) HF.out.b4 (v:=.slice tpj nj tcj) rfl
  have t1:=z0a (j:=1) HF.out.b4 (v:=.int .i64 (Fj:Nat)) rfl
  have t2:=z0a (j:=2) HF.out.b4 (v:=.int .i64 (z:Nat)) rfl
  by_cases hlt:j<ln
  · have hlt':(j:Int)<ln:=by omega
    obtain⟨y,b,off,hy,hlp,k0,k1,k2,k3,hdo,eV,eT,eW,_⟩:=HF.out.next hlt hQ hn4 hs4 hz hbig (-1)
    subst hlp
    rw [Nat.add_zero] at k0
    rw [dwVx_all,dwTx_all] at hdo
    have HCALL:=hid fun k=>(hdo (wr.drewN k) (z0g (Below.refl _ _) k)).mono fun e w5 h=>RdDo.rnd h
    have HST:=hid (fun (w5 W':World) (p5 tp5:Option Addr) (c5 tc5 n5 F5:Nat)=>HF.out.step (w5:=w5) (W':=W') (p5:=p5) (tp5:=tp5) (c5:=c5) (tc5:=tc5) (n5:=n5) (F5:=F5) eV eT eW)
    clear hdo eV eT eW hy
    generalize y.k=yk at *
    generalize y.i=yi at *
    generalize y.q=yq at *
    generalize y.m=ym at *
    generalize y.cq=ycq at *
    generalize y.n=yn at *
    go_wp2_with fail
    go_region_law (first | (go_simp;go_at_call 104;refine (HCALL.out _).mono ?_;rintro e w5 ⟨p5,c5,tp5,tc5,n5,F5,rfl,H5⟩;have r3:=z0b HF.out.b3 H5.out.2.2.2.2.2;have r4:=z0b HF.out.b4 H5.out.2.2.2.2.2;have HA:=hid (z3d (.slice p5 n c5) (.int .i64 (s:Nat)) (.slice tp5 n5 tc5) (.int .i64 (F5:Nat)) (.int .i64 (z:Nat)) r3 r4 (by omega));have HB:=hid (z2n (.slice p5 n c5) (.int .i64 (s:Nat)) (.slice tp5 n5 tc5) (.int .i64 (F5:Nat)) (.int .i64 (z:Nat)) r3 r4 (by omega));have v5:=z0a (j:=0) r3 (v:=.slice pj n cj) rfl;have v6:=z0a (j:=1) r3 (v:=.int .i64 (s:Nat)) rfl;have t5:=z0a (j:=0) r4 (v:=.slice tpj nj tcj) rfl;have t6:=z0a (j:=1) r4 (v:=.int .i64 (Fj:Nat)) rfl;have t7:=z0a (j:=2) r4 (v:=.int .i64 (z:Nat)) rfl;have e0:=z0c 0 r3;have e1:=z0c 1 r3;have f0:=z0c 0 r4;have f1:=z0c 1 r4;have f2:=z0c 2 r4;clear r3 r4))
    all_goals go_wp2_with fail
    all_goals
     go_roundw
     case rel =>
      refine⟨j+1,p5,tp5,c5,tc5,n5,F5,by omega,by go_num,hid ?_⟩
      obtain⟨q1,q2,q3,q4,q5,q6⟩:=H5.out
      first
       | exact HST.out _ _ _ _ _ _ _ _ q6 q1 q2 q3 q4 q5 HA.out.1 HA.out.2.1 HA.out.2.2
       | exact HST.out _ _ _ _ _ _ _ _ q6 q1 q2 q3 q4 q5 HB.out.1 HB.out.2.1 HB.out.2.2
       | exact HST.out _ _ _ _ _ _ _ _ q6 q1 q2 q3 q4 q5 HA.out.1 HA.out.2.1 (HA.out.2.2.drewN 1)
       | exact HST.out _ _ _ _ _ _ _ _ q6 q1 q2 q3 q4 q5 HB.out.1 HB.out.2.1 (HB.out.2.2.drewN 1)
     case measure=>simp [intOf];omega
  · obtain rfl:j=ln:=by omega
    have hE:=HF.out
    have htk:(AL.map Wd.x).take j=AL.map Wd.x:=List.take_of_length_le (by rw [List.length_map,HL.out];exact Nat.le_refl _)
    have HE:Hid (∀ W',Chg (fun k=>k=w.heap.size+1∨k=w.heap.size+1+1) wr W'→RdDo w Q s z n (z5h s V (AL.map Wd.x)) (z2y z t (AL.map Wd.x)) (.returned (.tuple #[.agg #[.slice pj n cj,.int .i64 (s:Nat)],.agg #[.slice tpj nj tcj,.int .i64 (Fj:Nat),.int .i64 (z:Nat)]])) W'):=hid fun W' hc=>by
     have hv:=hE.rv
     have ht:=hE.rt
     have hq:=hE.tq
     have h1:=hE.hn
     have h2:=hE.hF
     rw [htk] at hv ht hq h1 h2
     exact z1s hc hE.below (by omega) (by omega) (hv.mono fun k hk _=>⟨hk.1,by omega,by omega⟩) ht (fun h0 a ha=>⟨(hq h0 a ha).1,by have:=(hq h0 a ha).2;omega,by have:=(hq h0 a ha).2;omega⟩) h1 h2
    have HA:=hid (z3d (.slice pj n cj) (.int .i64 (s:Nat)) (.slice tpj nj tcj) (.int .i64 (Fj:Nat)) (.int .i64 (z:Nat)) hE.b1 hE.b2 (by omega))
    have HB:=hid (z2n (.slice pj n cj) (.int .i64 (s:Nat)) (.slice tpj nj tcj) (.int .i64 (Fj:Nat)) (.int .i64 (z:Nat)) hE.b1 hE.b2 (by omega))
    have c0:=z0a (j:=0) hE.b1 (v:=.slice none 0 0) rfl
    have c1:=z0a (j:=1) hE.b1 (v:=.int .i64 0) rfl
    have d0:=z0a (j:=0) hE.b2 (v:=.slice none 0 0) rfl
    have d1:=z0a (j:=1) hE.b2 (v:=.int .i64 0) rfl
    have d2:=z0a (j:=2) hE.b2 (v:=.int .i64 0) rfl
    have e0:=z0c 0 hE.b1
    have e1:=z0c 1 hE.b1
    have f0:=z0c 0 hE.b2
    have f1:=z0c 1 hE.b2
    have f2:=z0c 2 hE.b2
    clear hE htk HS0
    go_wp2_with fail
    go_region
    all_goals go_wp2_with fail
    all_goals
     refine bodyPost_ret (v:=.tuple #[.agg #[.slice pj n cj,.int .i64 (s:Nat)],.agg #[.slice tpj nj tcj,.int .i64 (Fj:Nat),.int .i64 (z:Nat)]]) ?_ rfl ?_
     · first
        | exact z0w rfl _ _ (w.heap.size+1) (w.heap.size+1+1) _ _ rfl rfl HA.out.1 HA.out.2.1 rfl rfl
        | exact z0w rfl _ _ (w.heap.size+1) (w.heap.size+1+1) _ _ rfl rfl HB.out.1 HB.out.2.1 rfl rfl
     · first
        | exact HE.out _ HA.out.2.2
        | exact HE.out _ HB.out.2.2
        | exact HE.out _ (HA.out.2.2.drewN 1)
        | exact HE.out _ (HB.out.2.2.drewN 1)
def RdGives (w:World) (Q:Nat→Prop) (d:DS) (e:Ending) (w':World):Prop :=
 ∃ p c tp tc lp lc,e=.returned (.agg (rdc p d.V.length c d.s tp d.t.B.length tc (d.t.f*d.z) d.z lp d.L.length lc d.M))∧RdD w' Q p c tp tc lp lc d∧Below w.heap.size w w'
theorem z6f {p tp lp:Option Addr} {c tc lc:Nat} (d:DS) (w:World) (Q:Nat→Prop) (hQ:∀ k,w.heap.size≤k→Q k) (h:RdD w Q p c tp tc lp lc d) (hbig:d.tot≤1000000) :
 Calls Tryz.prog 59 #[.agg (rdc p d.V.length c d.s tp d.t.B.length tc (d.t.f*d.z) d.z lp d.L.length lc d.M)] w (RdDo w Q d.s d.z d.V.length d.sV d.sT):=by
 obtain⟨⟨AL,hrow,hmap,hok⟩,hlq⟩:=h.td
 have h1:=seen_walk w Q hQ d.s d.z d.V.length d.L.length lc d.t.B.length (d.t.f*d.z) d.M p tp lp c tc AL d.V d.t d.tot h.n4 h.s4 h.z hbig h.rv rfl h.rt h.tq rfl rfl hrow hok (by rw [hmap];exact Nat.le_refl _)
 rw [hmap] at h1
 exact h1
theorem RdDo.rnd0 {wr w5:World} {Q:Nat→Prop} {s z n:Nat} {V:List (List Int)} {t:TS} {e:Ending} (h:RdDo wr Q s z n V t e w5):Rnd wr Q s z n V t e w5:=by
 obtain⟨p,c,tp,tc,rfl,h1,h2,h3,h4⟩:=h
 exact⟨p,c,tp,tc,_,_,rfl,hid ⟨h1,h2,h3,rfl,rfl,h4⟩⟩
abbrev rdz:Array Value:=#[.slice none 0 0,.int .i64 0,.slice none 0 0,.int .i64 0,.int .i64 0,.slice none 0 0,.int .i64 0]
theorem z3s {W:World} {R:Nat} {T:TypeId} {a0 a1 a2 a3 a4 a5 a6:Value} (x0 x1 x2 x3 x4 x5 x6:Value) (h:W.heap[R]?=some (.cells #[a0,a1,a2,a3,a4,a5,a6] T (0,0))) :
 (((((((W.setCell ⟨R,0,none⟩ x0).setCell ⟨R,1,none⟩ x1).setCell ⟨R,2,none⟩ x2).setCell ⟨R,3,none⟩ x3).setCell ⟨R,4,none⟩ x4).setCell ⟨R,5,none⟩ x5).setCell ⟨R,6,none⟩ x6).heap[R]?=some (.cells #[x0,x1,x2,x3,x4,x5,x6] T (0,0)) ∧
 Chg (fun k=>k=R) W (((((((W.setCell ⟨R,0,none⟩ x0).setCell ⟨R,1,none⟩ x1).setCell ⟨R,2,none⟩ x2).setCell ⟨R,3,none⟩ x3).setCell ⟨R,4,none⟩ x4).setCell ⟨R,5,none⟩ x5).setCell ⟨R,6,none⟩ x6):=by
 have g0:=z0m 0 x0 h
 simp only [sIB,sCZ,sCS] at g0
 have g1:=z0m 1 x1 g0
 simp only [sIB,sCZ,sCS] at g1
 have g2:=z0m 2 x2 g1
 simp only [sIB,sCZ,sCS] at g2
 have g3:=z0m 3 x3 g2
 simp only [sIB,sCZ,sCS] at g3
 have g4:=z0m 4 x4 g3
 simp only [sIB,sCZ,sCS] at g4
 have g5:=z0m 5 x5 g4
 simp only [sIB,sCZ,sCS] at g5
 have g6:=z0m 6 x6 g5
 simp only [sIB,sCZ,sCS] at g6
 have c0:=(Chg.refl (fun k=>k=R) W).setCell ⟨R,0,none⟩ x0 fun _=>rfl
 have c1:=c0.setCell ⟨R,1,none⟩ x1 fun _=>rfl
 have c2:=c1.setCell ⟨R,2,none⟩ x2 fun _=>rfl
 have c3:=c2.setCell ⟨R,3,none⟩ x3 fun _=>rfl
 have c4:=c3.setCell ⟨R,4,none⟩ x4 fun _=>rfl
 have c5:=c4.setCell ⟨R,5,none⟩ x5 fun _=>rfl
 have c6:=c5.setCell ⟨R,6,none⟩ x6 fun _=>rfl
 exact⟨g6,c6⟩
theorem refsync_any {p tp lp:Option Addr} {c tc lc:Nat} (d:DS) (w:World) (Q:Nat→Prop) (hQ:∀ k,w.heap.size≤k→Q k) (h:RdD w Q p c tp tc lp lc d) (hbig:d.tot≤1000000) :
 Calls Tryz.prog 29 #[.agg (rdc p d.V.length c d.s tp d.t.B.length tc (d.t.f*d.z) d.z lp d.L.length lc d.M)] w (RdGives w Q d.sync):=by
 obtain⟨h0,h1,hbw⟩:=z2o w (rdc p d.V.length c d.s tp d.t.B.length tc (d.t.f*d.z) d.z lp d.L.length lc d.M) rdz 38 38
 have hsz:((w.alloc (.cells (rdc p d.V.length c d.s tp d.t.B.length tc (d.t.f*d.z) d.z lp d.L.length lc d.M) 38)).alloc (.cells rdz 38)).heap.size=w.heap.size+2:=by simp
 have HSE:=hid (z6f d _ (fun k=>Q k∧k≠w.heap.size+1) (fun k hk=>⟨hQ k (by omega),by omega⟩) ((h.mono (R:=fun k=>Q k∧k≠w.heap.size+1) fun k hk hl=>⟨hk,by omega⟩).later hbw) hbig)
 have H0:=hid h0
 have H1:=hid h1
 have HBW:=hid hbw
 have HSZ:=hid hsz
 have HZ:=hid h.z
 have HN4:=hid h.n4
 have HS4:=hid h.s4
 have HD:Hid (d.sync.V=d.sV∧d.sync.t=d.sT∧d.sync.L=[]∧d.sync.s=d.s∧d.sync.z=d.z∧d.sync.M=d.M∧d.sV.length=d.V.length):=hid ⟨rfl,rfl,rfl,rfl,rfl,rfl,z5o ..⟩
 clear h0 h1 hbw hsz h
 generalize d.sync=D at *
 generalize hV:d.sV=SV at *
 generalize hT:d.sT=ST at *
 clear hV hT
 generalize d.V.length=n at *
 generalize d.t.B.length=n1 at *
 generalize d.t.f*d.z=F1 at *
 generalize d.L.length=ln at *
 generalize d.s=s at *
 generalize d.z=z at *
 generalize d.M=M at *
 go_enter Tryz.func29,Tryz.ntmps29
 go_wp2_with fail
 have hse:=HSE.out.mono fun e w' h=>RdDo.rnd0 h
 refine hse.mono ?_
 clear hse
 generalize (w.alloc (.cells (rdc p n c s tp n1 tc F1 z lp ln lc M) 38)).alloc (.cells rdz 38)=W1 at *
 rintro e w2 ⟨p',c',tp',tc',n5,F5,rfl,H5⟩
 have HNF:Hid (ST.B.length=n5∧ST.f*z=F5):=hid ⟨H5.out.2.2.2.1,H5.out.2.2.2.2.1⟩
 have hv:=H5.out.1
 have ht:=H5.out.2.1
 have hq:=H5.out.2.2.1
 have hb2:=H5.out.2.2.2.2.2
 clear H5 HSE
 have hb4:Below w2.heap.size w2 ((w2.alloc (.cells #[.slice p' n c',.int .i64 (s:Nat)] 32)).alloc (.cells #[.slice tp' n5 tc',.int .i64 (F5:Nat),.int .i64 (z:Nat)] 35)):=((Below.refl _ _).alloc (Nat.le_refl _) _).alloc (by simp) _
 have hb24:=hb2.trans (hb4.mono hb2.size)
 have g0:=z0b H0.out hb24
 have g1:=z0b H1.out hb24
 have HV4:=hid (hv.later hb4)
 have HT4:=hid (ht.later hb4)
 have HQ4:=hid hq
 have HB4:=hid (HBW.out.trans (hb24.mono HBW.out.size))
 have x6:=z0a (j:=6) g0 (v:=.int .i64 (M:Nat)) rfl
 have HP:=hid (z3s (.slice p' n c') (.int .i64 (s:Nat)) (.slice tp' n5 tc') (.int .i64 (F5:Nat)) (.int .i64 (z:Nat)) (.slice none 0 0) (.int .i64 (M:Nat)) g1)
 have y0:=z0a (j:=0) g1 (v:=.slice none 0 0) rfl
 have y1:=z0a (j:=1) g1 (v:=.int .i64 0) rfl
 have y2:=z0a (j:=2) g1 (v:=.slice none 0 0) rfl
 have y3:=z0a (j:=3) g1 (v:=.int .i64 0) rfl
 have y4:=z0a (j:=4) g1 (v:=.int .i64 0) rfl
 have y5:=z0a (j:=5) g1 (v:=.slice none 0 0) rfl
 have y6:=z0a (j:=6) g1 (v:=.int .i64 0) rfl
 have z0:=z0c 0 g1
 have z1:=z0c 1 g1
 have z2:=z0c 2 g1
 have z3:=z0c 3 g1
 have z4:=z0c 4 g1
 have z5:=z0c 5 g1
 have z6:=z0c 6 g1
 clear g0 g1 hv ht hq hb2 hb4 hb24
 go_wp2_with fail
 refine bodyPost_ret (v:=.agg #[.slice p' n c',.int .i64 (s:Nat),.slice tp' n5 tc',.int .i64 (F5:Nat),.int .i64 (z:Nat),.slice none 0 0,.int .i64 (M:Nat)]) ?_ rfl ?_
 · exact results_cell_row rfl _ _ (w.heap.size+1) 38 _ (0,0) _ rfl HP.out.1 Tryz.underlying38 rfl (by kernel_rfl)
 · obtain⟨e1,e2,e3,e4,e5,e6,e7⟩:=HD.out
   have hb:=HB4.out
   have hc:=HP.out.2
   refine⟨p',c',tp',tc',none,0,?_,⟨?_,?_,?_,?_,?_,?_,?_⟩,hc.below hb hb.size fun k hk=>by omega⟩
   · rw [e1,e2,e3,e4,e5,e6,e7,HNF.out.1,HNF.out.2]
     rfl
   · rw [e1,e4]
     exact (HV4.out.keep hc fun k hk hs=>hk.2 hs).mono fun k hk _=>hk.1
   · rw [e2]
     exact HT4.out.keep hc fun h0 a ha hs=>(HQ4.out h0 a ha).2 hs
   · rw [e2]
     exact fun h0 a ha=>(HQ4.out h0 a ha).1
   · rw [e3]
     exact Td.nil _ _
   · rw [e1,e7]
     exact HN4.out
   · rw [e4]
     exact HS4.out
   · rw [e5]
     exact HZ.out
theorem refdnew_any (x y a:Int) (M:Nat) (hM:M≤1048576) (w:World):Calls Tryz.prog 15 #[.int .i64 x,.int .i64 y,.int .i64 a,.int .i64 (M:Nat)] w (RdGives w (fun k=>w.heap.size≤k) (DS.new x y a (M:Nat))):=by
 have HNV:=hid (fun w'=>refnew_any x y w')
 have HNT:=hid (fun w'=>tref_new a w')
 have hk:kp (M:Int) 1048576=M:=by unfold kp;omega
 have HD:Hid (DS.new x y a (M:Nat)=⟨M,a,cl a 64 4096,kp y 4096,z4w (kp x 1024) (kp y 4096),⟨0,[]⟩,[]⟩):=hid (by unfold DS.new;rw [hk])
 have h0:=z0e w (.cells rdz 38)
 have hb1:Below w.heap.size w (w.alloc (.cells rdz 38)):=(Below.refl _ _).alloc (Nat.le_refl _) _
 have hsz:(w.alloc (.cells rdz 38)).heap.size=w.heap.size+1:=by simp
 have HZ:Hid (64≤cl a 64 4096∧cl a 64 4096≤4096):=hid (by unfold cl;omega)
 have HX:Hid (kp x 1024≤1024):=hid (by have:=q0f x 1024 (by omega);omega)
 have HY:Hid (kp y 4096≤4096):=hid (by have:=q0f y 4096 (by omega);omega)
 have HL:Hid ((z4w (kp x 1024) (kp y 4096)).length=kp x 1024):=hid (z3q ..)
 generalize DS.new x y a (M:Nat)=D at *
 generalize kp x 1024=n at *
 generalize kp y 4096=s at *
 generalize cl a 64 4096=z at *
 generalize z4w n s=V at *
 have hd1:decide ((M:Int)<0)=false:=decide_eq_false (by omega)
 have hd2:decide ((1048576:Int)<M)=false:=decide_eq_false (by omega)
 have H0:=hid h0
 have HB1:=hid hb1
 have HSZ:=hid hsz
 clear hk h0 hb1 hsz
 go_enter Tryz.func15,Tryz.ntmps15
 go_wp2_with fail
 refine (HNV.out _).mono ?_
 generalize w.alloc (.cells rdz 38)=W1 at *
 rintro e w2 ⟨p,c,rfl,hv,hb2⟩
 have HV2:=hid hv
 have HB2:=hid hb2
 clear hv hb2 HNV
 go_wp2_with fail
 refine (HNT.out _).mono ?_
 rintro e w3 ⟨rfl,hb3⟩
 unfold rv
 have hb23:=HB2.out.trans (hb3.mono HB2.out.size)
 have g0:=z0b H0.out hb23
 have HV3:=hid (HV2.out.later hb3)
 have HB3:=hid (HB1.out.trans (hb23.mono HB1.out.size))
 have HP:=hid (z3s (.slice p n c) (.int .i64 (s:Nat)) (.slice none 0 0) (.int .i64 0) (.int .i64 (z:Nat)) (.slice none 0 0) (.int .i64 (M:Nat)) g0)
 have y0:=z0a (j:=0) g0 (v:=.slice none 0 0) rfl
 have y1:=z0a (j:=1) g0 (v:=.int .i64 0) rfl
 have y2:=z0a (j:=2) g0 (v:=.slice none 0 0) rfl
 have y3:=z0a (j:=3) g0 (v:=.int .i64 0) rfl
 have y4:=z0a (j:=4) g0 (v:=.int .i64 0) rfl
 have y5:=z0a (j:=5) g0 (v:=.slice none 0 0) rfl
 have y6:=z0a (j:=6) g0 (v:=.int .i64 0) rfl
 have z0:=z0c 0 g0
 have z1:=z0c 1 g0
 have z2:=z0c 2 g0
 have z3:=z0c 3 g0
 have z4:=z0c 4 g0
 have z5:=z0c 5 g0
 have z6:=z0c 6 g0
 clear g0 hb23 hb3 HNT
 go_wp2_with fail
 refine bodyPost_ret (v:=.agg #[.slice p n c,.int .i64 (s:Nat),.slice none 0 0,.int .i64 0,.int .i64 (z:Nat),.slice none 0 0,.int .i64 (M:Nat)]) ?_ rfl ?_
 · exact results_cell_row rfl _ _ w.heap.size 38 _ (0,0) _ rfl HP.out.1 Tryz.underlying38 rfl (by kernel_rfl)
 · have hb:=HB3.out
   have hc:=HP.out.2
   have hs:=HSZ.out
   have hl:=HL.out
   rw [HD.out]
   refine⟨p,c,none,0,none,0,?_,⟨(HV3.out.keep hc fun k hk hs=>by omega).mono fun k hk _=>by omega,Rt.nil _,fun h=>absurd h (Nat.lt_irrefl 0),Td.nil _ _,?_,HY.out,HZ.out⟩,hc.below hb hb.size fun k hk=>by omega⟩
   · show _=Ending.returned (.agg (rdc p V.length c s none 0 0 (0*z) z none 0 0 M))
     rw [hl,Nat.zero_mul]
     rfl
   · show V.length≤1024
     rw [hl]
     exact HX.out
def z8r (d:DS):Dw→Int
 | .put i b=>d.putE i b
 | .grow b=>d.addE b
 | _=>0
def z9q (d:DS) (x:Dw):DS:=if z8r d x=0 then d.add x else d
def q0p (w:World) (Q:Nat→Prop) (d:DS) (x:Int) (e:Ending) (w':World):Prop :=
 ∃ p c tp tc lp lc,e=.returned (.tuple #[.agg (rdc p d.V.length c d.s tp d.t.B.length tc (d.t.f*d.z) d.z lp d.L.length lc d.M),.int .i64 x])∧RdD w' Q p c tp tc lp lc d∧Below w.heap.size w w'
theorem z4e {fn:Func} {P1 P2:Tmp} (h:fn.results=#[.cell P1 38,.tmp P2]) (tmps:Array Value) (W:World) (R:Nat) (cs:Array Value) (x:Value) (hp:tmps.getD P1 undef=.pointer (some ⟨R,0,none⟩)) (hv:tmps.getD P2 undef=x)
 (hR:W.heap[R]?=some (.cells cs 38 (0,0))) (hs:cs.size=7):(results fn tmps).run Tryz.prog W=.ok (.tuple #[.agg cs,x]) W:=by
 rw [results_cell_tmp h,hp,hv]
 have hl:=run_loadVar_row (P:=Tryz.prog) W R 38 38 cs (0,0) _ hR Tryz.underlying38 rfl (by rw [hs];kernel_rfl)
 simp [asAddr,Result.andThen,hl]
theorem three_boxes (w:World) (c0 c1 c2:Array Value) (T0 T1 T2:TypeId):(((w.alloc (.cells c0 T0)).alloc (.cells c1 T1)).alloc (.cells c2 T2)).heap[w.heap.size]?=some (.cells c0 T0 (0,0))∧(((w.alloc (.cells c0 T0)).alloc (.cells c1 T1)).alloc (.cells c2 T2)).heap[w.heap.size+1]?=some (.cells c1 T1 (0,0))∧(((w.alloc (.cells c0 T0)).alloc (.cells c1 T1)).alloc (.cells c2 T2)).heap[w.heap.size+1+1]?=some (.cells c2 T2 (0,0)) ∧
 Below w.heap.size w (((w.alloc (.cells c0 T0)).alloc (.cells c1 T1)).alloc (.cells c2 T2))∧(((w.alloc (.cells c0 T0)).alloc (.cells c1 T1)).alloc (.cells c2 T2)).heap.size=w.heap.size+3:=by
 obtain⟨a0,a1,a2⟩:=z2o w c0 c1 T0 T1
 have hs:((w.alloc (.cells c0 T0)).alloc (.cells c1 T1)).heap.size=w.heap.size+2:=by simp
 have hb:Below ((w.alloc (.cells c0 T0)).alloc (.cells c1 T1)).heap.size ((w.alloc (.cells c0 T0)).alloc (.cells c1 T1)) (((w.alloc (.cells c0 T0)).alloc (.cells c1 T1)).alloc (.cells c2 T2)):=(Below.refl _ _).alloc (Nat.le_refl _) _
 have h2:=z0e ((w.alloc (.cells c0 T0)).alloc (.cells c1 T1)) (.cells c2 T2)
 rw [hs] at h2
 exact⟨z0b a0 hb,z0b a1 hb,h2,a2.trans (hb.mono a2.size),by simp⟩
theorem z9n:(Tryz.prog.info? 71).map (fun i=>(i.zero,i.size,i.bytes))=some (some (.agg #[.int .i64 0,.int .i64 0,.slice none 0 0,.int .i64 0]),4,48):=by kernel_rfl
theorem z4b {α:Type} {enc:α→List Value} {k:Nat} {d:α} (hk:∀ x,(enc x).length=k) (hk0:0<k) {w:World} {p:Option Addr} {n c:Nat} {L:List α} (h:SlG enc k d w p n c L):(z0t enc L).length=n*k∧(p=none→n=0∧c=0)∧∀ ad,p=some ad→∀ j u,(z0t enc L)[j]?=some u→w.cell? (ad.add j)=some u:=by
 have hl:=h.len
 refine⟨by rw [z3u hk,hl],fun hp=>?_,?_⟩
 · have h1:=h.nil hp
   have h2:=h.cap
   omega
 · intro ad had j u hu
   have hj:j<n*k:=by
    have:=(List.getElem?_eq_some_iff.1 hu).1
    rwa [z3u hk,hl] at this
   have hn:0<n:=by
    rcases Nat.eq_zero_or_pos n with h0 | h0
    · subst h0;omega
    · exact h0
   obtain⟨b,off,hp,_,hc⟩:=h.cell hn
   rw [hp] at had
   cases had
   have h1:j / k<n:=by
    rw [Nat.div_lt_iff_lt_mul hk0]
    exact hj
   have h2:j % k<k:=Nat.mod_lt _ hk0
   have h3:j / k*k+j % k=j:=by rw [Nat.mul_comm];exact Nat.div_add_mod j k
   have h4:=z7h hk (d:=d) L (j / k) (j % k) (by omega) h2
   rw [h3,hu] at h4
   have:=hc (j / k) h1 (j % k) u h4.symm
   rw [Go.WideShapes.add_plain]
   rw [Nat.add_assoc,h3] at this
   exact this
theorem q0j {w:World} (B:Nat) {v0 v1 v2 v3:Value} (h0:w.cell? ⟨B,0,none⟩=some v0) (h1:w.cell? ⟨B,1,none⟩=some v1) (h2:w.cell? ⟨B,2,none⟩=some v2) (h3:w.cell? ⟨B,3,none⟩=some v3):∀ ad,some (⟨B,0,none⟩:Addr)=some ad→∀ j u,[v0,v1,v2,v3][j]?=some u→w.cell? (ad.add j)=some u:=by
 intro ad had j u hu
 cases had
 rw [Go.WideShapes.add_plain,Nat.zero_add]
 match j,hu with
 | 0,hu=>simp only [List.getElem?_cons_zero,Option.some.injEq] at hu;subst hu;exact h0
 | 1,hu=>simp only [List.getElem?_cons_succ,List.getElem?_cons_zero,Option.some.injEq] at hu;subst hu;exact h1
 | 2,hu=>simp only [List.getElem?_cons_succ,List.getElem?_cons_zero,Option.some.injEq] at hu;subst hu;exact h2
 | 3,hu=>simp only [List.getElem?_cons_succ,List.getElem?_cons_zero,Option.some.injEq] at hu;subst hu;exact h3
 | j+4,hu=>simp at hu
theorem q0i (a:Nat) (b:Int) (c:Option Addr × Nat × Nat) (e:Int):∀ u ∈ [Value.int .i64 (a:Nat),.int .i64 b,.slice c.1 c.2.1 c.2.2,.int .i64 e],u.oneCell'=true:=by
 intro u hu
 simp only [List.mem_cons,List.not_mem_nil,or_false] at hu
 rcases hu with rfl | rfl | rfl | rfl <;> rfl
theorem refwith_any {p tp lp:Option Addr} {c tc lc:Nat} (d:DS) (y:Wd) (w:World) (Q:Nat→Prop) (hQ:∀ k,w.heap.size≤k→Q k) (h:RdD w Q p c tp tc lp lc d) (hy:y.ok w Q) (hbig:d.tot≤1000000) (hLL:d.L.length≤1000) (hM:d.M≤1048576) :
 Calls Tryz.prog 28 #[.agg (rdc p d.V.length c d.s tp d.t.B.length tc (d.t.f*d.z) d.z lp d.L.length lc d.M),.agg #[.int .i64 (y.k:Nat),.int .i64 y.i,.slice y.q y.m y.cq,.int .i64 y.n]] w (q0p w Q (z9q d y.x) (z8r d y.x)):=by
 obtain⟨h0,h1,h2,hbw,hsz⟩:=three_boxes w (rdc p d.V.length c d.s tp d.t.B.length tc (d.t.f*d.z) d.z lp d.L.length lc d.M) #[.int .i64 (y.k:Nat),.int .i64 y.i,.slice y.q y.m y.cq,.int .i64 y.n] rdz 38 71 38
 have HSE:=hid (z6f d _ Q (fun k hk=>hQ k (by omega)) (h.later hbw) hbig)
 have H0:=hid h0
 have H1:=hid h1
 have H2:=hid h2
 have HBW:=hid hbw
 have HSZ:=hid hsz
 have HRD:=hid h
 have HY:=hid hy
 have HQQ:=hid hQ
 have hml:=hy.bl.len
 have hmm:=hy.bl.max
 have hmc:=hy.bl.cap
 unfold maxLen at hmm
 have hk3:=hy.k3
 obtain⟨AL,HAL,HMAP,HOK⟩:∃ AL:List Wd,Hid (SlG ewd 4 wd0' w lp d.L.length lc AL)∧Hid (AL.map Wd.x=d.L)∧Hid (∀ z∈AL,z.ok w Q):=by
  obtain⟨⟨AL,g1,g2,g3⟩,_⟩:=h.td
  exact⟨AL,hid g1,hid g2,hid g3⟩
 have hlm:=HAL.out.max
 have hlcap:=HAL.out.cap
 unfold maxLen at hlm
 have HPUT:Hid (∀ (p':Option Addr) (c':Nat) (w':World),Below w.heap.size w w'→RV w' Q p' c' d.s d.sV→Calls Tryz.prog 72 #[.agg #[.slice p' d.V.length c',.int .i64 (d.s:Nat)],.int .i64 y.i,.slice y.q y.m y.cq] w' (q2e w' Q d.V.length d.s (z6c d.s d.sV y.i y.b d.s) (d.putE y.i y.b))):=hid fun p' c' w' hb hv=>by
  rw [← putE_seen]
  exact refput_any p' c' d.V.length d.s d.sV y.i y.q y.m y.cq y.b w' Q (fun k hk=>hQ k (Nat.le_trans hb.size hk)) hv (z5o ..) h.n4 h.s4 (hy.bl.later hb)
 have hsl:d.sT.B.length≤1000000:=by
  have:=d.sT_len (by have:=h.z.1;omega)
  unfold TS.len at this
  omega
 have HTAIL:Hid (∀ (pl:Option Addr) (cl:Nat) (W9 W:World),z8r d y.x=0→Below w.heap.size w W9→w.heap.size+3≤W9.heap.size→W9.ownsRow 0 71 4 (.slice pl (d.L.length+1) cl) (d.L.length+1) (z0t ewd (AL ++ [y]))→(∀ k,(Value.slice pl (d.L.length+1) cl).ownBlock=some k→w.heap.size+3≤k)→Chg (fun k=>k=w.heap.size+1+1) W9 W→q0p w Q (z9q d y.x) (z8r d y.x) (.returned (.tuple #[.agg (rdc p d.V.length c d.s tp d.t.B.length tc (d.t.f*d.z) d.z pl (d.L.length+1) cl d.M),.int .i64 0])) W):=hid fun pl cl W9 W h0 hb hsz9 hown hk hc=>by
  have hD:z9q d y.x=d.add y.x:=if_pos h0
  rw [hD,h0]
  obtain⟨p1,c1,e1,hs,_⟩:=SlG.of_own (d:=wd0') z4v (by decide) hown
  cases e1
  have hlow:RdD w (fun k=>Q k∧k<w.heap.size) p c tp tc lp lc d:=h.mono fun k h1 h2=>⟨h1,h2⟩
  have hkeep:RdD W (fun k=>Q k∧k<w.heap.size) p c tp tc lp lc d:=(hlow.later hb).keep hc fun k h1 h2=>by omega
  have hkq:=hkeep.mono (R:=Q) fun k h1 _=>h1.1
  have hlen:(d.add y.x).L.length=d.L.length+1:=by
   show (d.L ++ [y.x]).length=_
   rw [List.length_append,List.length_singleton]
  refine⟨p,c,tp,tc,pl,cl,by rw [hlen];rfl,⟨hkq.rv,hkq.rt,hkq.tq,⟨⟨AL ++ [y],?_,?_,?_⟩,?_⟩,hkq.n4,hkq.s4,hkq.z⟩,hc.below hb hb.size fun k hk'=>by omega⟩
  · rw [hlen]
    exact hs.turn hc.size fun h0 a ha hlt=>hc.block _ hlt fun e=>by
     have:=hk a.block (by rw [ha];rfl)
     omega
  · rw [List.map_append,HMAP.out]
    rfl
  · intro z hz
    rcases List.mem_append.1 hz with hz | hz
    · exact ((((HOK.out z hz).mono (R:=fun k=>Q k∧k<w.heap.size) fun k h1 h2=>⟨h1,h2⟩).later hb).keep hc fun k h1 h2=>by omega).mono fun k h1 _=>h1.1
    · rw [List.mem_singleton] at hz
      subst hz
      exact (((hy.mono (R:=fun k=>Q k∧k<w.heap.size) fun k h1 h2=>⟨h1,h2⟩).later hb).keep hc fun k h1 h2=>by omega).mono fun k h1 _=>h1.1
  · intro _ a ha
    refine hQ _ ?_
    have:=hk a.block (by rw [ha];rfl)
    omega
 have HERR:Hid (∀ (W9 W:World),z8r d y.x≠0→Below w.heap.size w W9→w.heap.size+3≤W9.heap.size→Chg (fun k=>k=w.heap.size+1+1) W9 W→q0p w Q (z9q d y.x) (z8r d y.x) (.returned (.tuple #[.agg (rdc p d.V.length c d.s tp d.t.B.length tc (d.t.f*d.z) d.z lp d.L.length lc d.M),.int .i64 (z8r d y.x)])) W):=hid fun W9 W h0 hb hsz9 hc=>by
  have hD:z9q d y.x=d:=if_neg h0
  rw [hD]
  have hlow:RdD w (fun k=>Q k∧k<w.heap.size) p c tp tc lp lc d:=h.mono fun k h1 h2=>⟨h1,h2⟩
  have hkeep:RdD W (fun k=>Q k∧k<w.heap.size) p c tp tc lp lc d:=(hlow.later hb).keep hc fun k h1 h2=>by omega
  exact⟨p,c,tp,tc,lp,lc,rfl,hkeep.mono fun k h1 _=>h1.1,hc.below hb hb.size fun k hk'=>by omega⟩
 have HEW:Hid (ewd y=[.int .i64 (y.k:Nat),.int .i64 y.i,.slice y.q y.m y.cq,.int .i64 y.n]):=hid rfl
 have HLB:Hid (d.V.length≤1024∧d.s≤4096):=hid ⟨h.n4,h.s4⟩
 have HE:Hid (z8r d y.x=if y.k=0 then d.putE y.i y.b else if y.k=1 then (if 65536<y.m then 7 else if (d.M:Int)<(d.sT.B.length:Int)+y.m then 4 else 0) else 0):=hid (by
  unfold Wd.x
  split
  · rfl
  · split
    · show d.addE y.b=_
      unfold DS.addE
      rw [hml]
    · split <;> rfl)
 have hst:d.sT.B.length≤1000000:=hsl
 clear h0 h1 h2 hbw hsz h hy hsl
 generalize hP:d.putE y.i y.b=pe at *
 generalize hWE:z8r d y.x=we at *
 generalize hSV:d.sV=SV at *
 generalize hST:d.sT=ST at *
 clear hP hWE hSV hST
 generalize d.V.length=n at *
 generalize d.t.B.length=n1 at *
 generalize d.t.f*d.z=F1 at *
 generalize d.L.length=ln at *
 generalize d.s=s at *
 generalize d.z=z at *
 generalize d.M=M at *
 generalize y.k=yk at *
 generalize y.i=yi at *
 generalize y.q=yq at *
 generalize y.m=ym at *
 generalize y.cq=ycq at *
 generalize y.n=yn at *
 go_enter Tryz.func28,Tryz.ntmps28
 go_wp2_with fail
 have hse:=HSE.out.mono fun e w' h=>RdDo.rnd0 h
 refine hse.mono ?_
 clear hse
 generalize ((w.alloc (.cells (rdc p n c s tp n1 tc F1 z lp ln lc M) 38)).alloc (.cells #[.int .i64 (yk:Nat),.int .i64 yi,.slice yq ym ycq,.int .i64 yn] 71)).alloc (.cells rdz 38)=W1 at *
 rintro e w2 ⟨p',c',tp',tc',n5,F5,rfl,H5⟩
 have hn5:ST.B.length=n5:=H5.out.2.2.2.1
 rw [hn5] at hst HE
 clear hn5
 have hv:=H5.out.1
 have hb2:=H5.out.2.2.2.2.2
 clear H5 HSE
 obtain⟨q0,q1,hb4⟩:=z2o w2 #[.slice p' n c',.int .i64 (s:Nat)] #[.slice tp' n5 tc',.int .i64 (F5:Nat),.int .i64 (z:Nat)] 32 35
 have HV4:=hid (hv.later hb4)
 have hb24:=hb2.trans (hb4.mono hb2.size)
 have HB24:=hid hb24
 have HBW4:=hid (HBW.out.trans (hb24.mono HBW.out.size))
 have hs4:w.heap.size+3≤W1.heap.size:=by have:=HSZ.out;omega
 have x0:=z0a (j:=0) (z0b H1.out hb24) (v:=.int .i64 (yk:Nat)) rfl
 have x1:=z0a (j:=1) (z0b H1.out hb24) (v:=.int .i64 yi) rfl
 have x2:=z0a (j:=2) (z0b H1.out hb24) (v:=.slice yq ym ycq) rfl
 have a6:=z0a (j:=6) (z0b H0.out hb24) (v:=.int .i64 (M:Nat)) rfl
 have HW4:Hid (W1.heap.size≤((w2.alloc (.cells #[.slice p' n c',.int .i64 (s:Nat)] 32)).alloc (.cells #[.slice tp' n5 tc',.int .i64 (F5:Nat),.int .i64 (z:Nat)] 35)).heap.size):=hid hb24.size
 clear hv hb2 hb4 hb24
 by_cases hk0:yk=0
 · have f0:((yk:Int)==0)=true:=by simp [hk0]
   have f1:((yk:Int)==1)=false:=by rw [beq_eq_false_iff_ne];omega
   have hE:=HE.out
   rw [if_pos hk0] at hE
   clear hk0
   go_wp2_with fail
   refine (HPUT.out p' c' _ HBW4.out HV4.out).mono ?_
   rintro e w5 ⟨p5,c5,rfl,_,hb5⟩
   have hb6:Below w5.heap.size w5 (w5.alloc (.cells #[.slice p5 n c5,.int .i64 (s:Nat)] 32)):=(Below.refl _ _).alloc (Nat.le_refl _) _
   have HB6:=hid (HB24.out.trans ((hb5.trans (hb6.mono hb5.size)).mono HB24.out.size))
   have x6:=z0a (j:=0) (z0b H1.out HB6.out) (v:=.int .i64 (yk:Nat)) rfl
   clear hb5 hb6 x0 x1 x2 a6
   by_cases hpe:pe=0
   · have hwe:we=0:=by rw [hE];exact hpe
     have f2:(pe != 0)=false:=by simp [hpe]
     clear hE hpe
     have u0:=z0a (j:=5) (z0b H0.out HB6.out) (v:=.slice lp ln lc) rfl
     have HROW:Hid (SlG ewd 4 wd0' (w5.alloc (.cells #[.slice p5 n c5,.int .i64 (s:Nat)] 32)) lp ln lc AL):=hid (HAL.out.later (HBW.out.trans (HB6.out.mono HBW.out.size)))
     go_wp2_with (at_builtin;refine z0j (by decide) Tryz.underlying36 z9n rfl (by omega) rfl _ _ rfl (.slice none 0 0) 0 [] rfl (World.ownsRow_nil _ _ _ _) lp ln lc (z0t ewd AL) rfl (z4b z4v (by decide) HROW.out).1 (z4b z4v (by decide) HROW.out).2.1 (z4b z4v (by decide) HROW.out).2.2 (z2i q1c AL) (by omega) ?_)
     intro p8 c8 W8 g1 g2 g3
     clear u0
     have hb8:Below W1.heap.size W1 W8:=g2.below HB6.out HB6.out.size fun k hk=>by cases hk
     have HB8:=hid hb8
     have HK8:Hid (∀ k,(Value.slice p8 ln c8).ownBlock=some k→W1.heap.size≤k):=hid fun k hk=>by
      have hk':=g3 k (by simpa using hk)
      rcases hk' with h | h
      · cases h
      · first | exact Nat.le_trans HB6.out.size h | (have h5:=HB6.out.size;simp at h5;omega)
     have HO8:Hid (∀ o,(W8.alloc o).ownsRow 0 71 4 (.slice p8 ln c8) ln (z0t ewd AL)):=hid fun o=>by
      have g1':W8.ownsRow 0 71 4 (.slice p8 ln c8) ln (z0t ewd AL):=by simpa using g1
      exact z9x g1' (Chg.of_below (S:=fun _=>False) ((Below.refl _ _).alloc (Nat.le_refl _) o)) fun _ _ h=>h
     have HB8o:Hid (∀ o,Below W1.heap.size W1 (W8.alloc o)):=hid fun o=>hb8.alloc hb8.size o
     clear g1 g2 g3 hb8 HROW
     have w0:=z0a (j:=0) (z0b H1.out HB8.out) (v:=.int .i64 (yk:Nat)) rfl
     have w1:=z0a (j:=1) (z0b H1.out HB8.out) (v:=.int .i64 yi) rfl
     have w3:=z0a (j:=2) (z0b H1.out HB8.out) (v:=.slice yq ym ycq) rfl
     have w4:=z0a (j:=3) (z0b H1.out HB8.out) (v:=.int .i64 yn) rfl
     go_wp2_with (at_builtin;refine z0j (by decide) Tryz.underlying36 z9n rfl (by omega) rfl _ _ rfl (.slice p8 ln c8) ln (z0t ewd AL) rfl (HO8.out _) _ 1 1 [.int .i64 (yk:Nat),.int .i64 yi,.slice yq ym ycq,.int .i64 yn] rfl rfl (fun h=>by cases h) (q0j W8.heap.size (by simp) (by simp) (by simp) (by simp)) (q0i yk yi (yq,ym,ycq) yn) (by omega) ?_)
     intro p9 c9 W9 g1 g2 g3
     clear w0 w1 w3 w4
     have hb9:Below W1.heap.size W1 W9:=g2.below (HB8o.out _) (HB8o.out _).size HK8.out
     have HB9:=hid hb9
     have HK9:Hid (∀ k,(Value.slice p9 (ln+1) c9).ownBlock=some k→w.heap.size+3≤k):=hid fun k hk=>by
      rcases g3 k hk with h | h
      · exact Nat.le_trans hs4 (HK8.out k h)
      · refine Nat.le_trans hs4 (Nat.le_trans HB8.out.size ?_)
        first | omega | (simp at h;omega)
     have HO9:=hid g1
     clear g1 g2 g3 hb9
     have gA:=z0b H0.out HB9.out
     have gR:=z0b H2.out HB9.out
     have b0:=z0a (j:=0) gA (v:=.slice p n c) rfl
     have b1:=z0a (j:=1) gA (v:=.int .i64 (s:Nat)) rfl
     have b2:=z0a (j:=2) gA (v:=.slice tp n1 tc) rfl
     have b3:=z0a (j:=3) gA (v:=.int .i64 (F1:Nat)) rfl
     have b4:=z0a (j:=4) gA (v:=.int .i64 (z:Nat)) rfl
     have b5:=z0a (j:=5) gA (v:=.slice lp ln lc) rfl
     have b6:=z0a (j:=6) gA (v:=.int .i64 (M:Nat)) rfl
     have y0:=z0a (j:=0) gR (v:=.slice none 0 0) rfl
     have y1:=z0a (j:=1) gR (v:=.int .i64 0) rfl
     have y2:=z0a (j:=2) gR (v:=.slice none 0 0) rfl
     have y3:=z0a (j:=3) gR (v:=.int .i64 0) rfl
     have y4:=z0a (j:=4) gR (v:=.int .i64 0) rfl
     have y5:=z0a (j:=5) gR (v:=.slice none 0 0) rfl
     have y6:=z0a (j:=6) gR (v:=.int .i64 0) rfl
     have z0:=z0c 0 gR
     have z1:=z0c 1 gR
     have z2:=z0c 2 gR
     have z3:=z0c 3 gR
     have z4:=z0c 4 gR
     have z5:=z0c 5 gR
     have z6:=z0c 6 gR
     have HP:=hid (z3s (.slice p n c) (.int .i64 (s:Nat)) (.slice tp n1 tc) (.int .i64 (F1:Nat)) (.int .i64 (z:Nat)) (.slice p9 (ln+1) c9) (.int .i64 (M:Nat)) gR)
     clear gA gR
     go_wp2_with fail
     refine bodyPost_ret (v:=.tuple #[.agg (rdc p n c s tp n1 tc F1 z p9 (ln+1) c9 M),.int .i64 0]) ?_ rfl ?_
     · exact z4e rfl _ _ (w.heap.size+1+1) _ _ rfl rfl HP.out.1 rfl
     · have hh:=HTAIL.out p9 c9 W9 _ hwe (HBW.out.trans (HB9.out.mono HBW.out.size)) (Nat.le_trans hs4 HB9.out.size) (by rw [z1o,z3t,HEW.out];exact HO9.out) HK9.out HP.out.2
       exact hh
   · have hwe:we=pe:=hE
     have f2:(pe != 0)=true:=by simpa using hpe
     clear hE
     have gA:=z0b H0.out HB6.out
     have gR:=z0b H2.out HB6.out
     have b0:=z0a (j:=0) gA (v:=.slice p n c) rfl
     have b1:=z0a (j:=1) gA (v:=.int .i64 (s:Nat)) rfl
     have b2:=z0a (j:=2) gA (v:=.slice tp n1 tc) rfl
     have b3:=z0a (j:=3) gA (v:=.int .i64 (F1:Nat)) rfl
     have b4:=z0a (j:=4) gA (v:=.int .i64 (z:Nat)) rfl
     have b5:=z0a (j:=5) gA (v:=.slice lp ln lc) rfl
     have b6:=z0a (j:=6) gA (v:=.int .i64 (M:Nat)) rfl
     have y0:=z0a (j:=0) gR (v:=.slice none 0 0) rfl
     have y1:=z0a (j:=1) gR (v:=.int .i64 0) rfl
     have y2:=z0a (j:=2) gR (v:=.slice none 0 0) rfl
     have y3:=z0a (j:=3) gR (v:=.int .i64 0) rfl
     have y4:=z0a (j:=4) gR (v:=.int .i64 0) rfl
     have y5:=z0a (j:=5) gR (v:=.slice none 0 0) rfl
     have y6:=z0a (j:=6) gR (v:=.int .i64 0) rfl
     have z0:=z0c 0 gR
     have z1:=z0c 1 gR
     have z2:=z0c 2 gR
     have z3:=z0c 3 gR
     have z4:=z0c 4 gR
     have z5:=z0c 5 gR
     have z6:=z0c 6 gR
     have HP:=hid (z3s (.slice p n c) (.int .i64 (s:Nat)) (.slice tp n1 tc) (.int .i64 (F1:Nat)) (.int .i64 (z:Nat)) (.slice lp ln lc) (.int .i64 (M:Nat)) gR)
     clear gA gR
     go_wp2_with fail
     refine bodyPost_ret (v:=.tuple #[.agg (rdc p n c s tp n1 tc F1 z lp ln lc M),.int .i64 pe]) ?_ rfl ?_
     · exact z4e rfl _ _ (w.heap.size+1+1) _ _ rfl rfl HP.out.1 rfl
     · have hh:=HERR.out _ _ (by rw [hwe];omega) (HBW.out.trans (HB6.out.mono HBW.out.size)) (Nat.le_trans hs4 HB6.out.size) HP.out.2
       rw [hwe] at hh ⊢
       exact hh
 · have f0:((yk:Int)==0)=false:=by rw [beq_eq_false_iff_ne];omega
   by_cases hk1:yk=1
   · have f1:((yk:Int)==1)=true:=by simp [hk1]
     have hE:=HE.out
     rw [if_neg hk0,if_pos hk1] at hE
     clear hk0 hk1
     by_cases hbg:65536<ym
     · have hwe:we=7:=by rw [hE,if_pos hbg]
       clear hE
       have gA:=z0b H0.out HB24.out
       have gR:=z0b H2.out HB24.out
       have b0:=z0a (j:=0) gA (v:=.slice p n c) rfl
       have b1:=z0a (j:=1) gA (v:=.int .i64 (s:Nat)) rfl
       have b2:=z0a (j:=2) gA (v:=.slice tp n1 tc) rfl
       have b3:=z0a (j:=3) gA (v:=.int .i64 (F1:Nat)) rfl
       have b4:=z0a (j:=4) gA (v:=.int .i64 (z:Nat)) rfl
       have b5:=z0a (j:=5) gA (v:=.slice lp ln lc) rfl
       have b6:=z0a (j:=6) gA (v:=.int .i64 (M:Nat)) rfl
       have y0:=z0a (j:=0) gR (v:=.slice none 0 0) rfl
       have y1:=z0a (j:=1) gR (v:=.int .i64 0) rfl
       have y2:=z0a (j:=2) gR (v:=.slice none 0 0) rfl
       have y3:=z0a (j:=3) gR (v:=.int .i64 0) rfl
       have y4:=z0a (j:=4) gR (v:=.int .i64 0) rfl
       have y5:=z0a (j:=5) gR (v:=.slice none 0 0) rfl
       have y6:=z0a (j:=6) gR (v:=.int .i64 0) rfl
       have z0:=z0c 0 gR
       have z1:=z0c 1 gR
       have z2:=z0c 2 gR
       have z3:=z0c 3 gR
       have z4:=z0c 4 gR
       have z5:=z0c 5 gR
       have z6:=z0c 6 gR
       have HP:=hid (z3s (.slice p n c) (.int .i64 (s:Nat)) (.slice tp n1 tc) (.int .i64 (F1:Nat)) (.int .i64 (z:Nat)) (.slice lp ln lc) (.int .i64 (M:Nat)) gR)
       clear gA gR
       go_wp2_with fail
       refine bodyPost_ret (v:=.tuple #[.agg (rdc p n c s tp n1 tc F1 z lp ln lc M),.int .i64 7]) ?_ rfl ?_
       · exact z4e rfl _ _ (w.heap.size+1+1) _ _ rfl rfl HP.out.1 rfl
       · have hh:=HERR.out _ _ (by rw [hwe];omega) (HBW.out.trans (HB24.out.mono HBW.out.size)) (Nat.le_trans hs4 HB24.out.size) HP.out.2
         rw [hwe] at hh ⊢
         exact hh
     · by_cases hmo:(M:Int)<(n5:Int)+(ym:Int)
       · have hwe:we=4:=by rw [hE,if_neg hbg,if_pos hmo]
         clear hE
         have gA:=z0b H0.out HB24.out
         have gR:=z0b H2.out HB24.out
         have b0:=z0a (j:=0) gA (v:=.slice p n c) rfl
         have b1:=z0a (j:=1) gA (v:=.int .i64 (s:Nat)) rfl
         have b2:=z0a (j:=2) gA (v:=.slice tp n1 tc) rfl
         have b3:=z0a (j:=3) gA (v:=.int .i64 (F1:Nat)) rfl
         have b4:=z0a (j:=4) gA (v:=.int .i64 (z:Nat)) rfl
         have b5:=z0a (j:=5) gA (v:=.slice lp ln lc) rfl
         have b6:=z0a (j:=6) gA (v:=.int .i64 (M:Nat)) rfl
         have y0:=z0a (j:=0) gR (v:=.slice none 0 0) rfl
         have y1:=z0a (j:=1) gR (v:=.int .i64 0) rfl
         have y2:=z0a (j:=2) gR (v:=.slice none 0 0) rfl
         have y3:=z0a (j:=3) gR (v:=.int .i64 0) rfl
         have y4:=z0a (j:=4) gR (v:=.int .i64 0) rfl
         have y5:=z0a (j:=5) gR (v:=.slice none 0 0) rfl
         have y6:=z0a (j:=6) gR (v:=.int .i64 0) rfl
         have z0:=z0c 0 gR
         have z1:=z0c 1 gR
         have z2:=z0c 2 gR
         have z3:=z0c 3 gR
         have z4:=z0c 4 gR
         have z5:=z0c 5 gR
         have z6:=z0c 6 gR
         have HP:=hid (z3s (.slice p n c) (.int .i64 (s:Nat)) (.slice tp n1 tc) (.int .i64 (F1:Nat)) (.int .i64 (z:Nat)) (.slice lp ln lc) (.int .i64 (M:Nat)) gR)
         clear gA gR
         go_wp2_with fail
         refine bodyPost_ret (v:=.tuple #[.agg (rdc p n c s tp n1 tc F1 z lp ln lc M),.int .i64 4]) ?_ rfl ?_
         · exact z4e rfl _ _ (w.heap.size+1+1) _ _ rfl rfl HP.out.1 rfl
         · have hh:=HERR.out _ _ (by rw [hwe];omega) (HBW.out.trans (HB24.out.mono HBW.out.size)) (Nat.le_trans hs4 HB24.out.size) HP.out.2
           rw [hwe] at hh ⊢
           exact hh
       · have hwe:we=0:=by rw [hE,if_neg hbg,if_neg hmo]
         clear hE
         have u0:=z0a (j:=5) (z0b H0.out HB24.out) (v:=.slice lp ln lc) rfl
         have HROW:Hid (SlG ewd 4 wd0' ((w2.alloc (.cells #[.slice p' n c',.int .i64 (s:Nat)] 32)).alloc (.cells #[.slice tp' n5 tc',.int .i64 (F5:Nat),.int .i64 (z:Nat)] 35)) lp ln lc AL):=hid (HAL.out.later (HBW.out.trans (HB24.out.mono HBW.out.size)))
         go_wp2_with (at_builtin;refine z0j (by decide) Tryz.underlying36 z9n rfl (by omega) rfl _ _ rfl (.slice none 0 0) 0 [] rfl (World.ownsRow_nil _ _ _ _) lp ln lc (z0t ewd AL) rfl (z4b z4v (by decide) HROW.out).1 (z4b z4v (by decide) HROW.out).2.1 (z4b z4v (by decide) HROW.out).2.2 (z2i q1c AL) (by omega) ?_)
         intro p8 c8 W8 g1 g2 g3
         clear u0
         have hb8:Below W1.heap.size W1 W8:=g2.below HB24.out HB24.out.size fun k hk=>by cases hk
         have HB8:=hid hb8
         have HK8:Hid (∀ k,(Value.slice p8 ln c8).ownBlock=some k→W1.heap.size≤k):=hid fun k hk=>by
          have hk':=g3 k (by simpa using hk)
          rcases hk' with h | h
          · cases h
          · first | exact Nat.le_trans HB24.out.size h | (have h5:=HB24.out.size;simp at h5;omega)
         have HO8:Hid (∀ o,(W8.alloc o).ownsRow 0 71 4 (.slice p8 ln c8) ln (z0t ewd AL)):=hid fun o=>by
          have g1':W8.ownsRow 0 71 4 (.slice p8 ln c8) ln (z0t ewd AL):=by simpa using g1
          exact z9x g1' (Chg.of_below (S:=fun _=>False) ((Below.refl _ _).alloc (Nat.le_refl _) o)) fun _ _ h=>h
         have HB8o:Hid (∀ o,Below W1.heap.size W1 (W8.alloc o)):=hid fun o=>hb8.alloc hb8.size o
         clear g1 g2 g3 hb8 HROW
         have w0:=z0a (j:=0) (z0b H1.out HB8.out) (v:=.int .i64 (yk:Nat)) rfl
         have w1:=z0a (j:=1) (z0b H1.out HB8.out) (v:=.int .i64 yi) rfl
         have w3:=z0a (j:=2) (z0b H1.out HB8.out) (v:=.slice yq ym ycq) rfl
         have w4:=z0a (j:=3) (z0b H1.out HB8.out) (v:=.int .i64 yn) rfl
         go_wp2_with (at_builtin;refine z0j (by decide) Tryz.underlying36 z9n rfl (by omega) rfl _ _ rfl (.slice p8 ln c8) ln (z0t ewd AL) rfl (HO8.out _) _ 1 1 [.int .i64 (yk:Nat),.int .i64 yi,.slice yq ym ycq,.int .i64 yn] rfl rfl (fun h=>by cases h) (q0j W8.heap.size (by simp) (by simp) (by simp) (by simp)) (q0i yk yi (yq,ym,ycq) yn) (by omega) ?_)
         intro p9 c9 W9 g1 g2 g3
         clear w0 w1 w3 w4
         have hb9:Below W1.heap.size W1 W9:=g2.below (HB8o.out _) (HB8o.out _).size HK8.out
         have HB9:=hid hb9
         have HK9:Hid (∀ k,(Value.slice p9 (ln+1) c9).ownBlock=some k→w.heap.size+3≤k):=hid fun k hk=>by
          rcases g3 k hk with h | h
          · exact Nat.le_trans hs4 (HK8.out k h)
          · refine Nat.le_trans hs4 (Nat.le_trans HB8.out.size ?_)
            first | omega | (simp at h;omega)
         have HO9:=hid g1
         clear g1 g2 g3 hb9
         have gA:=z0b H0.out HB9.out
         have gR:=z0b H2.out HB9.out
         have b0:=z0a (j:=0) gA (v:=.slice p n c) rfl
         have b1:=z0a (j:=1) gA (v:=.int .i64 (s:Nat)) rfl
         have b2:=z0a (j:=2) gA (v:=.slice tp n1 tc) rfl
         have b3:=z0a (j:=3) gA (v:=.int .i64 (F1:Nat)) rfl
         have b4:=z0a (j:=4) gA (v:=.int .i64 (z:Nat)) rfl
         have b5:=z0a (j:=5) gA (v:=.slice lp ln lc) rfl
         have b6:=z0a (j:=6) gA (v:=.int .i64 (M:Nat)) rfl
         have y0:=z0a (j:=0) gR (v:=.slice none 0 0) rfl
         have y1:=z0a (j:=1) gR (v:=.int .i64 0) rfl
         have y2:=z0a (j:=2) gR (v:=.slice none 0 0) rfl
         have y3:=z0a (j:=3) gR (v:=.int .i64 0) rfl
         have y4:=z0a (j:=4) gR (v:=.int .i64 0) rfl
         have y5:=z0a (j:=5) gR (v:=.slice none 0 0) rfl
         have y6:=z0a (j:=6) gR (v:=.int .i64 0) rfl
         have z0:=z0c 0 gR
         have z1:=z0c 1 gR
         have z2:=z0c 2 gR
         have z3:=z0c 3 gR
         have z4:=z0c 4 gR
         have z5:=z0c 5 gR
         have z6:=z0c 6 gR
         have HP:=hid (z3s (.slice p n c) (.int .i64 (s:Nat)) (.slice tp n1 tc) (.int .i64 (F1:Nat)) (.int .i64 (z:Nat)) (.slice p9 (ln+1) c9) (.int .i64 (M:Nat)) gR)
         clear gA gR
         go_wp2_with fail
         refine bodyPost_ret (v:=.tuple #[.agg (rdc p n c s tp n1 tc F1 z p9 (ln+1) c9 M),.int .i64 0]) ?_ rfl ?_
         · exact z4e rfl _ _ (w.heap.size+1+1) _ _ rfl rfl HP.out.1 rfl
         · have hh:=HTAIL.out p9 c9 W9 _ hwe (HBW.out.trans (HB9.out.mono HBW.out.size)) (Nat.le_trans hs4 HB9.out.size) (by rw [z1o,z3t,HEW.out];exact HO9.out) HK9.out HP.out.2
           exact hh
   · have f1:((yk:Int)==1)=false:=by rw [beq_eq_false_iff_ne];omega
     have hwe:we=0:=by rw [HE.out,if_neg hk0,if_neg hk1]
     clear hk0 hk1
     have u0:=z0a (j:=5) (z0b H0.out HB24.out) (v:=.slice lp ln lc) rfl
     have HROW:Hid (SlG ewd 4 wd0' ((w2.alloc (.cells #[.slice p' n c',.int .i64 (s:Nat)] 32)).alloc (.cells #[.slice tp' n5 tc',.int .i64 (F5:Nat),.int .i64 (z:Nat)] 35)) lp ln lc AL):=hid (HAL.out.later (HBW.out.trans (HB24.out.mono HBW.out.size)))
     go_wp2_with (at_builtin;refine z0j (by decide) Tryz.underlying36 z9n rfl (by omega) rfl _ _ rfl (.slice none 0 0) 0 [] rfl (World.ownsRow_nil _ _ _ _) lp ln lc (z0t ewd AL) rfl (z4b z4v (by decide) HROW.out).1 (z4b z4v (by decide) HROW.out).2.1 (z4b z4v (by decide) HROW.out).2.2 (z2i q1c AL) (by omega) ?_)
     intro p8 c8 W8 g1 g2 g3
     clear u0
     have hb8:Below W1.heap.size W1 W8:=g2.below HB24.out HB24.out.size fun k hk=>by cases hk
     have HB8:=hid hb8
     have HK8:Hid (∀ k,(Value.slice p8 ln c8).ownBlock=some k→W1.heap.size≤k):=hid fun k hk=>by
      have hk':=g3 k (by simpa using hk)
      rcases hk' with h | h
      · cases h
      · first | exact Nat.le_trans HB24.out.size h | (have h5:=HB24.out.size;simp at h5;omega)
     have HO8:Hid (∀ o,(W8.alloc o).ownsRow 0 71 4 (.slice p8 ln c8) ln (z0t ewd AL)):=hid fun o=>by
      have g1':W8.ownsRow 0 71 4 (.slice p8 ln c8) ln (z0t ewd AL):=by simpa using g1
      exact z9x g1' (Chg.of_below (S:=fun _=>False) ((Below.refl _ _).alloc (Nat.le_refl _) o)) fun _ _ h=>h
     have HB8o:Hid (∀ o,Below W1.heap.size W1 (W8.alloc o)):=hid fun o=>hb8.alloc hb8.size o
     clear g1 g2 g3 hb8 HROW
     have w0:=z0a (j:=0) (z0b H1.out HB8.out) (v:=.int .i64 (yk:Nat)) rfl
     have w1:=z0a (j:=1) (z0b H1.out HB8.out) (v:=.int .i64 yi) rfl
     have w3:=z0a (j:=2) (z0b H1.out HB8.out) (v:=.slice yq ym ycq) rfl
     have w4:=z0a (j:=3) (z0b H1.out HB8.out) (v:=.int .i64 yn) rfl
     go_wp2_with (at_builtin;refine z0j (by decide) Tryz.underlying36 z9n rfl (by omega) rfl _ _ rfl (.slice p8 ln c8) ln (z0t ewd AL) rfl (HO8.out _) _ 1 1 [.int .i64 (yk:Nat),.int .i64 yi,.slice yq ym ycq,.int .i64 yn] rfl rfl (fun h=>by cases h) (q0j W8.heap.size (by simp) (by simp) (by simp) (by simp)) (q0i yk yi (yq,ym,ycq) yn) (by omega) ?_)
     intro p9 c9 W9 g1 g2 g3
     clear w0 w1 w3 w4
     have hb9:Below W1.heap.size W1 W9:=g2.below (HB8o.out _) (HB8o.out _).size HK8.out
     have HB9:=hid hb9
     have HK9:Hid (∀ k,(Value.slice p9 (ln+1) c9).ownBlock=some k→w.heap.size+3≤k):=hid fun k hk=>by
      rcases g3 k hk with h | h
      · exact Nat.le_trans hs4 (HK8.out k h)
      · refine Nat.le_trans hs4 (Nat.le_trans HB8.out.size ?_)
        first | omega | (simp at h;omega)
     have HO9:=hid g1
     clear g1 g2 g3 hb9
     have gA:=z0b H0.out HB9.out
     have gR:=z0b H2.out HB9.out
     have b0:=z0a (j:=0) gA (v:=.slice p n c) rfl
     have b1:=z0a (j:=1) gA (v:=.int .i64 (s:Nat)) rfl
     have b2:=z0a (j:=2) gA (v:=.slice tp n1 tc) rfl
     have b3:=z0a (j:=3) gA (v:=.int .i64 (F1:Nat)) rfl
     have b4:=z0a (j:=4) gA (v:=.int .i64 (z:Nat)) rfl
     have b5:=z0a (j:=5) gA (v:=.slice lp ln lc) rfl
     have b6:=z0a (j:=6) gA (v:=.int .i64 (M:Nat)) rfl
     have y0:=z0a (j:=0) gR (v:=.slice none 0 0) rfl
     have y1:=z0a (j:=1) gR (v:=.int .i64 0) rfl
     have y2:=z0a (j:=2) gR (v:=.slice none 0 0) rfl
     have y3:=z0a (j:=3) gR (v:=.int .i64 0) rfl
     have y4:=z0a (j:=4) gR (v:=.int .i64 0) rfl
     have y5:=z0a (j:=5) gR (v:=.slice none 0 0) rfl
     have y6:=z0a (j:=6) gR (v:=.int .i64 0) rfl
     have z0:=z0c 0 gR
     have z1:=z0c 1 gR
     have z2:=z0c 2 gR
     have z3:=z0c 3 gR
     have z4:=z0c 4 gR
     have z5:=z0c 5 gR
     have z6:=z0c 6 gR
     have HP:=hid (z3s (.slice p n c) (.int .i64 (s:Nat)) (.slice tp n1 tc) (.int .i64 (F1:Nat)) (.int .i64 (z:Nat)) (.slice p9 (ln+1) c9) (.int .i64 (M:Nat)) gR)
     clear gA gR
     go_wp2_with fail
     refine bodyPost_ret (v:=.tuple #[.agg (rdc p n c s tp n1 tc F1 z p9 (ln+1) c9 M),.int .i64 0]) ?_ rfl ?_
     · exact z4e rfl _ _ (w.heap.size+1+1) _ _ rfl rfl HP.out.1 rfl
     · have hh:=HTAIL.out p9 c9 W9 _ hwe (HBW.out.trans (HB9.out.mono HBW.out.size)) (Nat.le_trans hs4 HB9.out.size) (by rw [z1o,z3t,HEW.out];exact HO9.out) HK9.out HP.out.2
       exact hh
end Go.Proofs.YtfdgnniicjdjdaaGreatDoor
