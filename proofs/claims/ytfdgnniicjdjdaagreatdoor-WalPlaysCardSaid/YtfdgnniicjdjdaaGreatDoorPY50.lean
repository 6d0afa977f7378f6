import Derived.Test.YtfdgnniicjdjdaaGreatDoorPY99
import Derived.Test.YtfdgnniicjdjdaaGreatDoorPY44
import Derived.Test.YtfdgnniicjdjdaaGreatDoorPY49
namespace Go.Proofs.YtfdgnniicjdjdaaGreatDoor
open Go.Lib (hid)
set_option maxHeartbeats 16000000
open Go.RowKit Go.ChangeShapes Go.WideShapes
set_option linter.unusedVariables false
set_option linter.unusedSimpArgs false
set_option maxRecDepth 10000
def GivesF (W:World) (F:List Nat) (e:Ending) (w':World):Prop:=∃ p c,e=.returned (.slice p F.length c)∧Sl w' p F.length c F∧c≤maxLen∧Below W.heap.size W w'∧∀ a,p=some a→W.heap.size≤a.block
theorem rframe_any (r:Rv) (L:List Ln) (T:List Tk) (M:List Ln) (W:World) (hP:RvM W r L T M) (hok:Rxok (r.x L T M)) (h1:r.ln≤20∧r.tn≤30∧r.wn≤20) (hg:z1k (r.x L T M)=true):Calls Tryz.prog 66 #[.agg (rcs r)] W (GivesF W (frmX (r.x L T M))):=by
 obtain⟨W1,hW1,hb1⟩:∃ W1,W.alloc (.cells (rcs r) 51)=W1∧Below W.heap.size W W1:=⟨_,rfl,(Below.refl _ _).alloc (Nat.le_refl _) _⟩
 obtain⟨X,hX⟩:∃ X,W.heap.size=X:=⟨_,rfl⟩
 have hrb:=RB.new W r
 rw [hW1,hX] at hrb
 have hby:=rrec_bytes r L T M W1 (hP.later hb1) hok h1 hg
 have hgd:=z5w hg
 have HF:Hid (putL (z0n (r.x L T M))=frmX (r.x L T M)∧putE (z0n (r.x L T M))=0):=hid (z6u hgd.1)
 have HL:Hid ((z0n (r.x L T M)).length≤407):=hid hgd.2.2
 have HR:=hid hrb
 have HW:=hid hW1
 have HX:=hid hX
 have HB:=hid hb1
 clear hP hok h1 hg hW1 hb1 hX hrb hgd
 generalize frmX (r.x L T M)=F at *
 generalize z0n (r.x L T M)=P at *
 go_enter Tryz.func66,Tryz.ntmps66
 go_upto_region 1 with (fail)
 rw [HW.out,HX.out]
 go_wp2_with ((with_reducible refine z1l HR.out ?_ ?_);rfl)
 refine hby.mono ?_
 rintro e w2 ⟨v,rfl,hrow,hb2,hown⟩
 obtain⟨p,c,rfl,hcm,hsl,_⟩:=hrow.sl
 have hpt:=rput_any p P.length c P w2 hsl (by have:=HL.out;omega)
 rw [HF.out.1,HF.out.2] at hpt
 have HB2:=hid (HB.out.trans (hb2.mono HB.out.size))
 generalize P.length=pl at *
 clear hrow hb2 hown hcm hsl hby
 go_wp2_with fail
 refine hpt.mono ?_
 rintro e w3 ⟨p3,c3,rfl,hs3,hb3,hn3,hm3⟩
 have HE:Hid (GivesF W F (.returned (.slice p3 F.length c3)) w3):=hid ⟨p3,c3,rfl,hs3,hm3,HB2.out.trans (hb3.mono HB2.out.size),fun a ha=>Nat.le_trans HB2.out.size (hn3 a ha)⟩
 generalize hfl:F.length=fl at *
 clear hs3 hb3 hn3 hm3 hpt
 go_wp2_with fail
 go_ret
 exact HE.out
theorem results_lp {fn:Func} {P1 P2 P3:Tmp} (h:fn.results=#[.cell P1 40,.tmp P2,.tmp P3]) (tmps:Array Value) (W:World) (R:Nat) (g:Gn) (x y:Value) (hp:tmps.getD P1 undef=.pointer (some ⟨R,0,none⟩)) (hx:tmps.getD P2 undef=x) (hy:tmps.getD P3 undef=y) (hB:LBx W R g) :
 (results fn tmps).run Tryz.prog W=.ok (.tuple #[.agg g.cs,x,y]) W:=by
 have e0:=run_loadVar_row (P:=Tryz.prog) W R 40 40 g.cs (0,0) _ hB Tryz.underlying40 rfl (by kernel_rfl)
 have hp':tmps[P1]?.getD undef=.pointer (some ⟨R,0,none⟩):=by simpa using hp
 have hx':tmps[P2]?.getD undef=x:=by simpa using hx
 have hy':tmps[P3]?.getD undef=y:=by simpa using hy
 simp only [results,h]
 simp [Sem.run_bind,Result.andThen,hp',hx',hy',asAddr,e0]
theorem three_la (w:World) (g:Gn) (r:Rv):∃ W2 X,((w.alloc (.cells g.cs 40)).alloc (.cells (rcs r) 51)).alloc (.cells lgz 40)=W2∧w.heap.size=X∧LBx W2 X g∧RB W2 (X+1) r∧LBx W2 (X+1+1) gn0∧Below w.heap.size w W2∧W2.heap.size=X+3:=by
 obtain⟨h0,h1,h2,h3,h4⟩:=three_boxes w g.cs (rcs r) lgz 40 51 40
 exact⟨_,_,rfl,rfl,h0,h1,h2,h3,h4⟩
theorem rlog_append {g:Gn} {s:LS} {w:World} {Q:Nat→Prop} (h:RlN w Q g s) (hQ:∀ k,w.heap.size≤k→Q k) (hf:s.fin≤900000) (r:Rv) (L:List Ln) (T:List Tk) (M:List Ln) (hP:RvM w r L T M) (hok:Rxok (r.x L T M)) (h1:r.ln≤20∧r.tn≤30∧r.wn≤20) :
 Calls Tryz.prog 23 #[.agg g.cs,.agg (rcs r)] w (GivesLP w Q (s.app (r.x L T M)) (s.appAt (r.x L T M)) (appE (r.x L T M))):=by
 obtain⟨W2,X,hW,hX,hg0,hr0,hz0,hb,hs⟩:=three_la w g r
 have h2:RlN W2 (fun k=>(Q k∧k<X)∧¬ (k=X∨k=X+1+1)) g s:=(h.mono (R:=fun k=>(Q k∧k<X)∧¬ (k=X∨k=X+1+1)) fun k hk hl=>⟨⟨hk,by omega⟩,by omega⟩).later hb
 have hgd:=rrec_good r L T M W2 (hP.later hb) hok ⟨by omega,by omega,by omega⟩
 have HFR:=hid (fun (hg:z1k (r.x L T M)=true) w' (hb':Below W2.heap.size W2 w')=>rframe_any r L T M w' (hP.later (hb.trans (hb'.mono hb.size))) hok h1 hg)
 have HW:=hid hW
 have HX:=hid hX
 have H0:=hid hg0
 have HRB:=hid hr0
 have HZ0:=hid hz0
 have H2:=hid h2
 have HB:=hid hb
 have HS:=hid hs
 have HOK:=hid hok
 have HQ:=hid hQ
 have HFW:Hid (g.wr+g.wn≤900000∧g.wr+g.wn=s.fin):=hid (by rw [h.wr,← h.wn];exact⟨hf,rfl⟩)
 clear hW hX hg0 hr0 hz0 h2 hb h hs hP hok h1 hQ hf
 cases hg:z1k (r.x L T M) with
 | false =>
  rw [hg] at hgd
  have e1:s.app (r.x L T M)=s:=if_neg (by rw [hg];decide)
  have e2:s.appAt (r.x L T M)=0:=if_neg (by rw [hg];decide)
  have e3:appE (r.x L T M)=1:=if_neg (by rw [hg];decide)
  rw [e1,e2,e3]
  clear hg e1 e2 e3
  go_enter Tryz.func23,Tryz.ntmps23
  go_upto_region 1 with (fail)
  rw [HW.out,HX.out]
  go_wp2_with ((with_reducible refine z1l HRB.out ?_ ?_);rfl)
  refine hgd.mono ?_
  rintro e w3 ⟨rfl,hb3⟩
  have G3:Hid (LBx w3 X g):=hid (z0b H0.out hb3)
  have Z3:Hid (LBx w3 (X+1+1) gn0):=hid (z0b HZ0.out hb3)
  have HF:=hid (z6r (Q:=Q) (HB.out.trans (hb3.mono HB.out.size)) (g:=g) (s:=s) (S:=fun k=>k=X∨k=X+1+1) ((H2.out.later hb3).mono (R:=fun k=>Q k∧¬ (k=X∨k=X+1+1)) fun k hk _=>⟨hk.1.1,hk.2⟩) ((Chg.setRow (w:=w3) (g:=X+1+1) (Gn.cs g)).mono (T:=fun k=>k=X∨k=X+1+1) fun k _ hk=>.inr hk) (by intro k hk;have:=HX.out;omega))
  have HZ:=hid (LBx.row Z3.out g)
  clear hb3 hgd
  go_wp2_with (first | ((with_reducible refine z1m G3.out ?_ ?_);rfl) | ((with_reducible refine z1e g Z3.out ?_ ?_ ?_);rfl;rfl))
  refine bodyPost_ret (v:=.tuple #[.agg g.cs,.int .i64 ((0:Nat):Int),.int .i64 1]) ?_ rfl ⟨_,rfl,HF.out⟩
  exact results_lp rfl _ _ (X+1+1) g _ _ rfl rfl rfl HZ.out
 | true =>
  rw [hg] at hgd
  have e1:s.app (r.x L T M)={ s with wb:=s.wb++frmX (r.x L T M) }:=if_pos hg
  have e2:s.appAt (r.x L T M)=s.fin:=if_pos hg
  have e3:appE (r.x L T M)=0:=if_pos hg
  rw [e1,e2,e3]
  have HFR2:=hid (HFR.out hg)
  have hlt:=byt_frm HOK.out
  have hfl:(frmX (r.x L T M)).length≤413:=by
   rw [z8o]
   have:=(z5w hg).2
   omega
  have HLT:=hid hlt
  have HFL:=hid hfl
  clear hg e1 e2 e3 HFR hlt hfl HOK
  generalize frmX (r.x L T M)=F at *
  obtain⟨fl,hfl⟩:∃ l,F.length=l:=⟨_,rfl⟩
  have HFE:=hid hfl
  have hend:=fun w'=>z9y g w' (by have:=HFW.out;omega)
  rw [HFW.out.2] at hend
  obtain⟨fn,hfn⟩:∃ x,s.fin=x:=⟨_,rfl⟩
  rw [hfn] at hend ⊢
  have HEND:=hid hend
  have HWW:Hid (g.wn≤900000):=hid (by have:=HFW.out;omega)
  clear hfl hend
  go_enter Tryz.func23,Tryz.ntmps23
  go_upto_region 1 with (fail)
  rw [HW.out,HX.out]
  go_wp2_with ((with_reducible refine z1l HRB.out ?_ ?_);rfl)
  refine hgd.mono ?_
  rintro e w3 ⟨rfl,hb3⟩
  have G3:Hid (LBx w3 X g):=hid (z0b H0.out hb3)
  have HB3:=hid hb3
  clear hb3 hgd
  go_wp2_with ((with_reducible refine z1m G3.out ?_ ?_);rfl)
  refine (HEND.out _).mono ?_
  rintro e w4 ⟨rfl,hb4⟩
  have HB4:=hid (HB3.out.trans (hb4.mono HB3.out.size))
  have g4:LBx w4 X g:=z0b G3.out hb4
  have c7:=(LBx.at g4).1
  have HRL4:=hid (H2.out.later HB4.out)
  have hbl:=(H2.out.later HB4.out).bl
  have HBL:=hid hbl
  have hcap:=hbl.cap
  clear hb4 g4 G3 hbl HEND HFW
  go_wp2_with (first | (at_builtin;refine z1g rfl _ _ rfl (.slice none 0 0) 0 [] rfl (RowB.nil _) g.wp g.wn g.wc (zi s.wb) rfl HBL.out (by have:=HWW.out;omega) ?_;intro p5 c5 w5 hr5 hc5 hn5 _;rw [Nat.zero_add] at hr5 hn5 ⊢;rw [List.nil_append] at hr5;have HR5:=hid hr5;have HC5:=hid hc5;have HN5:=hid hn5;have HB5:Hid (Below w4.heap.size w4 w5):=hid (Chg.below (Below.refl _ _) (Nat.le_refl _) hc5 fun k hk=>by cases hk);have HRB5:Hid (RB w5 (X+1) r):=hid ((HRB.out.later HB4.out).later HB5.out);have HFR5:=hid (HFR2.out w5 (HB4.out.trans (HB5.out.mono HB4.out.size)));clear hr5 hc5 hn5 c7) | ((with_reducible refine z1l HRB5.out ?_ ?_);rfl))
  refine HFR5.out.mono ?_
  rintro e w6 ⟨p6,c6,rfl,hs6,hm6,hb6,hn6⟩
  rw [HFE.out] at hs6 ⊢
  have HS6:=hid (Sl.bl hs6 hm6)
  have HR6:Hid (RowB w6 (.slice p5 g.wn c5) g.wn (zi s.wb)):=hid (HR5.out.keep (Chg.of_below (S:=fun _=>False) hb6) fun _ _ h=>h)
  have HB6:=hid (HB5.out.trans (hb6.mono HB5.out.size))
  have hcp6:=hs6.cap
  have HOWN:Hid (∀ k,(Value.slice p5 g.wn c5).ownBlock=some k→X+3≤k):=hid fun k hk=>by
   rcases HN5.out k hk with h | h
   · cases h
   · have:=HB4.out.size
     have:=HS.out
     omega
  have HB26:=hid (HB4.out.trans (HB6.out.mono HB4.out.size))
  have G6:Hid (LBx w6 X g):=hid (z0b H0.out HB26.out)
  have Z6:Hid (LBx w6 (X+1+1) gn0):=hid (z0b HZ0.out HB26.out)
  have HRL6:Hid (RlN w6 (fun k=>(Q k∧k<X)∧¬ (k=X∨k=X+1+1)) g s):=hid (H2.out.later HB26.out)
  have HS6L:Hid (X+3≤w6.heap.size):=hid (by have:=HB26.out.size;have:=HS.out;omega)
  have HFINN:Hid (∀ p7 c7 w7,RowB w7 (.slice p7 (g.wn+fl) c7) (g.wn+fl) (zi s.wb++zi F)→Chg (fun k=>(Value.slice p5 g.wn c5).ownBlock=some k) w6 w7→(∀ k,(Value.slice p7 (g.wn+fl) c7).ownBlock=some k→(Value.slice p5 g.wn c5).ownBlock=some k∨w6.heap.size≤k)→LBx w7 X g∧LBx w7 (X+1+1) gn0∧Below w.heap.size w w7∧RlN w7 (fun k=>Q k∧¬ (k=X∨k=X+1+1)) { g with wp:=p7,wn:=g.wn+fl,wc:=c7 } { s with wb:=s.wb++F }):=hid fun p7 c7 w7 hr7 hc7 hn7=>by
   have ho:=HOWN.out
   refine⟨LBx.keep G6.out hc7 fun h=>by have:=ho _ h;omega,LBx.keep Z6.out hc7 fun h=>by have:=ho _ h;omega,hc7.below (HB.out.trans (HB26.out.mono HB.out.size)) (Nat.le_trans HB.out.size HB26.out.size) fun k hk=>by have:=ho k hk;have:=HX.out;omega,?_⟩
   have h6:=HRL6.out.keep hc7 fun k hk hs=>by have:=ho k hs;have:=hk.1.2;omega
   refine⟨h6.rd.mono fun k hk _=>⟨hk.1.1,hk.2⟩,by rw [zi_append];exact hr7.bl,fun h0 a ha=>?_,fun x hx=>?_,h6.wr,h6.su,h6.kp⟩
   · obtain⟨p,c,hv,_,hown,_⟩:=hr7.sl
     injection hv with e1 e2 e3
     have hk:=hown a (by rw [← e1];exact ha)
     have h3:X+3≤a.block:=by
      rcases hn7 _ hk with h | h
      · exact ho _ h
      · exact Nat.le_trans HS6L.out h
     exact⟨HQ.out _ (by have:=HX.out;omega),by omega⟩
   · rcases List.mem_append.1 hx with hx | hx
     · exact h6.lt x hx
     · exact HLT.out x hx
  clear hs6 hm6 hb6 hn6
  go_wp2_with (first | (at_builtin;refine z1g rfl _ _ rfl (.slice p5 g.wn c5) g.wn (zi s.wb) rfl HR6.out p6 fl c6 (zi F) rfl HS6.out (by have:=HWW.out;have:=HFL.out;have:=HFE.out;omega) ?_;intro p7 c7 w7 hr7 hc7 hn7 _;obtain⟨g7,z7,b7,r7⟩:=HFINN.out p7 c7 w7 hr7 hc7 hn7;have x7:=(LBx.at g7).1;have f7:=z0c 7 g7;have H8:=hid (LBx.wt g7 p7 (g.wn+fl) c7);have hc8:Chg (fun k=>k=X) w7 (w7.setCell ⟨X,7,none⟩ (.slice p7 (g.wn+fl) c7)):=(Chg.refl _ w7).setCell _ _ fun _=>rfl;have Z8:=hid (LBx.keep z7 hc8 (by omega));have HF:=hid (z6r (Q:=Q) b7 (S:=fun k=>k=X∨k=X+1+1) r7 ((hc8.mono (T:=fun k=>k=X∨k=X+1+1) fun k _ hk=>.inl hk).trans ((Chg.setRow (w:=w7.setCell ⟨X,7,none⟩ (.slice p7 (g.wn+fl) c7)) (g:=X+1+1) (Gn.cs { g with wp:=p7,wn:=g.wn+fl,wc:=c7 })).mono (T:=fun k=>k=X∨k=X+1+1) fun k _ hk=>.inr hk) fun _ _ h=>h) (by intro k hk;have:=HX.out;omega));have HZ:=hid (LBx.row Z8.out { g with wp:=p7,wn:=g.wn+fl,wc:=c7 });clear hr7 hc7 hn7 g7 z7 b7 r7 hc8) | ((with_reducible refine z1m H8.out ?_ ?_);rfl) | ((with_reducible refine z1e { g with wp:=p7,wn:=g.wn+fl,wc:=c7 } Z8.out ?_ ?_ ?_);rfl;rfl))
  refine bodyPost_ret (v:=.tuple #[.agg (Gn.cs { g with wp:=p7,wn:=g.wn+fl,wc:=c7 }),.int .i64 (fn:Nat),.int .i64 0]) ?_ rfl ⟨_,rfl,HF.out⟩
  exact results_lp rfl _ _ (X+1+1) _ _ _ rfl rfl rfl HZ.out
structure Wq (W w:World) (col:Nat→Nat) (B G X:Nat) (s sr:LS) (g:Gn):Prop where
 zero:∀ k,k<W.heap.size→col k=0
 below:Below W.heap.size W w
 lg:Lg w col B G s
 flat:∀ k,w.heap.size≤k→col k=0
 x0:col X=9
 xw:W.heap.size≤X
 rl:RlN w (fun k=>col k=0∧k≠X) g sr
 box:LBx w X g
theorem Wq.hQ {W w:World} {col:Nat→Nat} {B G X:Nat} {s sr:LS} {g:Gn} (h:Wq W w col B G X s sr g):∀ k,w.heap.size≤k→col k=0∧k≠X:=fun k hk=>⟨h.flat k hk,by have:=z0k h.box;omega⟩
theorem Wq.later {W w w':World} {col:Nat→Nat} {B G X:Nat} {s sr:LS} {g:Gn} (h:Wq W w col B G X s sr g) (hb:Below w.heap.size w w'):Wq W w' col B G X s sr g :=
 ⟨h.zero,h.below.trans (hb.mono h.below.size),h.lg.later hb,fun k hk=>h.flat k (Nat.le_trans hb.size hk),h.x0,h.xw,h.rl.later hb,z0b h.box hb⟩
theorem z6x {col:Nat→Nat} {k:Nat} (h:col k=0∨col k=9):¬ lown col k:=fun ho=>by unfold lown at ho;omega
theorem Wq.act {W w w':World} {col:Nat→Nat} {B G X:Nat} {s s' sr sr2:LS} {g g2:Gn} (h:Wq W w col B G X s sr g) (hr2:RlN w (fun k=>col k=0∧k≠X) g2 sr2) (ht:LT w col B G s' w'):∃ col',Wq W w' col' B G X s' sr g∧RlN w' (fun k=>col' k=0∧k≠X) g2 sr2:=by
 obtain⟨col',he,hg,hc⟩:=ht
 have hxl:=z0k h.box
 have hs:=hc.size
 have hf:=z7f w' col'
 have hk:∀ {g:Gn} {s:LS},RlN w (fun k=>col k=0∧k≠X) g s→RlN w' (fun k=>z7g w' col' k=0∧k≠X) g s:=fun hr=>by
  refine ((hr.mono (R:=fun k=>(col k=0∧k≠X)∧k<w.heap.size) fun k h1 h2=>⟨h1,h2⟩).keep hc fun k hk=>z6x (.inl hk.1.1)).mono fun k hk hl=>⟨?_,hk.1.2⟩
  rw [hf k hl,he k hk.2]
  exact hk.1.1
 refine⟨z7g w' col',⟨fun k hk=>?_,hc.below h.below h.below.size fun k hk=>?_,hg.recol hf,fun k hk=>if_neg (Nat.not_lt.2 hk),?_,h.xw,hk h.rl,(hc.block X hxl (z6x (.inr h.x0))).trans h.box⟩,hk hr2⟩
 · have:=h.below.size
   rw [hf k (by omega),he k (by omega)]
   exact h.zero k hk
 · rcases Nat.lt_or_ge k W.heap.size with h1 | h1
   · exact absurd hk (z6x (.inl (h.zero k h1)))
   · exact h1
 · rw [hf X (by omega),he X hxl]
   exact h.x0
theorem Wq.ref {W w:World} {col:Nat→Nat} {B G X:Nat} {s sr sr':LS} {g g':Gn} (h:Wq W w col B G X s sr g) (hr:RlN w (fun k=>col k=0∧k≠X) g' sr'):Wq W (w.setRow X g'.cs) col B G X s sr' g':=by
 have hc:Chg (fun k=>k=X) w (w.setRow X g'.cs):=Chg.setRow _
 have hs2:=hc.size
 have hX:=h.x0
 refine⟨h.zero,hc.below h.below h.below.size fun k hk=>by have:=h.xw;omega,h.lg.keep hc fun k ho hk=>?_,fun k hk=>h.flat k (by omega),hX,h.xw,hr.keep hc fun k hk hs=>hk.2 hs,LBx.row h.box g'⟩
 subst hk
 rcases ho with ho | ho
 · omega
 · exact z6x (.inr hX) ho
theorem new_lb (w:World) (g:Gn):∃ W N,(w.alloc (.cells lgz 40)).setRow N g.cs=W∧w.heap.size=N∧LBx (w.alloc (.cells lgz 40)) N gn0∧LBx W N g∧Below w.heap.size w W∧W.heap.size=N+1:=by
 have h0:LBx (w.alloc (.cells lgz 40)) w.heap.size gn0:=z0e _ _
 exact⟨_,_,rfl,rfl,h0,LBx.row h0 g,below_setRow ((Below.refl _ _).alloc (Nat.le_refl _) _) (Nat.le_refl _) _,by simp [World.setRow]⟩
theorem Wq.start {W w2 w4 W5:World} {col:Nat→Nat} {B G X:Nat} {s:LS} {g:Gn} (hl:Lh W w2 col B G s) (hr:RlN w4 (fun k=>w2.heap.size≤k) g s) (hb4:Below w2.heap.size w2 w4) (hX:w4.heap.size=X) (hb5:Below w4.heap.size w4 W5) (hx:LBx W5 X g) (hs5:W5.heap.size=X+1):∃ col',Wq W W5 col' B G X s s g:=by
 have hs4:=hb4.size
 have hs2:=hl.below.size
 have hf:Ext w2 col (fun k=>if k=X then 9 else z7g w2 col k):=fun k hk=>by
  show (if k=X then 9 else z7g w2 col k)=_
  rw [if_neg (by omega)]
  exact z7f w2 col k hk
 have hz:∀ k,w2.heap.size≤k→k≠X→(fun k=>if k=X then 9 else z7g w2 col k) k=0:=fun k hk hne=>by
  show (if k=X then 9 else z7g w2 col k)=_
  rw [if_neg hne]
  exact if_neg (Nat.not_lt.2 hk)
 have hb25:=hb4.trans (hb5.mono hs4)
 exact⟨_,fun k hk=>(hf k (by omega)).trans (hl.zero k hk),hl.below.trans (hb25.mono hs2),(hl.lg.recol hf).later hb25,fun k hk=>hz k (by omega) (by omega),if_pos rfl,by omega,(hr.mono (R:=fun k=>(fun k=>if k=X then 9 else z7g w2 col k) k=0∧k≠X) fun k h1 h2=>⟨hz k h1 (by omega),by omega⟩).later hb5,hx⟩
structure Pb (s:LS) (j:Nat):Prop where
 tot:s.d.tot+s.wb.length≤413*j
 fin:s.fin≤413*j
 len:s.d.L.length≤j
 ks:s.kp≤s.su
 sw:s.su≤s.wr
 M:s.d.M≤1048576
 z:0<s.d.z
theorem Pb.nums {s:LS} {j:Nat} (h:Pb s j) (hj:j≤41):s.d.tot+65536≤1000000∧s.fin≤900000∧s.wb.length≤400000∧s.d.L.length≤1000∧s.kp≤s.fin:=by
 have h1:=h.tot
 have h2:=h.fin
 have h3:=h.len
 have h4:=h.ks
 have h5:=h.sw
 refine⟨by omega,by omega,by omega,by omega,?_⟩
 unfold LS.fin at *
 omega
theorem Pb.mono {s:LS} {i j:Nat} (h:Pb s i) (hij:i≤j):Pb s j:=⟨Nat.le_trans h.tot (Nat.mul_le_mul_left _ hij),Nat.le_trans h.fin (Nat.mul_le_mul_left _ hij),Nat.le_trans h.len hij,h.ks,h.sw,h.M,h.z⟩
theorem Pb.app {s:LS} {j:Nat} (h:Pb s j) {X:Rx}:Pb (s.app X) (j+1):=by
 cases hg:z1k X with
 | true =>
  have e:s.app X={ s with wb:=s.wb++frmX X }:=if_pos hg
  have hl:=(z5w hg).2.2
  have h1:=h.tot
  have h2:=h.fin
  rw [e]
  refine⟨?_,?_,Nat.le_trans h.len (Nat.le_succ _),h.ks,h.sw,h.M,h.z⟩
  · show s.d.tot+(s.wb++frmX X).length≤_
    rw [List.length_append,z8o]
    omega
  · show s.wr+(s.wb++frmX X).length≤_
    unfold LS.fin at h2
    rw [List.length_append,z8o]
    omega
 | false =>
  have e:s.app X=s:=if_neg (by rw [hg];decide)
  rw [e]
  exact h.mono (Nat.le_succ _)
theorem Pb.write {s:LS} {j:Nat} (h:Pb s j):Pb s.write (j+1):=by
 by_cases h0:s.wb=[]
 · have e:s.write=s:=if_pos h0
   rw [e]
   exact h.mono (Nat.le_succ _)
 · by_cases hx:s.d.addE (zi s.wb)=0
   · have e:s.write={ s with d:=s.d.add (.grow (zi s.wb)),wb:=[],wr:=s.fin }:=by
      unfold LS.write DS.app
      rw [if_neg h0,if_pos hx,if_pos hx]
     have h1:=h.tot
     have h2:=h.fin
     have h5:=h.sw
     rw [e]
     refine⟨?_,?_,?_,h.ks,?_,h.M,h.z⟩
     · show (s.d.add (.grow (zi s.wb))).tot+0≤_
       rw [z9g]
       show s.d.tot+(zi s.wb).length+0≤_
       rw [q1o]
       omega
     · show s.fin+0≤_
       omega
     · show (s.d.L ++ [_]).length≤_
       rw [List.length_append,List.length_singleton]
       have:=h.len
       omega
     · show s.su≤s.fin
       unfold LS.fin
       omega
   · have e:s.write=s:=by
      unfold LS.write
      rw [if_neg h0,if_neg hx]
     rw [e]
     exact h.mono (Nat.le_succ _)
theorem Pb.sync {s:LS} {j:Nat} (h:Pb s j):Pb s.sync (j+1):=by
 have h1:=sync_tot s.d h.z
 have h2:=h.tot
 have h3:=h.fin
 have h4:=h.ks
 have h5:=h.sw
 refine⟨?_,?_,Nat.zero_le _,?_,Nat.le_refl _,h.M,h.z⟩
 · show s.d.sync.tot+s.wb.length≤_
   omega
 · show s.fin≤_
   omega
 · show s.kp≤s.wr
   omega
theorem Pb.trim {s:LS} {j:Nat} (h:Pb s j) (x:Int):Pb (s.trim x) (j+1):=by
 have h2:=h.tot
 have h3:=h.fin
 refine⟨?_,?_,?_,q2i _ _ _,h.sw,h.M,h.z⟩
 · show (s.d.add (.drop _)).tot+s.wb.length≤_
   rw [z9g]
   show s.d.tot+0+s.wb.length≤_
   omega
 · show s.fin≤_
   omega
 · show (s.d.L ++ [_]).length≤_
   rw [List.length_append,List.length_singleton]
   have:=h.len
   omega
theorem Pb.start (m:Int):Pb (LS.start (DS.new 1 8 64 m) 0 0) 0:=by
 have hz:(DS.new 1 8 64 m).z=64:=by
  show cl 64 64 4096=64
  decide
 have hM:(DS.new 1 8 64 m).M≤1048576:=by
  show kp m 1048576≤1048576
  have:=q0f m 1048576 (by omega)
  omega
 have hlo:(DS.new 1 8 64 m).lo=0:=Nat.zero_mul _
 have hhi:(DS.new 1 8 64 m).hi=0:=by
  show 0*(DS.new 1 8 64 m).z+0=0
  omega
 have h0:kn 0 0 0=0:=by decide
 have e:LS.start (DS.new 1 8 64 m) 0 0=⟨DS.new 1 8 64 m,[],0,0,0⟩:=by
  unfold LS.start
  rw [hlo,hhi,h0,h0,if_neg (by omega)]
 rw [e]
 refine⟨?_,Nat.le_refl _,Nat.le_refl _,Nat.le_refl _,Nat.le_refl _,hM,by rw [hz];omega⟩
 show 0*(DS.new 1 8 64 m).z+0+0+0≤413*0
 omega
section
variable {a:Act} {w:World} {dst:Option Tmp} {x:Operand} {ty:TypeId} {pos:String} {after:Array Edge} {gd:Option (Nat × Bool)}
theorem held_load_rat {g i:Nat} {r:Rv} (hx:a.eval x=.pointer (some ⟨g,i,none⟩)) (hC:∀ j u,(rcs r).toList[j]?=some u→w.cell? ⟨g,i+j,none⟩=some u):(execOp a.eval (Oper.mk dst (.load 51 x) ty pos after gd)).run Tryz.prog w=.ok (.value (.agg (rcs r))) w:=by
 unfold execOp
 simp only [hx,Instr.loadAt,Instr.sureAddr,Sem.run_bind,Sem.run_pure,Result.andThen_ok,z4u (P:=Tryz.prog) w g i 51 (rcs r) _ hC Tryz.underlying51 rfl (by kernel_rfl)]
theorem wp_load_lg {K:Act→World→Prop} {Q:Exit→Act→World→Prop} {B:Nat} {g:Gn} (hx:a.eval x=.pointer (some ⟨B,0,none⟩)) (hC:LBx w B g) (h:K (a.put dst (.agg g.cs)) w):Oper.wp Tryz.prog (Oper.mk dst (.load 40 x) ty pos after gd) a w K Q :=
 wp_load_row 40 x rfl B hx 40 g.cs (0,0) _ hC Tryz.underlying40 rfl (by kernel_rfl) h
end
theorem lt_chg {w w':World} {col:Nat→Nat} {B G:Nat} {s:LS} (h:LT w col B G s w'):Chg (lown col) w w':=by
 obtain⟨_,_,_,hc⟩:=h
 exact hc
theorem law_wplays (mo:Nat) (hmo:mo<65536) (p:Option Addr) (n c:Nat) (H:List Wa) (W:World) (hw:Wd4 W) (ha:AcL W p n c H) :
 Calls Tryz.prog 3 #[.int .u16 (mo:Nat),.slice p n c] W fun e w'=>e=.returned (.bool true)∧Below W.heap.size W w':=by
 have hfw:=wal_few p n c 40 H W (by omega) ha
 have hcap:=ha.row.cap
 have HA:=hid ha
 have HWD:=hid hw
 have HWK:=hid fun w' (hb:Below W.heap.size W w')=>wal_works w' (hw.later hb)
 have k1:IntKind.i64.wrap (mo:Int)=(mo:Int):=by rw [IntKind.wrap_i64];omega
 clear ha hw
 go_enter Tryz.func3,Tryz.ntmps3
 go_wp2_with fail
 refine hfw.mono ?_
 rintro e w1 ⟨t,rfl,hfe,hb1⟩
 have HB1:=hid hb1
 clear hb1 hfw
 cases t with
 | false =>
  have hwk:=HWK.out w1 HB1.out
  clear hfe
  go_wp2_with fail
  refine hwk.mono ?_
  rintro e w2 ⟨rfl,hb2⟩
  have HB2:=hid (HB1.out.trans (hb2.mono HB1.out.size))
  clear hb2 hwk
  go_wp2_with fail
  go_ret
  exact⟨rfl,HB2.out⟩
 | true =>
  obtain⟨hn,hsm⟩:=hfe rfl
  have HSM:=hid hsm
  have hdn:=q0l 1 8 64 (mo:Nat) w1
  clear hfe hsm
  go_wp2_with fail
  refine hdn.mono ?_
  rintro e w2 ⟨B,rfl,hbo,hB,hb2⟩
  obtain⟨col2,he2,hd2⟩:=hbo (fun _=>0) 1 (Nat.le_refl _)
  have hb2':=HB1.out.trans (hb2.mono HB1.out.size)
  have hP0:=Pb.start (mo:Nat)
  have ht0:(DS.new 1 8 64 (mo:Nat)).tot≤413*0:=by
   have h:=hP0.tot
   rw [start_tot] at h
   omega
  have hop:=z9s hd2 (by omega) (by show 0<1000000;omega) 0 0
  have HB2:=hid hb2'
  have HZ2:=hid (fun k hk=>he2 k (Nat.lt_of_lt_of_le hk HB1.out.size):∀ k,k<W.heap.size→col2 k=0)
  have HP0:=hid hP0
  have HT0:=hid ht0
  clear hbo hB hb2 he2 hd2 hb2' hP0 ht0 hdn
  go_wp2_with fail
  refine hop.mono ?_
  rintro e w3 hlb
  obtain⟨G,col3,rfl,hG,h3⟩:=Lh.made (d:=DS.new 1 8 64 (mo:Nat)) HZ2.out HB2.out hlb
  have H3:=hid h3
  have hrn:=rdn_new 1 8 64 mo (by omega) w3
  clear hlb hG h3 hop
  go_wp2_with fail
  refine hrn.mono ?_
  rintro e w4 ⟨D,rfl,hrd,hb4⟩
  have hro:=rlog_open hrd (fun k hk=>Nat.le_trans hb4.size hk) (by have:=HT0.out;omega) (Nat.zero_le _) (by have:=HP0.out.M;exact Nat.le_trans (Nat.le_of_eq (by show (DS.new 1 8 64 (mo:Nat)).M=(LS.start (DS.new 1 8 64 (mo:Nat)) 0 0).d.M;unfold LS.start;dsimp only;split <;> rfl)) this) 0 0
  have HB4:=hid hb4
  clear hrd hb4 hrn
  go_wp2_with fail
  refine hro.mono ?_
  rintro e w5 ⟨g,rfl,hrl,hb5⟩
  obtain⟨W6,X,hW6,hX,h60,h6,hb6,hs6⟩:=new_lb w5 g
  obtain⟨col6,hq6⟩:=Wq.start H3.out hrl (HB4.out.trans (hb5.mono HB4.out.size)) hX hb6 h6 hs6
  generalize LS.start (DS.new 1 8 64 (mo:Nat)) 0 0=s0 at *
  have HQ6:=hid hq6
  have HW6:=hid hW6
  have HX:=hid hX
  have H60:=hid h60
  clear hrl hb5 hW6 hX h60 h6 hb6 hs6 hq6 hro HB4 H3 HT0 HZ2 HB2
  go_wp2_with ((try rw [HX.out]);(with_reducible refine z1e g H60.out ?_ ?_ ?_);rfl;rfl;rw [HW6.out])
  clear HX HW6 H60
  go_loopw [8] (fun i wr=>∃ (j:Nat) (col:Nat→Nat) (s:LS) (g:Gn),j≤n∧i=.int .i64 (j:Nat)∧Hid (Wq W wr col B G X s s g∧Pb s j)) (fun i _=>n-(intOf i).toNat)
  case atStart=>exact⟨0,col6,s0,g,Nat.zero_le _,rfl,hid ⟨HQ6.out,HP0.out⟩⟩
  case round =>
   clear HQ6 HP0
   obtain⟨j,col,s,g,hj,rfl,HR⟩:=hrel
   by_cases hlt:j<n
   · have hlt':(j:Int)<n:=by omega
     obtain⟨b,off,rfl,hbW,xk,xn,hrc,_⟩:=HA.out.at hlt
     obtain⟨⟨hk0,hk1⟩,_,L,T,M,hok,hm⟩:=HA.out.in hlt
     have hsm:=HSM.out j hlt
     generalize H.getD j wa0=y at *
     obtain⟨k,r,xN⟩:=y
     obtain⟨k,rfl⟩:∃ m:Nat,k=(m:Int):=⟨k.toNat,by simp at hk0;omega⟩
     obtain⟨s1,s2,s3⟩:SmW r:=hsm
     have hk5:(k:Int).tmod 5=((k % 5:Nat):Int):=by rw [Int.tmod_eq_emod_of_nonneg (by omega)];omega
     generalize hkk:k % 5=kk at *
     have hk6:kk<5:=by omega
     have hw8:IntKind.u8.wrap (kk:Int)=(kk:Int):=by rw [IntKind.wrap_u8];omega
     have HM:=hid hm
     have HOK:=hid hok
     have HS20:Hid (r.ln≤20∧r.tn≤30∧r.wn≤20):=hid ⟨s1,s2,s3⟩
     have HK:Hid (∀ w',Below W.heap.size W w'→w'.cell? ⟨b,off+j*22,none⟩=some (.int .u8 (k:Nat))):=hid fun w' hb=>(hb.cell hbW).trans xk
     have HXN:Hid (∀ w',Below W.heap.size W w'→w'.cell? ⟨b,off+j*22+21,none⟩=some (.int .i64 xN)):=hid fun w' hb=>(hb.cell hbW).trans xn
     have HRC:Hid (∀ w',Below W.heap.size W w'→∀ i u,(rcs r).toList[i]?=some u→w'.cell? ⟨b,off+j*22+1+i,none⟩=some u):=hid fun w' hb i u hu=>(hb.cell hbW).trans (hrc i u hu)
     obtain⟨n1,n2,n3,n4,n5⟩:=HR.out.2.nums (by omega)
     have HN:Hid (s.d.tot+65536≤1000000∧s.fin≤900000∧s.wb.length≤400000∧s.d.L.length≤1000):=hid ⟨n1,n2,n3,n4⟩
     have HQ:=hid HR.out.1
     have HPB:=hid HR.out.2
     clear hm hok s1 s2 s3 hrc xk xn hkk n1 n2 n3 n4 n5 HR
     have y1:=HK.out wr HQ.out.below
     obtain rfl | hx2:kk=2∨kk≠2:=by omega
     · have HP9:Hid (Pb s.write (j+1)):=hid HPB.out.write
       have hwr:=rlog_write HQ.out.rl HQ.out.hQ (by have:=HN.out.1;omega) HN.out.2.2.2 HPB.out.M (by have:=HN.out.2.1;omega)
       have hwe:∃ er,s.writeE=er:=⟨_,rfl⟩
       obtain⟨er,her⟩:=hwe
       rw [her] at hwr
       have HER:=hid her
       clear her
       go_wp2_with ((with_reducible refine z1m HQ.out.box ?_ ?_);rfl)
       refine hwr.mono ?_
       rintro e w1 ⟨g2,rfl,hr2,hb1⟩
       obtain⟨W2,Y,hW2,hY,h20,h2,hb2,_⟩:=new_lb w1 g2
       have hb12:Below wr.heap.size wr W2:=hb1.trans (hb2.mono hb1.size)
       have hq2:=HQ.out.later hb12
       have hYX:Y≠X∧col Y=0:=by
        have h1:=z0k HQ.out.box
        have h2:=hb1.size
        exact⟨by omega,HQ.out.flat Y (by omega)⟩
       have HQ2:=hid hq2
       have HR2:=hid (hr2.later hb2)
       have HY2:=hid h2
       have HYX:Hid (¬ (lown col Y∨Y=X)):=hid fun h=>h.elim (z6x (.inl hYX.2)) hYX.1
       have HW2:=hid hW2
       have HY:=hid hY
       have H20:=hid h20
       have hww:=wal_write (w:=W2.drew) (hq2.lg.later (Below.refl _ _).drew) (by have:=HN.out.2.1;omega) HN.out.1 (by have:=HN.out.2.2.2;omega)
       rw [HER.out] at hww
       clear hr2 hb1 hW2 hY h20 h2 hb2 hb12 hq2 hYX hwr
       go_wp2_with ((try rw [HY.out]);(with_reducible refine z1e g2 H20.out ?_ ?_ ?_);rfl;rfl;rw [HW2.out])
       have hbd:Hid (Chg (fun k=>lown col k∨k=X) W2 W2.drew):=hid (Chg.of_below (Below.refl _ _).drew)
       refine wp_region_held_drew (S:=fun w'=>Hid (Chg (fun k=>lown col k∨k=X) W2 w')) (by kernel_rfl) hbd (fun hHeld=>?_)
       clear hbd
       refine wpAnyH_take (i:=0) (oi:=⟨some 79,_,_,_,_,_⟩) (v:=.pointer (some ⟨G,0,none⟩)) rfl (by kernel_rfl) (by kernel_rfl) (by kernel_rfl) (fun _ _ _ h=>h) (Or.inl ⟨by rfl,fun w' hw'=>?_⟩) (by assumption) ?_
       · clear hHeld
         go_simp
       simp only [Act.put,sIB,sCZ,sCS]
       refine wpAnyH_take (i:=2) (oi:=⟨some 81,_,_,_,_,_⟩) (v:=.int .i64 er) rfl (by kernel_rfl) (by kernel_rfl) (by kernel_rfl) (fun _ _ _ h=>h) (Or.inl ⟨by rfl,fun w' hw'=>?_⟩) (by assumption) ?_
       · clear hHeld
         go_simp
       simp only [Act.put,sIB,sCZ,sCS]
       refine wpAnyH_take (i:=4) (oi:=⟨some 83,_,_,_,_,_⟩) (v:=.agg g2.cs) rfl (by kernel_rfl) (by kernel_rfl) (by kernel_rfl) (fun _ _ _ h=>h) (Or.inl ⟨by rfl,fun w' hw'=>z2p rfl (LBx.keep HY2.out hw'.out HYX.out)⟩) (by assumption) ?_
       simp only [Act.put,sIB,sCZ,sCS]
       refine wpAnyH_ready (rs:=[1]) (by kernel_rfl) (by simp) (AllReadyH.cons rfl (fun K hK=>?_) AllReadyH.nil)
       go_simp
       go_wp2_with fail
       refine hww.mono ?_
       rintro e v1 ⟨rfl,ht⟩
       obtain⟨colf,hq,hr⟩:=(HQ2.out.later (Below.refl _ _).drew).act (HR2.out.later (Below.refl _ _).drew) ht
       have hc1:Chg (fun k=>lown col k∨k=X) W2 v1:=hHeld.out.trans (lt_chg ht) fun _ _ h=>.inl h
       have HC1:=hid hc1
       have HQV:=hid hq
       have HRV:=hid hr
       go_wp2_with fail
       refine hK.out _ _ HC1 (fun hHeld2=>?_)
       clear hK K hHeld ht hq hr hc1 hww
       have hHeld:=hHeld2
       clear hHeld2
       try simp only [Act.put,sIB,sCZ,sCS]
       refine wpAnyH_take (i:=3) (oi:=⟨some 82,_,_,_,_,_⟩) (v:=.bool true) rfl (by kernel_rfl) (by kernel_rfl) (by kernel_rfl) (fun _ _ _ h=>h) (Or.inl ⟨by rfl,fun w' hw'=>?_⟩) (by assumption) ?_
       · clear hHeld
         go_simp
       simp only [Act.put,sIB,sCZ,sCS]
       refine wpAnyH_take (i:=5) (oi:=⟨some 9,_,_,_,_,_⟩) (v:=.bool true) rfl (by kernel_rfl) (by kernel_rfl) (by kernel_rfl) (fun _ _ _ h=>h) (Or.inl ⟨by rfl,fun w' hw'=>?_⟩) (by assumption) ?_
       · clear hHeld
         go_simp
       simp only [Act.put,sIB,sCZ,sCS]
       refine wpAnyH_ready (rs:=[6]) (by kernel_rfl) (by simp) (AllReadyH.cons rfl (fun K hK=>?_) AllReadyH.nil)
       rw [if_pos (by rfl)]
       refine wp_store_row 40 _ _ rfl X (Gn.cs g2) rfl rfl 40 _ HQV.out.box (by kernel_rfl) rfl (Gn.one _) ?_
       have HQ9:=hid (HQV.out.ref HRV.out)
       have HC2:Hid (Chg (fun k=>lown col k∨k=X) W2 (v1.setRow X g2.cs)):=hid (HC1.out.trans (Chg.setRow _) fun _ _ h=>.inr h)
       refine hK.out _ _ HC2 (fun hHeld2=>?_)
       clear hK K hHeld
       have hHeld:=hHeld2
       clear hHeld2
       try simp only [Act.put,sIB,sCZ,sCS]
       refine wpAnyH_done (by kernel_rfl) ?_ _
       clear hHeld HC2 HC1 HQV HRV
       generalize v1.setRow X g2.cs=V at *
       have hnum:=HP9.out.nums (by omega)
       have hsame:=z4x HQ9.out.lg HQ9.out.rl (by omega) (by omega) hnum.2.2.2.2
       clear hnum
       go_wp2_with ((with_reducible refine z2l HQ9.out.box ?_ ?_ ?_);rfl;rfl)
       refine hsame.mono ?_
       rintro e v9 ⟨rfl,hb9⟩
       have HQ10:=hid (HQ9.out.later hb9)
       clear hsame hb9
       go_wp2_with fail
       go_roundw
       case rel=>exact⟨j+1,_,_,_,by omega,by go_num,hid ⟨HQ10.out,HP9.out⟩⟩
       case measure=>simp [intOf];omega
     obtain rfl | hx3:kk=3∨kk≠3:=by omega
     · have HP9:Hid (Pb s.sync (j+1)):=hid HPB.out.sync
       have hsy:=wal_sync HQ.out.lg (by have:=HN.out.1;omega) (by have:=HN.out.2.2.2;omega)
       clear hx2
       go_wp2_with fail
       refine hsy.mono ?_
       rintro e v1 ⟨rfl,ht⟩
       obtain⟨colf,hq,_⟩:=HQ.out.act HQ.out.rl ht
       have hrs:=rlog_sync hq.rl hq.hQ (by have:=HN.out.1;omega)
       have HQV:=hid hq
       clear ht hq hsy
       go_wp2_with ((with_reducible refine z1m HQV.out.box ?_ ?_);rfl)
       refine hrs.mono ?_
       rintro e v2 ⟨g2,rfl,hr2,hb2⟩
       have hq2:=HQV.out.later hb2
       have HBX:=hid hq2.box
       have hq9:=hq2.ref hr2
       obtain⟨V,hV⟩:∃ V,v2.setRow X g2.cs=V:=⟨_,rfl⟩
       rw [hV] at hq9
       have HV:=hid hV
       have HQ9:=hid hq9
       clear hr2 hb2 hq2 hV hq9 hrs
       have hnum:=HP9.out.nums (by omega)
       have hsame:=z4x HQ9.out.lg HQ9.out.rl (by omega) (by omega) hnum.2.2.2.2
       clear hnum
       go_wp2_with (first | ((with_reducible refine z1e g2 HBX.out ?_ ?_ ?_);rfl;rfl;rw [HV.out]) | ((with_reducible refine z2l HQ9.out.box ?_ ?_ ?_);rfl;rfl))
       refine hsame.mono ?_
       rintro e v9 ⟨rfl,hb9⟩
       have HQ10:=hid (HQ9.out.later hb9)
       clear hsame hb9
       go_wp2_with fail
       go_roundw
       case rel=>exact⟨j+1,_,_,_,by omega,by go_num,hid ⟨HQ10.out,HP9.out⟩⟩
       case measure=>simp [intOf];omega
     obtain rfl | hx4:kk=4∨kk≠4:=by omega
     · have HP9:Hid (Pb (s.trim xN) (j+1)):=hid (HPB.out.trim xN)
       have hsy:=wal_trim HQ.out.lg (by have:=HN.out.1;omega) (by have:=HN.out.2.2.2;omega) xN
       have y3:=HXN.out wr HQ.out.below
       clear hx2 hx3
       go_wp2_with fail
       refine hsy.mono ?_
       rintro e v1 ⟨rfl,ht⟩
       obtain⟨colf,hq,_⟩:=HQ.out.act HQ.out.rl ht
       have hrs:=rlog_trim (w:=v1.drew) (hq.later (Below.refl _ _).drew).rl (hq.later (Below.refl _ _).drew).hQ (by have:=HN.out.1;omega) HN.out.2.2.2 HPB.out.M HPB.out.ks xN
       have HQV:=hid hq
       have HCN:Hid (∀ w',Chg (fun k=>k=X) v1 w'→w'.cell? ⟨b,off+j*22+21,none⟩=some (.int .i64 xN)):=hid fun w' hc=>HXN.out w' (hc.below HQV.out.below HQV.out.below.size fun k hk=>by have:=HQV.out.xw;omega)
       clear ht hq hsy y3 y1
       go_wp2_with fail
       have hbd:Hid (Chg (fun k=>k=X) v1 v1.drew):=hid (Chg.of_below (Below.refl _ _).drew)
       refine wp_region_held_drew (S:=fun w'=>Hid (Chg (fun k=>k=X) v1 w')) (by kernel_rfl) hbd (fun hHeld=>?_)
       clear hbd
       refine wpAnyH_take (i:=1) (oi:=⟨some 100,_,_,_,_,_⟩) (v:=.slice (some ⟨b,off,none⟩) n c) rfl (by kernel_rfl) (by kernel_rfl) (by kernel_rfl) (fun _ _ _ h=>h) (Or.inl ⟨by rfl,fun w' hw'=>?_⟩) (by assumption) ?_
       · clear hHeld
         go_simp
       simp only [Act.put,sIB,sCZ,sCS]
       refine wpAnyH_take (i:=2) (oi:=⟨some 101,_,_,_,_,_⟩) (v:=.int .i64 (j:Nat)) rfl (by kernel_rfl) (by kernel_rfl) (by kernel_rfl) (fun _ _ _ h=>h) (Or.inl ⟨by rfl,fun w' hw'=>?_⟩) (by assumption) ?_
       · clear hHeld
         go_simp
       simp only [Act.put,sIB,sCZ,sCS]
       refine wpAnyH_take (i:=3) (oi:=⟨some 102,_,_,_,_,_⟩) (v:=.pointer (some ⟨b,off+j*22,none⟩)) rfl (by kernel_rfl) (by kernel_rfl) (by kernel_rfl) (fun _ _ _ h=>h) (Or.inl ⟨by rfl,fun w' hw'=>?_⟩) (by assumption) ?_
       · clear hHeld
         go_simp
       simp only [Act.put,sIB,sCZ,sCS]
       refine wpAnyH_take (i:=4) (oi:=⟨some 103,_,_,_,_,_⟩) (v:=.pointer (some ⟨b,off+j*22+21,none⟩)) rfl (by kernel_rfl) (by kernel_rfl) (by kernel_rfl) (fun _ _ _ h=>h) (Or.inl ⟨by rfl,fun w' hw'=>?_⟩) (by assumption) ?_
       · clear hHeld
         go_simp
       simp only [Act.put,sIB,sCZ,sCS]
       refine wpAnyH_take (i:=5) (oi:=⟨some 104,_,_,_,_,_⟩) (v:=.int .i64 xN) rfl (by kernel_rfl) (by kernel_rfl) (by kernel_rfl) (fun _ _ _ h=>h) (Or.inl ⟨by rfl,fun w' hw'=>?_⟩) (by assumption) ?_
       · have q:=HCN.out w' hw'.out
         clear hHeld
         go_simp
       simp only [Act.put,sIB,sCZ,sCS]
       refine wpAnyH_ready (rs:=[0]) (by kernel_rfl) (by simp) (AllReadyH.cons rfl (fun K hK=>?_) AllReadyH.nil)
       rw [if_pos (by rfl)]
       refine wp_load_lg rfl (HQV.out.later (Below.refl _ _).drew).box ?_
       refine hK.out _ _ hHeld (fun hHeld2=>?_)
       clear hK K hHeld
       have hHeld:=hHeld2
       clear hHeld2
       try simp only [Act.put,sIB,sCZ,sCS]
       refine wpAnyH_ready (rs:=[6]) (by kernel_rfl) (by simp) (AllReadyH.cons rfl (fun K hK=>?_) AllReadyH.nil)
       go_simp
       go_wp2_with fail
       refine hrs.mono ?_
       rintro e v2 ⟨g2,rfl,hr2,hb2⟩
       have hq2:=(HQV.out.later (Below.refl _ _).drew).later hb2
       have HBX:=hid hq2.box
       have HQ9:=hid (hq2.ref hr2)
       have HC1:Hid (Chg (fun k=>k=X) v1 v2):=hid (hHeld.out.trans (Chg.of_below (S:=fun _=>False) hb2) fun _ _ h=>h.elim)
       go_wp2_with fail
       refine hK.out _ _ HC1 (fun hHeld2=>?_)
       clear hK K hHeld hr2 hb2 hq2 hrs
       have hHeld:=hHeld2
       clear hHeld2
       try simp only [Act.put,sIB,sCZ,sCS]
       refine wpAnyH_ready (rs:=[7]) (by kernel_rfl) (by simp) (AllReadyH.cons rfl (fun K hK=>?_) AllReadyH.nil)
       rw [if_pos (by rfl)]
       refine wp_store_row 40 _ _ rfl X (Gn.cs g2) rfl rfl 40 _ HBX.out (by kernel_rfl) rfl (Gn.one _) ?_
       have HC2:Hid (Chg (fun k=>k=X) v1 (v2.setRow X g2.cs)):=hid (HC1.out.trans (Chg.setRow _) fun _ _ h=>h)
       refine hK.out _ _ HC2 (fun hHeld2=>?_)
       clear hK K hHeld
       have hHeld:=hHeld2
       clear hHeld2
       try simp only [Act.put,sIB,sCZ,sCS]
       refine wpAnyH_done (by kernel_rfl) ?_ _
       clear hHeld HC2 HC1 HBX
       generalize v2.setRow X g2.cs=V at *
       have hnum:=HP9.out.nums (by omega)
       have hsame:=z4x HQ9.out.lg HQ9.out.rl (by omega) (by omega) hnum.2.2.2.2
       clear hnum
       go_wp2_with ((with_reducible refine z2l HQ9.out.box ?_ ?_ ?_);rfl;rfl)
       refine hsame.mono ?_
       rintro e v9 ⟨rfl,hb9⟩
       have HQ10:=hid (HQ9.out.later hb9)
       clear hsame hb9
       go_wp2_with fail
       go_roundw
       case rel=>exact⟨j+1,_,_,_,by omega,by go_num,hid ⟨HQ10.out,HP9.out⟩⟩
       case measure=>simp [intOf];omega
     have HP9:Hid (Pb (s.app (r.x L T M)) (j+1)):=hid HPB.out.app
     have hap:=wal_append HQ.out.lg (HWD.out.later HQ.out.below) r L T M (HM.out.later HQ.out.below) HOK.out ⟨by have:=HS20.out;omega,by have:=HS20.out;omega,by have:=HS20.out;omega⟩ (by have:=HN.out.2.1;omega) HN.out.2.2.1
     have hra:=fun (Q:Nat→Prop) (w':World) (hr:RlN w' Q g s) (hQ:∀ k,w'.heap.size≤k→Q k) (hb:Below W.heap.size W w')=>rlog_append hr hQ HN.out.2.1 r L T M (HM.out.later hb) HOK.out HS20.out
     have HRA:=hid hra
     have d2:((kk:Int)==2)=false:=by simp;omega
     have d3:((kk:Int)==3)=false:=by simp;omega
     have d4:((kk:Int)==4)=false:=by simp;omega
     clear hx2 hx3 hx4 hra
     generalize s.app (r.x L T M)=sa at *
     generalize s.appAt (r.x L T M)=at_ at *
     generalize appE (r.x L T M)=er at *
     have y5:=HRC.out wr HQ.out.below
     go_wp2_with ((with_reducible refine wpList_load_rat (r:=r) ?_ (HRC.out wr HQ.out.below) ?_);rfl)
     refine hap.mono ?_
     rintro e v1 ⟨rfl,ht⟩
     obtain⟨colf,hq,_⟩:=HQ.out.act HQ.out.rl ht
     have HQV:=hid hq
     have HCR:Hid (∀ w',Below v1.heap.size v1 w'→∀ i u,(rcs r).toList[i]?=some u→w'.cell? ⟨b,off+j*22+1+i,none⟩=some u):=hid fun w' hb=>HRC.out w' (HQV.out.below.trans (hb.mono HQV.out.below.size))
     clear ht hq hap y1 y5
     go_wp2_with fail
     have hbd:Hid (Below v1.heap.size v1 v1.drew):=hid (Below.refl _ _).drew
     refine wp_region_held_drew (S:=fun w'=>Hid (Below v1.heap.size v1 w')) (by kernel_rfl) hbd (fun hHeld=>?_)
     clear hbd
     refine wpAnyH_take (i:=0) (oi:=⟨some 53,_,_,_,_,_⟩) (v:=.agg g.cs) rfl (by kernel_rfl) (by kernel_rfl) (by kernel_rfl) (fun _ _ _ h=>h) (Or.inl ⟨by rfl,fun w' hw'=>z2p rfl (HQV.out.later hw'.out).box⟩) (by assumption) ?_
     simp only [Act.put,sIB,sCZ,sCS]
     refine wpAnyH_take (i:=1) (oi:=⟨some 54,_,_,_,_,_⟩) (v:=.slice (some ⟨b,off,none⟩) n c) rfl (by kernel_rfl) (by kernel_rfl) (by kernel_rfl) (fun _ _ _ h=>h) (Or.inl ⟨by rfl,fun w' hw'=>?_⟩) (by assumption) ?_
     · clear hHeld
       go_simp
     simp only [Act.put,sIB,sCZ,sCS]
     refine wpAnyH_take (i:=2) (oi:=⟨some 55,_,_,_,_,_⟩) (v:=.int .i64 (j:Nat)) rfl (by kernel_rfl) (by kernel_rfl) (by kernel_rfl) (fun _ _ _ h=>h) (Or.inl ⟨by rfl,fun w' hw'=>?_⟩) (by assumption) ?_
     · clear hHeld
       go_simp
     simp only [Act.put,sIB,sCZ,sCS]
     refine wpAnyH_take (i:=3) (oi:=⟨some 56,_,_,_,_,_⟩) (v:=.pointer (some ⟨b,off+j*22,none⟩)) rfl (by kernel_rfl) (by kernel_rfl) (by kernel_rfl) (fun _ _ _ h=>h) (Or.inl ⟨by rfl,fun w' hw'=>?_⟩) (by assumption) ?_
     · clear hHeld
       go_simp
     simp only [Act.put,sIB,sCZ,sCS]
     refine wpAnyH_take (i:=4) (oi:=⟨some 57,_,_,_,_,_⟩) (v:=.pointer (some ⟨b,off+j*22+1,none⟩)) rfl (by kernel_rfl) (by kernel_rfl) (by kernel_rfl) (fun _ _ _ h=>h) (Or.inl ⟨by rfl,fun w' hw'=>?_⟩) (by assumption) ?_
     · clear hHeld
       go_simp
     simp only [Act.put,sIB,sCZ,sCS]
     refine wpAnyH_take (i:=5) (oi:=⟨some 58,_,_,_,_,_⟩) (v:=.agg (rcs r)) rfl (by kernel_rfl) (by kernel_rfl) (by kernel_rfl) (fun _ _ _ h=>h) (Or.inl ⟨by rfl,fun w' hw'=>held_load_rat rfl (HCR.out w' hw'.out)⟩) (by assumption) ?_
     simp only [Act.put,sIB,sCZ,sCS]
     refine wpAnyH_ready (rs:=[6,11]) (by kernel_rfl) (by simp) (AllReadyH.cons rfl (fun K hK=>?_) (AllReadyH.cons rfl (fun K hK=>?_) AllReadyH.nil))
     · go_simp
       go_wp2_with fail
       refine (HRA.out _ v1.drew (HQV.out.later (Below.refl _ _).drew).rl (HQV.out.later (Below.refl _ _).drew).hQ (HQV.out.later (Below.refl _ _).drew).below).mono ?_
       rintro e v2 ⟨g2,rfl,hr2,hb2⟩
       have HB2:Hid (Below v1.heap.size v1 v2):=hid (hHeld.out.trans (hb2.mono hHeld.out.size))
       have HR2:=hid hr2
       go_wp2_with fail
       refine hK.out _ _ HB2 (fun hHeld2=>?_)
       clear hK K hHeld hr2 hb2
       have hHeld:=hHeld2
       clear hHeld2
       try simp only [Act.put,sIB,sCZ,sCS]
       refine wpAnyH_take (i:=7) (oi:=⟨some 52,_,_,_,_,_⟩) (v:=.tuple #[.agg g2.cs,.int .i64 (at_:Nat),.int .i64 er]) rfl (by kernel_rfl) (by kernel_rfl) (by kernel_rfl) (fun _ _ _ h=>h) (Or.inl ⟨by rfl,fun w' hw'=>?_⟩) (by assumption) ?_
       · clear hHeld
         go_simp
       simp only [Act.put,sIB,sCZ,sCS]
       refine wpAnyH_take (i:=8) (oi:=⟨some 60,_,_,_,_,_⟩) (v:=.agg g2.cs) rfl (by kernel_rfl) (by kernel_rfl) (by kernel_rfl) (fun _ _ _ h=>h) (Or.inl ⟨by rfl,fun w' hw'=>?_⟩) (by assumption) ?_
       · clear hHeld
         go_simp
       simp only [Act.put,sIB,sCZ,sCS]
       refine wpAnyH_take (i:=9) (oi:=⟨some 61,_,_,_,_,_⟩) (v:=.int .i64 (at_:Nat)) rfl (by kernel_rfl) (by kernel_rfl) (by kernel_rfl) (fun _ _ _ h=>h) (Or.inl ⟨by rfl,fun w' hw'=>?_⟩) (by assumption) ?_
       · clear hHeld
         go_simp
       simp only [Act.put,sIB,sCZ,sCS]
       refine wpAnyH_take (i:=10) (oi:=⟨some 62,_,_,_,_,_⟩) (v:=.int .i64 er) rfl (by kernel_rfl) (by kernel_rfl) (by kernel_rfl) (fun _ _ _ h=>h) (Or.inl ⟨by rfl,fun w' hw'=>?_⟩) (by assumption) ?_
       · clear hHeld
         go_simp
       simp only [Act.put,sIB,sCZ,sCS]
       refine wpAnyH_ready (rs:=[11]) (by kernel_rfl) (by simp) (AllReadyH.cons rfl (fun K hK=>?_) AllReadyH.nil)
       go_simp
       obtain⟨Y,hY⟩:∃ Y,v2.heap.size=Y:=⟨_,rfl⟩
       have h30:LBx (v2.alloc (.cells lgz 40)) Y gn0:=by rw [← hY];exact z0e _ _
       have hb3:Below v2.heap.size v2 (v2.alloc (.cells lgz 40)):=(Below.refl _ _).alloc (Nat.le_refl _) _
       have HB3:=hid (HB2.out.trans (hb3.mono HB2.out.size))
       have HYN:Hid (v1.heap.size≤Y):=hid (by rw [← hY];exact HB2.out.size)
       have HR3:Hid (RlN (v2.alloc (.cells lgz 40)) (fun k=>(colf k=0∧k≠X)∧k≠Y) g2 sa):=hid ((HR2.out.mono (R:=fun k=>(colf k=0∧k≠X)∧k≠Y) fun k h1 h2=>⟨h1,by omega⟩).later hb3)
       have H30:=hid h30
       rw [hY]
       refine hK.out _ _ HB3 (fun hHeld2=>?_)
       clear hK K hHeld h30 hb3 hY
       have hHeld:=hHeld2
       clear hHeld2
       try simp only [Act.put,sIB,sCZ,sCS]
       refine wpAnyH_ready (rs:=[12]) (by kernel_rfl) (by simp) (AllReadyH.cons rfl (fun K hK=>?_) AllReadyH.nil)
       rw [if_pos (by rfl)]
       refine wp_store_row 40 _ _ rfl Y (Gn.cs g2) rfl rfl 40 _ H30.out (by kernel_rfl) rfl (Gn.one _) ?_
       have HB4:Hid (Below v1.heap.size v1 (World.setRow (v2.alloc (.cells lgz 40)) Y g2.cs)):=hid ((Chg.setRow _).below HB3.out HB3.out.size fun k hk=>by have:=HYN.out;omega)
       have HR4:Hid (RlN (World.setRow (v2.alloc (.cells lgz 40)) Y g2.cs) (fun k=>colf k=0∧k≠X) g2 sa):=hid ((HR3.out.keep (Chg.setRow _) fun k hk hs=>hk.2 hs).mono fun k hk _=>hk.1)
       have HY4:Hid (LBx (World.setRow (v2.alloc (.cells lgz 40)) Y g2.cs) Y g2):=hid (LBx.row H30.out g2)
       refine hK.out _ _ HB4 (fun hHeld2=>?_)
       clear hK K hHeld
       have hHeld:=hHeld2
       clear hHeld2
       try simp only [Act.put,sIB,sCZ,sCS]
       refine wpAnyH_take (i:=13) (oi:=⟨some 15,_,_,_,_,_⟩) (v:=.int .i64 (at_:Nat)) rfl (by kernel_rfl) (by kernel_rfl) (by kernel_rfl) (fun _ _ _ h=>h) (Or.inl ⟨by rfl,fun w' hw'=>?_⟩) (by assumption) ?_
       · clear hHeld
         go_simp
       simp only [Act.put,sIB,sCZ,sCS]
       refine wpAnyH_take (i:=14) (oi:=⟨some 16,_,_,_,_,_⟩) (v:=.int .i64 er) rfl (by kernel_rfl) (by kernel_rfl) (by kernel_rfl) (fun _ _ _ h=>h) (Or.inl ⟨by rfl,fun w' hw'=>?_⟩) (by assumption) ?_
       · clear hHeld
         go_simp
       simp only [Act.put,sIB,sCZ,sCS]
       refine wpAnyH_done (by kernel_rfl) ?_ _
       clear hHeld
       have hq4:=HQV.out.later HB4.out
       have HQ4:=hid hq4
       have HYX:Hid (Y≠X):=hid (by have:=z0k HQV.out.box;have:=HYN.out;omega)
       clear hq4
       generalize World.setRow _ Y g2.cs=V4 at *
       go_wp2_with fail
       have hbd:Hid (Chg (fun k=>k=X) V4 V4.drew):=hid (Chg.of_below (Below.refl _ _).drew)
       refine wp_region_held_drew (S:=fun w'=>Hid (Chg (fun k=>k=X) V4 w')) (by kernel_rfl) hbd (fun hHeld=>?_)
       clear hbd
       refine wpAnyH_take (i:=0) (oi:=⟨some 63,_,_,_,_,_⟩) (v:=.int .i64 (at_:Nat)) rfl (by kernel_rfl) (by kernel_rfl) (by kernel_rfl) (fun _ _ _ h=>h) (Or.inl ⟨by rfl,fun w' hw'=>?_⟩) (by assumption) ?_
       · clear hHeld
         go_simp
       simp only [Act.put,sIB,sCZ,sCS]
       refine wpAnyH_take (i:=1) (oi:=⟨some 64,_,_,_,_,_⟩) (v:=.int .i64 (at_:Nat)) rfl (by kernel_rfl) (by kernel_rfl) (by kernel_rfl) (fun _ _ _ h=>h) (Or.inl ⟨by rfl,fun w' hw'=>?_⟩) (by assumption) ?_
       · clear hHeld
         go_simp
       simp only [Act.put,sIB,sCZ,sCS]
       refine wpAnyH_take (i:=2) (oi:=⟨some 65,_,_,_,_,_⟩) (v:=.bool true) rfl (by kernel_rfl) (by kernel_rfl) (by kernel_rfl) (fun _ _ _ h=>h) (Or.inl ⟨by rfl,fun w' hw'=>?_⟩) (by assumption) ?_
       · clear hHeld
         go_simp
       simp only [Act.put,sIB,sCZ,sCS]
       refine wpAnyH_take (i:=3) (oi:=⟨some 66,_,_,_,_,_⟩) (v:=.bool true) rfl (by kernel_rfl) (by kernel_rfl) (by kernel_rfl) (fun _ _ _ h=>h) (Or.inl ⟨by rfl,fun w' hw'=>?_⟩) (by assumption) ?_
       · clear hHeld
         go_simp
       simp only [Act.put,sIB,sCZ,sCS]
       refine wpAnyH_take (i:=4) (oi:=⟨some 67,_,_,_,_,_⟩) (v:=.int .i64 er) rfl (by kernel_rfl) (by kernel_rfl) (by kernel_rfl) (fun _ _ _ h=>h) (Or.inl ⟨by rfl,fun w' hw'=>?_⟩) (by assumption) ?_
       · clear hHeld
         go_simp
       simp only [Act.put,sIB,sCZ,sCS]
       refine wpAnyH_take (i:=5) (oi:=⟨some 68,_,_,_,_,_⟩) (v:=.int .i64 er) rfl (by kernel_rfl) (by kernel_rfl) (by kernel_rfl) (fun _ _ _ h=>h) (Or.inl ⟨by rfl,fun w' hw'=>?_⟩) (by assumption) ?_
       · clear hHeld
         go_simp
       simp only [Act.put,sIB,sCZ,sCS]
       refine wpAnyH_take (i:=6) (oi:=⟨some 69,_,_,_,_,_⟩) (v:=.bool true) rfl (by kernel_rfl) (by kernel_rfl) (by kernel_rfl) (fun _ _ _ h=>h) (Or.inl ⟨by rfl,fun w' hw'=>?_⟩) (by assumption) ?_
       · clear hHeld
         go_simp
       simp only [Act.put,sIB,sCZ,sCS]
       refine wpAnyH_take (i:=7) (oi:=⟨some 70,_,_,_,_,_⟩) (v:=.bool true) rfl (by kernel_rfl) (by kernel_rfl) (by kernel_rfl) (fun _ _ _ h=>h) (Or.inl ⟨by rfl,fun w' hw'=>?_⟩) (by assumption) ?_
       · clear hHeld
         go_simp
       simp only [Act.put,sIB,sCZ,sCS]
       refine wpAnyH_take (i:=8) (oi:=⟨some 71,_,_,_,_,_⟩) (v:=.agg g2.cs) rfl (by kernel_rfl) (by kernel_rfl) (by kernel_rfl) (fun _ _ _ h=>h) (Or.inl ⟨by rfl,fun w' hw'=>z2p rfl (LBx.keep HY4.out hw'.out HYX.out)⟩) (by assumption) ?_
       simp only [Act.put,sIB,sCZ,sCS]
       refine wpAnyH_take (i:=9) (oi:=⟨some 9,_,_,_,_,_⟩) (v:=.bool true) rfl (by kernel_rfl) (by kernel_rfl) (by kernel_rfl) (fun _ _ _ h=>h) (Or.inl ⟨by rfl,fun w' hw'=>?_⟩) (by assumption) ?_
       · clear hHeld
         go_simp
       simp only [Act.put,sIB,sCZ,sCS]
       refine wpAnyH_ready (rs:=[10]) (by kernel_rfl) (by simp) (AllReadyH.cons rfl (fun K hK=>?_) AllReadyH.nil)
       rw [if_pos (by rfl)]
       refine wp_store_row 40 _ _ rfl X (Gn.cs g2) rfl rfl 40 _ (HQ4.out.later (Below.refl _ _).drew).box (by kernel_rfl) rfl (Gn.one _) ?_
       have HQ9:=hid ((HQ4.out.later (Below.refl _ _).drew).ref (HR4.out.later (Below.refl _ _).drew))
       have HC2:Hid (Chg (fun k=>k=X) V4 (V4.drew.setRow X g2.cs)):=hid (hHeld.out.trans (Chg.setRow _) fun _ _ h=>h)
       refine hK.out _ _ HC2 (fun hHeld2=>?_)
       clear hK K hHeld
       have hHeld:=hHeld2
       clear hHeld2
       try simp only [Act.put,sIB,sCZ,sCS]
       refine wpAnyH_done (by kernel_rfl) ?_ _
       clear hHeld HC2
       generalize V4.drew.setRow X g2.cs=V at *
       have hnum:=HP9.out.nums (by omega)
       have hsame:=z4x HQ9.out.lg HQ9.out.rl (by omega) (by omega) hnum.2.2.2.2
       clear hnum
       go_wp2_with ((with_reducible refine z2l HQ9.out.box ?_ ?_ ?_);rfl;rfl)
       refine hsame.mono ?_
       rintro e v9 ⟨rfl,hb9⟩
       have HQ10:=hid (HQ9.out.later hb9)
       clear hsame hb9
       go_wp2_with fail
       go_roundw
       case rel=>exact⟨j+1,_,_,_,by omega,by go_num,hid ⟨HQ10.out,HP9.out⟩⟩
       case measure=>simp [intOf];omega
     · go_simp
       obtain⟨Y,hY⟩:∃ Y,v1.heap.size=Y:=⟨_,rfl⟩
       have h20:LBx (v1.drew.alloc (.cells lgz 40)) Y gn0:=by rw [← hY];exact z0e _ _
       have hb2:Below v1.heap.size v1 (v1.drew.alloc (.cells lgz 40)):=hHeld.out.alloc hHeld.out.size _
       have hs2:(v1.drew.alloc (.cells lgz 40)).heap.size=Y+1:=by rw [← hY];simp
       have HB2:=hid hb2
       have H20:=hid h20
       have HYN:Hid (v1.heap.size≤Y):=hid (by omega)
       have hr:=(HQV.out.rl.mono (R:=fun k=>(colf k=0∧k≠X)∧k≠Y) fun k h1 h2=>⟨h1,by omega⟩).later hb2
       have hrc:=HRA.out _ _ hr (fun k hk=>⟨(HQV.out.later hb2).hQ k hk,by omega⟩) (HQV.out.later hb2).below
       have HRCC:=hid hrc
       rw [hY]
       refine hK.out _ _ HB2 (fun hHeld2=>?_)
       clear hK K hHeld h20 hb2 hY hs2 hr hrc
       have hHeld:=hHeld2
       clear hHeld2
       try simp only [Act.put,sIB,sCZ,sCS]
       refine wpAnyH_ready (rs:=[6]) (by kernel_rfl) (by simp) (AllReadyH.cons rfl (fun K hK=>?_) AllReadyH.nil)
       go_simp
       go_wp2_with fail
       refine HRCC.out.mono ?_
       rintro e v3 ⟨g2,rfl,hr2,hb3⟩
       have HB3:Hid (Below v1.heap.size v1 v3):=hid (HB2.out.trans (hb3.mono HB2.out.size))
       have HR3:=hid hr2
       have H30:Hid (LBx v3 Y gn0):=hid (z0b H20.out hb3)
       go_wp2_with fail
       refine hK.out _ _ HB3 (fun hHeld2=>?_)
       clear hK K hHeld hr2 hb3 HRCC
       have hHeld:=hHeld2
       clear hHeld2
       try simp only [Act.put,sIB,sCZ,sCS]
       refine wpAnyH_take (i:=7) (oi:=⟨some 52,_,_,_,_,_⟩) (v:=.tuple #[.agg g2.cs,.int .i64 (at_:Nat),.int .i64 er]) rfl (by kernel_rfl) (by kernel_rfl) (by kernel_rfl) (fun _ _ _ h=>h) (Or.inl ⟨by rfl,fun w' hw'=>?_⟩) (by assumption) ?_
       · clear hHeld
         go_simp
       simp only [Act.put,sIB,sCZ,sCS]
       refine wpAnyH_take (i:=8) (oi:=⟨some 60,_,_,_,_,_⟩) (v:=.agg g2.cs) rfl (by kernel_rfl) (by kernel_rfl) (by kernel_rfl) (fun _ _ _ h=>h) (Or.inl ⟨by rfl,fun w' hw'=>?_⟩) (by assumption) ?_
       · clear hHeld
         go_simp
       simp only [Act.put,sIB,sCZ,sCS]
       refine wpAnyH_take (i:=9) (oi:=⟨some 61,_,_,_,_,_⟩) (v:=.int .i64 (at_:Nat)) rfl (by kernel_rfl) (by kernel_rfl) (by kernel_rfl) (fun _ _ _ h=>h) (Or.inl ⟨by rfl,fun w' hw'=>?_⟩) (by assumption) ?_
       · clear hHeld
         go_simp
       simp only [Act.put,sIB,sCZ,sCS]
       refine wpAnyH_take (i:=10) (oi:=⟨some 62,_,_,_,_,_⟩) (v:=.int .i64 er) rfl (by kernel_rfl) (by kernel_rfl) (by kernel_rfl) (fun _ _ _ h=>h) (Or.inl ⟨by rfl,fun w' hw'=>?_⟩) (by assumption) ?_
       · clear hHeld
         go_simp
       simp only [Act.put,sIB,sCZ,sCS]
       refine wpAnyH_ready (rs:=[12]) (by kernel_rfl) (by simp) (AllReadyH.cons rfl (fun K hK=>?_) AllReadyH.nil)
       rw [if_pos (by rfl)]
       refine wp_store_row 40 _ _ rfl Y (Gn.cs g2) rfl rfl 40 _ H30.out (by kernel_rfl) rfl (Gn.one _) ?_
       have HB4:Hid (Below v1.heap.size v1 (World.setRow v3 Y g2.cs)):=hid ((Chg.setRow _).below HB3.out HB3.out.size fun k hk=>by have:=HYN.out;omega)
       have HR4:Hid (RlN (World.setRow v3 Y g2.cs) (fun k=>colf k=0∧k≠X) g2 sa):=hid ((HR3.out.keep (Chg.setRow _) fun k hk hs=>hk.2 hs).mono fun k hk _=>hk.1)
       have HY4:Hid (LBx (World.setRow v3 Y g2.cs) Y g2):=hid (LBx.row H30.out g2)
       refine hK.out _ _ HB4 (fun hHeld2=>?_)
       clear hK K hHeld
       have hHeld:=hHeld2
       clear hHeld2
       try simp only [Act.put,sIB,sCZ,sCS]
       refine wpAnyH_take (i:=13) (oi:=⟨some 15,_,_,_,_,_⟩) (v:=.int .i64 (at_:Nat)) rfl (by kernel_rfl) (by kernel_rfl) (by kernel_rfl) (fun _ _ _ h=>h) (Or.inl ⟨by rfl,fun w' hw'=>?_⟩) (by assumption) ?_
       · clear hHeld
         go_simp
       simp only [Act.put,sIB,sCZ,sCS]
       refine wpAnyH_take (i:=14) (oi:=⟨some 16,_,_,_,_,_⟩) (v:=.int .i64 er) rfl (by kernel_rfl) (by kernel_rfl) (by kernel_rfl) (fun _ _ _ h=>h) (Or.inl ⟨by rfl,fun w' hw'=>?_⟩) (by assumption) ?_
       · clear hHeld
         go_simp
       simp only [Act.put,sIB,sCZ,sCS]
       refine wpAnyH_done (by kernel_rfl) ?_ _
       clear hHeld
       have hq4:=HQV.out.later HB4.out
       have HQ4:=hid hq4
       have HYX:Hid (Y≠X):=hid (by have:=z0k HQV.out.box;have:=HYN.out;omega)
       clear hq4
       generalize World.setRow _ Y g2.cs=V4 at *
       go_wp2_with fail
       have hbd:Hid (Chg (fun k=>k=X) V4 V4.drew):=hid (Chg.of_below (Below.refl _ _).drew)
       refine wp_region_held_drew (S:=fun w'=>Hid (Chg (fun k=>k=X) V4 w')) (by kernel_rfl) hbd (fun hHeld=>?_)
       clear hbd
       refine wpAnyH_take (i:=0) (oi:=⟨some 63,_,_,_,_,_⟩) (v:=.int .i64 (at_:Nat)) rfl (by kernel_rfl) (by kernel_rfl) (by kernel_rfl) (fun _ _ _ h=>h) (Or.inl ⟨by rfl,fun w' hw'=>?_⟩) (by assumption) ?_
       · clear hHeld
         go_simp
       simp only [Act.put,sIB,sCZ,sCS]
       refine wpAnyH_take (i:=1) (oi:=⟨some 64,_,_,_,_,_⟩) (v:=.int .i64 (at_:Nat)) rfl (by kernel_rfl) (by kernel_rfl) (by kernel_rfl) (fun _ _ _ h=>h) (Or.inl ⟨by rfl,fun w' hw'=>?_⟩) (by assumption) ?_
       · clear hHeld
         go_simp
       simp only [Act.put,sIB,sCZ,sCS]
       refine wpAnyH_take (i:=2) (oi:=⟨some 65,_,_,_,_,_⟩) (v:=.bool true) rfl (by kernel_rfl) (by kernel_rfl) (by kernel_rfl) (fun _ _ _ h=>h) (Or.inl ⟨by rfl,fun w' hw'=>?_⟩) (by assumption) ?_
       · clear hHeld
         go_simp
       simp only [Act.put,sIB,sCZ,sCS]
       refine wpAnyH_take (i:=3) (oi:=⟨some 66,_,_,_,_,_⟩) (v:=.bool true) rfl (by kernel_rfl) (by kernel_rfl) (by kernel_rfl) (fun _ _ _ h=>h) (Or.inl ⟨by rfl,fun w' hw'=>?_⟩) (by assumption) ?_
       · clear hHeld
         go_simp
       simp only [Act.put,sIB,sCZ,sCS]
       refine wpAnyH_take (i:=4) (oi:=⟨some 67,_,_,_,_,_⟩) (v:=.int .i64 er) rfl (by kernel_rfl) (by kernel_rfl) (by kernel_rfl) (fun _ _ _ h=>h) (Or.inl ⟨by rfl,fun w' hw'=>?_⟩) (by assumption) ?_
       · clear hHeld
         go_simp
       simp only [Act.put,sIB,sCZ,sCS]
       refine wpAnyH_take (i:=5) (oi:=⟨some 68,_,_,_,_,_⟩) (v:=.int .i64 er) rfl (by kernel_rfl) (by kernel_rfl) (by kernel_rfl) (fun _ _ _ h=>h) (Or.inl ⟨by rfl,fun w' hw'=>?_⟩) (by assumption) ?_
       · clear hHeld
         go_simp
       simp only [Act.put,sIB,sCZ,sCS]
       refine wpAnyH_take (i:=6) (oi:=⟨some 69,_,_,_,_,_⟩) (v:=.bool true) rfl (by kernel_rfl) (by kernel_rfl) (by kernel_rfl) (fun _ _ _ h=>h) (Or.inl ⟨by rfl,fun w' hw'=>?_⟩) (by assumption) ?_
       · clear hHeld
         go_simp
       simp only [Act.put,sIB,sCZ,sCS]
       refine wpAnyH_take (i:=7) (oi:=⟨some 70,_,_,_,_,_⟩) (v:=.bool true) rfl (by kernel_rfl) (by kernel_rfl) (by kernel_rfl) (fun _ _ _ h=>h) (Or.inl ⟨by rfl,fun w' hw'=>?_⟩) (by assumption) ?_
       · clear hHeld
         go_simp
       simp only [Act.put,sIB,sCZ,sCS]
       refine wpAnyH_take (i:=8) (oi:=⟨some 71,_,_,_,_,_⟩) (v:=.agg g2.cs) rfl (by kernel_rfl) (by kernel_rfl) (by kernel_rfl) (fun _ _ _ h=>h) (Or.inl ⟨by rfl,fun w' hw'=>z2p rfl (LBx.keep HY4.out hw'.out HYX.out)⟩) (by assumption) ?_
       simp only [Act.put,sIB,sCZ,sCS]
       refine wpAnyH_take (i:=9) (oi:=⟨some 9,_,_,_,_,_⟩) (v:=.bool true) rfl (by kernel_rfl) (by kernel_rfl) (by kernel_rfl) (fun _ _ _ h=>h) (Or.inl ⟨by rfl,fun w' hw'=>?_⟩) (by assumption) ?_
       · clear hHeld
         go_simp
       simp only [Act.put,sIB,sCZ,sCS]
       refine wpAnyH_ready (rs:=[10]) (by kernel_rfl) (by simp) (AllReadyH.cons rfl (fun K hK=>?_) AllReadyH.nil)
       rw [if_pos (by rfl)]
       refine wp_store_row 40 _ _ rfl X (Gn.cs g2) rfl rfl 40 _ (HQ4.out.later (Below.refl _ _).drew).box (by kernel_rfl) rfl (Gn.one _) ?_
       have HQ9:=hid ((HQ4.out.later (Below.refl _ _).drew).ref (HR4.out.later (Below.refl _ _).drew))
       have HC2:Hid (Chg (fun k=>k=X) V4 (V4.drew.setRow X g2.cs)):=hid (hHeld.out.trans (Chg.setRow _) fun _ _ h=>h)
       refine hK.out _ _ HC2 (fun hHeld2=>?_)
       clear hK K hHeld
       have hHeld:=hHeld2
       clear hHeld2
       try simp only [Act.put,sIB,sCZ,sCS]
       refine wpAnyH_done (by kernel_rfl) ?_ _
       clear hHeld HC2
       generalize V4.drew.setRow X g2.cs=V at *
       have hnum:=HP9.out.nums (by omega)
       have hsame:=z4x HQ9.out.lg HQ9.out.rl (by omega) (by omega) hnum.2.2.2.2
       clear hnum
       go_wp2_with ((with_reducible refine z2l HQ9.out.box ?_ ?_ ?_);rfl;rfl)
       refine hsame.mono ?_
       rintro e v9 ⟨rfl,hb9⟩
       have HQ10:=hid (HQ9.out.later hb9)
       clear hsame hb9
       go_wp2_with fail
       go_roundw
       case rel=>exact⟨j+1,_,_,_,by omega,by go_num,hid ⟨HQ10.out,HP9.out⟩⟩
       case measure=>simp [intOf];omega
   · obtain rfl:n=j:=by omega
     have HBW:=hid HR.out.1.below
     have hwk:=HWK.out wr HBW.out
     go_wp2_with fail
     refine hwk.mono ?_
     rintro e w9 ⟨rfl,hb9⟩
     have HB9:=hid (HBW.out.trans (hb9.mono HBW.out.size))
     clear hwk hb9
     go_wp2_with fail
     go_ret
     exact⟨rfl,HB9.out⟩
end Go.Proofs.YtfdgnniicjdjdaaGreatDoor
