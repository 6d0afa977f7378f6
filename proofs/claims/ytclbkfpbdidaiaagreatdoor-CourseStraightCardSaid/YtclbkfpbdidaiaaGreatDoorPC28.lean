import Derived.Test.YtclbkfpbdidaiaaGreatDoorPC27
namespace Go.Proofs.YtclbkfpbdidaiaaGreatDoor
open Go.Lib (hid)
set_option maxHeartbeats 16000000
open Go.RowKit Go.ChangeShapes Go.WideShapes
set_option linter.unusedVariables false
set_option linter.unusedSimpArgs false
set_option maxRecDepth 10000
theorem z4l {fn:Func} (h:fn.results=#[.cell 4 34,.tmp 5]) (tmps:Array Value) (W:World) (R:Nat) (c:Cv) (v:Value) (hp:tmps.getD 4 undef=.pointer (some ⟨R,0,none⟩)) (hv:tmps.getD 5 undef=v)
 (hB:CB W R c):(results fn tmps).run Tryz.prog W=.ok (.tuple #[.agg (ccs c),v]) W:=by
 rw [results_cell_tmp h,hp,hv]
 simp [asAddr,Result.andThen,run_loadVar_row W R 34 34 (ccs c) (0,0) _ hB Tryz.underlying34 rfl (by kernel_rfl)]
theorem z6n {fn:Func} (h:fn.results=#[.cell 2 34,.tmp 3]) (tmps:Array Value) (W:World) (R:Nat) (c:Cv) (v:Value) (hp:tmps.getD 2 undef=.pointer (some ⟨R,0,none⟩)) (hv:tmps.getD 3 undef=v)
 (hB:CB W R c):(results fn tmps).run Tryz.prog W=.ok (.tuple #[.agg (ccs c),v]) W:=by
 rw [results_cell_tmp h,hp,hv]
 simp [asAddr,Result.andThen,run_loadVar_row W R 34 34 (ccs c) (0,0) _ hB Tryz.underlying34 rfl (by kernel_rfl)]
def q0p (W:World) (x:Crs) (z:Int) (e:Ending) (w':World):Prop:=∃ (c:Cv) (L:List Ln) (T:List Tk) (M:List Ln),e=.returned (.tuple #[.agg (ccs c),.int .i64 z])∧CvM w' c L T M∧c.x L T M=x∧Below W.heap.size W w'
def NewP (W:World) (p:Rv):Prop:=(∀ a,p.lp=some a→W.heap.size≤a.block)∧(∀ a,p.tp=some a→W.heap.size≤a.block)∧(∀ a,p.wp=some a→W.heap.size≤a.block)
def GivesCrN (W:World) (x:Crs) (z:Int) (e:Ending) (w':World):Prop:=∃ (c:Cv) (L:List Ln) (T:List Tk) (M:List Ln),e=.returned (.tuple #[.agg (ccs c),.int .i64 z])∧CvM w' c L T M∧c.x L T M=x∧Below W.heap.size W w'∧NewP W c.p
theorem GivesCrN.old {W:World} {x:Crs} {z:Int}:∀ (e:Ending) (w':World),GivesCrN W x z e w'→q0p W x z e w':=fun e w' ⟨c,L,T,M,h1,h2,h3,h4,_⟩=>⟨c,L,T,M,h1,h2,h3,h4⟩
def prV (P:Pg) (lp:Option Addr) (lc:Nat) (tp:Option Addr) (tc:Nat) (wp:Option Addr) (wc:Nat):Rv:=⟨0,0,0,0,false,0,0,0,0,0,P.kind,P.order,P.policy,lp,P.lines.length,lc,tp,P.takes.length,tc,wp,P.owes.length,wc,P.sku,P.frm,P.to,P.qty⟩
theorem z5e {w:World} {p:Rv} {L:List Ln} {T:List Tk} {M:List Ln} (h:RvM w p L T M) {R:Nat} (cs:Array Value) (h1:∀ a,p.lp=some a→a.block≠R) (h2:∀ a,p.tp=some a→a.block≠R) (h3:∀ a,p.wp=some a→a.block≠R):RvM (w.setRow R cs) p L T M :=
 ⟨h.l.turn (by simp [World.setRow]) fun _ a ha _=>setRow_other _ _ _ _ (h1 a ha),h.t.turn (by simp [World.setRow]) fun _ a ha _=>setRow_other _ _ _ _ (h2 a ha),h.o.turn (by simp [World.setRow]) fun _ a ha _=>setRow_other _ _ _ _ (h3 a ha)⟩
theorem cr_applyN (c:Cv) (L:List Ln) (T:List Tk) (M:List Ln) (W:World) (hw:Words W) (hP:CvM W c L T M) (hok:Crok (c.x L T M)) (h1:c.p.ln≤400∧c.p.tn≤400∧c.p.wn≤400) (r:Rv) (La:List Ln) (Ta:List Tk) (Ma:List Ln) (hR:RvM W r La Ta Ma) (hrk:Rxok (r.x La Ta Ma)) (h2:r.ln≤400∧r.tn≤400∧r.wn≤400):Calls Tryz.prog 31 #[.agg (ccs c),.agg (rcs r)] W (GivesCrN W (appX (c.x L T M) (r.x La Ta Ma)).1 (appX (c.x L T M) (r.x La Ta Ma)).2):=by
 obtain⟨W1,hW1,hx,hy,hz,hb1⟩:∃ W1,((W.alloc (.cells (ccs c) 34)).alloc (.cells (rcs r) 42)).alloc (.cells #[.int .u32 0,.int .u8 0,.int .u32 0,.int .u8 0,.slice none 0 0,.slice none 0 0,.slice none 0 0,.int .u8 0,.int .u8 0,.int .u8 0,.int .i64 0,.bool false,.int .i64 0,.int .i64 0,.int .u32 0] 34)=W1∧CB W1 W.heap.size c∧RB W1 (W.heap.size+1) r∧CB W1 (W.heap.size+2) cz∧Below W.heap.size W W1:=cr_three W c r
 obtain⟨B,hB⟩:∃ B,W.heap.size=B:=⟨_,rfl⟩
 rw [hB] at hx hy hz
 have HX:=hid hx
 have HY:=hid hy
 have HZ:=hid hz
 have HW1:=hid hW1
 have HB1:=hid hb1
 have HRE:=hid hB
 have hcp:=copy_p2 c.p.pk c.p.od c.p.po c.p.lp c.p.ln c.p.lcp c.p.tp c.p.tn c.p.tcp c.p.wp c.p.wn c.p.wcp c.p.sk c.p.fr c.p.to c.p.q L T M W1 (hP.later hb1) ⟨by omega,by omega,by omega⟩
 have HW:=hid fun w' (hb:Below W.heap.size W w')=>hw.later hb
 have HR:=hid fun w' (hb:Below W.heap.size W w')=>z8j r La Ta Ma w' (hw.later hb) (hR.later hb) hrk h2
 have hll:=hP.l.len
 have htl:=hP.t.len
 have hol:=hP.o.len
 have HL:Hid (L.length≤400∧T.length≤400∧M.length≤400):=hid ⟨by omega,by omega,by omega⟩
 have HOK:=hid hok
 have HRK:=hid hrk
 have hsz:W1.heap.size=B+3:=by
  rw [← hW1]
  simp only [World.alloc,Array.size_push]
  omega
 have HSZ:=hid hsz
 have y0:=hy.at.1
 clear hW1 hx hy hz hb1 hB hw hP hok h1 hR hrk h2 hll htl hol hsz
 go_enter Tryz.func31,Tryz.ntmps31
 go_upto_region 1 with (fail)
 (rw [HW1.out,HRE.out];try rw [show B+1+1=B+2 from rfl])
 go_wp2_with ((with_reducible refine wpList_load_cp HX.out ?_ ?_);rfl)
 refine hcp.mono ?_
 rintro e w2 ⟨lp,lc,tp,tc,wp,wc,rfl,hpm,_,ht2,hb2,hl2,ho2⟩
 obtain⟨p,hp⟩:∃ p,prV ⟨c.p.pk,c.p.od,c.p.po,L,T,M,c.p.sk,c.p.fr,c.p.to,c.p.q⟩ lp lc tp tc wp wc=p:=⟨_,rfl⟩
 have hpc:(#[.int .u8 c.p.pk,.int .u32 c.p.od,.int .u8 c.p.po,.slice lp L.length lc,.slice tp T.length tc,.slice wp M.length wc,.int .u8 c.p.sk,.int .u8 c.p.fr,.int .u8 c.p.to,.int .i64 c.p.q]:Array Value)=pcs p:=by rw [← hp];rfl
 have hq:RvM w2 p L T M:=by rw [← hp];exact hpm
 have HFA:Hid ((∀ a,p.lp=some a→a.block≠B+2)∧(∀ a,p.tp=some a→a.block≠B+2)∧(∀ a,p.wp=some a→a.block≠B+2)):=hid (by
  have h:=HSZ.out
  rw [← hp]
  exact⟨fun a ha=>by have:=hl2 a ha;omega,fun a ha=>by have:=ht2 a ha;omega,fun a ha=>by have:=ho2 a ha;omega⟩)
 have HNP:Hid (NewP W p):=hid (by
  have h:=HSZ.out
  have h2:=HRE.out
  rw [← hp]
  exact⟨fun a ha=>by have:=hl2 a ha;omega,fun a ha=>by have:=ht2 a ha;omega,fun a ha=>by have:=ho2 a ha;omega⟩)
 have HFB:Hid ((∀ a,p.lp=some a→a.block≠B)∧(∀ a,p.tp=some a→a.block≠B)∧(∀ a,p.wp=some a→a.block≠B)):=hid (by
  have h:=HSZ.out
  rw [← hp]
  exact⟨fun a ha=>by have:=hl2 a ha;omega,fun a ha=>by have:=ht2 a ha;omega,fun a ha=>by have:=ho2 a ha;omega⟩)
 have HLN:Hid (p.ln≤400∧p.tn≤400∧p.wn≤400):=hid (by rw [← hp];exact HL.out)
 have HXX:Hid ((c.withP p).x L T M=c.x L T M):=hid (by rw [← hp];rfl)
 dsimp only
 rw [hpc]
 have HX2:=hid (HX.out.later hb2)
 have HY2:=hid (HY.out.later hb2)
 have HZ2:=hid (HZ.out.later hb2)
 have HB2:=hid (HB1.out.trans (hb2.mono HB1.out.size))
 have hc3:Chg (fun k=>k=B) w2 (w2.setRow B (ccs (c.withP p))):=⟨rfl,rfl,rfl,by simp [World.setRow],fun k _ hn=>setRow_other _ _ _ _ hn⟩
 have HX3:Hid (CB (w2.setRow B (ccs (c.withP p))) B (c.withP p)):=hid (HX2.out.set _)
 have HY3:Hid (RB (w2.setRow B (ccs (c.withP p))) (B+1) r):=hid (HY2.out.chg hc3 (by omega))
 have HZ3:Hid (CB (w2.setRow B (ccs (c.withP p))) (B+2) cz):=hid (HZ2.out.chg hc3 (by omega))
 have HB3:Hid (Below W.heap.size W (w2.setRow B (ccs (c.withP p)))):=hid (Chg.below HB2.out HB2.out.size hc3 fun k hk=>by rw [hk];exact Nat.le_of_eq HRE.out)
 have HQ3:Hid (RvM (w2.setRow B (ccs (c.withP p))) p L T M):=hid (z5e hq _ HFB.out.1 HFB.out.2.1 HFB.out.2.2)
 clear hpc hq hp hpm ht2 hb2 hl2 ho2 hc3 HX HY HZ HFB HL hcp y0
 go_upto_region 2 with ((with_reducible refine wpList_store_cp p HX2.out ?_ ?_ ?_);rfl;rfl)
 clear HX2 HY2 HZ2
 generalize w2.setRow B (ccs (c.withP p))=w3 at *
 have hpp:(c.withP p).p=p:=rfl
 obtain⟨cc,hcc⟩:∃ cc,c.withP p=cc:=⟨_,rfl⟩
 rw [hcc] at HX3 HXX hpp
 have HPP:=hid hpp
 have hgd:=q1j cc L T M w3 (HW.out _ HB3.out) (by show RvM w3 cc.p L T M;rw [hpp];exact HQ3.out) (by rw [HXX.out];exact HOK.out) (by rw [hpp];exact HLN.out)
 have HFT:=hid fun w' (hb:Below W.heap.size W w') (hq:RvM w' p L T M) (hg:z3c (cc.x L T M)=true)=>cr_fits cc L T M w' (HW.out _ hb) (by show RvM w' cc.p L T M;rw [HPP.out];exact hq) (by rw [HXX.out];exact HOK.out) (by rw [HPP.out];exact HLN.out) hg r La Ta Ma HRK.out.st
 have HAF:=hid fun w' h1 h2=>cr_after cc r w' h1 h2
 have HAX:=hid (aftV_x cc r L T M La Ta Ma)
 have HAP:=hid ((aftV_p cc r).trans hpp)
 rw [HXX.out] at hgd HFT HAX
 clear hpp hcc
 have HAPP:Hid (appX (c.x L T M) (r.x La Ta Ma)=if z3c (c.x L T M)=false then (c.x L T M,12) else if z1j (r.x La Ta Ma)=false∨r.k=1 then (c.x L T M,1) else if z8h (c.x L T M) (r.x La Ta Ma)=false then (c.x L T M,12) else (z9f (c.x L T M) (r.x La Ta Ma),0)):=hid rfl
 generalize appX (c.x L T M) (r.x La Ta Ma)=A at *
 have HTR:Hid (z3c (c.x L T M)=true→z8h (c.x L T M) (r.x La Ta Ma)=true→(-9223372036854775807≤cc.st∧cc.st<9223372036854775807)∧(r.k=5→0≤cc.tr∧cc.tr<9223372036854775807)):=hid fun hg hf=>by
  have e1:cc.st=(c.x L T M).st:=by rw [← HXX.out];rfl
  have e2:cc.tr=(c.x L T M).tr:=by rw [← HXX.out];rfl
  obtain⟨_,_,g3,g4,g5⟩:=z2x hg
  have hl:=z5s hg HOK.out.P
  refine⟨by rw [e1];omega,fun e=>?_⟩
  have hk:(r.x La Ta Ma).k=5:=e
  unfold z8h at hf
  simp [hk] at hf
  rw [e2]
  exact⟨g5,hf.2⟩
 cases hg:z3c (c.x L T M) with
 | false =>
  rw [hg] at hgd
  have HE:Hid (A=(c.x L T M,12)):=hid (by rw [HAPP.out,if_pos hg])
  clear HAPP hg HFT HAF HAX HAP HTR HR
  go_wp2_with ((with_reducible refine z0f HX3.out ?_ ?_);rfl)
  refine hgd.mono ?_
  rintro e w4 ⟨rfl,h4⟩
  have HX4:=hid (HX3.out.later h4)
  have HY4:=hid (HY3.out.later h4)
  have HZ4:=hid (HZ3.out.later h4)
  have HB4:=hid (HB3.out.trans (h4.mono HB3.out.size))
  have HQ4:=hid (HQ3.out.later h4)
  have HPM4:Hid (RvM (w4.setRow (B+2) _) p L T M):=hid (z5e HQ4.out (ccs cc) HFA.out.1 HFA.out.2.1 HFA.out.2.2)
  clear h4 HX3 HY3 HZ3 HQ3
  clear hgd
  have HZF:=hid (HZ4.out.set (cc))
  go_wp2_with (first | ((with_reducible refine z0f HX4.out ?_ ?_);rfl) | ((with_reducible refine z0p (cc) HZ4.out ?_ ?_ ?_);rfl;rfl))
  (try simp only [Exit.inBlock,Exit.then])
  refine bodyPost_ret (v:=.tuple #[.agg (ccs (cc)),.int .i64 12]) ?_ rfl ?_
  · exact z4l rfl _ _ (B+2) _ _ rfl rfl HZF.out
  · rw [HE.out]
    exact⟨_,L,T,M,rfl,(by show RvM _ cc.p L T M;rw [HPP.out];exact HPM4.out),HXX.out,below_setRow HB4.out (by have:=HRE.out;omega) _,by rw [HPP.out];exact HNP.out⟩
 | true =>
  rw [hg] at hgd
  go_wp2_with ((with_reducible refine z0f HX3.out ?_ ?_);rfl)
  refine hgd.mono ?_
  rintro e w4 ⟨rfl,h4⟩
  have HX4:=hid (HX3.out.later h4)
  have HY4:=hid (HY3.out.later h4)
  have HZ4:=hid (HZ3.out.later h4)
  have HB4:=hid (HB3.out.trans (h4.mono HB3.out.size))
  have HQ4:=hid (HQ3.out.later h4)
  have HPM4:Hid (RvM (w4.setRow (B+2) _) p L T M):=hid (z5e HQ4.out (ccs cc) HFA.out.1 HFA.out.2.1 HFA.out.2.2)
  clear h4 HX3 HY3 HZ3 HQ3
  clear hgd
  go_wp2_with ((with_reducible refine z0j HY4.out ?_ ?_);rfl)
  refine (HR.out _ HB4.out).mono ?_
  cases hx:z1j (r.x La Ta Ma) with
  | false =>
   rintro e w5 ⟨rfl,h5⟩
   have HX5:=hid (HX4.out.later h5)
   have HY5:=hid (HY4.out.later h5)
   have HZ5:=hid (HZ4.out.later h5)
   have HB5:=hid (HB4.out.trans (h5.mono HB4.out.size))
   have HQ5:=hid (HQ4.out.later h5)
   have HPM5:Hid (RvM (w5.setRow (B+2) _) p L T M):=hid (z5e HQ5.out (ccs cc) HFA.out.1 HFA.out.2.1 HFA.out.2.2)
   clear h5 HX4 HY4 HZ4 HQ4
   have HE:Hid (A=(c.x L T M,1)):=hid (by rw [HAPP.out,if_neg (by rw [hg];simp),if_pos (.inl hx)])
   clear HAPP hg hx HFT HAF HAX HAP HTR HR
   go_upto_region 5 with (fail)
   have HZF:=hid (HZ5.out.set (cc))
   go_wp2_with (first | ((with_reducible refine z0f HX5.out ?_ ?_);rfl) | ((with_reducible refine z0p (cc) HZ5.out ?_ ?_ ?_);rfl;rfl))
   (try simp only [Exit.inBlock,Exit.then])
   refine bodyPost_ret (v:=.tuple #[.agg (ccs (cc)),.int .i64 1]) ?_ rfl ?_
   · exact z4l rfl _ _ (B+2) _ _ rfl rfl HZF.out
   · rw [HE.out]
     exact⟨_,L,T,M,rfl,(by show RvM _ cc.p L T M;rw [HPP.out];exact HPM5.out),HXX.out,below_setRow HB5.out (by have:=HRE.out;omega) _,by rw [HPP.out];exact HNP.out⟩
  | true =>
   rintro e w5 ⟨rfl,h5⟩
   have HX5:=hid (HX4.out.later h5)
   have HY5:=hid (HY4.out.later h5)
   have HZ5:=hid (HZ4.out.later h5)
   have HB5:=hid (HB4.out.trans (h5.mono HB4.out.size))
   have HQ5:=hid (HQ4.out.later h5)
   have HPM5:Hid (RvM (w5.setRow (B+2) _) p L T M):=hid (z5e HQ5.out (ccs cc) HFA.out.1 HFA.out.2.1 HFA.out.2.2)
   clear h5 HX4 HY4 HZ4 HQ4
   have y0:=z0a (j:=0) HY5.out (v:=.int .u8 r.k) rfl
   by_cases hk:r.k=1
   · have HE:Hid (A=(c.x L T M,1)):=hid (by rw [HAPP.out,if_neg (by rw [hg];simp),if_pos (.inr hk)])
     rw [hk] at y0
     clear HAPP hg hx HFT HAF HAX HAP HTR HR hk
     go_upto_region 5 with (fail)
     have HZF:=hid (HZ5.out.set (cc))
     go_wp2_with (first | ((with_reducible refine z0f HX5.out ?_ ?_);rfl) | ((with_reducible refine z0p (cc) HZ5.out ?_ ?_ ?_);rfl;rfl))
     (try simp only [Exit.inBlock,Exit.then])
     refine bodyPost_ret (v:=.tuple #[.agg (ccs (cc)),.int .i64 1]) ?_ rfl ?_
     · exact z4l rfl _ _ (B+2) _ _ rfl rfl HZF.out
     · rw [HE.out]
       exact⟨_,L,T,M,rfl,(by show RvM _ cc.p L T M;rw [HPP.out];exact HPM5.out),HXX.out,below_setRow HB5.out (by have:=HRE.out;omega) _,by rw [HPP.out];exact HNP.out⟩
   · have b1:(r.k==1)=false:=beq_false_of_ne hk
     have hff:=HFT.out _ HB5.out HQ5.out hg
     cases hf:z8h (c.x L T M) (r.x La Ta Ma) with
     | false =>
      rw [hf] at hff
      have HE:Hid (A=(c.x L T M,12)):=hid (by rw [HAPP.out,if_neg (by rw [hg];simp),if_neg (by rw [hx];simp [hk]),if_pos hf])
      clear HAPP hg hx HFT HAF HAX HAP HTR HR hk hf
      go_wp2_with (first | ((with_reducible refine z0f HX5.out ?_ ?_);rfl) | ((with_reducible refine z0j HY5.out ?_ ?_);rfl))
      refine hff.mono ?_
      rintro e w6 ⟨rfl,h6⟩
      have HX6:=hid (HX5.out.later h6)
      have HY6:=hid (HY5.out.later h6)
      have HZ6:=hid (HZ5.out.later h6)
      have HB6:=hid (HB5.out.trans (h6.mono HB5.out.size))
      have HQ6:=hid (HQ5.out.later h6)
      have HPM6:Hid (RvM (w6.setRow (B+2) _) p L T M):=hid (z5e HQ6.out (ccs cc) HFA.out.1 HFA.out.2.1 HFA.out.2.2)
      clear h6 HX5 HY5 HZ5 HQ5
      clear hff y0
      go_upto_region 7 with (fail)
      have HZF:=hid (HZ6.out.set (cc))
      go_wp2_with (first | ((with_reducible refine z0f HX6.out ?_ ?_);rfl) | ((with_reducible refine z0p (cc) HZ6.out ?_ ?_ ?_);rfl;rfl))
      (try simp only [Exit.inBlock,Exit.then])
      refine bodyPost_ret (v:=.tuple #[.agg (ccs (cc)),.int .i64 12]) ?_ rfl ?_
      · exact z4l rfl _ _ (B+2) _ _ rfl rfl HZF.out
      · rw [HE.out]
        exact⟨_,L,T,M,rfl,(by show RvM _ cc.p L T M;rw [HPP.out];exact HPM6.out),HXX.out,below_setRow HB6.out (by have:=HRE.out;omega) _,by rw [HPP.out];exact HNP.out⟩
     | true =>
      rw [hf] at hff
      have HE:Hid (A=(z9f (c.x L T M) (r.x La Ta Ma),0)):=hid (by rw [HAPP.out,if_neg (by rw [hg];simp),if_neg (by rw [hx];simp [hk]),if_neg (by rw [hf];simp)])
      have hab:=HTR.out hg hf
      have HAB:=hid hab
      clear HAPP hg hx HFT HTR HR hk hf hab
      go_wp2_with (first | ((with_reducible refine z0f HX5.out ?_ ?_);rfl) | ((with_reducible refine z0j HY5.out ?_ ?_);rfl))
      refine hff.mono ?_
      rintro e w6 ⟨rfl,h6⟩
      have HX6:=hid (HX5.out.later h6)
      have HY6:=hid (HY5.out.later h6)
      have HZ6:=hid (HZ5.out.later h6)
      have HB6:=hid (HB5.out.trans (h6.mono HB5.out.size))
      have HQ6:=hid (HQ5.out.later h6)
      have HPM6:Hid (RvM (w6.setRow (B+2) _) p L T M):=hid (z5e HQ6.out (ccs cc) HFA.out.1 HFA.out.2.1 HFA.out.2.2)
      clear h6 HX5 HY5 HZ5 HQ5
      clear hff y0
      go_wp2_with (first | ((with_reducible refine z0f HX6.out ?_ ?_);rfl) | ((with_reducible refine z0j HY6.out ?_ ?_);rfl))
      refine (HAF.out _ HAB.out.1 HAB.out.2).mono ?_
      generalize aftV cc r=cn at *
      rintro e w7 ⟨rfl,h7⟩
      have HX7:=hid (HX6.out.later h7)
      have HY7:=hid (HY6.out.later h7)
      have HZ7:=hid (HZ6.out.later h7)
      have HB7:=hid (HB6.out.trans (h7.mono HB6.out.size))
      have HQ7:=hid (HQ6.out.later h7)
      have HPM7:Hid (RvM (w7.setRow (B+2) _) p L T M):=hid (z5e HQ7.out (ccs cn) HFA.out.1 HFA.out.2.1 HFA.out.2.2)
      clear h7 HX6 HY6 HZ6 HQ6
      have HZF:=hid (HZ7.out.set (cn))
      go_wp2_with (first | ((with_reducible refine z0f HX7.out ?_ ?_);rfl) | ((with_reducible refine z0p (cn) HZ7.out ?_ ?_ ?_);rfl;rfl))
      (try simp only [Exit.inBlock,Exit.then])
      refine bodyPost_ret (v:=.tuple #[.agg (ccs (cn)),.int .i64 0]) ?_ rfl ?_
      · exact z4l rfl _ _ (B+2) _ _ rfl rfl HZF.out
      · rw [HE.out]
        exact⟨_,L,T,M,rfl,(by show RvM _ cn.p L T M;rw [HAP.out];exact HPM7.out),HAX.out,below_setRow HB7.out (by have:=HRE.out;omega) _,by rw [HAP.out];exact HNP.out⟩
theorem cr_apply (c:Cv) (L:List Ln) (T:List Tk) (M:List Ln) (W:World) (hw:Words W) (hP:CvM W c L T M) (hok:Crok (c.x L T M)) (h1:c.p.ln≤400∧c.p.tn≤400∧c.p.wn≤400) (r:Rv) (La:List Ln) (Ta:List Tk) (Ma:List Ln) (hR:RvM W r La Ta Ma) (hrk:Rxok (r.x La Ta Ma)) (h2:r.ln≤400∧r.tn≤400∧r.wn≤400):Calls Tryz.prog 31 #[.agg (ccs c),.agg (rcs r)] W (q0p W (appX (c.x L T M) (r.x La Ta Ma)).1 (appX (c.x L T M) (r.x La Ta Ma)).2):=by
 exact (cr_applyN c L T M W hw hP hok h1 r La Ta Ma hR hrk h2).mono GivesCrN.old
def z3h (W:World) (Y:List Nat) (e:Ending) (w':World):Prop:=∃ p c,e=.returned (.tuple #[.slice p Y.length c,.int .i64 0])∧Sl w' p Y.length c Y∧Below W.heap.size W w'
theorem z3u {W w:World} {B:Nat} {L:List Nat} (h:WrOk W w B 512 (0,L)) (x:Int) (h0:0≤x∧x≤255) (hl:L.length+1≤512):Calls Tryz.prog 99 #[.pointer (some ⟨B,0,none⟩),.int .u64 x,.int .i64 1] w (z9g W B 512 (0,L++le x.toNat 1)):=by
 refine h.step fun v hv=>?_
 have:=z7d B v L x.toNat 1 w hv (by omega) (by omega) (by omega) hl
 rw [Int.toNat_of_nonneg h0.1] at this
 exact this
theorem z4h {W w:World} {B:Nat} {L:List Nat} (h:WrOk W w B 512 (0,L)) (x:Int) (h0:0≤x∧x≤4294967295) (hl:L.length+4≤512):Calls Tryz.prog 99 #[.pointer (some ⟨B,0,none⟩),.int .u64 x,.int .i64 4] w (z9g W B 512 (0,L++le x.toNat 4)):=by
 refine h.step fun v hv=>?_
 have:=z7d B v L x.toNat 4 w hv (by omega) (by omega) (by omega) hl
 rw [Int.toNat_of_nonneg h0.1] at this
 exact this
theorem wo_int {W w:World} {B:Nat} {L:List Nat} (h:WrOk W w B 512 (0,L)) (q:Int) (hq:In64 q) (hl:L.length+8≤512):Calls Tryz.prog 102 #[.pointer (some ⟨B,0,none⟩),.int .i64 q] w (z9g W B 512 (0,L++le (u64 q) 8)) :=
 h.step fun v hv=>q2o B v L q w hv hq hl
theorem bit_bitN (b:Bool):bit b=bitN b:=rfl
theorem wo_bool {W w:World} {B:Nat} {L:List Nat} (h:WrOk W w B 512 (0,L)) (b:Bool) (hl:L.length+1≤512):Calls Tryz.prog 100 #[.pointer (some ⟨B,0,none⟩),.bool b] w (z9g W B 512 (0,L ++ [bitN b])):=by
 refine h.step fun v hv=>?_
 have:=bool_wr B v 512 (0,L) b w hv (by omega) (by omega) (by dsimp only;omega)
 rwa [z6y (by simpa using hl),bit_bitN] at this
theorem wo_raw {W w:World} {B:Nat} {L:List Nat} (h:WrOk W w B 512 (0,L)) (p:Option Addr) (m c:Nat) (M:List Nat) (hs:Sl w p m c M) (hl:L.length+m≤512):Calls Tryz.prog 101 #[.pointer (some ⟨B,0,none⟩),.slice p m c] w (z9g W B 512 (0,L++M)):=by
 refine h.step fun v hv=>?_
 have:=z8v B v 512 (0,L) w hv p m c M hs (by omega) (by omega) (by dsimp only;omega)
 rwa [z6y (by rw [hs.len];exact hl)] at this
theorem wo_bytes {W w:World} {B:Nat} {L:List Nat} (h:WrOk W w B 512 (0,L)) (p:Option Addr) (m c:Nat) (M:List Nat) (hs:Sl w p m c M) (hl:L.length+(m+2)≤512):Calls Tryz.prog 104 #[.pointer (some ⟨B,0,none⟩),.slice p m c] w (z9g W B 512 (0,L++(le M.length 2++M))):=by
 refine h.step fun v hv=>?_
 have:=bytes_wr B v 512 (0,L) p m c M w hv hs (by omega) (by omega) (by dsimp only;omega) (by omega)
 have e:q1t 512 (0,L) M=(0,L++(le M.length 2++M)):=by
  unfold q1t
  have:=hs.len
  rw [if_neg (by omega),z6y (by rw [List.length_append,z0t];omega)]
 rwa [e] at this
theorem sl_three (x y z:Int) (hx:0≤x∧x≤255) (hy:0≤y∧y≤255) (hz:0≤z∧z≤255) (w:World):Sl (w.alloc (.cells #[.int .u8 x,.int .u8 y,.int .u8 z] 5)) (some ⟨w.heap.size,0,none⟩) 3 3 (keyB (x,y,z)) :=
 ⟨rfl,Nat.le_refl _,(fun h=>by cases h),(fun u hu=>by simp [keyB] at hu;omega),fun _=>⟨_,0,rfl,fun j hj=>by
  match j,hj with
  | 0,_=>simp [keyB];omega
  | 1,_=>simp [keyB];omega
  | 2,_=>simp [keyB];omega⟩⟩
theorem z0v {x:Int} (h:0≤x∧x≤4294967295):IntKind.u64.wrap x=x:=by simp [IntKind.wrap,IntKind.bits,IntKind.signed];omega
theorem rec_write1 (r:Rv) (L:List Ln) (T:List Tk) (M:List Ln) (W:World) (hok:Rxok (r.x L T M)) (hk:r.k=1) (hw:Words W) (hP:RvM W r L T M) (h1:r.ln≤400∧r.tn≤400∧r.wn≤400) (hg:z0l 4 4 (r.pg L T M)=true):Calls Tryz.prog 78 #[.agg (rcs r)] W (z3h W (z0r (r.x L T M))):=by
 obtain⟨W1,hW1,hb1⟩:∃ W1,W.alloc (.cells (rcs r) 42)=W1∧Below W.heap.size W W1:=⟨_,rfl,(Below.refl _ _).alloc (Nat.le_refl _) _⟩
 obtain⟨B,hB⟩:∃ B,W.heap.size=B:=⟨_,rfl⟩
 have hrb:=RB.new W r
 rw [hW1,hB] at hrb
 have HX1:=hid hrb
 have HW1:=hid hW1
 have HB1:=hid hb1
 have HRE:=hid hB
 have c0:W1.cell? ⟨B,0,none⟩=some (.int .u8 r.k):=z0a hrb rfl
 rw [hk] at c0
 clear hW1 hb1 hB hrb
 have HOK:=hid hok
 have u1:=z0v hok.sg
 have u2:=z0v hok.tx
 have u3:IntKind.u64.wrap r.st=r.st:=z0v ⟨hok.st.1,Int.le_trans hok.st.2 (by decide)⟩
 have u4:IntKind.u64.wrap r.o=r.o:=z0v ⟨hok.o.1,Int.le_trans hok.o.2 (by decide)⟩
 change IntKind.u64.wrap r.sg=r.sg at u1
 change IntKind.u64.wrap r.tx=r.tx at u2
 have hpa:=z2q 1 W1
 unfold z1t at hpa
 rw [show ptc 1=#[.bool true,.bool false,.bool false,.bool false,.bool false,.bool true] from rfl] at hpa
 have HEN:=hid (fun W' (hb:Below W.heap.size W W')=>encode_p r.pk r.od r.po r.lp r.ln r.lcp r.tp r.tn r.tcp r.wp r.wn r.wcp r.sk r.fr r.to r.q L T M W' (hw.later hb) (hP.later hb) hok.pg h1)
 have HPF:=hid (pg_few hg)
 have HGG:=hid hg
 clear hw hP h1 hg
 clear hok
 go_enter Tryz.func78,Tryz.ntmps78
 go_upto_region 1 with (fail)
 rw [HW1.out,HRE.out]
 go_wp2_with fail
 refine hpa.mono ?_
 rintro e w2 ⟨rfl,h2⟩
 have HB2:=hid (HB1.out.trans (h2.mono HB1.out.size))
 have HX2:=hid (HX1.out.later h2)
 clear h2 hpa c0
 obtain⟨N2,hN2⟩:∃ n,w2.heap.size=n:=⟨_,rfl⟩
 obtain⟨w3,hwn,hxn,hbn⟩:∃ w3,(w2.alloc (.cells pz 117)).setRow N2 #[.bool true,.bool false,.bool false,.bool false,.bool false,.bool true]=w3∧w3.heap[N2]?=some (.cells #[.bool true,.bool false,.bool false,.bool false,.bool false,.bool true] 117 (0,0))∧Below w2.heap.size w2 w3:=⟨_,rfl,by rw [← hN2];exact setRow_heap _ _ _ _ _ _ (z0c w2 _),below_setRow ((Below.refl _ _).alloc (Nat.le_refl _) _) (by omega) _⟩
 have hx2:=z0c w2 (.cells pz 117)
 rw [hN2] at hx2
 have HPX:=hid hxn
 have HPZ:=hid hx2
 have HBN:=hid hbn
 have HWN:=hid hwn
 have HNN:=hid hN2
 have HS6:Hid ((#[.bool true,.bool false,.bool false,.bool false,.bool false,.bool true]:Array Value).size=6):=hid rfl
 have HA6:Hid ((#[.bool true,.bool false,.bool false,.bool false,.bool false,.bool true]:Array Value).all (·.oneCell')=true):=hid (by simp [Value.oneCell'])
 clear hx2 hxn hbn hwn hN2
 have HB3:=hid (HB2.out.trans (HBN.out.mono HB2.out.size))
 have HX3:=hid (HX2.out.later HBN.out)
 go_wp2_with ((try rw [HNN.out]);(with_reducible refine z0h #[.bool true,.bool false,.bool false,.bool false,.bool false,.bool true] HS6.out HA6.out HPZ.out ?_ ?_ ?_);rfl;rfl;rw [HWN.out])
 refine (z7e w3 w3 512 (Below.refl _ _)).mono ?_
 rintro e w4 ⟨Bw,rfl,hkk⟩
 rw [show lim 512=512 from rfl] at hkk
 have HK4:=hid hkk
 clear hkk
 have gp:=z0b HPX.out HK4.out.below
 have HGX:=hid (HX3.out.later HK4.out.below)
 have p0:w4.cell? ⟨N2,0,none⟩=some (.bool true):=z0a gp rfl
 have p1:w4.cell? ⟨N2,1,none⟩=some (.bool false):=z0a gp rfl
 have p2:w4.cell? ⟨N2,2,none⟩=some (.bool false):=z0a gp rfl
 have p3:w4.cell? ⟨N2,3,none⟩=some (.bool false):=z0a gp rfl
 have p4:w4.cell? ⟨N2,4,none⟩=some (.bool false):=z0a gp rfl
 have p5:w4.cell? ⟨N2,5,none⟩=some (.bool true):=z0a gp rfl
 obtain⟨c0,c1,c2,c3,c4,c5,c6,c7,c8,c9⟩:=HGX.out.at
 rw [hk] at c0
 clear gp
 go_wp2_with fail
 refine (z3u HK4.out 1 (by omega) (by simp)).mono ?_
 rintro e w5 ⟨rfl,hkk⟩
 have HK5:=hid hkk
 clear hkk HK4
 clear p0 p1 p2 p3 p4 p5 c0 c1 c2 c3 c4 c5 c6 c7 c8 c9 HGX
 have gp:=z0b HPX.out HK5.out.below
 have HGX:=hid (HX3.out.later HK5.out.below)
 have p0:w5.cell? ⟨N2,0,none⟩=some (.bool true):=z0a gp rfl
 have p1:w5.cell? ⟨N2,1,none⟩=some (.bool false):=z0a gp rfl
 have p2:w5.cell? ⟨N2,2,none⟩=some (.bool false):=z0a gp rfl
 have p3:w5.cell? ⟨N2,3,none⟩=some (.bool false):=z0a gp rfl
 have p4:w5.cell? ⟨N2,4,none⟩=some (.bool false):=z0a gp rfl
 have p5:w5.cell? ⟨N2,5,none⟩=some (.bool true):=z0a gp rfl
 obtain⟨c0,c1,c2,c3,c4,c5,c6,c7,c8,c9⟩:=HGX.out.at
 rw [hk] at c0
 clear gp
 go_wp2_with fail
 refine (z4h HK5.out r.sg HOK.out.sg (by simp only [List.length_append,List.length_nil,z0t];omega)).mono ?_
 rintro e w6 ⟨rfl,hkk⟩
 have HK6:=hid hkk
 clear hkk HK5
 clear p0 p1 p2 p3 p4 p5 c0 c1 c2 c3 c4 c5 c6 c7 c8 c9 HGX
 have gp:=z0b HPX.out HK6.out.below
 have HGX:=hid (HX3.out.later HK6.out.below)
 have p0:w6.cell? ⟨N2,0,none⟩=some (.bool true):=z0a gp rfl
 have p1:w6.cell? ⟨N2,1,none⟩=some (.bool false):=z0a gp rfl
 have p2:w6.cell? ⟨N2,2,none⟩=some (.bool false):=z0a gp rfl
 have p3:w6.cell? ⟨N2,3,none⟩=some (.bool false):=z0a gp rfl
 have p4:w6.cell? ⟨N2,4,none⟩=some (.bool false):=z0a gp rfl
 have p5:w6.cell? ⟨N2,5,none⟩=some (.bool true):=z0a gp rfl
 obtain⟨c0,c1,c2,c3,c4,c5,c6,c7,c8,c9⟩:=HGX.out.at
 rw [hk] at c0
 clear gp
 go_wp2_with ((with_reducible refine z4g HGX.out ?_ ?_);rfl)
 refine (HEN.out w6 (HB3.out.trans (HK6.out.below.mono HB3.out.size))).mono ?_
 rintro e w7 ⟨hbe,hy⟩
 have hgg:z0l 4 4 ⟨r.pk,r.od,r.po,L,T,M,r.sk,r.fr,r.to,r.q⟩=true:=HGG.out
 rw [if_pos hgg] at hy
 obtain⟨py,cy,rfl,hsy,_,_⟩:=hy
 have HSY:=hid hsy
 have HK7:=hid (HK6.out.later (Chg.of_below (S:=fun _=>False) hbe))
 have hpf:(z3a ⟨r.pk,r.od,r.po,L,T,M,r.sk,r.fr,r.to,r.q⟩).length≤400:=HPF.out
 have HBP:Hid (z3a (r.pg L T M)=z3a ⟨r.pk,r.od,r.po,L,T,M,r.sk,r.fr,r.to,r.q⟩):=hid rfl
 generalize z3a ⟨r.pk,r.od,r.po,L,T,M,r.sk,r.fr,r.to,r.q⟩=Y at *
 generalize hny:Y.length=ny at *
 clear hsy hbe hgg HK6
 clear p0 p1 p2 p3 p4 p5 c0 c1 c2 c3 c4 c5 c6 c7 c8 c9 HGX
 have gp:=z0b HPX.out HK7.out.below
 have HGX:=hid (HX3.out.later HK7.out.below)
 have p0:w7.cell? ⟨N2,0,none⟩=some (.bool true):=z0a gp rfl
 have p1:w7.cell? ⟨N2,1,none⟩=some (.bool false):=z0a gp rfl
 have p2:w7.cell? ⟨N2,2,none⟩=some (.bool false):=z0a gp rfl
 have p3:w7.cell? ⟨N2,3,none⟩=some (.bool false):=z0a gp rfl
 have p4:w7.cell? ⟨N2,4,none⟩=some (.bool false):=z0a gp rfl
 have p5:w7.cell? ⟨N2,5,none⟩=some (.bool true):=z0a gp rfl
 obtain⟨c0,c1,c2,c3,c4,c5,c6,c7,c8,c9⟩:=HGX.out.at
 rw [hk] at c0
 clear gp
 go_wp2_with fail
 have HNY:=hid hny
 clear hny
 refine (wo_bytes HK7.out py ny cy Y HSY.out (by simp only [List.length_append,List.length_nil,z0t];omega)).mono ?_
 rintro e w8 ⟨rfl,hkk⟩
 have HK8:=hid hkk
 clear hkk HK7
 clear p0 p1 p2 p3 p4 p5 c0 c1 c2 c3 c4 c5 c6 c7 c8 c9 HGX
 have gp:=z0b HPX.out HK8.out.below
 have HGX:=hid (HX3.out.later HK8.out.below)
 have p0:w8.cell? ⟨N2,0,none⟩=some (.bool true):=z0a gp rfl
 have p1:w8.cell? ⟨N2,1,none⟩=some (.bool false):=z0a gp rfl
 have p2:w8.cell? ⟨N2,2,none⟩=some (.bool false):=z0a gp rfl
 have p3:w8.cell? ⟨N2,3,none⟩=some (.bool false):=z0a gp rfl
 have p4:w8.cell? ⟨N2,4,none⟩=some (.bool false):=z0a gp rfl
 have p5:w8.cell? ⟨N2,5,none⟩=some (.bool true):=z0a gp rfl
 obtain⟨c0,c1,c2,c3,c4,c5,c6,c7,c8,c9⟩:=HGX.out.at
 rw [hk] at c0
 clear gp
 go_wp2_with fail
 have hbx:(((([]:List Nat)++le ((1:Int)).toNat 1)++le r.sg.toNat 4)++(le Y.length 2++Y))=z0r (r.x L T M):=by
  unfold z0r
  rw [show ((r.x L T M)).k=1 from hk]
  simp [kS,kT,kB,kA,kO,kP,Rv.x,List.append_assoc,HBP.out]
 have hlx:(z0r (r.x L T M)).length≤100000:=by rw [← hbx];simp only [List.length_append,List.length_nil,z0t];have:=HNY.out;omega
 have HKz:Hid (WrOk w3 w8 Bw 512 (0,z0r (r.x L T M))):=hid (by rw [← hbx];exact HK8.out)
 clear hbx HK8
 generalize z0r (r.x L T M)=Z at *
 refine (z3g w3 w8 Bw 512 Z HKz.out hlx).mono ?_
 rintro e w9 ⟨pz',cz,rfl,hbz,hsz,_⟩
 have HF:Hid (z3h W Z (.returned (.tuple #[.slice pz' Z.length cz,.int .i64 0])) w9):=hid ⟨pz',cz,rfl,hsz,HB3.out.trans (hbz.mono HB3.out.size)⟩
 clear hbz hsz hlx
 generalize Z.length=nz at *
 clear p0 p1 p2 p3 p4 p5 c0 c1 c2 c3 c4 c5 c6 c7 c8 c9 HGX
 go_wp2_with fail
 go_ret2
 exact HF.out
theorem rec_write2 (r:Rv) (L:List Ln) (T:List Tk) (M:List Ln) (W:World) (hok:Rxok (r.x L T M)) (hk:r.k=2):Calls Tryz.prog 78 #[.agg (rcs r)] W (z3h W (z0r (r.x L T M))):=by
 obtain⟨W1,hW1,hb1⟩:∃ W1,W.alloc (.cells (rcs r) 42)=W1∧Below W.heap.size W W1:=⟨_,rfl,(Below.refl _ _).alloc (Nat.le_refl _) _⟩
 obtain⟨B,hB⟩:∃ B,W.heap.size=B:=⟨_,rfl⟩
 have hrb:=RB.new W r
 rw [hW1,hB] at hrb
 have HX1:=hid hrb
 have HW1:=hid hW1
 have HB1:=hid hb1
 have HRE:=hid hB
 have c0:W1.cell? ⟨B,0,none⟩=some (.int .u8 r.k):=z0a hrb rfl
 rw [hk] at c0
 clear hW1 hb1 hB hrb
 have HOK:=hid hok
 have u1:=z0v hok.sg
 have u2:=z0v hok.tx
 have u3:IntKind.u64.wrap r.st=r.st:=z0v ⟨hok.st.1,Int.le_trans hok.st.2 (by decide)⟩
 have u4:IntKind.u64.wrap r.o=r.o:=z0v ⟨hok.o.1,Int.le_trans hok.o.2 (by decide)⟩
 change IntKind.u64.wrap r.sg=r.sg at u1
 change IntKind.u64.wrap r.tx=r.tx at u2
 have hpa:=z2q 2 W1
 unfold z1t at hpa
 rw [show ptc 2=#[.bool true,.bool true,.bool true,.bool false,.bool false,.bool false] from rfl] at hpa
 clear hok
 go_enter Tryz.func78,Tryz.ntmps78
 go_upto_region 1 with (fail)
 rw [HW1.out,HRE.out]
 go_wp2_with fail
 refine hpa.mono ?_
 rintro e w2 ⟨rfl,h2⟩
 have HB2:=hid (HB1.out.trans (h2.mono HB1.out.size))
 have HX2:=hid (HX1.out.later h2)
 clear h2 hpa c0
 obtain⟨N2,hN2⟩:∃ n,w2.heap.size=n:=⟨_,rfl⟩
 obtain⟨w3,hwn,hxn,hbn⟩:∃ w3,(w2.alloc (.cells pz 117)).setRow N2 #[.bool true,.bool true,.bool true,.bool false,.bool false,.bool false]=w3∧w3.heap[N2]?=some (.cells #[.bool true,.bool true,.bool true,.bool false,.bool false,.bool false] 117 (0,0))∧Below w2.heap.size w2 w3:=⟨_,rfl,by rw [← hN2];exact setRow_heap _ _ _ _ _ _ (z0c w2 _),below_setRow ((Below.refl _ _).alloc (Nat.le_refl _) _) (by omega) _⟩
 have hx2:=z0c w2 (.cells pz 117)
 rw [hN2] at hx2
 have HPX:=hid hxn
 have HPZ:=hid hx2
 have HBN:=hid hbn
 have HWN:=hid hwn
 have HNN:=hid hN2
 have HS6:Hid ((#[.bool true,.bool true,.bool true,.bool false,.bool false,.bool false]:Array Value).size=6):=hid rfl
 have HA6:Hid ((#[.bool true,.bool true,.bool true,.bool false,.bool false,.bool false]:Array Value).all (·.oneCell')=true):=hid (by simp [Value.oneCell'])
 clear hx2 hxn hbn hwn hN2
 have HB3:=hid (HB2.out.trans (HBN.out.mono HB2.out.size))
 have HX3:=hid (HX2.out.later HBN.out)
 go_wp2_with ((try rw [HNN.out]);(with_reducible refine z0h #[.bool true,.bool true,.bool true,.bool false,.bool false,.bool false] HS6.out HA6.out HPZ.out ?_ ?_ ?_);rfl;rfl;rw [HWN.out])
 refine (z7e w3 w3 512 (Below.refl _ _)).mono ?_
 rintro e w4 ⟨Bw,rfl,hkk⟩
 rw [show lim 512=512 from rfl] at hkk
 have HK4:=hid hkk
 clear hkk
 have gp:=z0b HPX.out HK4.out.below
 have HGX:=hid (HX3.out.later HK4.out.below)
 have p0:w4.cell? ⟨N2,0,none⟩=some (.bool true):=z0a gp rfl
 have p1:w4.cell? ⟨N2,1,none⟩=some (.bool true):=z0a gp rfl
 have p2:w4.cell? ⟨N2,2,none⟩=some (.bool true):=z0a gp rfl
 have p3:w4.cell? ⟨N2,3,none⟩=some (.bool false):=z0a gp rfl
 have p4:w4.cell? ⟨N2,4,none⟩=some (.bool false):=z0a gp rfl
 have p5:w4.cell? ⟨N2,5,none⟩=some (.bool false):=z0a gp rfl
 obtain⟨c0,c1,c2,c3,c4,c5,c6,c7,c8,c9⟩:=HGX.out.at
 rw [hk] at c0
 clear gp
 go_wp2_with fail
 refine (z3u HK4.out 2 (by omega) (by simp)).mono ?_
 rintro e w5 ⟨rfl,hkk⟩
 have HK5:=hid hkk
 clear hkk HK4
 clear p0 p1 p2 p3 p4 p5 c0 c1 c2 c3 c4 c5 c6 c7 c8 c9 HGX
 have gp:=z0b HPX.out HK5.out.below
 have HGX:=hid (HX3.out.later HK5.out.below)
 have p0:w5.cell? ⟨N2,0,none⟩=some (.bool true):=z0a gp rfl
 have p1:w5.cell? ⟨N2,1,none⟩=some (.bool true):=z0a gp rfl
 have p2:w5.cell? ⟨N2,2,none⟩=some (.bool true):=z0a gp rfl
 have p3:w5.cell? ⟨N2,3,none⟩=some (.bool false):=z0a gp rfl
 have p4:w5.cell? ⟨N2,4,none⟩=some (.bool false):=z0a gp rfl
 have p5:w5.cell? ⟨N2,5,none⟩=some (.bool false):=z0a gp rfl
 obtain⟨c0,c1,c2,c3,c4,c5,c6,c7,c8,c9⟩:=HGX.out.at
 rw [hk] at c0
 clear gp
 go_wp2_with fail
 refine (z4h HK5.out r.sg HOK.out.sg (by simp only [List.length_append,List.length_nil,z0t];omega)).mono ?_
 rintro e w6 ⟨rfl,hkk⟩
 have HK6:=hid hkk
 clear hkk HK5
 clear p0 p1 p2 p3 p4 p5 c0 c1 c2 c3 c4 c5 c6 c7 c8 c9 HGX
 have gp:=z0b HPX.out HK6.out.below
 have HGX:=hid (HX3.out.later HK6.out.below)
 have p0:w6.cell? ⟨N2,0,none⟩=some (.bool true):=z0a gp rfl
 have p1:w6.cell? ⟨N2,1,none⟩=some (.bool true):=z0a gp rfl
 have p2:w6.cell? ⟨N2,2,none⟩=some (.bool true):=z0a gp rfl
 have p3:w6.cell? ⟨N2,3,none⟩=some (.bool false):=z0a gp rfl
 have p4:w6.cell? ⟨N2,4,none⟩=some (.bool false):=z0a gp rfl
 have p5:w6.cell? ⟨N2,5,none⟩=some (.bool false):=z0a gp rfl
 obtain⟨c0,c1,c2,c3,c4,c5,c6,c7,c8,c9⟩:=HGX.out.at
 rw [hk] at c0
 clear gp
 go_wp2_with fail
 refine (z4h HK6.out r.tx HOK.out.tx (by simp only [List.length_append,List.length_nil,z0t];omega)).mono ?_
 rintro e w7 ⟨rfl,hkk⟩
 have HK7:=hid hkk
 clear hkk HK6
 clear p0 p1 p2 p3 p4 p5 c0 c1 c2 c3 c4 c5 c6 c7 c8 c9 HGX
 have gp:=z0b HPX.out HK7.out.below
 have HGX:=hid (HX3.out.later HK7.out.below)
 have p0:w7.cell? ⟨N2,0,none⟩=some (.bool true):=z0a gp rfl
 have p1:w7.cell? ⟨N2,1,none⟩=some (.bool true):=z0a gp rfl
 have p2:w7.cell? ⟨N2,2,none⟩=some (.bool true):=z0a gp rfl
 have p3:w7.cell? ⟨N2,3,none⟩=some (.bool false):=z0a gp rfl
 have p4:w7.cell? ⟨N2,4,none⟩=some (.bool false):=z0a gp rfl
 have p5:w7.cell? ⟨N2,5,none⟩=some (.bool false):=z0a gp rfl
 obtain⟨c0,c1,c2,c3,c4,c5,c6,c7,c8,c9⟩:=HGX.out.at
 rw [hk] at c0
 clear gp
 go_wp2_with fail
 refine (z3u HK7.out r.st HOK.out.st (by simp only [List.length_append,List.length_nil,z0t];omega)).mono ?_
 rintro e w8 ⟨rfl,hkk⟩
 have HK8:=hid hkk
 clear hkk HK7
 clear p0 p1 p2 p3 p4 p5 c0 c1 c2 c3 c4 c5 c6 c7 c8 c9 HGX
 have gp:=z0b HPX.out HK8.out.below
 have HGX:=hid (HX3.out.later HK8.out.below)
 have p0:w8.cell? ⟨N2,0,none⟩=some (.bool true):=z0a gp rfl
 have p1:w8.cell? ⟨N2,1,none⟩=some (.bool true):=z0a gp rfl
 have p2:w8.cell? ⟨N2,2,none⟩=some (.bool true):=z0a gp rfl
 have p3:w8.cell? ⟨N2,3,none⟩=some (.bool false):=z0a gp rfl
 have p4:w8.cell? ⟨N2,4,none⟩=some (.bool false):=z0a gp rfl
 have p5:w8.cell? ⟨N2,5,none⟩=some (.bool false):=z0a gp rfl
 obtain⟨c0,c1,c2,c3,c4,c5,c6,c7,c8,c9⟩:=HGX.out.at
 rw [hk] at c0
 clear gp
 go_wp2_with fail
 refine (wo_bool HK8.out r.cp (by simp only [List.length_append,List.length_nil,z0t];omega)).mono ?_
 rintro e w9 ⟨rfl,hkk⟩
 have HK9:=hid hkk
 clear hkk HK8
 clear p0 p1 p2 p3 p4 p5 c0 c1 c2 c3 c4 c5 c6 c7 c8 c9 HGX
 have gp:=z0b HPX.out HK9.out.below
 have HGX:=hid (HX3.out.later HK9.out.below)
 have p0:w9.cell? ⟨N2,0,none⟩=some (.bool true):=z0a gp rfl
 have p1:w9.cell? ⟨N2,1,none⟩=some (.bool true):=z0a gp rfl
 have p2:w9.cell? ⟨N2,2,none⟩=some (.bool true):=z0a gp rfl
 have p3:w9.cell? ⟨N2,3,none⟩=some (.bool false):=z0a gp rfl
 have p4:w9.cell? ⟨N2,4,none⟩=some (.bool false):=z0a gp rfl
 have p5:w9.cell? ⟨N2,5,none⟩=some (.bool false):=z0a gp rfl
 obtain⟨c0,c1,c2,c3,c4,c5,c6,c7,c8,c9⟩:=HGX.out.at
 rw [hk] at c0
 clear gp
 go_wp2_with fail
 have hbx:(((((([]:List Nat)++le ((2:Int)).toNat 1)++le r.sg.toNat 4)++le r.tx.toNat 4)++le r.st.toNat 1) ++ [bitN r.cp])=z0r (r.x L T M):=by
  unfold z0r
  rw [show ((r.x L T M)).k=2 from hk]
  simp [kS,kT,kB,kA,kO,kP,Rv.x,List.append_assoc]
 have hlx:(z0r (r.x L T M)).length≤100000:=by rw [← hbx];simp only [List.length_append,List.length_nil,List.length_cons,z0t,keyB];omega
 have HKz:Hid (WrOk w3 w9 Bw 512 (0,z0r (r.x L T M))):=hid (by rw [← hbx];exact HK9.out)
 clear hbx HK9
 generalize z0r (r.x L T M)=Z at *
 refine (z3g w3 w9 Bw 512 Z HKz.out hlx).mono ?_
 rintro e w10 ⟨pz',cz,rfl,hbz,hsz,_⟩
 have HF:Hid (z3h W Z (.returned (.tuple #[.slice pz' Z.length cz,.int .i64 0])) w10):=hid ⟨pz',cz,rfl,hsz,HB3.out.trans (hbz.mono HB3.out.size)⟩
 clear hbz hsz hlx
 generalize Z.length=nz at *
 clear p0 p1 p2 p3 p4 p5 c0 c1 c2 c3 c4 c5 c6 c7 c8 c9 HGX
 go_wp2_with fail
 go_ret2
 exact HF.out
theorem rec_write3 (r:Rv) (L:List Ln) (T:List Tk) (M:List Ln) (W:World) (hok:Rxok (r.x L T M)) (hk:r.k=3):Calls Tryz.prog 78 #[.agg (rcs r)] W (z3h W (z0r (r.x L T M))):=by
 obtain⟨W1,hW1,hb1⟩:∃ W1,W.alloc (.cells (rcs r) 42)=W1∧Below W.heap.size W W1:=⟨_,rfl,(Below.refl _ _).alloc (Nat.le_refl _) _⟩
 obtain⟨B,hB⟩:∃ B,W.heap.size=B:=⟨_,rfl⟩
 have hrb:=RB.new W r
 rw [hW1,hB] at hrb
 have HX1:=hid hrb
 have HW1:=hid hW1
 have HB1:=hid hb1
 have HRE:=hid hB
 have c0:W1.cell? ⟨B,0,none⟩=some (.int .u8 r.k):=z0a hrb rfl
 rw [hk] at c0
 clear hW1 hb1 hB hrb
 have HOK:=hid hok
 have u1:=z0v hok.sg
 have u2:=z0v hok.tx
 have u3:IntKind.u64.wrap r.st=r.st:=z0v ⟨hok.st.1,Int.le_trans hok.st.2 (by decide)⟩
 have u4:IntKind.u64.wrap r.o=r.o:=z0v ⟨hok.o.1,Int.le_trans hok.o.2 (by decide)⟩
 change IntKind.u64.wrap r.sg=r.sg at u1
 change IntKind.u64.wrap r.tx=r.tx at u2
 have hpa:=z2q 3 W1
 unfold z1t at hpa
 rw [show ptc 3=#[.bool false,.bool true,.bool false,.bool true,.bool false,.bool false] from rfl] at hpa
 clear hok
 go_enter Tryz.func78,Tryz.ntmps78
 go_upto_region 1 with (fail)
 rw [HW1.out,HRE.out]
 go_wp2_with fail
 refine hpa.mono ?_
 rintro e w2 ⟨rfl,h2⟩
 have HB2:=hid (HB1.out.trans (h2.mono HB1.out.size))
 have HX2:=hid (HX1.out.later h2)
 clear h2 hpa c0
 obtain⟨N2,hN2⟩:∃ n,w2.heap.size=n:=⟨_,rfl⟩
 obtain⟨w3,hwn,hxn,hbn⟩:∃ w3,(w2.alloc (.cells pz 117)).setRow N2 #[.bool false,.bool true,.bool false,.bool true,.bool false,.bool false]=w3∧w3.heap[N2]?=some (.cells #[.bool false,.bool true,.bool false,.bool true,.bool false,.bool false] 117 (0,0))∧Below w2.heap.size w2 w3:=⟨_,rfl,by rw [← hN2];exact setRow_heap _ _ _ _ _ _ (z0c w2 _),below_setRow ((Below.refl _ _).alloc (Nat.le_refl _) _) (by omega) _⟩
 have hx2:=z0c w2 (.cells pz 117)
 rw [hN2] at hx2
 have HPX:=hid hxn
 have HPZ:=hid hx2
 have HBN:=hid hbn
 have HWN:=hid hwn
 have HNN:=hid hN2
 have HS6:Hid ((#[.bool false,.bool true,.bool false,.bool true,.bool false,.bool false]:Array Value).size=6):=hid rfl
 have HA6:Hid ((#[.bool false,.bool true,.bool false,.bool true,.bool false,.bool false]:Array Value).all (·.oneCell')=true):=hid (by simp [Value.oneCell'])
 clear hx2 hxn hbn hwn hN2
 have HB3:=hid (HB2.out.trans (HBN.out.mono HB2.out.size))
 have HX3:=hid (HX2.out.later HBN.out)
 go_wp2_with ((try rw [HNN.out]);(with_reducible refine z0h #[.bool false,.bool true,.bool false,.bool true,.bool false,.bool false] HS6.out HA6.out HPZ.out ?_ ?_ ?_);rfl;rfl;rw [HWN.out])
 refine (z7e w3 w3 512 (Below.refl _ _)).mono ?_
 rintro e w4 ⟨Bw,rfl,hkk⟩
 rw [show lim 512=512 from rfl] at hkk
 have HK4:=hid hkk
 clear hkk
 have gp:=z0b HPX.out HK4.out.below
 have HGX:=hid (HX3.out.later HK4.out.below)
 have p0:w4.cell? ⟨N2,0,none⟩=some (.bool false):=z0a gp rfl
 have p1:w4.cell? ⟨N2,1,none⟩=some (.bool true):=z0a gp rfl
 have p2:w4.cell? ⟨N2,2,none⟩=some (.bool false):=z0a gp rfl
 have p3:w4.cell? ⟨N2,3,none⟩=some (.bool true):=z0a gp rfl
 have p4:w4.cell? ⟨N2,4,none⟩=some (.bool false):=z0a gp rfl
 have p5:w4.cell? ⟨N2,5,none⟩=some (.bool false):=z0a gp rfl
 obtain⟨c0,c1,c2,c3,c4,c5,c6,c7,c8,c9⟩:=HGX.out.at
 rw [hk] at c0
 clear gp
 go_wp2_with fail
 refine (z3u HK4.out 3 (by omega) (by simp)).mono ?_
 rintro e w5 ⟨rfl,hkk⟩
 have HK5:=hid hkk
 clear hkk HK4
 clear p0 p1 p2 p3 p4 p5 c0 c1 c2 c3 c4 c5 c6 c7 c8 c9 HGX
 have gp:=z0b HPX.out HK5.out.below
 have HGX:=hid (HX3.out.later HK5.out.below)
 have p0:w5.cell? ⟨N2,0,none⟩=some (.bool false):=z0a gp rfl
 have p1:w5.cell? ⟨N2,1,none⟩=some (.bool true):=z0a gp rfl
 have p2:w5.cell? ⟨N2,2,none⟩=some (.bool false):=z0a gp rfl
 have p3:w5.cell? ⟨N2,3,none⟩=some (.bool true):=z0a gp rfl
 have p4:w5.cell? ⟨N2,4,none⟩=some (.bool false):=z0a gp rfl
 have p5:w5.cell? ⟨N2,5,none⟩=some (.bool false):=z0a gp rfl
 obtain⟨c0,c1,c2,c3,c4,c5,c6,c7,c8,c9⟩:=HGX.out.at
 rw [hk] at c0
 clear gp
 go_wp2_with fail
 refine (z4h HK5.out r.tx HOK.out.tx (by simp only [List.length_append,List.length_nil,z0t];omega)).mono ?_
 rintro e w6 ⟨rfl,hkk⟩
 have HK6:=hid hkk
 clear hkk HK5
 clear p0 p1 p2 p3 p4 p5 c0 c1 c2 c3 c4 c5 c6 c7 c8 c9 HGX
 have gp:=z0b HPX.out HK6.out.below
 have HGX:=hid (HX3.out.later HK6.out.below)
 have p0:w6.cell? ⟨N2,0,none⟩=some (.bool false):=z0a gp rfl
 have p1:w6.cell? ⟨N2,1,none⟩=some (.bool true):=z0a gp rfl
 have p2:w6.cell? ⟨N2,2,none⟩=some (.bool false):=z0a gp rfl
 have p3:w6.cell? ⟨N2,3,none⟩=some (.bool true):=z0a gp rfl
 have p4:w6.cell? ⟨N2,4,none⟩=some (.bool false):=z0a gp rfl
 have p5:w6.cell? ⟨N2,5,none⟩=some (.bool false):=z0a gp rfl
 obtain⟨c0,c1,c2,c3,c4,c5,c6,c7,c8,c9⟩:=HGX.out.at
 rw [hk] at c0
 clear gp
 go_wp2_with fail
 have HKb:=hid (HK6.out.later (Chg.of_below (S:=fun _=>False) ((Below.refl w6.heap.size w6).alloc (Nat.le_refl _) (.cells #[.int .u8 r.ka,.int .u8 r.kb,.int .u8 r.kc] 5))))
 refine (wo_raw HKb.out (some ⟨w6.heap.size,0,none⟩) 3 3 (keyB (r.ka,r.kb,r.kc)) (sl_three r.ka r.kb r.kc HOK.out.key.1 HOK.out.key.2.1 HOK.out.key.2.2 w6) (by simp only [List.length_append,List.length_nil,z0t];omega)).mono ?_
 rintro e w7 ⟨rfl,hkk⟩
 have HK7:=hid hkk
 clear hkk HK6 HKb
 clear p0 p1 p2 p3 p4 p5 c0 c1 c2 c3 c4 c5 c6 c7 c8 c9 HGX
 have gp:=z0b HPX.out HK7.out.below
 have HGX:=hid (HX3.out.later HK7.out.below)
 have p0:w7.cell? ⟨N2,0,none⟩=some (.bool false):=z0a gp rfl
 have p1:w7.cell? ⟨N2,1,none⟩=some (.bool true):=z0a gp rfl
 have p2:w7.cell? ⟨N2,2,none⟩=some (.bool false):=z0a gp rfl
 have p3:w7.cell? ⟨N2,3,none⟩=some (.bool true):=z0a gp rfl
 have p4:w7.cell? ⟨N2,4,none⟩=some (.bool false):=z0a gp rfl
 have p5:w7.cell? ⟨N2,5,none⟩=some (.bool false):=z0a gp rfl
 obtain⟨c0,c1,c2,c3,c4,c5,c6,c7,c8,c9⟩:=HGX.out.at
 rw [hk] at c0
 clear gp
 go_wp2_with fail
 refine (wo_int HK7.out r.d HOK.out.d (by simp only [List.length_append,List.length_nil,z0t,keyB,List.length_cons];omega)).mono ?_
 rintro e w8 ⟨rfl,hkk⟩
 have HK8:=hid hkk
 clear hkk HK7
 clear p0 p1 p2 p3 p4 p5 c0 c1 c2 c3 c4 c5 c6 c7 c8 c9 HGX
 have gp:=z0b HPX.out HK8.out.below
 have HGX:=hid (HX3.out.later HK8.out.below)
 have p0:w8.cell? ⟨N2,0,none⟩=some (.bool false):=z0a gp rfl
 have p1:w8.cell? ⟨N2,1,none⟩=some (.bool true):=z0a gp rfl
 have p2:w8.cell? ⟨N2,2,none⟩=some (.bool false):=z0a gp rfl
 have p3:w8.cell? ⟨N2,3,none⟩=some (.bool true):=z0a gp rfl
 have p4:w8.cell? ⟨N2,4,none⟩=some (.bool false):=z0a gp rfl
 have p5:w8.cell? ⟨N2,5,none⟩=some (.bool false):=z0a gp rfl
 obtain⟨c0,c1,c2,c3,c4,c5,c6,c7,c8,c9⟩:=HGX.out.at
 rw [hk] at c0
 clear gp
 go_wp2_with fail
 have hbx:((((([]:List Nat)++le ((3:Int)).toNat 1)++le r.tx.toNat 4)++keyB (r.ka,r.kb,r.kc))++le (u64 r.d) 8)=z0r (r.x L T M):=by
  unfold z0r
  rw [show ((r.x L T M)).k=3 from hk]
  simp [kS,kT,kB,kA,kO,kP,Rv.x,List.append_assoc]
 have hlx:(z0r (r.x L T M)).length≤100000:=by rw [← hbx];simp only [List.length_append,List.length_nil,List.length_cons,z0t,keyB];omega
 have HKz:Hid (WrOk w3 w8 Bw 512 (0,z0r (r.x L T M))):=hid (by rw [← hbx];exact HK8.out)
 clear hbx HK8
 generalize z0r (r.x L T M)=Z at *
 refine (z3g w3 w8 Bw 512 Z HKz.out hlx).mono ?_
 rintro e w9 ⟨pz',cz,rfl,hbz,hsz,_⟩
 have HF:Hid (z3h W Z (.returned (.tuple #[.slice pz' Z.length cz,.int .i64 0])) w9):=hid ⟨pz',cz,rfl,hsz,HB3.out.trans (hbz.mono HB3.out.size)⟩
 clear hbz hsz hlx
 generalize Z.length=nz at *
 clear p0 p1 p2 p3 p4 p5 c0 c1 c2 c3 c4 c5 c6 c7 c8 c9 HGX
 go_wp2_with fail
 go_ret2
 exact HF.out
theorem rec_write4 (r:Rv) (L:List Ln) (T:List Tk) (M:List Ln) (W:World) (hok:Rxok (r.x L T M)) (hk:r.k=4):Calls Tryz.prog 78 #[.agg (rcs r)] W (z3h W (z0r (r.x L T M))):=by
 obtain⟨W1,hW1,hb1⟩:∃ W1,W.alloc (.cells (rcs r) 42)=W1∧Below W.heap.size W W1:=⟨_,rfl,(Below.refl _ _).alloc (Nat.le_refl _) _⟩
 obtain⟨B,hB⟩:∃ B,W.heap.size=B:=⟨_,rfl⟩
 have hrb:=RB.new W r
 rw [hW1,hB] at hrb
 have HX1:=hid hrb
 have HW1:=hid hW1
 have HB1:=hid hb1
 have HRE:=hid hB
 have c0:W1.cell? ⟨B,0,none⟩=some (.int .u8 r.k):=z0a hrb rfl
 rw [hk] at c0
 clear hW1 hb1 hB hrb
 have HOK:=hid hok
 have u1:=z0v hok.sg
 have u2:=z0v hok.tx
 have u3:IntKind.u64.wrap r.st=r.st:=z0v ⟨hok.st.1,Int.le_trans hok.st.2 (by decide)⟩
 have u4:IntKind.u64.wrap r.o=r.o:=z0v ⟨hok.o.1,Int.le_trans hok.o.2 (by decide)⟩
 change IntKind.u64.wrap r.sg=r.sg at u1
 change IntKind.u64.wrap r.tx=r.tx at u2
 have hpa:=z2q 4 W1
 unfold z1t at hpa
 rw [show ptc 4=#[.bool false,.bool true,.bool false,.bool false,.bool false,.bool false] from rfl] at hpa
 clear hok
 go_enter Tryz.func78,Tryz.ntmps78
 go_upto_region 1 with (fail)
 rw [HW1.out,HRE.out]
 go_wp2_with fail
 refine hpa.mono ?_
 rintro e w2 ⟨rfl,h2⟩
 have HB2:=hid (HB1.out.trans (h2.mono HB1.out.size))
 have HX2:=hid (HX1.out.later h2)
 clear h2 hpa c0
 obtain⟨N2,hN2⟩:∃ n,w2.heap.size=n:=⟨_,rfl⟩
 obtain⟨w3,hwn,hxn,hbn⟩:∃ w3,(w2.alloc (.cells pz 117)).setRow N2 #[.bool false,.bool true,.bool false,.bool false,.bool false,.bool false]=w3∧w3.heap[N2]?=some (.cells #[.bool false,.bool true,.bool false,.bool false,.bool false,.bool false] 117 (0,0))∧Below w2.heap.size w2 w3:=⟨_,rfl,by rw [← hN2];exact setRow_heap _ _ _ _ _ _ (z0c w2 _),below_setRow ((Below.refl _ _).alloc (Nat.le_refl _) _) (by omega) _⟩
 have hx2:=z0c w2 (.cells pz 117)
 rw [hN2] at hx2
 have HPX:=hid hxn
 have HPZ:=hid hx2
 have HBN:=hid hbn
 have HWN:=hid hwn
 have HNN:=hid hN2
 have HS6:Hid ((#[.bool false,.bool true,.bool false,.bool false,.bool false,.bool false]:Array Value).size=6):=hid rfl
 have HA6:Hid ((#[.bool false,.bool true,.bool false,.bool false,.bool false,.bool false]:Array Value).all (·.oneCell')=true):=hid (by simp [Value.oneCell'])
 clear hx2 hxn hbn hwn hN2
 have HB3:=hid (HB2.out.trans (HBN.out.mono HB2.out.size))
 have HX3:=hid (HX2.out.later HBN.out)
 go_wp2_with ((try rw [HNN.out]);(with_reducible refine z0h #[.bool false,.bool true,.bool false,.bool false,.bool false,.bool false] HS6.out HA6.out HPZ.out ?_ ?_ ?_);rfl;rfl;rw [HWN.out])
 refine (z7e w3 w3 512 (Below.refl _ _)).mono ?_
 rintro e w4 ⟨Bw,rfl,hkk⟩
 rw [show lim 512=512 from rfl] at hkk
 have HK4:=hid hkk
 clear hkk
 have gp:=z0b HPX.out HK4.out.below
 have HGX:=hid (HX3.out.later HK4.out.below)
 have p0:w4.cell? ⟨N2,0,none⟩=some (.bool false):=z0a gp rfl
 have p1:w4.cell? ⟨N2,1,none⟩=some (.bool true):=z0a gp rfl
 have p2:w4.cell? ⟨N2,2,none⟩=some (.bool false):=z0a gp rfl
 have p3:w4.cell? ⟨N2,3,none⟩=some (.bool false):=z0a gp rfl
 have p4:w4.cell? ⟨N2,4,none⟩=some (.bool false):=z0a gp rfl
 have p5:w4.cell? ⟨N2,5,none⟩=some (.bool false):=z0a gp rfl
 obtain⟨c0,c1,c2,c3,c4,c5,c6,c7,c8,c9⟩:=HGX.out.at
 rw [hk] at c0
 clear gp
 go_wp2_with fail
 refine (z3u HK4.out 4 (by omega) (by simp)).mono ?_
 rintro e w5 ⟨rfl,hkk⟩
 have HK5:=hid hkk
 clear hkk HK4
 clear p0 p1 p2 p3 p4 p5 c0 c1 c2 c3 c4 c5 c6 c7 c8 c9 HGX
 have gp:=z0b HPX.out HK5.out.below
 have HGX:=hid (HX3.out.later HK5.out.below)
 have p0:w5.cell? ⟨N2,0,none⟩=some (.bool false):=z0a gp rfl
 have p1:w5.cell? ⟨N2,1,none⟩=some (.bool true):=z0a gp rfl
 have p2:w5.cell? ⟨N2,2,none⟩=some (.bool false):=z0a gp rfl
 have p3:w5.cell? ⟨N2,3,none⟩=some (.bool false):=z0a gp rfl
 have p4:w5.cell? ⟨N2,4,none⟩=some (.bool false):=z0a gp rfl
 have p5:w5.cell? ⟨N2,5,none⟩=some (.bool false):=z0a gp rfl
 obtain⟨c0,c1,c2,c3,c4,c5,c6,c7,c8,c9⟩:=HGX.out.at
 rw [hk] at c0
 clear gp
 go_wp2_with fail
 refine (z4h HK5.out r.tx HOK.out.tx (by simp only [List.length_append,List.length_nil,z0t];omega)).mono ?_
 rintro e w6 ⟨rfl,hkk⟩
 have HK6:=hid hkk
 clear hkk HK5
 clear p0 p1 p2 p3 p4 p5 c0 c1 c2 c3 c4 c5 c6 c7 c8 c9 HGX
 have gp:=z0b HPX.out HK6.out.below
 have HGX:=hid (HX3.out.later HK6.out.below)
 have p0:w6.cell? ⟨N2,0,none⟩=some (.bool false):=z0a gp rfl
 have p1:w6.cell? ⟨N2,1,none⟩=some (.bool true):=z0a gp rfl
 have p2:w6.cell? ⟨N2,2,none⟩=some (.bool false):=z0a gp rfl
 have p3:w6.cell? ⟨N2,3,none⟩=some (.bool false):=z0a gp rfl
 have p4:w6.cell? ⟨N2,4,none⟩=some (.bool false):=z0a gp rfl
 have p5:w6.cell? ⟨N2,5,none⟩=some (.bool false):=z0a gp rfl
 obtain⟨c0,c1,c2,c3,c4,c5,c6,c7,c8,c9⟩:=HGX.out.at
 rw [hk] at c0
 clear gp
 go_wp2_with fail
 have hbx:((([]:List Nat)++le ((4:Int)).toNat 1)++le r.tx.toNat 4)=z0r (r.x L T M):=by
  unfold z0r
  rw [show ((r.x L T M)).k=4 from hk]
  simp [kS,kT,kB,kA,kO,kP,Rv.x,List.append_assoc]
 have hlx:(z0r (r.x L T M)).length≤100000:=by rw [← hbx];simp only [List.length_append,List.length_nil,List.length_cons,z0t,keyB];omega
 have HKz:Hid (WrOk w3 w6 Bw 512 (0,z0r (r.x L T M))):=hid (by rw [← hbx];exact HK6.out)
 clear hbx HK6
 generalize z0r (r.x L T M)=Z at *
 refine (z3g w3 w6 Bw 512 Z HKz.out hlx).mono ?_
 rintro e w7 ⟨pz',cz,rfl,hbz,hsz,_⟩
 have HF:Hid (z3h W Z (.returned (.tuple #[.slice pz' Z.length cz,.int .i64 0])) w7):=hid ⟨pz',cz,rfl,hsz,HB3.out.trans (hbz.mono HB3.out.size)⟩
 clear hbz hsz hlx
 generalize Z.length=nz at *
 clear p0 p1 p2 p3 p4 p5 c0 c1 c2 c3 c4 c5 c6 c7 c8 c9 HGX
 go_wp2_with fail
 go_ret2
 exact HF.out
theorem rec_write5 (r:Rv) (L:List Ln) (T:List Tk) (M:List Ln) (W:World) (hok:Rxok (r.x L T M)) (hk:r.k=5):Calls Tryz.prog 78 #[.agg (rcs r)] W (z3h W (z0r (r.x L T M))):=by
 obtain⟨W1,hW1,hb1⟩:∃ W1,W.alloc (.cells (rcs r) 42)=W1∧Below W.heap.size W W1:=⟨_,rfl,(Below.refl _ _).alloc (Nat.le_refl _) _⟩
 obtain⟨B,hB⟩:∃ B,W.heap.size=B:=⟨_,rfl⟩
 have hrb:=RB.new W r
 rw [hW1,hB] at hrb
 have HX1:=hid hrb
 have HW1:=hid hW1
 have HB1:=hid hb1
 have HRE:=hid hB
 have c0:W1.cell? ⟨B,0,none⟩=some (.int .u8 r.k):=z0a hrb rfl
 rw [hk] at c0
 clear hW1 hb1 hB hrb
 have HOK:=hid hok
 have u1:=z0v hok.sg
 have u2:=z0v hok.tx
 have u3:IntKind.u64.wrap r.st=r.st:=z0v ⟨hok.st.1,Int.le_trans hok.st.2 (by decide)⟩
 have u4:IntKind.u64.wrap r.o=r.o:=z0v ⟨hok.o.1,Int.le_trans hok.o.2 (by decide)⟩
 change IntKind.u64.wrap r.sg=r.sg at u1
 change IntKind.u64.wrap r.tx=r.tx at u2
 have hpa:=z2q 5 W1
 unfold z1t at hpa
 rw [show ptc 5=#[.bool false,.bool true,.bool false,.bool false,.bool false,.bool false] from rfl] at hpa
 clear hok
 go_enter Tryz.func78,Tryz.ntmps78
 go_upto_region 1 with (fail)
 rw [HW1.out,HRE.out]
 go_wp2_with fail
 refine hpa.mono ?_
 rintro e w2 ⟨rfl,h2⟩
 have HB2:=hid (HB1.out.trans (h2.mono HB1.out.size))
 have HX2:=hid (HX1.out.later h2)
 clear h2 hpa c0
 obtain⟨N2,hN2⟩:∃ n,w2.heap.size=n:=⟨_,rfl⟩
 obtain⟨w3,hwn,hxn,hbn⟩:∃ w3,(w2.alloc (.cells pz 117)).setRow N2 #[.bool false,.bool true,.bool false,.bool false,.bool false,.bool false]=w3∧w3.heap[N2]?=some (.cells #[.bool false,.bool true,.bool false,.bool false,.bool false,.bool false] 117 (0,0))∧Below w2.heap.size w2 w3:=⟨_,rfl,by rw [← hN2];exact setRow_heap _ _ _ _ _ _ (z0c w2 _),below_setRow ((Below.refl _ _).alloc (Nat.le_refl _) _) (by omega) _⟩
 have hx2:=z0c w2 (.cells pz 117)
 rw [hN2] at hx2
 have HPX:=hid hxn
 have HPZ:=hid hx2
 have HBN:=hid hbn
 have HWN:=hid hwn
 have HNN:=hid hN2
 have HS6:Hid ((#[.bool false,.bool true,.bool false,.bool false,.bool false,.bool false]:Array Value).size=6):=hid rfl
 have HA6:Hid ((#[.bool false,.bool true,.bool false,.bool false,.bool false,.bool false]:Array Value).all (·.oneCell')=true):=hid (by simp [Value.oneCell'])
 clear hx2 hxn hbn hwn hN2
 have HB3:=hid (HB2.out.trans (HBN.out.mono HB2.out.size))
 have HX3:=hid (HX2.out.later HBN.out)
 go_wp2_with ((try rw [HNN.out]);(with_reducible refine z0h #[.bool false,.bool true,.bool false,.bool false,.bool false,.bool false] HS6.out HA6.out HPZ.out ?_ ?_ ?_);rfl;rfl;rw [HWN.out])
 refine (z7e w3 w3 512 (Below.refl _ _)).mono ?_
 rintro e w4 ⟨Bw,rfl,hkk⟩
 rw [show lim 512=512 from rfl] at hkk
 have HK4:=hid hkk
 clear hkk
 have gp:=z0b HPX.out HK4.out.below
 have HGX:=hid (HX3.out.later HK4.out.below)
 have p0:w4.cell? ⟨N2,0,none⟩=some (.bool false):=z0a gp rfl
 have p1:w4.cell? ⟨N2,1,none⟩=some (.bool true):=z0a gp rfl
 have p2:w4.cell? ⟨N2,2,none⟩=some (.bool false):=z0a gp rfl
 have p3:w4.cell? ⟨N2,3,none⟩=some (.bool false):=z0a gp rfl
 have p4:w4.cell? ⟨N2,4,none⟩=some (.bool false):=z0a gp rfl
 have p5:w4.cell? ⟨N2,5,none⟩=some (.bool false):=z0a gp rfl
 obtain⟨c0,c1,c2,c3,c4,c5,c6,c7,c8,c9⟩:=HGX.out.at
 rw [hk] at c0
 clear gp
 go_wp2_with fail
 refine (z3u HK4.out 5 (by omega) (by simp)).mono ?_
 rintro e w5 ⟨rfl,hkk⟩
 have HK5:=hid hkk
 clear hkk HK4
 clear p0 p1 p2 p3 p4 p5 c0 c1 c2 c3 c4 c5 c6 c7 c8 c9 HGX
 have gp:=z0b HPX.out HK5.out.below
 have HGX:=hid (HX3.out.later HK5.out.below)
 have p0:w5.cell? ⟨N2,0,none⟩=some (.bool false):=z0a gp rfl
 have p1:w5.cell? ⟨N2,1,none⟩=some (.bool true):=z0a gp rfl
 have p2:w5.cell? ⟨N2,2,none⟩=some (.bool false):=z0a gp rfl
 have p3:w5.cell? ⟨N2,3,none⟩=some (.bool false):=z0a gp rfl
 have p4:w5.cell? ⟨N2,4,none⟩=some (.bool false):=z0a gp rfl
 have p5:w5.cell? ⟨N2,5,none⟩=some (.bool false):=z0a gp rfl
 obtain⟨c0,c1,c2,c3,c4,c5,c6,c7,c8,c9⟩:=HGX.out.at
 rw [hk] at c0
 clear gp
 go_wp2_with fail
 refine (z4h HK5.out r.tx HOK.out.tx (by simp only [List.length_append,List.length_nil,z0t];omega)).mono ?_
 rintro e w6 ⟨rfl,hkk⟩
 have HK6:=hid hkk
 clear hkk HK5
 clear p0 p1 p2 p3 p4 p5 c0 c1 c2 c3 c4 c5 c6 c7 c8 c9 HGX
 have gp:=z0b HPX.out HK6.out.below
 have HGX:=hid (HX3.out.later HK6.out.below)
 have p0:w6.cell? ⟨N2,0,none⟩=some (.bool false):=z0a gp rfl
 have p1:w6.cell? ⟨N2,1,none⟩=some (.bool true):=z0a gp rfl
 have p2:w6.cell? ⟨N2,2,none⟩=some (.bool false):=z0a gp rfl
 have p3:w6.cell? ⟨N2,3,none⟩=some (.bool false):=z0a gp rfl
 have p4:w6.cell? ⟨N2,4,none⟩=some (.bool false):=z0a gp rfl
 have p5:w6.cell? ⟨N2,5,none⟩=some (.bool false):=z0a gp rfl
 obtain⟨c0,c1,c2,c3,c4,c5,c6,c7,c8,c9⟩:=HGX.out.at
 rw [hk] at c0
 clear gp
 go_wp2_with fail
 have hbx:((([]:List Nat)++le ((5:Int)).toNat 1)++le r.tx.toNat 4)=z0r (r.x L T M):=by
  unfold z0r
  rw [show ((r.x L T M)).k=5 from hk]
  simp [kS,kT,kB,kA,kO,kP,Rv.x,List.append_assoc]
 have hlx:(z0r (r.x L T M)).length≤100000:=by rw [← hbx];simp only [List.length_append,List.length_nil,List.length_cons,z0t,keyB];omega
 have HKz:Hid (WrOk w3 w6 Bw 512 (0,z0r (r.x L T M))):=hid (by rw [← hbx];exact HK6.out)
 clear hbx HK6
 generalize z0r (r.x L T M)=Z at *
 refine (z3g w3 w6 Bw 512 Z HKz.out hlx).mono ?_
 rintro e w7 ⟨pz',cz,rfl,hbz,hsz,_⟩
 have HF:Hid (z3h W Z (.returned (.tuple #[.slice pz' Z.length cz,.int .i64 0])) w7):=hid ⟨pz',cz,rfl,hsz,HB3.out.trans (hbz.mono HB3.out.size)⟩
 clear hbz hsz hlx
 generalize Z.length=nz at *
 clear p0 p1 p2 p3 p4 p5 c0 c1 c2 c3 c4 c5 c6 c7 c8 c9 HGX
 go_wp2_with fail
 go_ret2
 exact HF.out
theorem rec_write6 (r:Rv) (L:List Ln) (T:List Tk) (M:List Ln) (W:World) (hok:Rxok (r.x L T M)) (hk:r.k=6):Calls Tryz.prog 78 #[.agg (rcs r)] W (z3h W (z0r (r.x L T M))):=by
 obtain⟨W1,hW1,hb1⟩:∃ W1,W.alloc (.cells (rcs r) 42)=W1∧Below W.heap.size W W1:=⟨_,rfl,(Below.refl _ _).alloc (Nat.le_refl _) _⟩
 obtain⟨B,hB⟩:∃ B,W.heap.size=B:=⟨_,rfl⟩
 have hrb:=RB.new W r
 rw [hW1,hB] at hrb
 have HX1:=hid hrb
 have HW1:=hid hW1
 have HB1:=hid hb1
 have HRE:=hid hB
 have c0:W1.cell? ⟨B,0,none⟩=some (.int .u8 r.k):=z0a hrb rfl
 rw [hk] at c0
 clear hW1 hb1 hB hrb
 have HOK:=hid hok
 have u1:=z0v hok.sg
 have u2:=z0v hok.tx
 have u3:IntKind.u64.wrap r.st=r.st:=z0v ⟨hok.st.1,Int.le_trans hok.st.2 (by decide)⟩
 have u4:IntKind.u64.wrap r.o=r.o:=z0v ⟨hok.o.1,Int.le_trans hok.o.2 (by decide)⟩
 change IntKind.u64.wrap r.sg=r.sg at u1
 change IntKind.u64.wrap r.tx=r.tx at u2
 have hpa:=z2q 6 W1
 unfold z1t at hpa
 rw [show ptc 6=#[.bool false,.bool true,.bool false,.bool true,.bool false,.bool false] from rfl] at hpa
 clear hok
 go_enter Tryz.func78,Tryz.ntmps78
 go_upto_region 1 with (fail)
 rw [HW1.out,HRE.out]
 go_wp2_with fail
 refine hpa.mono ?_
 rintro e w2 ⟨rfl,h2⟩
 have HB2:=hid (HB1.out.trans (h2.mono HB1.out.size))
 have HX2:=hid (HX1.out.later h2)
 clear h2 hpa c0
 obtain⟨N2,hN2⟩:∃ n,w2.heap.size=n:=⟨_,rfl⟩
 obtain⟨w3,hwn,hxn,hbn⟩:∃ w3,(w2.alloc (.cells pz 117)).setRow N2 #[.bool false,.bool true,.bool false,.bool true,.bool false,.bool false]=w3∧w3.heap[N2]?=some (.cells #[.bool false,.bool true,.bool false,.bool true,.bool false,.bool false] 117 (0,0))∧Below w2.heap.size w2 w3:=⟨_,rfl,by rw [← hN2];exact setRow_heap _ _ _ _ _ _ (z0c w2 _),below_setRow ((Below.refl _ _).alloc (Nat.le_refl _) _) (by omega) _⟩
 have hx2:=z0c w2 (.cells pz 117)
 rw [hN2] at hx2
 have HPX:=hid hxn
 have HPZ:=hid hx2
 have HBN:=hid hbn
 have HWN:=hid hwn
 have HNN:=hid hN2
 have HS6:Hid ((#[.bool false,.bool true,.bool false,.bool true,.bool false,.bool false]:Array Value).size=6):=hid rfl
 have HA6:Hid ((#[.bool false,.bool true,.bool false,.bool true,.bool false,.bool false]:Array Value).all (·.oneCell')=true):=hid (by simp [Value.oneCell'])
 clear hx2 hxn hbn hwn hN2
 have HB3:=hid (HB2.out.trans (HBN.out.mono HB2.out.size))
 have HX3:=hid (HX2.out.later HBN.out)
 go_wp2_with ((try rw [HNN.out]);(with_reducible refine z0h #[.bool false,.bool true,.bool false,.bool true,.bool false,.bool false] HS6.out HA6.out HPZ.out ?_ ?_ ?_);rfl;rfl;rw [HWN.out])
 refine (z7e w3 w3 512 (Below.refl _ _)).mono ?_
 rintro e w4 ⟨Bw,rfl,hkk⟩
 rw [show lim 512=512 from rfl] at hkk
 have HK4:=hid hkk
 clear hkk
 have gp:=z0b HPX.out HK4.out.below
 have HGX:=hid (HX3.out.later HK4.out.below)
 have p0:w4.cell? ⟨N2,0,none⟩=some (.bool false):=z0a gp rfl
 have p1:w4.cell? ⟨N2,1,none⟩=some (.bool true):=z0a gp rfl
 have p2:w4.cell? ⟨N2,2,none⟩=some (.bool false):=z0a gp rfl
 have p3:w4.cell? ⟨N2,3,none⟩=some (.bool true):=z0a gp rfl
 have p4:w4.cell? ⟨N2,4,none⟩=some (.bool false):=z0a gp rfl
 have p5:w4.cell? ⟨N2,5,none⟩=some (.bool false):=z0a gp rfl
 obtain⟨c0,c1,c2,c3,c4,c5,c6,c7,c8,c9⟩:=HGX.out.at
 rw [hk] at c0
 clear gp
 go_wp2_with fail
 refine (z3u HK4.out 6 (by omega) (by simp)).mono ?_
 rintro e w5 ⟨rfl,hkk⟩
 have HK5:=hid hkk
 clear hkk HK4
 clear p0 p1 p2 p3 p4 p5 c0 c1 c2 c3 c4 c5 c6 c7 c8 c9 HGX
 have gp:=z0b HPX.out HK5.out.below
 have HGX:=hid (HX3.out.later HK5.out.below)
 have p0:w5.cell? ⟨N2,0,none⟩=some (.bool false):=z0a gp rfl
 have p1:w5.cell? ⟨N2,1,none⟩=some (.bool true):=z0a gp rfl
 have p2:w5.cell? ⟨N2,2,none⟩=some (.bool false):=z0a gp rfl
 have p3:w5.cell? ⟨N2,3,none⟩=some (.bool true):=z0a gp rfl
 have p4:w5.cell? ⟨N2,4,none⟩=some (.bool false):=z0a gp rfl
 have p5:w5.cell? ⟨N2,5,none⟩=some (.bool false):=z0a gp rfl
 obtain⟨c0,c1,c2,c3,c4,c5,c6,c7,c8,c9⟩:=HGX.out.at
 rw [hk] at c0
 clear gp
 go_wp2_with fail
 refine (z4h HK5.out r.tx HOK.out.tx (by simp only [List.length_append,List.length_nil,z0t];omega)).mono ?_
 rintro e w6 ⟨rfl,hkk⟩
 have HK6:=hid hkk
 clear hkk HK5
 clear p0 p1 p2 p3 p4 p5 c0 c1 c2 c3 c4 c5 c6 c7 c8 c9 HGX
 have gp:=z0b HPX.out HK6.out.below
 have HGX:=hid (HX3.out.later HK6.out.below)
 have p0:w6.cell? ⟨N2,0,none⟩=some (.bool false):=z0a gp rfl
 have p1:w6.cell? ⟨N2,1,none⟩=some (.bool true):=z0a gp rfl
 have p2:w6.cell? ⟨N2,2,none⟩=some (.bool false):=z0a gp rfl
 have p3:w6.cell? ⟨N2,3,none⟩=some (.bool true):=z0a gp rfl
 have p4:w6.cell? ⟨N2,4,none⟩=some (.bool false):=z0a gp rfl
 have p5:w6.cell? ⟨N2,5,none⟩=some (.bool false):=z0a gp rfl
 obtain⟨c0,c1,c2,c3,c4,c5,c6,c7,c8,c9⟩:=HGX.out.at
 rw [hk] at c0
 clear gp
 go_wp2_with fail
 have HKb:=hid (HK6.out.later (Chg.of_below (S:=fun _=>False) ((Below.refl w6.heap.size w6).alloc (Nat.le_refl _) (.cells #[.int .u8 r.ka,.int .u8 r.kb,.int .u8 r.kc] 5))))
 refine (wo_raw HKb.out (some ⟨w6.heap.size,0,none⟩) 3 3 (keyB (r.ka,r.kb,r.kc)) (sl_three r.ka r.kb r.kc HOK.out.key.1 HOK.out.key.2.1 HOK.out.key.2.2 w6) (by simp only [List.length_append,List.length_nil,z0t];omega)).mono ?_
 rintro e w7 ⟨rfl,hkk⟩
 have HK7:=hid hkk
 clear hkk HK6 HKb
 clear p0 p1 p2 p3 p4 p5 c0 c1 c2 c3 c4 c5 c6 c7 c8 c9 HGX
 have gp:=z0b HPX.out HK7.out.below
 have HGX:=hid (HX3.out.later HK7.out.below)
 have p0:w7.cell? ⟨N2,0,none⟩=some (.bool false):=z0a gp rfl
 have p1:w7.cell? ⟨N2,1,none⟩=some (.bool true):=z0a gp rfl
 have p2:w7.cell? ⟨N2,2,none⟩=some (.bool false):=z0a gp rfl
 have p3:w7.cell? ⟨N2,3,none⟩=some (.bool true):=z0a gp rfl
 have p4:w7.cell? ⟨N2,4,none⟩=some (.bool false):=z0a gp rfl
 have p5:w7.cell? ⟨N2,5,none⟩=some (.bool false):=z0a gp rfl
 obtain⟨c0,c1,c2,c3,c4,c5,c6,c7,c8,c9⟩:=HGX.out.at
 rw [hk] at c0
 clear gp
 go_wp2_with fail
 refine (wo_int HK7.out r.d HOK.out.d (by simp only [List.length_append,List.length_nil,z0t,keyB,List.length_cons];omega)).mono ?_
 rintro e w8 ⟨rfl,hkk⟩
 have HK8:=hid hkk
 clear hkk HK7
 clear p0 p1 p2 p3 p4 p5 c0 c1 c2 c3 c4 c5 c6 c7 c8 c9 HGX
 have gp:=z0b HPX.out HK8.out.below
 have HGX:=hid (HX3.out.later HK8.out.below)
 have p0:w8.cell? ⟨N2,0,none⟩=some (.bool false):=z0a gp rfl
 have p1:w8.cell? ⟨N2,1,none⟩=some (.bool true):=z0a gp rfl
 have p2:w8.cell? ⟨N2,2,none⟩=some (.bool false):=z0a gp rfl
 have p3:w8.cell? ⟨N2,3,none⟩=some (.bool true):=z0a gp rfl
 have p4:w8.cell? ⟨N2,4,none⟩=some (.bool false):=z0a gp rfl
 have p5:w8.cell? ⟨N2,5,none⟩=some (.bool false):=z0a gp rfl
 obtain⟨c0,c1,c2,c3,c4,c5,c6,c7,c8,c9⟩:=HGX.out.at
 rw [hk] at c0
 clear gp
 go_wp2_with fail
 have hbx:((((([]:List Nat)++le ((6:Int)).toNat 1)++le r.tx.toNat 4)++keyB (r.ka,r.kb,r.kc))++le (u64 r.d) 8)=z0r (r.x L T M):=by
  unfold z0r
  rw [show ((r.x L T M)).k=6 from hk]
  simp [kS,kT,kB,kA,kO,kP,Rv.x,List.append_assoc]
 have hlx:(z0r (r.x L T M)).length≤100000:=by rw [← hbx];simp only [List.length_append,List.length_nil,List.length_cons,z0t,keyB];omega
 have HKz:Hid (WrOk w3 w8 Bw 512 (0,z0r (r.x L T M))):=hid (by rw [← hbx];exact HK8.out)
 clear hbx HK8
 generalize z0r (r.x L T M)=Z at *
 refine (z3g w3 w8 Bw 512 Z HKz.out hlx).mono ?_
 rintro e w9 ⟨pz',cz,rfl,hbz,hsz,_⟩
 have HF:Hid (z3h W Z (.returned (.tuple #[.slice pz' Z.length cz,.int .i64 0])) w9):=hid ⟨pz',cz,rfl,hsz,HB3.out.trans (hbz.mono HB3.out.size)⟩
 clear hbz hsz hlx
 generalize Z.length=nz at *
 clear p0 p1 p2 p3 p4 p5 c0 c1 c2 c3 c4 c5 c6 c7 c8 c9 HGX
 go_wp2_with fail
 go_ret2
 exact HF.out
theorem rec_write7 (r:Rv) (L:List Ln) (T:List Tk) (M:List Ln) (W:World) (hok:Rxok (r.x L T M)) (hk:r.k=7):Calls Tryz.prog 78 #[.agg (rcs r)] W (z3h W (z0r (r.x L T M))):=by
 obtain⟨W1,hW1,hb1⟩:∃ W1,W.alloc (.cells (rcs r) 42)=W1∧Below W.heap.size W W1:=⟨_,rfl,(Below.refl _ _).alloc (Nat.le_refl _) _⟩
 obtain⟨B,hB⟩:∃ B,W.heap.size=B:=⟨_,rfl⟩
 have hrb:=RB.new W r
 rw [hW1,hB] at hrb
 have HX1:=hid hrb
 have HW1:=hid hW1
 have HB1:=hid hb1
 have HRE:=hid hB
 have c0:W1.cell? ⟨B,0,none⟩=some (.int .u8 r.k):=z0a hrb rfl
 rw [hk] at c0
 clear hW1 hb1 hB hrb
 have HOK:=hid hok
 have u1:=z0v hok.sg
 have u2:=z0v hok.tx
 have u3:IntKind.u64.wrap r.st=r.st:=z0v ⟨hok.st.1,Int.le_trans hok.st.2 (by decide)⟩
 have u4:IntKind.u64.wrap r.o=r.o:=z0v ⟨hok.o.1,Int.le_trans hok.o.2 (by decide)⟩
 change IntKind.u64.wrap r.sg=r.sg at u1
 change IntKind.u64.wrap r.tx=r.tx at u2
 have hpa:=z2q 7 W1
 unfold z1t at hpa
 rw [show ptc 7=#[.bool false,.bool true,.bool false,.bool false,.bool false,.bool false] from rfl] at hpa
 clear hok
 go_enter Tryz.func78,Tryz.ntmps78
 go_upto_region 1 with (fail)
 rw [HW1.out,HRE.out]
 go_wp2_with fail
 refine hpa.mono ?_
 rintro e w2 ⟨rfl,h2⟩
 have HB2:=hid (HB1.out.trans (h2.mono HB1.out.size))
 have HX2:=hid (HX1.out.later h2)
 clear h2 hpa c0
 obtain⟨N2,hN2⟩:∃ n,w2.heap.size=n:=⟨_,rfl⟩
 obtain⟨w3,hwn,hxn,hbn⟩:∃ w3,(w2.alloc (.cells pz 117)).setRow N2 #[.bool false,.bool true,.bool false,.bool false,.bool false,.bool false]=w3∧w3.heap[N2]?=some (.cells #[.bool false,.bool true,.bool false,.bool false,.bool false,.bool false] 117 (0,0))∧Below w2.heap.size w2 w3:=⟨_,rfl,by rw [← hN2];exact setRow_heap _ _ _ _ _ _ (z0c w2 _),below_setRow ((Below.refl _ _).alloc (Nat.le_refl _) _) (by omega) _⟩
 have hx2:=z0c w2 (.cells pz 117)
 rw [hN2] at hx2
 have HPX:=hid hxn
 have HPZ:=hid hx2
 have HBN:=hid hbn
 have HWN:=hid hwn
 have HNN:=hid hN2
 have HS6:Hid ((#[.bool false,.bool true,.bool false,.bool false,.bool false,.bool false]:Array Value).size=6):=hid rfl
 have HA6:Hid ((#[.bool false,.bool true,.bool false,.bool false,.bool false,.bool false]:Array Value).all (·.oneCell')=true):=hid (by simp [Value.oneCell'])
 clear hx2 hxn hbn hwn hN2
 have HB3:=hid (HB2.out.trans (HBN.out.mono HB2.out.size))
 have HX3:=hid (HX2.out.later HBN.out)
 go_wp2_with ((try rw [HNN.out]);(with_reducible refine z0h #[.bool false,.bool true,.bool false,.bool false,.bool false,.bool false] HS6.out HA6.out HPZ.out ?_ ?_ ?_);rfl;rfl;rw [HWN.out])
 refine (z7e w3 w3 512 (Below.refl _ _)).mono ?_
 rintro e w4 ⟨Bw,rfl,hkk⟩
 rw [show lim 512=512 from rfl] at hkk
 have HK4:=hid hkk
 clear hkk
 have gp:=z0b HPX.out HK4.out.below
 have HGX:=hid (HX3.out.later HK4.out.below)
 have p0:w4.cell? ⟨N2,0,none⟩=some (.bool false):=z0a gp rfl
 have p1:w4.cell? ⟨N2,1,none⟩=some (.bool true):=z0a gp rfl
 have p2:w4.cell? ⟨N2,2,none⟩=some (.bool false):=z0a gp rfl
 have p3:w4.cell? ⟨N2,3,none⟩=some (.bool false):=z0a gp rfl
 have p4:w4.cell? ⟨N2,4,none⟩=some (.bool false):=z0a gp rfl
 have p5:w4.cell? ⟨N2,5,none⟩=some (.bool false):=z0a gp rfl
 obtain⟨c0,c1,c2,c3,c4,c5,c6,c7,c8,c9⟩:=HGX.out.at
 rw [hk] at c0
 clear gp
 go_wp2_with fail
 refine (z3u HK4.out 7 (by omega) (by simp)).mono ?_
 rintro e w5 ⟨rfl,hkk⟩
 have HK5:=hid hkk
 clear hkk HK4
 clear p0 p1 p2 p3 p4 p5 c0 c1 c2 c3 c4 c5 c6 c7 c8 c9 HGX
 have gp:=z0b HPX.out HK5.out.below
 have HGX:=hid (HX3.out.later HK5.out.below)
 have p0:w5.cell? ⟨N2,0,none⟩=some (.bool false):=z0a gp rfl
 have p1:w5.cell? ⟨N2,1,none⟩=some (.bool true):=z0a gp rfl
 have p2:w5.cell? ⟨N2,2,none⟩=some (.bool false):=z0a gp rfl
 have p3:w5.cell? ⟨N2,3,none⟩=some (.bool false):=z0a gp rfl
 have p4:w5.cell? ⟨N2,4,none⟩=some (.bool false):=z0a gp rfl
 have p5:w5.cell? ⟨N2,5,none⟩=some (.bool false):=z0a gp rfl
 obtain⟨c0,c1,c2,c3,c4,c5,c6,c7,c8,c9⟩:=HGX.out.at
 rw [hk] at c0
 clear gp
 go_wp2_with fail
 refine (z4h HK5.out r.tx HOK.out.tx (by simp only [List.length_append,List.length_nil,z0t];omega)).mono ?_
 rintro e w6 ⟨rfl,hkk⟩
 have HK6:=hid hkk
 clear hkk HK5
 clear p0 p1 p2 p3 p4 p5 c0 c1 c2 c3 c4 c5 c6 c7 c8 c9 HGX
 have gp:=z0b HPX.out HK6.out.below
 have HGX:=hid (HX3.out.later HK6.out.below)
 have p0:w6.cell? ⟨N2,0,none⟩=some (.bool false):=z0a gp rfl
 have p1:w6.cell? ⟨N2,1,none⟩=some (.bool true):=z0a gp rfl
 have p2:w6.cell? ⟨N2,2,none⟩=some (.bool false):=z0a gp rfl
 have p3:w6.cell? ⟨N2,3,none⟩=some (.bool false):=z0a gp rfl
 have p4:w6.cell? ⟨N2,4,none⟩=some (.bool false):=z0a gp rfl
 have p5:w6.cell? ⟨N2,5,none⟩=some (.bool false):=z0a gp rfl
 obtain⟨c0,c1,c2,c3,c4,c5,c6,c7,c8,c9⟩:=HGX.out.at
 rw [hk] at c0
 clear gp
 go_wp2_with fail
 have hbx:((([]:List Nat)++le ((7:Int)).toNat 1)++le r.tx.toNat 4)=z0r (r.x L T M):=by
  unfold z0r
  rw [show ((r.x L T M)).k=7 from hk]
  simp [kS,kT,kB,kA,kO,kP,Rv.x,List.append_assoc]
 have hlx:(z0r (r.x L T M)).length≤100000:=by rw [← hbx];simp only [List.length_append,List.length_nil,List.length_cons,z0t,keyB];omega
 have HKz:Hid (WrOk w3 w6 Bw 512 (0,z0r (r.x L T M))):=hid (by rw [← hbx];exact HK6.out)
 clear hbx HK6
 generalize z0r (r.x L T M)=Z at *
 refine (z3g w3 w6 Bw 512 Z HKz.out hlx).mono ?_
 rintro e w7 ⟨pz',cz,rfl,hbz,hsz,_⟩
 have HF:Hid (z3h W Z (.returned (.tuple #[.slice pz' Z.length cz,.int .i64 0])) w7):=hid ⟨pz',cz,rfl,hsz,HB3.out.trans (hbz.mono HB3.out.size)⟩
 clear hbz hsz hlx
 generalize Z.length=nz at *
 clear p0 p1 p2 p3 p4 p5 c0 c1 c2 c3 c4 c5 c6 c7 c8 c9 HGX
 go_wp2_with fail
 go_ret2
 exact HF.out
theorem rec_write8 (r:Rv) (L:List Ln) (T:List Tk) (M:List Ln) (W:World) (hok:Rxok (r.x L T M)) (hk:r.k=8):Calls Tryz.prog 78 #[.agg (rcs r)] W (z3h W (z0r (r.x L T M))):=by
 obtain⟨W1,hW1,hb1⟩:∃ W1,W.alloc (.cells (rcs r) 42)=W1∧Below W.heap.size W W1:=⟨_,rfl,(Below.refl _ _).alloc (Nat.le_refl _) _⟩
 obtain⟨B,hB⟩:∃ B,W.heap.size=B:=⟨_,rfl⟩
 have hrb:=RB.new W r
 rw [hW1,hB] at hrb
 have HX1:=hid hrb
 have HW1:=hid hW1
 have HB1:=hid hb1
 have HRE:=hid hB
 have c0:W1.cell? ⟨B,0,none⟩=some (.int .u8 r.k):=z0a hrb rfl
 rw [hk] at c0
 clear hW1 hb1 hB hrb
 have HOK:=hid hok
 have u1:=z0v hok.sg
 have u2:=z0v hok.tx
 have u3:IntKind.u64.wrap r.st=r.st:=z0v ⟨hok.st.1,Int.le_trans hok.st.2 (by decide)⟩
 have u4:IntKind.u64.wrap r.o=r.o:=z0v ⟨hok.o.1,Int.le_trans hok.o.2 (by decide)⟩
 change IntKind.u64.wrap r.sg=r.sg at u1
 change IntKind.u64.wrap r.tx=r.tx at u2
 have hpa:=z2q 8 W1
 unfold z1t at hpa
 rw [show ptc 8=#[.bool true,.bool false,.bool false,.bool false,.bool false,.bool false] from rfl] at hpa
 clear hok
 go_enter Tryz.func78,Tryz.ntmps78
 go_upto_region 1 with (fail)
 rw [HW1.out,HRE.out]
 go_wp2_with fail
 refine hpa.mono ?_
 rintro e w2 ⟨rfl,h2⟩
 have HB2:=hid (HB1.out.trans (h2.mono HB1.out.size))
 have HX2:=hid (HX1.out.later h2)
 clear h2 hpa c0
 obtain⟨N2,hN2⟩:∃ n,w2.heap.size=n:=⟨_,rfl⟩
 obtain⟨w3,hwn,hxn,hbn⟩:∃ w3,(w2.alloc (.cells pz 117)).setRow N2 #[.bool true,.bool false,.bool false,.bool false,.bool false,.bool false]=w3∧w3.heap[N2]?=some (.cells #[.bool true,.bool false,.bool false,.bool false,.bool false,.bool false] 117 (0,0))∧Below w2.heap.size w2 w3:=⟨_,rfl,by rw [← hN2];exact setRow_heap _ _ _ _ _ _ (z0c w2 _),below_setRow ((Below.refl _ _).alloc (Nat.le_refl _) _) (by omega) _⟩
 have hx2:=z0c w2 (.cells pz 117)
 rw [hN2] at hx2
 have HPX:=hid hxn
 have HPZ:=hid hx2
 have HBN:=hid hbn
 have HWN:=hid hwn
 have HNN:=hid hN2
 have HS6:Hid ((#[.bool true,.bool false,.bool false,.bool false,.bool false,.bool false]:Array Value).size=6):=hid rfl
 have HA6:Hid ((#[.bool true,.bool false,.bool false,.bool false,.bool false,.bool false]:Array Value).all (·.oneCell')=true):=hid (by simp [Value.oneCell'])
 clear hx2 hxn hbn hwn hN2
 have HB3:=hid (HB2.out.trans (HBN.out.mono HB2.out.size))
 have HX3:=hid (HX2.out.later HBN.out)
 go_wp2_with ((try rw [HNN.out]);(with_reducible refine z0h #[.bool true,.bool false,.bool false,.bool false,.bool false,.bool false] HS6.out HA6.out HPZ.out ?_ ?_ ?_);rfl;rfl;rw [HWN.out])
 refine (z7e w3 w3 512 (Below.refl _ _)).mono ?_
 rintro e w4 ⟨Bw,rfl,hkk⟩
 rw [show lim 512=512 from rfl] at hkk
 have HK4:=hid hkk
 clear hkk
 have gp:=z0b HPX.out HK4.out.below
 have HGX:=hid (HX3.out.later HK4.out.below)
 have p0:w4.cell? ⟨N2,0,none⟩=some (.bool true):=z0a gp rfl
 have p1:w4.cell? ⟨N2,1,none⟩=some (.bool false):=z0a gp rfl
 have p2:w4.cell? ⟨N2,2,none⟩=some (.bool false):=z0a gp rfl
 have p3:w4.cell? ⟨N2,3,none⟩=some (.bool false):=z0a gp rfl
 have p4:w4.cell? ⟨N2,4,none⟩=some (.bool false):=z0a gp rfl
 have p5:w4.cell? ⟨N2,5,none⟩=some (.bool false):=z0a gp rfl
 obtain⟨c0,c1,c2,c3,c4,c5,c6,c7,c8,c9⟩:=HGX.out.at
 rw [hk] at c0
 clear gp
 go_wp2_with fail
 refine (z3u HK4.out 8 (by omega) (by simp)).mono ?_
 rintro e w5 ⟨rfl,hkk⟩
 have HK5:=hid hkk
 clear hkk HK4
 clear p0 p1 p2 p3 p4 p5 c0 c1 c2 c3 c4 c5 c6 c7 c8 c9 HGX
 have gp:=z0b HPX.out HK5.out.below
 have HGX:=hid (HX3.out.later HK5.out.below)
 have p0:w5.cell? ⟨N2,0,none⟩=some (.bool true):=z0a gp rfl
 have p1:w5.cell? ⟨N2,1,none⟩=some (.bool false):=z0a gp rfl
 have p2:w5.cell? ⟨N2,2,none⟩=some (.bool false):=z0a gp rfl
 have p3:w5.cell? ⟨N2,3,none⟩=some (.bool false):=z0a gp rfl
 have p4:w5.cell? ⟨N2,4,none⟩=some (.bool false):=z0a gp rfl
 have p5:w5.cell? ⟨N2,5,none⟩=some (.bool false):=z0a gp rfl
 obtain⟨c0,c1,c2,c3,c4,c5,c6,c7,c8,c9⟩:=HGX.out.at
 rw [hk] at c0
 clear gp
 go_wp2_with fail
 refine (z4h HK5.out r.sg HOK.out.sg (by simp only [List.length_append,List.length_nil,z0t];omega)).mono ?_
 rintro e w6 ⟨rfl,hkk⟩
 have HK6:=hid hkk
 clear hkk HK5
 clear p0 p1 p2 p3 p4 p5 c0 c1 c2 c3 c4 c5 c6 c7 c8 c9 HGX
 have gp:=z0b HPX.out HK6.out.below
 have HGX:=hid (HX3.out.later HK6.out.below)
 have p0:w6.cell? ⟨N2,0,none⟩=some (.bool true):=z0a gp rfl
 have p1:w6.cell? ⟨N2,1,none⟩=some (.bool false):=z0a gp rfl
 have p2:w6.cell? ⟨N2,2,none⟩=some (.bool false):=z0a gp rfl
 have p3:w6.cell? ⟨N2,3,none⟩=some (.bool false):=z0a gp rfl
 have p4:w6.cell? ⟨N2,4,none⟩=some (.bool false):=z0a gp rfl
 have p5:w6.cell? ⟨N2,5,none⟩=some (.bool false):=z0a gp rfl
 obtain⟨c0,c1,c2,c3,c4,c5,c6,c7,c8,c9⟩:=HGX.out.at
 rw [hk] at c0
 clear gp
 go_wp2_with fail
 have hbx:((([]:List Nat)++le ((8:Int)).toNat 1)++le r.sg.toNat 4)=z0r (r.x L T M):=by
  unfold z0r
  rw [show ((r.x L T M)).k=8 from hk]
  simp [kS,kT,kB,kA,kO,kP,Rv.x,List.append_assoc]
 have hlx:(z0r (r.x L T M)).length≤100000:=by rw [← hbx];simp only [List.length_append,List.length_nil,List.length_cons,z0t,keyB];omega
 have HKz:Hid (WrOk w3 w6 Bw 512 (0,z0r (r.x L T M))):=hid (by rw [← hbx];exact HK6.out)
 clear hbx HK6
 generalize z0r (r.x L T M)=Z at *
 refine (z3g w3 w6 Bw 512 Z HKz.out hlx).mono ?_
 rintro e w7 ⟨pz',cz,rfl,hbz,hsz,_⟩
 have HF:Hid (z3h W Z (.returned (.tuple #[.slice pz' Z.length cz,.int .i64 0])) w7):=hid ⟨pz',cz,rfl,hsz,HB3.out.trans (hbz.mono HB3.out.size)⟩
 clear hbz hsz hlx
 generalize Z.length=nz at *
 clear p0 p1 p2 p3 p4 p5 c0 c1 c2 c3 c4 c5 c6 c7 c8 c9 HGX
 go_wp2_with fail
 go_ret2
 exact HF.out
theorem rec_write9 (r:Rv) (L:List Ln) (T:List Tk) (M:List Ln) (W:World) (hok:Rxok (r.x L T M)) (hk:r.k=9):Calls Tryz.prog 78 #[.agg (rcs r)] W (z3h W (z0r (r.x L T M))):=by
 obtain⟨W1,hW1,hb1⟩:∃ W1,W.alloc (.cells (rcs r) 42)=W1∧Below W.heap.size W W1:=⟨_,rfl,(Below.refl _ _).alloc (Nat.le_refl _) _⟩
 obtain⟨B,hB⟩:∃ B,W.heap.size=B:=⟨_,rfl⟩
 have hrb:=RB.new W r
 rw [hW1,hB] at hrb
 have HX1:=hid hrb
 have HW1:=hid hW1
 have HB1:=hid hb1
 have HRE:=hid hB
 have c0:W1.cell? ⟨B,0,none⟩=some (.int .u8 r.k):=z0a hrb rfl
 rw [hk] at c0
 clear hW1 hb1 hB hrb
 have HOK:=hid hok
 have u1:=z0v hok.sg
 have u2:=z0v hok.tx
 have u3:IntKind.u64.wrap r.st=r.st:=z0v ⟨hok.st.1,Int.le_trans hok.st.2 (by decide)⟩
 have u4:IntKind.u64.wrap r.o=r.o:=z0v ⟨hok.o.1,Int.le_trans hok.o.2 (by decide)⟩
 change IntKind.u64.wrap r.sg=r.sg at u1
 change IntKind.u64.wrap r.tx=r.tx at u2
 have hpa:=z2q 9 W1
 unfold z1t at hpa
 rw [show ptc 9=#[.bool true,.bool false,.bool false,.bool false,.bool true,.bool false] from rfl] at hpa
 clear hok
 go_enter Tryz.func78,Tryz.ntmps78
 go_upto_region 1 with (fail)
 rw [HW1.out,HRE.out]
 go_wp2_with fail
 refine hpa.mono ?_
 rintro e w2 ⟨rfl,h2⟩
 have HB2:=hid (HB1.out.trans (h2.mono HB1.out.size))
 have HX2:=hid (HX1.out.later h2)
 clear h2 hpa c0
 obtain⟨N2,hN2⟩:∃ n,w2.heap.size=n:=⟨_,rfl⟩
 obtain⟨w3,hwn,hxn,hbn⟩:∃ w3,(w2.alloc (.cells pz 117)).setRow N2 #[.bool true,.bool false,.bool false,.bool false,.bool true,.bool false]=w3∧w3.heap[N2]?=some (.cells #[.bool true,.bool false,.bool false,.bool false,.bool true,.bool false] 117 (0,0))∧Below w2.heap.size w2 w3:=⟨_,rfl,by rw [← hN2];exact setRow_heap _ _ _ _ _ _ (z0c w2 _),below_setRow ((Below.refl _ _).alloc (Nat.le_refl _) _) (by omega) _⟩
 have hx2:=z0c w2 (.cells pz 117)
 rw [hN2] at hx2
 have HPX:=hid hxn
 have HPZ:=hid hx2
 have HBN:=hid hbn
 have HWN:=hid hwn
 have HNN:=hid hN2
 have HS6:Hid ((#[.bool true,.bool false,.bool false,.bool false,.bool true,.bool false]:Array Value).size=6):=hid rfl
 have HA6:Hid ((#[.bool true,.bool false,.bool false,.bool false,.bool true,.bool false]:Array Value).all (·.oneCell')=true):=hid (by simp [Value.oneCell'])
 clear hx2 hxn hbn hwn hN2
 have HB3:=hid (HB2.out.trans (HBN.out.mono HB2.out.size))
 have HX3:=hid (HX2.out.later HBN.out)
 go_wp2_with ((try rw [HNN.out]);(with_reducible refine z0h #[.bool true,.bool false,.bool false,.bool false,.bool true,.bool false] HS6.out HA6.out HPZ.out ?_ ?_ ?_);rfl;rfl;rw [HWN.out])
 refine (z7e w3 w3 512 (Below.refl _ _)).mono ?_
 rintro e w4 ⟨Bw,rfl,hkk⟩
 rw [show lim 512=512 from rfl] at hkk
 have HK4:=hid hkk
 clear hkk
 have gp:=z0b HPX.out HK4.out.below
 have HGX:=hid (HX3.out.later HK4.out.below)
 have p0:w4.cell? ⟨N2,0,none⟩=some (.bool true):=z0a gp rfl
 have p1:w4.cell? ⟨N2,1,none⟩=some (.bool false):=z0a gp rfl
 have p2:w4.cell? ⟨N2,2,none⟩=some (.bool false):=z0a gp rfl
 have p3:w4.cell? ⟨N2,3,none⟩=some (.bool false):=z0a gp rfl
 have p4:w4.cell? ⟨N2,4,none⟩=some (.bool true):=z0a gp rfl
 have p5:w4.cell? ⟨N2,5,none⟩=some (.bool false):=z0a gp rfl
 obtain⟨c0,c1,c2,c3,c4,c5,c6,c7,c8,c9⟩:=HGX.out.at
 rw [hk] at c0
 clear gp
 go_wp2_with fail
 refine (z3u HK4.out 9 (by omega) (by simp)).mono ?_
 rintro e w5 ⟨rfl,hkk⟩
 have HK5:=hid hkk
 clear hkk HK4
 clear p0 p1 p2 p3 p4 p5 c0 c1 c2 c3 c4 c5 c6 c7 c8 c9 HGX
 have gp:=z0b HPX.out HK5.out.below
 have HGX:=hid (HX3.out.later HK5.out.below)
 have p0:w5.cell? ⟨N2,0,none⟩=some (.bool true):=z0a gp rfl
 have p1:w5.cell? ⟨N2,1,none⟩=some (.bool false):=z0a gp rfl
 have p2:w5.cell? ⟨N2,2,none⟩=some (.bool false):=z0a gp rfl
 have p3:w5.cell? ⟨N2,3,none⟩=some (.bool false):=z0a gp rfl
 have p4:w5.cell? ⟨N2,4,none⟩=some (.bool true):=z0a gp rfl
 have p5:w5.cell? ⟨N2,5,none⟩=some (.bool false):=z0a gp rfl
 obtain⟨c0,c1,c2,c3,c4,c5,c6,c7,c8,c9⟩:=HGX.out.at
 rw [hk] at c0
 clear gp
 go_wp2_with fail
 refine (z4h HK5.out r.sg HOK.out.sg (by simp only [List.length_append,List.length_nil,z0t];omega)).mono ?_
 rintro e w6 ⟨rfl,hkk⟩
 have HK6:=hid hkk
 clear hkk HK5
 clear p0 p1 p2 p3 p4 p5 c0 c1 c2 c3 c4 c5 c6 c7 c8 c9 HGX
 have gp:=z0b HPX.out HK6.out.below
 have HGX:=hid (HX3.out.later HK6.out.below)
 have p0:w6.cell? ⟨N2,0,none⟩=some (.bool true):=z0a gp rfl
 have p1:w6.cell? ⟨N2,1,none⟩=some (.bool false):=z0a gp rfl
 have p2:w6.cell? ⟨N2,2,none⟩=some (.bool false):=z0a gp rfl
 have p3:w6.cell? ⟨N2,3,none⟩=some (.bool false):=z0a gp rfl
 have p4:w6.cell? ⟨N2,4,none⟩=some (.bool true):=z0a gp rfl
 have p5:w6.cell? ⟨N2,5,none⟩=some (.bool false):=z0a gp rfl
 obtain⟨c0,c1,c2,c3,c4,c5,c6,c7,c8,c9⟩:=HGX.out.at
 rw [hk] at c0
 clear gp
 go_wp2_with fail
 refine (z3u HK6.out r.o HOK.out.o (by simp only [List.length_append,List.length_nil,z0t];omega)).mono ?_
 rintro e w7 ⟨rfl,hkk⟩
 have HK7:=hid hkk
 clear hkk HK6
 clear p0 p1 p2 p3 p4 p5 c0 c1 c2 c3 c4 c5 c6 c7 c8 c9 HGX
 have gp:=z0b HPX.out HK7.out.below
 have HGX:=hid (HX3.out.later HK7.out.below)
 have p0:w7.cell? ⟨N2,0,none⟩=some (.bool true):=z0a gp rfl
 have p1:w7.cell? ⟨N2,1,none⟩=some (.bool false):=z0a gp rfl
 have p2:w7.cell? ⟨N2,2,none⟩=some (.bool false):=z0a gp rfl
 have p3:w7.cell? ⟨N2,3,none⟩=some (.bool false):=z0a gp rfl
 have p4:w7.cell? ⟨N2,4,none⟩=some (.bool true):=z0a gp rfl
 have p5:w7.cell? ⟨N2,5,none⟩=some (.bool false):=z0a gp rfl
 obtain⟨c0,c1,c2,c3,c4,c5,c6,c7,c8,c9⟩:=HGX.out.at
 rw [hk] at c0
 clear gp
 go_wp2_with fail
 have hbx:(((([]:List Nat)++le ((9:Int)).toNat 1)++le r.sg.toNat 4)++le r.o.toNat 1)=z0r (r.x L T M):=by
  unfold z0r
  rw [show ((r.x L T M)).k=9 from hk]
  simp [kS,kT,kB,kA,kO,kP,Rv.x,List.append_assoc]
 have hlx:(z0r (r.x L T M)).length≤100000:=by rw [← hbx];simp only [List.length_append,List.length_nil,List.length_cons,z0t,keyB];omega
 have HKz:Hid (WrOk w3 w7 Bw 512 (0,z0r (r.x L T M))):=hid (by rw [← hbx];exact HK7.out)
 clear hbx HK7
 generalize z0r (r.x L T M)=Z at *
 refine (z3g w3 w7 Bw 512 Z HKz.out hlx).mono ?_
 rintro e w8 ⟨pz',cz,rfl,hbz,hsz,_⟩
 have HF:Hid (z3h W Z (.returned (.tuple #[.slice pz' Z.length cz,.int .i64 0])) w8):=hid ⟨pz',cz,rfl,hsz,HB3.out.trans (hbz.mono HB3.out.size)⟩
 clear hbz hsz hlx
 generalize Z.length=nz at *
 clear p0 p1 p2 p3 p4 p5 c0 c1 c2 c3 c4 c5 c6 c7 c8 c9 HGX
 go_wp2_with fail
 go_ret2
 exact HF.out
end Go.Proofs.YtclbkfpbdidaiaaGreatDoor
