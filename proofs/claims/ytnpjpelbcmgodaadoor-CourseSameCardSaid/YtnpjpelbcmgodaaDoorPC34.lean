import Derived.Test.YtnpjpelbcmgodaaDoorPC99
import Derived.Test.YtnpjpelbcmgodaaDoorPC32
import Derived.Test.YtnpjpelbcmgodaaDoorPC33
namespace Go.Proofs.YtnpjpelbcmgodaaDoor
open Go.Lib (hid)
set_option maxHeartbeats 16000000
open Go.RowKit Go.ChangeShapes Go.WideShapes
set_option linter.unusedVariables false
set_option linter.unusedSimpArgs false
set_option maxRecDepth 10000
theorem z1t {fn:Func} (h:fn.results=#[.cell 4 28,.tmp 5]) (tmps:Array Value) (W:World) (R:Nat) (c:Cv) (v:Value) (hp:tmps.getD 4 undef=.pointer (some ⟨R,0,none⟩)) (hv:tmps.getD 5 undef=v)
 (hB:CB W R c):(results fn tmps).run Tryd.prog W=.ok (.tuple #[.agg (ccs c),v]) W:=by
 rw [results_cell_tmp h,hp,hv]
 simp [asAddr,Result.andThen,run_loadVar_row W R 28 28 (ccs c) (0,0) _ hB Tryd.underlying28 rfl (by kernel_rfl)]
theorem z2q {fn:Func} (h:fn.results=#[.cell 2 28,.tmp 3]) (tmps:Array Value) (W:World) (R:Nat) (c:Cv) (v:Value) (hp:tmps.getD 2 undef=.pointer (some ⟨R,0,none⟩)) (hv:tmps.getD 3 undef=v)
 (hB:CB W R c):(results fn tmps).run Tryd.prog W=.ok (.tuple #[.agg (ccs c),v]) W:=by
 rw [results_cell_tmp h,hp,hv]
 simp [asAddr,Result.andThen,run_loadVar_row W R 28 28 (ccs c) (0,0) _ hB Tryd.underlying28 rfl (by kernel_rfl)]
def z6l (W:World) (x:Crs) (z:Int) (e:Ending) (w':World):Prop:=∃ (c:Cv) (L:List Ln) (T:List Tk) (M:List Ln),e=.returned (.tuple #[.agg (ccs c),.int .i64 z])∧CvM w' c L T M∧c.x L T M=x∧Below W.heap.size W w'
def prV (P:Pg) (lp:Option Addr) (lc:Nat) (tp:Option Addr) (tc:Nat) (wp:Option Addr) (wc:Nat):Rv:=⟨0,0,0,0,false,0,0,0,0,0,P.kind,P.order,P.policy,lp,P.lines.length,lc,tp,P.takes.length,tc,wp,P.owes.length,wc,P.sku,P.frm,P.to,P.qty⟩
theorem z3x {w:World} {p:Rv} {L:List Ln} {T:List Tk} {M:List Ln} (h:RvM w p L T M) {R:Nat} (cs:Array Value) (h1:∀ a,p.lp=some a→a.block≠R) (h2:∀ a,p.tp=some a→a.block≠R) (h3:∀ a,p.wp=some a→a.block≠R):RvM (w.setRow R cs) p L T M :=
 ⟨h.l.turn (by simp [World.setRow]) fun _ a ha _=>setRow_other _ _ _ _ (h1 a ha),h.t.turn (by simp [World.setRow]) fun _ a ha _=>setRow_other _ _ _ _ (h2 a ha),h.o.turn (by simp [World.setRow]) fun _ a ha _=>setRow_other _ _ _ _ (h3 a ha)⟩
theorem cr_apply (c:Cv) (L:List Ln) (T:List Tk) (M:List Ln) (W:World) (hw:Words W) (hP:CvM W c L T M) (hok:Crok (c.x L T M)) (h1:c.p.ln≤400∧c.p.tn≤400∧c.p.wn≤400) (r:Rv) (La:List Ln) (Ta:List Tk) (Ma:List Ln) (hR:RvM W r La Ta Ma) (hrk:Rxok (r.x La Ta Ma)) (h2:r.ln≤400∧r.tn≤400∧r.wn≤400):Calls Tryd.prog 9 #[.agg (ccs c),.agg (rcs r)] W (z6l W (appX (c.x L T M) (r.x La Ta Ma)).1 (appX (c.x L T M) (r.x La Ta Ma)).2):=by
 obtain⟨W1,hW1,hx,hy,hz,hb1⟩:∃ W1,((W.alloc (.cells (ccs c) 28)).alloc (.cells (rcs r) 32)).alloc (.cells #[.int .u32 0,.int .u8 0,.int .u32 0,.int .u8 0,.slice none 0 0,.slice none 0 0,.slice none 0 0,.int .u8 0,.int .u8 0,.int .u8 0,.int .i64 0,.bool false,.int .i64 0,.int .i64 0,.int .u32 0] 28)=W1∧CB W1 W.heap.size c∧RB W1 (W.heap.size+1) r∧CB W1 (W.heap.size+2) cz∧Below W.heap.size W W1:=z7i W c r
 obtain⟨B,hB⟩:∃ B,W.heap.size=B:=⟨_,rfl⟩
 rw [hB] at hx hy hz
 have HX:=hid hx
 have HY:=hid hy
 have HZ:=hid hz
 have HW1:=hid hW1
 have HB1:=hid hb1
 have HRE:=hid hB
 have hcp:=copy_p2 c.p.pk c.p.od c.p.po c.p.lp c.p.ln c.p.lcp c.p.tp c.p.tn c.p.tcp c.p.wp c.p.wn c.p.wcp c.p.sk c.p.fr c.p.to c.p.q L T M W1 (hP.later hb1) ⟨by omega,by omega,by omega⟩
 have HW:=hid fun w' (hb:Below W.heap.size W w')=>hw.later hb
 have HR:=hid fun w' (hb:Below W.heap.size W w')=>rec_good r La Ta Ma w' (hw.later hb) (hR.later hb) hrk h2
 have hll:=hP.l.len
 have htl:=hP.t.len
 have hol:=hP.o.len
 have HL:Hid (L.length≤400∧T.length≤400∧M.length≤400):=hid ⟨by omega,by omega,by omega⟩
 have HOK:=hid hok
 have HRK:=hid hrk
 have hsz:W1.heap.size=B+3:=by
  rw [← hW1]
  simp only [World.alloc,Array.size_push]
  omega
 have HSZ:=hid hsz
 have y0:=hy.at.1
 clear hW1 hx hy hz hb1 hB hw hP hok h1 hR hrk h2 hll htl hol hsz
 go_enter Tryd.func9,Tryd.ntmps9
 go_upto_region 1 with (fail)
 (rw [HW1.out,HRE.out];try rw [show B+1+1=B+2 from rfl])
 go_wp2_with ((with_reducible refine z2h HX.out ?_ ?_);rfl)
 refine hcp.mono ?_
 rintro e w2 ⟨lp,lc,tp,tc,wp,wc,rfl,hpm,_,ht2,hb2,hl2,ho2⟩
 obtain⟨p,hp⟩:∃ p,prV ⟨c.p.pk,c.p.od,c.p.po,L,T,M,c.p.sk,c.p.fr,c.p.to,c.p.q⟩ lp lc tp tc wp wc=p:=⟨_,rfl⟩
 have hpc:(#[.int .u8 c.p.pk,.int .u32 c.p.od,.int .u8 c.p.po,.slice lp L.length lc,.slice tp T.length tc,.slice wp M.length wc,.int .u8 c.p.sk,.int .u8 c.p.fr,.int .u8 c.p.to,.int .i64 c.p.q]:Array Value)=pcs p:=by rw [← hp];rfl
 have hq:RvM w2 p L T M:=by rw [← hp];exact hpm
 have HFA:Hid ((∀ a,p.lp=some a→a.block≠B+2)∧(∀ a,p.tp=some a→a.block≠B+2)∧(∀ a,p.wp=some a→a.block≠B+2)):=hid (by
  have h:=HSZ.out
  rw [← hp]
  exact⟨fun a ha=>by have:=hl2 a ha;omega,fun a ha=>by have:=ht2 a ha;omega,fun a ha=>by have:=ho2 a ha;omega⟩)
 have HFB:Hid ((∀ a,p.lp=some a→a.block≠B)∧(∀ a,p.tp=some a→a.block≠B)∧(∀ a,p.wp=some a→a.block≠B)):=hid (by
  have h:=HSZ.out
  rw [← hp]
  exact⟨fun a ha=>by have:=hl2 a ha;omega,fun a ha=>by have:=ht2 a ha;omega,fun a ha=>by have:=ho2 a ha;omega⟩)
 have HLN:Hid (p.ln≤400∧p.tn≤400∧p.wn≤400):=hid (by rw [← hp];exact HL.out)
 have HXX:Hid ((c.withP p).x L T M=c.x L T M):=hid (by rw [← hp];rfl)
 dsimp only
 rw [hpc]
 have HX2:=hid (HX.out.later hb2)
 have HY2:=hid (HY.out.later hb2)
 have HZ2:=hid (HZ.out.later hb2)
 have HB2:=hid (HB1.out.trans (hb2.mono HB1.out.size))
 have hc3:Chg (fun k=>k=B) w2 (w2.setRow B (ccs (c.withP p))):=⟨rfl,rfl,rfl,by simp [World.setRow],fun k _ hn=>setRow_other _ _ _ _ hn⟩
 have HX3:Hid (CB (w2.setRow B (ccs (c.withP p))) B (c.withP p)):=hid (HX2.out.set _)
 have HY3:Hid (RB (w2.setRow B (ccs (c.withP p))) (B+1) r):=hid (HY2.out.chg hc3 (by omega))
 have HZ3:Hid (CB (w2.setRow B (ccs (c.withP p))) (B+2) cz):=hid (HZ2.out.chg hc3 (by omega))
 have HB3:Hid (Below W.heap.size W (w2.setRow B (ccs (c.withP p)))):=hid (Chg.below HB2.out HB2.out.size hc3 fun k hk=>by rw [hk];exact Nat.le_of_eq HRE.out)
 have HQ3:Hid (RvM (w2.setRow B (ccs (c.withP p))) p L T M):=hid (z3x hq _ HFB.out.1 HFB.out.2.1 HFB.out.2.2)
 clear hpc hq hp hpm ht2 hb2 hl2 ho2 hc3 HX HY HZ HFB HL hcp y0
 go_upto_region 2 with ((with_reducible refine wpList_store_cp p HX2.out ?_ ?_ ?_);rfl;rfl)
 clear HX2 HY2 HZ2
 generalize w2.setRow B (ccs (c.withP p))=w3 at *
 have hpp:(c.withP p).p=p:=rfl
 obtain⟨cc,hcc⟩:∃ cc,c.withP p=cc:=⟨_,rfl⟩
 rw [hcc] at HX3 HXX hpp
 have HPP:=hid hpp
 have hgd:=z7l cc L T M w3 (HW.out _ HB3.out) (by show RvM w3 cc.p L T M;rw [hpp];exact HQ3.out) (by rw [HXX.out];exact HOK.out) (by rw [hpp];exact HLN.out)
 have HFT:=hid fun w' (hb:Below W.heap.size W w') (hq:RvM w' p L T M) (hg:z1y (cc.x L T M)=true)=>cr_fits cc L T M w' (HW.out _ hb) (by show RvM w' cc.p L T M;rw [HPP.out];exact hq) (by rw [HXX.out];exact HOK.out) (by rw [HPP.out];exact HLN.out) hg r La Ta Ma HRK.out.st
 have HAF:=hid fun w' h1 h2=>cr_after cc r w' h1 h2
 have HAX:=hid (aftV_x cc r L T M La Ta Ma)
 have HAP:=hid ((aftV_p cc r).trans hpp)
 rw [HXX.out] at hgd HFT HAX
 clear hpp hcc
 have HAPP:Hid (appX (c.x L T M) (r.x La Ta Ma)=if z1y (c.x L T M)=false then (c.x L T M,12) else if z1f (r.x La Ta Ma)=false∨r.k=1 then (c.x L T M,1) else if z3h (c.x L T M) (r.x La Ta Ma)=false then (c.x L T M,12) else (z4a (c.x L T M) (r.x La Ta Ma),0)):=hid rfl
 generalize appX (c.x L T M) (r.x La Ta Ma)=A at *
 have HTR:Hid (z1y (c.x L T M)=true→z3h (c.x L T M) (r.x La Ta Ma)=true→(-9223372036854775807≤cc.st∧cc.st<9223372036854775807)∧(r.k=5→0≤cc.tr∧cc.tr<9223372036854775807)):=hid fun hg hf=>by
  have e1:cc.st=(c.x L T M).st:=by rw [← HXX.out];rfl
  have e2:cc.tr=(c.x L T M).tr:=by rw [← HXX.out];rfl
  obtain⟨_,_,g3,g4,g5⟩:=z1x hg
  have hl:=z3s hg HOK.out.P
  refine⟨by rw [e1];omega,fun e=>?_⟩
  have hk:(r.x La Ta Ma).k=5:=e
  unfold z3h at hf
  simp [hk] at hf
  rw [e2]
  exact⟨g5,hf.2⟩
 cases hg:z1y (c.x L T M) with
 | false =>
  rw [hg] at hgd
  have HE:Hid (A=(c.x L T M,12)):=hid (by rw [HAPP.out,if_pos hg])
  clear HAPP hg HFT HAF HAX HAP HTR HR
  go_wp2_with ((with_reducible refine z0e HX3.out ?_ ?_);rfl)
  refine hgd.mono ?_
  rintro e w4 ⟨rfl,h4⟩
  have HX4:=hid (HX3.out.later h4)
  have HY4:=hid (HY3.out.later h4)
  have HZ4:=hid (HZ3.out.later h4)
  have HB4:=hid (HB3.out.trans (h4.mono HB3.out.size))
  have HQ4:=hid (HQ3.out.later h4)
  have HPM4:Hid (RvM (w4.setRow (B+2) _) p L T M):=hid (z3x HQ4.out (ccs cc) HFA.out.1 HFA.out.2.1 HFA.out.2.2)
  clear h4 HX3 HY3 HZ3 HQ3
  clear hgd
  have HZF:=hid (HZ4.out.set (cc))
  go_wp2_with (first | ((with_reducible refine z0e HX4.out ?_ ?_);rfl) | ((with_reducible refine z0j (cc) HZ4.out ?_ ?_ ?_);rfl;rfl))
  (try simp only [Exit.inBlock,Exit.then])
  refine bodyPost_ret (v:=.tuple #[.agg (ccs (cc)),.int .i64 12]) ?_ rfl ?_
  · exact z1t rfl _ _ (B+2) _ _ rfl rfl HZF.out
  · rw [HE.out]
    exact⟨_,L,T,M,rfl,(by show RvM _ cc.p L T M;rw [HPP.out];exact HPM4.out),HXX.out,below_setRow HB4.out (by have:=HRE.out;omega) _⟩
 | true =>
  rw [hg] at hgd
  go_wp2_with ((with_reducible refine z0e HX3.out ?_ ?_);rfl)
  refine hgd.mono ?_
  rintro e w4 ⟨rfl,h4⟩
  have HX4:=hid (HX3.out.later h4)
  have HY4:=hid (HY3.out.later h4)
  have HZ4:=hid (HZ3.out.later h4)
  have HB4:=hid (HB3.out.trans (h4.mono HB3.out.size))
  have HQ4:=hid (HQ3.out.later h4)
  have HPM4:Hid (RvM (w4.setRow (B+2) _) p L T M):=hid (z3x HQ4.out (ccs cc) HFA.out.1 HFA.out.2.1 HFA.out.2.2)
  clear h4 HX3 HY3 HZ3 HQ3
  clear hgd
  go_wp2_with ((with_reducible refine z0u HY4.out ?_ ?_);rfl)
  refine (HR.out _ HB4.out).mono ?_
  cases hx:z1f (r.x La Ta Ma) with
  | false =>
   rintro e w5 ⟨rfl,h5⟩
   have HX5:=hid (HX4.out.later h5)
   have HY5:=hid (HY4.out.later h5)
   have HZ5:=hid (HZ4.out.later h5)
   have HB5:=hid (HB4.out.trans (h5.mono HB4.out.size))
   have HQ5:=hid (HQ4.out.later h5)
   have HPM5:Hid (RvM (w5.setRow (B+2) _) p L T M):=hid (z3x HQ5.out (ccs cc) HFA.out.1 HFA.out.2.1 HFA.out.2.2)
   clear h5 HX4 HY4 HZ4 HQ4
   have HE:Hid (A=(c.x L T M,1)):=hid (by rw [HAPP.out,if_neg (by rw [hg];simp),if_pos (.inl hx)])
   clear HAPP hg hx HFT HAF HAX HAP HTR HR
   go_upto_region 5 with (fail)
   have HZF:=hid (HZ5.out.set (cc))
   go_wp2_with (first | ((with_reducible refine z0e HX5.out ?_ ?_);rfl) | ((with_reducible refine z0j (cc) HZ5.out ?_ ?_ ?_);rfl;rfl))
   (try simp only [Exit.inBlock,Exit.then])
   refine bodyPost_ret (v:=.tuple #[.agg (ccs (cc)),.int .i64 1]) ?_ rfl ?_
   · exact z1t rfl _ _ (B+2) _ _ rfl rfl HZF.out
   · rw [HE.out]
     exact⟨_,L,T,M,rfl,(by show RvM _ cc.p L T M;rw [HPP.out];exact HPM5.out),HXX.out,below_setRow HB5.out (by have:=HRE.out;omega) _⟩
  | true =>
   rintro e w5 ⟨rfl,h5⟩
   have HX5:=hid (HX4.out.later h5)
   have HY5:=hid (HY4.out.later h5)
   have HZ5:=hid (HZ4.out.later h5)
   have HB5:=hid (HB4.out.trans (h5.mono HB4.out.size))
   have HQ5:=hid (HQ4.out.later h5)
   have HPM5:Hid (RvM (w5.setRow (B+2) _) p L T M):=hid (z3x HQ5.out (ccs cc) HFA.out.1 HFA.out.2.1 HFA.out.2.2)
   clear h5 HX4 HY4 HZ4 HQ4
   have y0:=z0a (j:=0) HY5.out (v:=.int .u8 r.k) rfl
   by_cases hk:r.k=1
   · have HE:Hid (A=(c.x L T M,1)):=hid (by rw [HAPP.out,if_neg (by rw [hg];simp),if_pos (.inr hk)])
     rw [hk] at y0
     clear HAPP hg hx HFT HAF HAX HAP HTR HR hk
     go_upto_region 5 with (fail)
     have HZF:=hid (HZ5.out.set (cc))
     go_wp2_with (first | ((with_reducible refine z0e HX5.out ?_ ?_);rfl) | ((with_reducible refine z0j (cc) HZ5.out ?_ ?_ ?_);rfl;rfl))
     (try simp only [Exit.inBlock,Exit.then])
     refine bodyPost_ret (v:=.tuple #[.agg (ccs (cc)),.int .i64 1]) ?_ rfl ?_
     · exact z1t rfl _ _ (B+2) _ _ rfl rfl HZF.out
     · rw [HE.out]
       exact⟨_,L,T,M,rfl,(by show RvM _ cc.p L T M;rw [HPP.out];exact HPM5.out),HXX.out,below_setRow HB5.out (by have:=HRE.out;omega) _⟩
   · have b1:(r.k==1)=false:=beq_false_of_ne hk
     have hff:=HFT.out _ HB5.out HQ5.out hg
     cases hf:z3h (c.x L T M) (r.x La Ta Ma) with
     | false =>
      rw [hf] at hff
      have HE:Hid (A=(c.x L T M,12)):=hid (by rw [HAPP.out,if_neg (by rw [hg];simp),if_neg (by rw [hx];simp [hk]),if_pos hf])
      clear HAPP hg hx HFT HAF HAX HAP HTR HR hk hf
      go_wp2_with (first | ((with_reducible refine z0e HX5.out ?_ ?_);rfl) | ((with_reducible refine z0u HY5.out ?_ ?_);rfl))
      refine hff.mono ?_
      rintro e w6 ⟨rfl,h6⟩
      have HX6:=hid (HX5.out.later h6)
      have HY6:=hid (HY5.out.later h6)
      have HZ6:=hid (HZ5.out.later h6)
      have HB6:=hid (HB5.out.trans (h6.mono HB5.out.size))
      have HQ6:=hid (HQ5.out.later h6)
      have HPM6:Hid (RvM (w6.setRow (B+2) _) p L T M):=hid (z3x HQ6.out (ccs cc) HFA.out.1 HFA.out.2.1 HFA.out.2.2)
      clear h6 HX5 HY5 HZ5 HQ5
      clear hff y0
      go_upto_region 7 with (fail)
      have HZF:=hid (HZ6.out.set (cc))
      go_wp2_with (first | ((with_reducible refine z0e HX6.out ?_ ?_);rfl) | ((with_reducible refine z0j (cc) HZ6.out ?_ ?_ ?_);rfl;rfl))
      (try simp only [Exit.inBlock,Exit.then])
      refine bodyPost_ret (v:=.tuple #[.agg (ccs (cc)),.int .i64 12]) ?_ rfl ?_
      · exact z1t rfl _ _ (B+2) _ _ rfl rfl HZF.out
      · rw [HE.out]
        exact⟨_,L,T,M,rfl,(by show RvM _ cc.p L T M;rw [HPP.out];exact HPM6.out),HXX.out,below_setRow HB6.out (by have:=HRE.out;omega) _⟩
     | true =>
      rw [hf] at hff
      have HE:Hid (A=(z4a (c.x L T M) (r.x La Ta Ma),0)):=hid (by rw [HAPP.out,if_neg (by rw [hg];simp),if_neg (by rw [hx];simp [hk]),if_neg (by rw [hf];simp)])
      have hab:=HTR.out hg hf
      have HAB:=hid hab
      clear HAPP hg hx HFT HTR HR hk hf hab
      go_wp2_with (first | ((with_reducible refine z0e HX5.out ?_ ?_);rfl) | ((with_reducible refine z0u HY5.out ?_ ?_);rfl))
      refine hff.mono ?_
      rintro e w6 ⟨rfl,h6⟩
      have HX6:=hid (HX5.out.later h6)
      have HY6:=hid (HY5.out.later h6)
      have HZ6:=hid (HZ5.out.later h6)
      have HB6:=hid (HB5.out.trans (h6.mono HB5.out.size))
      have HQ6:=hid (HQ5.out.later h6)
      have HPM6:Hid (RvM (w6.setRow (B+2) _) p L T M):=hid (z3x HQ6.out (ccs cc) HFA.out.1 HFA.out.2.1 HFA.out.2.2)
      clear h6 HX5 HY5 HZ5 HQ5
      clear hff y0
      go_wp2_with (first | ((with_reducible refine z0e HX6.out ?_ ?_);rfl) | ((with_reducible refine z0u HY6.out ?_ ?_);rfl))
      refine (HAF.out _ HAB.out.1 HAB.out.2).mono ?_
      generalize aftV cc r=cn at *
      rintro e w7 ⟨rfl,h7⟩
      have HX7:=hid (HX6.out.later h7)
      have HY7:=hid (HY6.out.later h7)
      have HZ7:=hid (HZ6.out.later h7)
      have HB7:=hid (HB6.out.trans (h7.mono HB6.out.size))
      have HQ7:=hid (HQ6.out.later h7)
      have HPM7:Hid (RvM (w7.setRow (B+2) _) p L T M):=hid (z3x HQ7.out (ccs cn) HFA.out.1 HFA.out.2.1 HFA.out.2.2)
      clear h7 HX6 HY6 HZ6 HQ6
      have HZF:=hid (HZ7.out.set (cn))
      go_wp2_with (first | ((with_reducible refine z0e HX7.out ?_ ?_);rfl) | ((with_reducible refine z0j (cn) HZ7.out ?_ ?_ ?_);rfl;rfl))
      (try simp only [Exit.inBlock,Exit.then])
      refine bodyPost_ret (v:=.tuple #[.agg (ccs (cn)),.int .i64 0]) ?_ rfl ?_
      · exact z1t rfl _ _ (B+2) _ _ rfl rfl HZF.out
      · rw [HE.out]
        exact⟨_,L,T,M,rfl,(by show RvM _ cn.p L T M;rw [HAP.out];exact HPM7.out),HAX.out,below_setRow HB7.out (by have:=HRE.out;omega) _⟩
theorem isfew_p (k od po:Int) (lp:Option Addr) (ln lcp:Nat) (tp:Option Addr) (tn tcp:Nat) (wp:Option Addr) (wn wcp:Nat) (sk fr to q:Int) (W:World):Calls Tryd.prog 30 #[.agg #[.int .u8 k,.int .u32 od,.int .u8 po,.slice lp ln lcp,.slice tp tn tcp,.slice wp wn wcp,.int .u8 sk,.int .u8 fr,.int .u8 to,.int .i64 q]] W fun e w'=>e=.returned (.bool (decide (ln≤20∧tn≤30∧wn≤20)))∧Below W.heap.size W w':=by
 have HB:Hid (Below W.heap.size W (W.alloc (.cells #[.int .u8 k,.int .u32 od,.int .u8 po,.slice lp ln lcp,.slice tp tn tcp,.slice wp wn wcp,.int .u8 sk,.int .u8 fr,.int .u8 to,.int .i64 q] 26))):=hid ((Below.refl _ _).alloc (Nat.le_refl _) _)
 obtain⟨r,hr⟩:∃ r,decide (ln≤20∧tn≤30∧wn≤20)=r:=⟨_,rfl⟩
 have HR:=hid hr
 rw [hr]
 clear hr
 by_cases h1:ln≤20
 case neg =>
  have d1:decide ((ln:Int)≤20)=false:=decide_eq_false (by omega)
  obtain rfl:r=false:=by rw [← HR.out];exact decide_eq_false (by omega)
  go_enter Tryd.func30,Tryd.ntmps30
  go_wp2_with fail
  go_ret
  exact⟨rfl,HB.out⟩
 have d1:decide ((ln:Int)≤20)=true:=decide_eq_true (by omega)
 by_cases h2:tn≤30
 case neg =>
  have d2:decide ((tn:Int)≤30)=false:=decide_eq_false (by omega)
  obtain rfl:r=false:=by rw [← HR.out];exact decide_eq_false (by omega)
  go_enter Tryd.func30,Tryd.ntmps30
  go_wp2_with fail
  go_ret
  exact⟨rfl,HB.out⟩
 have d2:decide ((tn:Int)≤30)=true:=decide_eq_true (by omega)
 by_cases h3:wn≤20
 case neg =>
  have d3:decide ((wn:Int)≤20)=false:=decide_eq_false (by omega)
  obtain rfl:r=false:=by rw [← HR.out];exact decide_eq_false (by omega)
  go_enter Tryd.func30,Tryd.ntmps30
  go_wp2_with fail
  go_ret
  exact⟨rfl,HB.out⟩
 have d3:decide ((wn:Int)≤20)=true:=decide_eq_true (by omega)
 obtain rfl:r=true:=by rw [← HR.out];exact decide_eq_true (by omega)
 go_enter Tryd.func30,Tryd.ntmps30
 go_wp2_with fail
 go_ret
 exact⟨rfl,HB.out⟩
def fewI (ln tn wn:Nat):Int:=if ln≤20∧tn≤30∧wn≤20 then 1 else 0
theorem few_p (k od po:Int) (lp:Option Addr) (ln lcp:Nat) (tp:Option Addr) (tn tcp:Nat) (wp:Option Addr) (wn wcp:Nat) (sk fr to q:Int) (W:World):Calls Tryd.prog 7 #[.agg #[.int .u8 k,.int .u32 od,.int .u8 po,.slice lp ln lcp,.slice tp tn tcp,.slice wp wn wcp,.int .u8 sk,.int .u8 fr,.int .u8 to,.int .i64 q]] W fun e w'=>e=.returned (.int .i64 (fewI ln tn wn))∧Below W.heap.size W w':=by
 obtain⟨W1,hW1,hb1⟩:∃ W1,W.alloc (.cells #[.int .u8 k,.int .u32 od,.int .u8 po,.slice lp ln lcp,.slice tp tn tcp,.slice wp wn wcp,.int .u8 sk,.int .u8 fr,.int .u8 to,.int .i64 q] 26)=W1∧Below W.heap.size W W1:=⟨_,rfl,(Below.refl _ _).alloc (Nat.le_refl _) _⟩
 have HI:=hid (isfew_p k od po lp ln lcp tp tn tcp wp wn wcp sk fr to q W1)
 have HB1:=hid hb1
 have HW1:=hid hW1
 clear hW1 hb1
 by_cases h:ln≤20∧tn≤30∧wn≤20
 · have hi:=HI.out
   rw [decide_eq_true h] at hi
   have HF:Hid (fewI ln tn wn=1):=hid (if_pos h)
   clear h
   go_enter Tryd.func7,Tryd.ntmps7
   go_wp2_with fail
   rw [HW1.out]
   refine hi.mono ?_
   rintro e w2 ⟨rfl,h2⟩
   have HB2:=hid (HB1.out.trans (h2.mono HB1.out.size))
   clear hi h2
   go_wp2_with fail
   go_ret
   exact⟨by rw [HF.out];rfl,HB2.out⟩
 · have hi:=HI.out
   rw [decide_eq_false h] at hi
   have HF:Hid (fewI ln tn wn=0):=hid (if_neg h)
   clear h
   go_enter Tryd.func7,Tryd.ntmps7
   go_wp2_with fail
   rw [HW1.out]
   refine hi.mono ?_
   rintro e w2 ⟨rfl,h2⟩
   have HB2:=hid (HB1.out.trans (h2.mono HB1.out.size))
   clear hi h2
   go_wp2_with fail
   go_ret
   exact⟨by rw [HF.out];rfl,HB2.out⟩
def fewC (c:Cv) (t:Tv):Bool:=decide (c.p.ln≤20∧c.p.tn≤30∧c.p.wn≤20) && decide ((t.n:Int)≤20)
theorem z5r {c:Cv} {t:Tv} (h:fewC c t=true):(c.p.ln≤20∧c.p.tn≤30∧c.p.wn≤20)∧t.n≤20:=by
 unfold fewC at h
 simp only [Bool.and_eq_true,decide_eq_true_eq] at h
 exact⟨h.1,by omega⟩
theorem cr_two8 (W:World) (c:Cv) (t:Tv):∃ W1,(W.alloc (.cells (ccs c) 28)).alloc (.cells #[.int .u32 t.c.id,.int .u32 t.c.sg,.int .u8 t.c.st,.bool t.c.cp,.bool t.c.dd,.slice t.p t.n t.m,.int .i64 t.c.fs,.int .i64 t.c.sz] 36)=W1∧CB W1 W.heap.size c∧W1.heap[W.heap.size+1]?=some (.cells #[.int .u32 t.c.id,.int .u32 t.c.sg,.int .u8 t.c.st,.bool t.c.cp,.bool t.c.dd,.slice t.p t.n t.m,.int .i64 t.c.fs,.int .i64 t.c.sz] 36 (0,0))∧Below W.heap.size W W1:=by
 have hb0:Below W.heap.size W (W.alloc (.cells (ccs c) 28)):=(Below.refl _ _).alloc (Nat.le_refl _) _
 have hs:(W.alloc (.cells (ccs c) 28)).heap.size=W.heap.size+1:=by simp only [World.alloc,Array.size_push]
 have hb1:Below (W.alloc (.cells (ccs c) 28)).heap.size (W.alloc (.cells (ccs c) 28)) ((W.alloc (.cells (ccs c) 28)).alloc (.cells #[.int .u32 t.c.id,.int .u32 t.c.sg,.int .u8 t.c.st,.bool t.c.cp,.bool t.c.dd,.slice t.p t.n t.m,.int .i64 t.c.fs,.int .i64 t.c.sz] 36)):=(Below.refl _ _).alloc (Nat.le_refl _) _
 refine⟨_,rfl,(CB.new W c).later hb1,?_,hb0.trans (hb1.mono hb0.size)⟩
 have h:=z0d (W.alloc (.cells (ccs c) 28)) (.cells #[.int .u32 t.c.id,.int .u32 t.c.sg,.int .u8 t.c.st,.bool t.c.cp,.bool t.c.dd,.slice t.p t.n t.m,.int .i64 t.c.fs,.int .i64 t.c.sz] 36)
 rw [hs] at h
 exact h
theorem cr_isfew (c:Cv) (t:Tv) (W:World):Calls Tryd.prog 29 #[.agg (ccs c),.agg #[.int .u32 t.c.id,.int .u32 t.c.sg,.int .u8 t.c.st,.bool t.c.cp,.bool t.c.dd,.slice t.p t.n t.m,.int .i64 t.c.fs,.int .i64 t.c.sz]] W fun e w'=>e=.returned (.bool (fewC c t))∧Below W.heap.size W w':=by
 obtain⟨W1,hW1,hx,ht,hb1⟩:=cr_two8 W c t
 obtain⟨B,hB⟩:∃ B,W.heap.size=B:=⟨_,rfl⟩
 rw [hB] at hx ht
 have HX:=hid hx
 have HT:=hid ht
 have HW1:=hid hW1
 have HB1:=hid hb1
 have HRE:=hid hB
 have hf:Calls Tryd.prog 7 #[.agg (pcs c.p)] W1 fun e w'=>e=.returned (.int .i64 (fewI c.p.ln c.p.tn c.p.wn))∧Below W1.heap.size W1 w':=few_p c.p.pk c.p.od c.p.po c.p.lp c.p.ln c.p.lcp c.p.tp c.p.tn c.p.tcp c.p.wp c.p.wn c.p.wcp c.p.sk c.p.fr c.p.to c.p.q W1
 have HF:Hid (fewC c t=(decide (c.p.ln≤20∧c.p.tn≤30∧c.p.wn≤20) && decide ((t.n:Int)≤20))):=hid rfl
 generalize fewC c t=F at *
 clear hW1 hx ht hb1 hB
 by_cases q:c.p.ln≤20∧c.p.tn≤30∧c.p.wn≤20
 · rw [show fewI c.p.ln c.p.tn c.p.wn=1 from if_pos q] at hf
   have HFF:Hid (F=decide ((t.n:Int)≤20)):=hid (by rw [HF.out,decide_eq_true q,Bool.true_and])
   clear HF q
   go_enter Tryd.func29,Tryd.ntmps29
   go_upto_region 1 with (fail)
   rw [HW1.out,HRE.out]
   go_wp2_with ((with_reducible refine z2h HX.out ?_ ?_);rfl)
   refine hf.mono ?_
   rintro e w2 ⟨rfl,h2⟩
   have HB2:=hid (HB1.out.trans (h2.mono HB1.out.size))
   have a5:=(z1q (z0c HT.out h2)).2.2.2.2.2.1
   clear h2 hf
   go_wp2_with fail
   go_ret
   exact⟨by rw [HFF.out];rfl,HB2.out⟩
 · rw [show fewI c.p.ln c.p.tn c.p.wn=0 from if_neg q] at hf
   have HFF:Hid (F=false):=hid (by rw [HF.out,decide_eq_false q,Bool.false_and])
   clear HF q
   go_enter Tryd.func29,Tryd.ntmps29
   go_upto_region 1 with (fail)
   rw [HW1.out,HRE.out]
   go_wp2_with ((with_reducible refine z2h HX.out ?_ ?_);rfl)
   refine hf.mono ?_
   rintro e w2 ⟨rfl,h2⟩
   have HB2:=hid (HB1.out.trans (h2.mono HB1.out.size))
   clear h2 hf
   go_wp2_with fail
   go_ret
   exact⟨by rw [HFF.out];rfl,HB2.out⟩
theorem z8q (c:Cv) (t:Tv) (W:World):Calls Tryd.prog 6 #[.agg (ccs c),.agg #[.int .u32 t.c.id,.int .u32 t.c.sg,.int .u8 t.c.st,.bool t.c.cp,.bool t.c.dd,.slice t.p t.n t.m,.int .i64 t.c.fs,.int .i64 t.c.sz]] W fun e w'=>e=.returned (.int .i64 (if fewC c t then 1 else 0))∧Below W.heap.size W w':=by
 obtain⟨W1,hW1,hx,ht,hb1⟩:=cr_two8 W c t
 obtain⟨B,hB⟩:∃ B,W.heap.size=B:=⟨_,rfl⟩
 rw [hB] at hx ht
 have HX:=hid hx
 have HT:=hid ht
 have HW1:=hid hW1
 have HB1:=hid hb1
 have HRE:=hid hB
 have hf:=cr_isfew c t W1
 generalize fewC c t=F at *
 obtain⟨a0,a1,a2,a3,a4,a5,a6,a7⟩:=z1q ht
 clear hW1 hx ht hb1 hB
 cases F
 all_goals
  go_enter Tryd.func6,Tryd.ntmps6
  go_upto_region 1 with (fail)
  rw [HW1.out,HRE.out]
  go_wp2_with ((with_reducible refine z0e HX.out ?_ ?_);rfl)
  refine hf.mono ?_
  rintro e w2 ⟨rfl,h2⟩
  have HB2:=hid (HB1.out.trans (h2.mono HB1.out.size))
  clear h2 hf
  go_wp2_with fail
  go_ret
  exact⟨rfl,HB2.out⟩
theorem cx_eq (c c':Cv) (L:List Ln) (T:List Tk) (M:List Ln) (L':List Ln) (T':List Tk) (M':List Ln):decide (c.x L T M=c'.x L' T' M')=((c.sg==c'.sg) && decide (c.p.pg L T M=c'.p.pg L' T' M') && (c.bk==c'.bk) && (c.st==c'.st) && (c.tr==c'.tr) && (c.tx==c'.tx)):=by
 rw [Bool.eq_iff_iff]
 simp only [Bool.and_eq_true,decide_eq_true_eq,beq_iff_eq,Cv.x,Crs.mk.injEq]
 constructor
 · rintro ⟨h1,h2,h3,h4,h5,h6⟩
   exact⟨⟨⟨⟨⟨h1,h2⟩,h3⟩,h4⟩,h5⟩,h6⟩
 · rintro ⟨⟨⟨⟨⟨h1,h2⟩,h3⟩,h4⟩,h5⟩,h6⟩
   exact⟨h1,h2,h3,h4,h5,h6⟩
theorem z7q (W:World) (c c':Cv):∃ W1,(W.alloc (.cells (ccs c) 28)).alloc (.cells (ccs c') 28)=W1∧CB W1 W.heap.size c∧CB W1 (W.heap.size+1) c'∧Below W.heap.size W W1:=by
 have hb0:Below W.heap.size W (W.alloc (.cells (ccs c) 28)):=(Below.refl _ _).alloc (Nat.le_refl _) _
 have hs:(W.alloc (.cells (ccs c) 28)).heap.size=W.heap.size+1:=by simp only [World.alloc,Array.size_push]
 have hb1:Below (W.alloc (.cells (ccs c) 28)).heap.size (W.alloc (.cells (ccs c) 28)) ((W.alloc (.cells (ccs c) 28)).alloc (.cells (ccs c') 28)):=(Below.refl _ _).alloc (Nat.le_refl _) _
 refine⟨_,rfl,(CB.new W c).later hb1,?_,hb0.trans (hb1.mono hb0.size)⟩
 have h:=CB.new (W.alloc (.cells (ccs c) 28)) c'
 rw [hs] at h
 exact h
theorem cr_same (c c':Cv) (L:List Ln) (T:List Tk) (M:List Ln) (L':List Ln) (T':List Tk) (M':List Ln) (W:World) (hP:CvM W c L T M) (hP':CvM W c' L' T' M') (h1:c.p.ln≤400∧c.p.tn≤400∧c.p.wn≤400) (h2:c'.p.ln≤400∧c'.p.tn≤400∧c'.p.wn≤400):Calls Tryd.prog 28 #[.agg (ccs c),.agg (ccs c')] W fun e w'=>e=.returned (.bool (decide (c.x L T M=c'.x L' T' M')))∧Below W.heap.size W w':=by
 obtain⟨W1,hW1,hx,hx',hb1⟩:=z7q W c c'
 obtain⟨B,hB⟩:∃ B,W.heap.size=B:=⟨_,rfl⟩
 rw [hB] at hx hx'
 have HRE:=hid hB
 have hpp:=z8m c.p.pk c.p.od c.p.po c.p.lp c.p.ln c.p.lcp c.p.tp c.p.tn c.p.tcp c.p.wp c.p.wn c.p.wcp c.p.sk c.p.fr c.p.to c.p.q c'.p.pk c'.p.od c'.p.po c'.p.lp c'.p.ln c'.p.lcp c'.p.tp c'.p.tn c'.p.tcp c'.p.wp c'.p.wn c'.p.wcp c'.p.sk c'.p.fr c'.p.to c'.p.q L T M L' T' M' W1 (hP.later hb1) (hP'.later hb1) ⟨by omega,by omega,by omega⟩ ⟨by omega,by omega,by omega⟩
 obtain⟨z,hz⟩:∃ z,decide (c.p.pg L T M=c'.p.pg L' T' M')=z:=⟨_,rfl⟩
 have hz':decide ((⟨c.p.pk,c.p.od,c.p.po,L,T,M,c.p.sk,c.p.fr,c.p.to,c.p.q⟩:Pg)=⟨c'.p.pk,c'.p.od,c'.p.po,L',T',M',c'.p.sk,c'.p.fr,c'.p.to,c'.p.q⟩)=z:=hz
 rw [hz'] at hpp
 have HPP:Hid (Calls Tryd.prog 50 #[.agg (pcs c.p),.agg (pcs c'.p)] W1 fun e w'=>e=.returned (.bool z)∧Below W1.heap.size W1 w'):=hid hpp
 have HA:=hid (cx_eq c c' L T M L' T' M')
 rw [hz] at HA
 have HX:=hid hx
 have HX':=hid hx'
 have HW1:=hid hW1
 have HB1:=hid hb1
 have e0:=hx.at.1
 have d0:=hx'.at.1
 clear hW1 hx hx' hb1 hB hP hP' h1 h2 hz hz' hpp
 cases q0:(c.sg==c'.sg)
 case false =>
  go_enter Tryd.func28,Tryd.ntmps28
  go_upto_region 1 with (fail)
  rw [HW1.out,HRE.out]
  go_wp2_with fail
  go_ret
  exact⟨by rw [HA.out,q0];rfl,HB1.out⟩
 go_enter Tryd.func28,Tryd.ntmps28
 go_upto_region 1 with (fail)
 rw [HW1.out,HRE.out]
 go_wp2_with (first | ((with_reducible refine z2l HX.out ?_ ?_ ?_);rfl;rfl) | ((with_reducible refine z2l HX'.out ?_ ?_ ?_);rfl;rfl))
 refine HPP.out.mono ?_
 rintro e w2 ⟨rfl,h2⟩
 have HB2:=hid (HB1.out.trans (h2.mono HB1.out.size))
 obtain⟨_,a11,a12,a13,a14⟩:=(HX.out.later h2).at
 obtain⟨_,b11,b12,b13,b14⟩:=(HX'.out.later h2).at
 clear h2 HPP e0 d0
 cases z
 case false =>
  go_wp2_with fail
  go_ret
  exact⟨by rw [HA.out];rw [q0];rfl,HB2.out⟩
 cases q1:(c.bk==c'.bk)
 case false =>
  go_wp2_with fail
  go_ret
  exact⟨by rw [HA.out];rw [q0,q1];rfl,HB2.out⟩
 cases q2:(c.st==c'.st)
 case false =>
  go_wp2_with fail
  go_ret
  exact⟨by rw [HA.out];rw [q0,q1,q2];rfl,HB2.out⟩
 cases q3:(c.tr==c'.tr)
 case false =>
  go_wp2_with fail
  go_ret
  exact⟨by rw [HA.out];rw [q0,q1,q2,q3];rfl,HB2.out⟩
 go_wp2_with fail
 go_ret
 exact⟨by rw [HA.out,q0,q1,q2,q3];rfl,HB2.out⟩
theorem z7j (c c':Cv) (L:List Ln) (T:List Tk) (M:List Ln) (L':List Ln) (T':List Tk) (M':List Ln) (W:World) (hP:CvM W c L T M) (hP':CvM W c' L' T' M') (h1:c.p.ln≤400∧c.p.tn≤400∧c.p.wn≤400) (h2:c'.p.ln≤400∧c'.p.tn≤400∧c'.p.wn≤400):Calls Tryd.prog 13 #[.agg (ccs c),.agg (ccs c')] W fun e w'=>e=.returned (.bool (decide (c.x L T M=c'.x L' T' M')))∧Below W.heap.size W w':=by
 obtain⟨W1,hW1,hx,hx',hb1⟩:=z7q W c c'
 obtain⟨B,hB⟩:∃ B,W.heap.size=B:=⟨_,rfl⟩
 rw [hB] at hx hx'
 have HRE:=hid hB
 have hpp:=z4d c.p.pk c.p.od c.p.po c.p.lp c.p.ln c.p.lcp c.p.tp c.p.tn c.p.tcp c.p.wp c.p.wn c.p.wcp c.p.sk c.p.fr c.p.to c.p.q c'.p.pk c'.p.od c'.p.po c'.p.lp c'.p.ln c'.p.lcp c'.p.tp c'.p.tn c'.p.tcp c'.p.wp c'.p.wn c'.p.wcp c'.p.sk c'.p.fr c'.p.to c'.p.q L T M L' T' M' W1 (hP.later hb1) (hP'.later hb1) ⟨by omega,by omega,by omega⟩ ⟨by omega,by omega,by omega⟩
 obtain⟨z,hz⟩:∃ z,decide (c.p.pg L T M=c'.p.pg L' T' M')=z:=⟨_,rfl⟩
 have hz':decide ((⟨c.p.pk,c.p.od,c.p.po,L,T,M,c.p.sk,c.p.fr,c.p.to,c.p.q⟩:Pg)=⟨c'.p.pk,c'.p.od,c'.p.po,L',T',M',c'.p.sk,c'.p.fr,c'.p.to,c'.p.q⟩)=z:=hz
 rw [hz'] at hpp
 have HPP:Hid (Calls Tryd.prog 37 #[.agg (pcs c.p),.agg (pcs c'.p)] W1 fun e w'=>e=.returned (.bool z)∧Below W1.heap.size W1 w'):=hid hpp
 have HA:=hid (cx_eq c c' L T M L' T' M')
 rw [hz] at HA
 have HX:=hid hx
 have HX':=hid hx'
 have HW1:=hid hW1
 have HB1:=hid hb1
 have e0:=hx.at.1
 have d0:=hx'.at.1
 clear hW1 hx hx' hb1 hB hP hP' h1 h2 hz hz' hpp
 cases q0:(c.sg==c'.sg)
 case false =>
  go_enter Tryd.func13,Tryd.ntmps13
  go_upto_region 1 with (fail)
  rw [HW1.out,HRE.out]
  go_wp2_with fail
  go_ret
  exact⟨by rw [HA.out,q0];rfl,HB1.out⟩
 go_enter Tryd.func13,Tryd.ntmps13
 go_upto_region 1 with (fail)
 rw [HW1.out,HRE.out]
 go_wp2_with (first | ((with_reducible refine z2l HX.out ?_ ?_ ?_);rfl;rfl) | ((with_reducible refine z2l HX'.out ?_ ?_ ?_);rfl;rfl))
 refine HPP.out.mono ?_
 rintro e w2 ⟨rfl,h2⟩
 have HB2:=hid (HB1.out.trans (h2.mono HB1.out.size))
 obtain⟨_,a11,a12,a13,a14⟩:=(HX.out.later h2).at
 obtain⟨_,b11,b12,b13,b14⟩:=(HX'.out.later h2).at
 clear h2 HPP e0 d0
 cases z
 case false =>
  go_wp2_with fail
  go_ret
  exact⟨by rw [HA.out];rw [q0];rfl,HB2.out⟩
 cases q1:(c.bk==c'.bk)
 case false =>
  go_wp2_with fail
  go_ret
  exact⟨by rw [HA.out];rw [q0,q1];rfl,HB2.out⟩
 cases q2:(c.st==c'.st)
 case false =>
  go_wp2_with fail
  go_ret
  exact⟨by rw [HA.out];rw [q0,q1,q2];rfl,HB2.out⟩
 cases q3:(c.tr==c'.tr)
 case false =>
  go_wp2_with fail
  go_ret
  exact⟨by rw [HA.out];rw [q0,q1,q2,q3];rfl,HB2.out⟩
 go_wp2_with fail
 go_ret
 exact⟨by rw [HA.out,q0,q1,q2,q3];rfl,HB2.out⟩
abbrev zr:Array Value:=#[.int .u8 0,.int .u32 0,.int .u32 0,.int .u8 0,.bool false,.int .u8 0,.int .u8 0,.int .u8 0,.int .i64 0,.int .u8 0,.int .u8 0,.int .u32 0,.int .u8 0,.slice none 0 0,.slice none 0 0,.slice none 0 0,.int .u8 0,.int .u8 0,.int .u8 0,.int .i64 0]
theorem no_lists {r:Rv} (h:r.lp=none∧r.ln=0∧r.lcp=0∧r.tp=none∧r.tn=0∧r.tcp=0∧r.wp=none∧r.wn=0∧r.wcp=0) (w:World):RvM w r [] [] []:=by
 obtain⟨e1,e2,e3,e4,e5,e6,e7,e8,e9⟩:=h
 unfold RvM
 rw [e1,e2,e3,e4,e5,e6,e7,e8,e9]
 exact⟨SlG.empty _,SlG.empty _,SlG.empty _⟩
theorem held_load_rpr {a:Act} {w:World} {dst:Option Tmp} {x:Operand} {ty:TypeId} {pos:String} {after:Array Edge} {gd:Option (Nat × Bool)} {B:Nat} {r:Rv} (hx:a.eval x=.pointer (some ⟨B,10,none⟩)) (hC:RB w B r) :
 (execOp a.eval (Oper.mk dst (.load 26 x) ty pos after gd)).run Tryd.prog w=.ok (.value (.agg (pcs r))) w:=by
 unfold execOp
 simp only [hx,Instr.loadAt,Instr.sureAddr,Sem.run_bind,Sem.run_pure,Result.andThen_ok,z1k w B 10 32 26 (rcs r) (pcs r) (0,0) _ hC (z6w r) Tryd.underlying26 rfl (by kernel_rfl)]
theorem cr_two0 (W:World) (r:Rv):∃ W1,(W.alloc (.cells (rcs r) 32)).alloc (.cells #[.int .u32 0,.int .u8 0,.int .u32 0,.int .u8 0,.slice none 0 0,.slice none 0 0,.slice none 0 0,.int .u8 0,.int .u8 0,.int .u8 0,.int .i64 0,.bool false,.int .i64 0,.int .i64 0,.int .u32 0] 28)=W1∧RB W1 W.heap.size r∧CB W1 (W.heap.size+1) cz∧W1.heap.size=W.heap.size+2∧Below W.heap.size W W1:=by
 have hb0:Below W.heap.size W (W.alloc (.cells (rcs r) 32)):=(Below.refl _ _).alloc (Nat.le_refl _) _
 have hs:(W.alloc (.cells (rcs r) 32)).heap.size=W.heap.size+1:=by simp only [World.alloc,Array.size_push]
 have hb1:Below (W.alloc (.cells (rcs r) 32)).heap.size (W.alloc (.cells (rcs r) 32)) ((W.alloc (.cells (rcs r) 32)).alloc (.cells #[.int .u32 0,.int .u8 0,.int .u32 0,.int .u8 0,.slice none 0 0,.slice none 0 0,.slice none 0 0,.int .u8 0,.int .u8 0,.int .u8 0,.int .i64 0,.bool false,.int .i64 0,.int .i64 0,.int .u32 0] 28)):=(Below.refl _ _).alloc (Nat.le_refl _) _
 refine⟨_,rfl,(RB.new W r).later hb1,?_,by simp only [World.alloc,Array.size_push],hb0.trans (hb1.mono hb0.size)⟩
 have h:=CB.new (W.alloc (.cells (rcs r) 32)) cz
 rw [hs] at h
 exact h
theorem cr_start (r:Rv) (L:List Ln) (T:List Tk) (M:List Ln) (W:World) (hw:Words W) (hR:RvM W r L T M) (hrk:Rxok (r.x L T M)) (h2:r.ln≤400∧r.tn≤400∧r.wn≤400):Calls Tryd.prog 11 #[.agg (rcs r)] W (z6l W (z2z (r.x L T M)).1 (z2z (r.x L T M)).2):=by
 obtain⟨W1,hW1,hy,hz,hsz,hb1⟩:=cr_two0 W r
 obtain⟨B,hB⟩:∃ B,W.heap.size=B:=⟨_,rfl⟩
 rw [hB] at hy hz hsz
 have HY:=hid hy
 have HZ:=hid hz
 have HW1:=hid hW1
 have HB1:=hid hb1
 have HRE:=hid hB
 have HSZ:=hid hsz
 have HR:=hid (rec_good r L T M W1 (hw.later hb1) (hR.later hb1) hrk h2)
 have HCP:=hid (copy_p2 r.pk r.od r.po r.lp r.ln r.lcp r.tp r.tn r.tcp r.wp r.wn r.wcp r.sk r.fr r.to r.q L T M)
 have HRM:=hid (hR.later hb1)
 have HLM:Hid (r.ln≤1000∧r.tn≤1000∧r.wn≤1000):=hid ⟨by omega,by omega,by omega⟩
 have HSX:Hid (z2z (r.x L T M)=if r.k=1∧z1f (r.x L T M)=true then (⟨r.sg,r.pg L T M,false,0,0,0⟩,0) else (noC,1)):=hid rfl
 obtain⟨g,hg⟩:∃ g,z1f (r.x L T M)=g:=⟨_,rfl⟩
 rw [hg] at HR HSX
 generalize z2z (r.x L T M)=A at *
 have y0:=hy.at.1
 clear hW1 hy hz hsz hb1 hB hw hR hrk h2 hg
 have HNO:Hid (∀ w',Below W.heap.size W w'→RvM (w'.setRow (B+1) (ccs cz)) cz.p [] [] []):=hid fun w' _=>rz_m _
 by_cases hk:r.k=1
 case neg =>
  have b1:(r.k != 1)=true:=bne_iff_ne.2 hk
  have HE:Hid (A=(noC,1)):=hid (by rw [HSX.out,if_neg (fun h=>hk h.1)])
  have HZF:=hid (HZ.out.set cz)
  clear HR HCP HRM HLM HSX hk
  go_enter Tryd.func11,Tryd.ntmps11
  go_upto_region 1 with (fail)
  rw [HW1.out,HRE.out]
  go_wp2_with ((with_reducible refine z0j cz HZ.out ?_ ?_ ?_);rfl;rfl)
  (try simp only [Exit.inBlock,Exit.then])
  refine bodyPost_ret (v:=.tuple #[.agg (ccs cz),.int .i64 1]) ?_ rfl ?_
  · exact z2q rfl _ _ (B+1) _ _ rfl rfl HZF.out
  · rw [HE.out]
    exact⟨cz,[],[],[],rfl,HNO.out _ HB1.out,cz_x,below_setRow HB1.out (by have:=HRE.out;omega) _⟩
 case pos =>
 rw [hk] at y0
 cases g with
 | false =>
  have HE:Hid (A=(noC,1)):=hid (by rw [HSX.out,if_neg (fun h=>by cases h.2)])
  clear HCP HRM HLM HSX hk
  go_enter Tryd.func11,Tryd.ntmps11
  go_upto_region 1 with (fail)
  rw [HW1.out,HRE.out]
  go_wp2_with ((with_reducible refine z0b HY.out ?_ ?_ ?_);rfl;rfl)
  refine HR.out.mono ?_
  rintro e w2 ⟨rfl,h2⟩
  have HZ2:=hid (HZ.out.later h2)
  have HB2:=hid (HB1.out.trans (h2.mono HB1.out.size))
  have HZF:=hid (HZ2.out.set cz)
  clear h2 HR y0
  go_wp2_with ((with_reducible refine z0j cz HZ2.out ?_ ?_ ?_);rfl;rfl)
  (try simp only [Exit.inBlock,Exit.then])
  refine bodyPost_ret (v:=.tuple #[.agg (ccs cz),.int .i64 1]) ?_ rfl ?_
  · exact z2q rfl _ _ (B+1) _ _ rfl rfl HZF.out
  · rw [HE.out]
    exact⟨cz,[],[],[],rfl,HNO.out _ HB2.out,cz_x,below_setRow HB2.out (by have:=HRE.out;omega) _⟩
 | true =>
  have HE:Hid (A=(⟨r.sg,r.pg L T M,false,0,0,0⟩,0)):=hid (by rw [HSX.out,if_pos ⟨hk,rfl⟩])
  clear HNO HSX hk
  go_enter Tryd.func11,Tryd.ntmps11
  go_upto_region 1 with (fail)
  rw [HW1.out,HRE.out]
  go_wp2_with ((with_reducible refine z0b HY.out ?_ ?_ ?_);rfl;rfl)
  refine HR.out.mono ?_
  rintro e w2 ⟨rfl,h2⟩
  have HY2:=hid (HY.out.later h2)
  have HZ2:=hid (HZ.out.later h2)
  have HB2:=hid (HB1.out.trans (h2.mono HB1.out.size))
  have HM2:=hid (HRM.out.later h2)
  have HS2:=hid h2.size
  clear h2 HR y0 HY HZ HRM
  go_upto_region 3 with (fail)
  have hbd:RB w2.drew B r:=HY2.out
  have HZ3:Hid (CB w2.drew (B+1) cz):=hid HZ2.out
  have HB3:Hid (Below W.heap.size W w2.drew):=hid HB2.out.drew
  have HM3:Hid (RvM w2.drew r L T M):=hid (HM2.out.later (Below.refl _ _).drew)
  have HS3:Hid (B+2≤w2.drew.heap.size):=hid (by have h1:=HSZ.out;have h2:=HS2.out;show B+2≤w2.heap.size;omega)
  refine wp_region_held_drew (S:=fun w'=>Hid (RB w' B r)) (by kernel_rfl) (hid hbd) (fun hHeld=>?_)
  clear hbd HY2 HZ2 HB2 HM2 HS2
  generalize w2.drew=Wd at *
  refine wpAnyH_take (i:=0) (oi:=⟨some 13,_,_,_,_,_⟩) (v:=.pointer (some ⟨B,1,none⟩)) rfl (by kernel_rfl) (by kernel_rfl) (by kernel_rfl) (fun _ _ _ h=>h) (Or.inl ⟨by rfl,fun w' hw'=>?_⟩) (by assumption) ?_
  · clear hHeld
    go_simp
  try simp only [Act.put,sIB,sCZ,sCS]
  refine wpAnyH_take (i:=1) (oi:=⟨some 14,_,_,_,_,_⟩) (v:=.int .u32 r.sg) rfl (by kernel_rfl) (by kernel_rfl) (by kernel_rfl) (fun _ _ _ h=>h) (Or.inl ⟨by rfl,fun w' hw'=>?_⟩) (by assumption) ?_
  · have hcx:=hw'.out.at.2.1
    clear hHeld hw'
    go_simp
  try simp only [Act.put,sIB,sCZ,sCS]
  refine wpAnyH_take (i:=2) (oi:=⟨some 15,_,_,_,_,_⟩) (v:=.pointer (some ⟨B,10,none⟩)) rfl (by kernel_rfl) (by kernel_rfl) (by kernel_rfl) (fun _ _ _ h=>h) (Or.inl ⟨by rfl,fun w' hw'=>?_⟩) (by assumption) ?_
  · clear hHeld
    go_simp
  try simp only [Act.put,sIB,sCZ,sCS]
  refine wpAnyH_take (i:=3) (oi:=⟨some 16,_,_,_,_,_⟩) (v:=.agg (pcs r)) rfl (by kernel_rfl) (by kernel_rfl) (by kernel_rfl) (fun _ _ _ h=>h) (Or.inl ⟨by rfl,fun w' hw'=>held_load_rpr rfl (Hid.out hw')⟩) (by assumption) ?_
  try simp only [Act.put,sIB,sCZ,sCS]
  refine wpAnyH_ready (rs:=[4]) (by kernel_rfl) (by simp) (AllReadyH.cons rfl (fun K hK=>?_) (AllReadyH.nil))
  go_simp
  go_wp2_with fail
  refine (HCP.out Wd HM3.out HLM.out).mono ?_
  rintro e w4 ⟨lp,lc,tp,tc,wp,wc,rfl,hpm,_,ht4,hb4,hl4,ho4⟩
  have HFA:Hid ((∀ a,lp=some a→a.block≠B+1)∧(∀ a,tp=some a→a.block≠B+1)∧(∀ a,wp=some a→a.block≠B+1)):=hid (by
   have h:=HS3.out
   exact⟨fun a ha=>by have:=hl4 a ha;omega,fun a ha=>by have:=ht4 a ha;omega,fun a ha=>by have:=ho4 a ha;omega⟩)
  have hSN:Hid (RB w4 B r):=hid (hHeld.out.later hb4)
  have HZ4:=hid (HZ3.out.later hb4)
  have HB4:=hid (HB3.out.trans (hb4.mono HB3.out.size))
  have HM4:=hid hpm
  clear hpm ht4 hb4 hl4 ho4 HZ3 HB3 HM3 HS3
  go_wp2_with fail
  refine hK.out _ _ hSN (fun hHeld2=>?_)
  try simp only [Act.put,sIB,sCZ,sCS]
  clear hSN hK K hHeld
  have hHeld:=hHeld2
  clear hHeld2
  obtain⟨cc,hcc⟩:∃ cc:Cv,cc=⟨r.sg,prV ⟨r.pk,r.od,r.po,L,T,M,r.sk,r.fr,r.to,r.q⟩ lp lc tp tc wp wc,false,0,0,0⟩:=⟨_,rfl⟩
  have hcs:(#[.int .u32 r.sg,.int .u8 r.pk,.int .u32 r.od,.int .u8 r.po,.slice lp L.length lc,.slice tp T.length tc,.slice wp M.length wc,.int .u8 r.sk,.int .u8 r.fr,.int .u8 r.to,.int .i64 r.q,.bool false,.int .i64 0,.int .i64 0,.int .u32 0]:Array Value)=ccs cc:=by rw [hcc];rfl
  have HCS:=hid hcs
  have HXX:Hid (cc.x L T M=⟨r.sg,r.pg L T M,false,0,0,0⟩):=hid (by rw [hcc];rfl)
  have HPM:Hid (RvM (w4.setRow (B+1) (ccs cc)) cc.p L T M):=hid (z3x (R:=B+1) (by rw [hcc];exact HM4.out) (ccs cc) (by rw [hcc];exact HFA.out.1) (by rw [hcc];exact HFA.out.2.1) (by rw [hcc];exact HFA.out.2.2))
  clear hcc hcs
  refine wpAnyH_take (i:=5) (oi:=⟨some 18,_,_,_,_,_⟩) (v:=.agg #[.int .u32 r.sg,.int .u8 r.pk,.int .u32 r.od,.int .u8 r.po,.slice lp L.length lc,.slice tp T.length tc,.slice wp M.length wc,.int .u8 r.sk,.int .u8 r.fr,.int .u8 r.to,.int .i64 r.q,.bool false,.int .i64 0,.int .i64 0,.int .u32 0]) rfl (by kernel_rfl) (by kernel_rfl) (by kernel_rfl) (fun _ _ _ h=>h) (Or.inl ⟨by rfl,fun w' hw'=>?_⟩) (by assumption) ?_
  · clear hHeld
    go_simp
  try simp only [Act.put,sIB,sCZ,sCS]
  rw [HCS.out]
  refine wpAnyH_ready (rs:=[6]) (by kernel_rfl) (by simp) (AllReadyH.cons rfl (fun K hK=>?_) (AllReadyH.nil))
  rw [if_pos (by rfl)]
  refine wp_store_row 28 _ _ rfl (B+1) (ccs cc) rfl rfl 28 _ HZ4.out (by kernel_rfl) rfl (ccs_one cc) ?_
  have HZF:Hid (CB (w4.setRow (B+1) (ccs cc)) (B+1) cc):=hid (HZ4.out.set cc)
  have hSN:Hid (RB (w4.setRow (B+1) (ccs cc)) B r):=hid (hHeld.out.chg (S:=fun k=>k=B+1) ⟨rfl,rfl,rfl,by simp [World.setRow],fun k _ hn=>setRow_other _ _ _ _ hn⟩ (by omega))
  have HB5:Hid (Below W.heap.size W (w4.setRow (B+1) (ccs cc))):=hid (below_setRow HB4.out (by have:=HRE.out;omega) _)
  clear HZ4 HB4 HM4
  generalize w4.setRow (B+1) (ccs cc)=w5 at *
  refine hK.out _ _ hSN (fun hHeld2=>?_)
  try simp only [Act.put,sIB,sCZ,sCS]
  clear hSN hK K hHeld
  have hHeld:=hHeld2
  clear hHeld2
  refine wpAnyH_take (i:=7) (oi:=⟨some 3,_,_,_,_,_⟩) (v:=.int .i64 0) rfl (by kernel_rfl) (by kernel_rfl) (by kernel_rfl) (fun _ _ _ h=>h) (Or.inl ⟨by rfl,fun w' hw'=>?_⟩) (by assumption) ?_
  · clear hHeld
    go_simp
  try simp only [Act.put,sIB,sCZ,sCS]
  refine wpAnyH_done (by kernel_rfl) ?_ _
  clear hHeld
  go_wp2_with fail
  (try simp only [Exit.inBlock,Exit.then])
  refine bodyPost_ret (v:=.tuple #[.agg (ccs cc),.int .i64 0]) ?_ rfl ?_
  · exact z2q rfl _ _ (B+1) _ _ rfl rfl HZF.out
  · rw [HE.out]
    exact⟨cc,L,T,M,rfl,HPM.out,HXX.out,HB5.out⟩
end Go.Proofs.YtnpjpelbcmgodaaDoor
