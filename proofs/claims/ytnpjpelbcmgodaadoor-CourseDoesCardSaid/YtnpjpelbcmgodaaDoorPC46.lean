import Derived.Test.YtnpjpelbcmgodaaDoorPC37
import Derived.Deep.CutBlock
namespace Go.Proofs.YtnpjpelbcmgodaaDoor
open Go.Lib (hid)
set_option maxHeartbeats 16000000
open Go.RowKit Go.ChangeShapes Go.WideShapes
set_option linter.unusedVariables false
set_option linter.unusedSimpArgs false
set_option maxRecDepth 10000
def aftW (c:Cv) (r:Rv):Cv :=
 if r.k=2 then { c with tx:=r.tx }
 else if r.k=4 then { c with tx:=0,st:=if c.bk then c.st-1 else c.st+1 }
 else if r.k=5 then { c with tr:=rndI (c.tr+1) }
 else if r.k=7 then { c with tx:=0 }
 else if r.k=8 then { c with bk:=true }
 else c
theorem z8r (c:Cv) (r:Rv) (L:List Ln) (T:List Tk) (M:List Ln) (La:List Ln) (Ta:List Tk) (Ma:List Ln):(aftW c r).x L T M=aftR (c.x L T M) (r.x La Ta Ma):=by
 unfold aftW aftR
 show _=if r.k=2 then _ else if r.k=4 then _ else if r.k=5 then _ else if r.k=7 then _ else if r.k=8 then _ else _
 by_cases h2:r.k=2
 · rw [if_pos h2,if_pos h2];rfl
 rw [if_neg h2,if_neg h2]
 by_cases h4:r.k=4
 · rw [if_pos h4,if_pos h4];rfl
 rw [if_neg h4,if_neg h4]
 by_cases h5:r.k=5
 · rw [if_pos h5,if_pos h5];rfl
 rw [if_neg h5,if_neg h5]
 by_cases h7:r.k=7
 · rw [if_pos h7,if_pos h7];rfl
 rw [if_neg h7,if_neg h7]
 by_cases h8:r.k=8
 · rw [if_pos h8,if_pos h8];rfl
 rw [if_neg h8,if_neg h8]
theorem z8s (c:Cv) (r:Rv):(aftW c r).p=c.p:=by
 unfold aftW
 repeat (first | rfl | split)
theorem wrap_rnd (z:Int) (h:0≤z∧z≤9223372036854775808):IntKind.i64.wrap z=rndI z:=by
 unfold rndI
 by_cases h1:z=9223372036854775808
 · rw [if_pos h1,h1];decide
 · rw [if_neg h1,if_neg (by omega)]
   exact IntWalk.i64_in _ (by omega)
theorem rnd_in (z:Int) (h:0≤z∧z≤9223372036854775808):In64 (rndI z):=by
 unfold rndI In64
 split
 · omega
 · split <;> omega
theorem aftR_ok {c:Crs} {X:Rx} (hc:Crok c) (hg:z1y c=true) (hok:Rxok X):Crok (aftR c X):=by
 obtain⟨g1,g2,g3,g4,g5⟩:=z1x hg
 have hl:=z3s hg hc.P
 have ht:=hc.tr
 unfold In64 at ht
 unfold aftR
 split
 · exact⟨hc.sg,hc.P,hc.st,hc.tr,hok.tx⟩
 split
 · refine⟨hc.sg,hc.P,?_,hc.tr,⟨Int.le_refl 0,by show (0:Int)≤4294967295;omega⟩⟩
   show In64 (if c.bk then c.st-1 else c.st+1)
   unfold In64
   split <;> omega
 split
 · exact⟨hc.sg,hc.P,hc.st,rnd_in _ (by omega),hc.tx⟩
 split
 · exact⟨hc.sg,hc.P,hc.st,hc.tr,⟨Int.le_refl 0,by show (0:Int)≤4294967295;omega⟩⟩
 split
 · exact⟨hc.sg,hc.P,hc.st,hc.tr,hc.tx⟩
 · exact hc
theorem cr_rapply (c:Cv) (L:List Ln) (T:List Tk) (M:List Ln) (W:World) (hP:CvM W c L T M) (hok:Crok (c.x L T M)) (h1:c.p.ln≤400∧c.p.tn≤400∧c.p.wn≤400) (r:Rv) (La:List Ln) (Ta:List Tk) (Ma:List Ln) (hR:RvM W r La Ta Ma) (hrk:Rxok (r.x La Ta Ma)) (h2:r.ln≤400∧r.tn≤400∧r.wn≤400):Calls Tryd.prog 10 #[.agg (ccs c),.agg (rcs r)] W (z6l W (appX (c.x L T M) (r.x La Ta Ma)).1 (appX (c.x L T M) (r.x La Ta Ma)).2):=by
 obtain⟨W1,hW1,hx,hy,hz,hb1⟩:∃ W1,((W.alloc (.cells (ccs c) 28)).alloc (.cells (rcs r) 32)).alloc (.cells #[.int .u32 0,.int .u8 0,.int .u32 0,.int .u8 0,.slice none 0 0,.slice none 0 0,.slice none 0 0,.int .u8 0,.int .u8 0,.int .u8 0,.int .i64 0,.bool false,.int .i64 0,.int .i64 0,.int .u32 0] 28)=W1∧CB W1 W.heap.size c∧RB W1 (W.heap.size+1) r∧CB W1 (W.heap.size+2) cz∧Below W.heap.size W W1:=z7i W c r
 obtain⟨B,hB⟩:∃ B,W.heap.size=B:=⟨_,rfl⟩
 rw [hB] at hx hy hz
 have HX:=hid hx
 have HY:=hid hy
 have HZ:=hid hz
 have HW1:=hid hW1
 have HB1:=hid hb1
 have HRE:=hid hB
 have HP:=hid fun w' (hb:Below W.heap.size W w')=>PgM.later hP hb
 have hgd:=z7k c L T M W1 (HP.out _ hb1) hok h1
 have HR:=hid fun w' (hb:Below W.heap.size W w')=>rrec_good r La Ta Ma w' (PgM.later hR hb) hrk ⟨by omega,by omega,by omega⟩
 have HA:=hid (appX_ref (c:=c.x L T M) (X:=r.x La Ta Ma) hok hrk.st.1)
 have HGD:=hid fun w' (hb:Below W.heap.size W w') (hg:z1y (c.x L T M)=true)=>z7k (aftW c r) L T M w' (by show RvM w' (aftW c r).p L T M;rw [z8s];exact HP.out _ hb) (by rw [z8r c r L T M La Ta Ma];exact aftR_ok hok hg hrk) (by rw [z8s];exact h1)
 rw [z8r c r L T M La Ta Ma] at HGD
 have HAX:=hid (z8r c r L T M La Ta Ma)
 have HFT:=hid fun w' (hb:Below W.heap.size W w') (hg:z1y (c.x L T M)=true)=>cr_rfits c L T M w' (HP.out _ hb) hok h1 hg r La Ta Ma hrk.st
 have HST:Hid (z1y (c.x L T M)=true→(-9223372036854775807≤c.st∧c.st<9223372036854775807)∧0≤c.tr∧c.tr≤9223372036854775807):=hid fun hg=>by
  obtain⟨_,_,g3,g4,g5⟩:=z1x hg
  have hl:=z3s hg hok.P
  have g3':0≤c.st:=g3
  have g4':c.st≤lenC (c.x L T M):=g4
  have g5':0≤c.tr:=g5
  exact⟨by omega,g5',hok.tr.2⟩
 have HK0:Hid (aftW c r=if r.k=2 then { c with tx:=r.tx }
 else if r.k=4 then { c with tx:=0,st:=if c.bk then c.st-1 else c.st+1 }
 else if r.k=5 then { c with tr:=rndI (c.tr+1) }
 else if r.k=7 then { c with tx:=0 }
 else if r.k=8 then { c with bk:=true }
 else c):=hid rfl
 have HXk:Hid ((r.x La Ta Ma).k=r.k):=hid rfl
 generalize appX (c.x L T M) (r.x La Ta Ma)=A at *
 clear hW1 hx hy hz hb1 hB hP hok h1 hR hrk h2
 cases hg:z1y (c.x L T M) with
 | false =>
  rw [hg] at hgd
  have HE:Hid (A=(c.x L T M,12)):=hid (by rw [HA.out,if_pos hg])
  clear HA hg HFT HGD HST HK0 HAX HR HXk
  go_enter Tryd.func10,Tryd.ntmps10
  go_upto_region 1 with (fail)
  (rw [HW1.out,HRE.out];try rw [show B+1+1=B+2 from rfl])
  go_wp2_with ((with_reducible refine z0e HX.out ?_ ?_);rfl)
  refine hgd.mono ?_
  rintro e w2 ⟨rfl,h2⟩
  have HX2:=hid (HX.out.later h2)
  have HY2:=hid (HY.out.later h2)
  have HZ2:=hid (HZ.out.later h2)
  have HB2:=hid (HB1.out.trans (h2.mono HB1.out.size))
  clear h2 HX HY HZ
  clear hgd
  have HZF:=hid (HZ2.out.set (c))
  go_wp2_with (first | ((with_reducible refine z0e HX2.out ?_ ?_);rfl) | ((with_reducible refine z0j (c) HZ2.out ?_ ?_ ?_);rfl;rfl))
  (try simp only [Exit.inBlock,Exit.then])
  refine bodyPost_ret (v:=.tuple #[.agg (ccs (c)),.int .i64 12]) ?_ rfl ?_
  · exact z1t rfl _ _ (B+2) _ _ rfl rfl HZF.out
  · rw [HE.out]
    have hbf:=below_setRow HB2.out (show W.heap.size≤B+2 by have:=HRE.out;omega) (ccs (c))
    exact⟨_,L,T,M,rfl,HP.out _ hbf,rfl,hbf⟩
 | true =>
  rw [hg] at hgd
  obtain⟨hst,htr⟩:=HST.out hg
  go_enter Tryd.func10,Tryd.ntmps10
  go_upto_region 1 with (fail)
  (rw [HW1.out,HRE.out];try rw [show B+1+1=B+2 from rfl])
  go_wp2_with ((with_reducible refine z0e HX.out ?_ ?_);rfl)
  refine hgd.mono ?_
  rintro e w2 ⟨rfl,h2⟩
  have HX2:=hid (HX.out.later h2)
  have HY2:=hid (HY.out.later h2)
  have HZ2:=hid (HZ.out.later h2)
  have HB2:=hid (HB1.out.trans (h2.mono HB1.out.size))
  clear h2 HX HY HZ
  clear hgd
  go_wp2_with ((with_reducible refine z0u HY2.out ?_ ?_);rfl)
  refine (HR.out _ HB2.out).mono ?_
  cases hx:z1f (r.x La Ta Ma) with
  | false =>
   rintro e w5 ⟨rfl,h5⟩
   have HX5:=hid (HX2.out.later h5)
   have HY5:=hid (HY2.out.later h5)
   have HZ5:=hid (HZ2.out.later h5)
   have HB5:=hid (HB2.out.trans (h5.mono HB2.out.size))
   clear h5 HX2 HY2 HZ2
   have HE:Hid (A=(c.x L T M,1)):=hid (by rw [HA.out,if_neg (by rw [hg];simp),if_pos (.inl hx)])
   clear HA hg hx HFT HGD HST HK0 HAX HR HXk hst htr
   go_upto_region 4 with (fail)
   have HZF:=hid (HZ5.out.set (c))
   go_wp2_with (first | ((with_reducible refine z0e HX5.out ?_ ?_);rfl) | ((with_reducible refine z0j (c) HZ5.out ?_ ?_ ?_);rfl;rfl))
   (try simp only [Exit.inBlock,Exit.then])
   refine bodyPost_ret (v:=.tuple #[.agg (ccs (c)),.int .i64 1]) ?_ rfl ?_
   · exact z1t rfl _ _ (B+2) _ _ rfl rfl HZF.out
   · rw [HE.out]
     have hbf:=below_setRow HB5.out (show W.heap.size≤B+2 by have:=HRE.out;omega) (ccs (c))
     exact⟨_,L,T,M,rfl,HP.out _ hbf,rfl,hbf⟩
  | true =>
   rintro e w5 ⟨rfl,h5⟩
   have HX5:=hid (HX2.out.later h5)
   have HY5:=hid (HY2.out.later h5)
   have HZ5:=hid (HZ2.out.later h5)
   have HB5:=hid (HB2.out.trans (h5.mono HB2.out.size))
   clear h5 HX2 HY2 HZ2
   have y0:=z0a (j:=0) HY5.out (v:=.int .u8 r.k) rfl
   by_cases hk:r.k=1
   · have HE:Hid (A=(c.x L T M,1)):=hid (by rw [HA.out,if_neg (by rw [hg];simp),if_pos (.inr hk)])
     rw [hk] at y0
     clear HA hg hx HFT HGD HST HK0 HAX HR HXk hk hst htr
     go_upto_region 4 with (fail)
     have HZF:=hid (HZ5.out.set (c))
     go_wp2_with (first | ((with_reducible refine z0e HX5.out ?_ ?_);rfl) | ((with_reducible refine z0j (c) HZ5.out ?_ ?_ ?_);rfl;rfl))
     (try simp only [Exit.inBlock,Exit.then])
     refine bodyPost_ret (v:=.tuple #[.agg (ccs (c)),.int .i64 1]) ?_ rfl ?_
     · exact z1t rfl _ _ (B+2) _ _ rfl rfl HZF.out
     · rw [HE.out]
       have hbf:=below_setRow HB5.out (show W.heap.size≤B+2 by have:=HRE.out;omega) (ccs (c))
       exact⟨_,L,T,M,rfl,HP.out _ hbf,rfl,hbf⟩
   · have b1:(r.k==1)=false:=beq_false_of_ne hk
     have HA2:Hid (A=if z3y (c.x L T M) (r.x La Ta Ma)=false∨z1y (aftR (c.x L T M) (r.x La Ta Ma))=false then (c.x L T M,12) else (aftR (c.x L T M) (r.x La Ta Ma),0)):=hid (by rw [HA.out,if_neg (by rw [hg];simp),if_neg (by rw [hx];simp;exact hk)])
     have HG1:=hid fun w' hb=>HGD.out w' hb hg
     have HF1:=hid fun w' hb=>HFT.out w' hb hg
     clear HA hx HFT HGD HST HR HXk hk hg
     go_upto_region 5 with (fail)
     obtain⟨G,hG⟩:∃ G,w5.heap.size=G:=⟨_,rfl⟩
     have HGG:Hid (B+2<G):=hid (by rw [← hG];exact HZ5.out.lt)
     have hba:Below w5.heap.size w5 ((w5.alloc (.cells #[.int .u32 0,.int .u8 0,.int .u32 0,.int .u8 0,.slice none 0 0,.slice none 0 0,.slice none 0 0,.int .u8 0,.int .u8 0,.int .u8 0,.int .i64 0,.bool false,.int .i64 0,.int .i64 0,.int .u32 0] 28)).setRow w5.heap.size (ccs c)):=below_setRow ((Below.refl _ _).alloc (Nat.le_refl _) _) (Nat.le_refl _) _
     have hz5:CB (w5.alloc (.cells #[.int .u32 0,.int .u8 0,.int .u32 0,.int .u8 0,.slice none 0 0,.slice none 0 0,.slice none 0 0,.int .u8 0,.int .u8 0,.int .u8 0,.int .i64 0,.bool false,.int .i64 0,.int .i64 0,.int .u32 0] 28)) w5.heap.size cz:=CB.new w5 cz
     have hd3:CB ((w5.alloc (.cells #[.int .u32 0,.int .u8 0,.int .u32 0,.int .u8 0,.slice none 0 0,.slice none 0 0,.slice none 0 0,.int .u8 0,.int .u8 0,.int .u8 0,.int .i64 0,.bool false,.int .i64 0,.int .i64 0,.int .u32 0] 28)).setRow w5.heap.size (ccs c)) w5.heap.size c:=hz5.set c
     have hba1:Below w5.heap.size w5 (w5.alloc (.cells #[.int .u32 0,.int .u8 0,.int .u32 0,.int .u8 0,.slice none 0 0,.slice none 0 0,.slice none 0 0,.int .u8 0,.int .u8 0,.int .u8 0,.int .i64 0,.bool false,.int .i64 0,.int .i64 0,.int .u32 0] 28)):=(Below.refl _ _).alloc (Nat.le_refl _) _
     have HX6:=HX5
     obtain⟨w3,hw3⟩:∃ w3,(w5.alloc (.cells #[.int .u32 0,.int .u8 0,.int .u32 0,.int .u8 0,.slice none 0 0,.slice none 0 0,.slice none 0 0,.int .u8 0,.int .u8 0,.int .u8 0,.int .i64 0,.bool false,.int .i64 0,.int .i64 0,.int .u32 0] 28)).setRow w5.heap.size (ccs c)=w3:=⟨_,rfl⟩
     rw [hw3] at hba hd3
     rw [hG] at hd3
     have HZ6:=hid hz5
     have HW3:=hid hw3
     have HG:=hid hG
     have HD3:=hid hd3
     have HX3:=hid (HX5.out.later hba)
     have HY3:=hid (HY5.out.later hba)
     have HZ3:=hid (HZ5.out.later hba)
     have HB3:=hid (HB5.out.trans (hba.mono HB5.out.size))
     clear hba HX5 HY5 HZ5
     clear hz5 hd3 hba1 hw3 hG y0 b1
     go_upto_region 6 with (first | ((with_reducible refine z0e HX6.out ?_ ?_);rfl) | ((with_reducible refine z0j c HZ6.out ?_ ?_ ?_);rfl;rfl))
     rw [HW3.out,HG.out]
     clear HX6 HZ6 HW3 HG
     have y0:=z0a (j:=0) HY3.out (v:=.int .u8 r.k) rfl
     go_upto_block 0 with fail
     go_cut [] from 23 (fun wx=>Hid (CB wx B c)∧Hid (RB wx (B+1) r)∧Hid (CB wx (B+2) cz)∧Hid (CB wx G (aftW c r))∧Hid (Below W.heap.size W wx))
     case first =>
      clear HA2 HG1 HF1 HAX HP
      have hw1:IntKind.i64.wrap (c.st-1)=c.st-1:=IntWalk.i64_in _ (by omega)
      have hw2:IntKind.i64.wrap (c.st+1)=c.st+1:=IntWalk.i64_in _ (by omega)
      have hw5:IntKind.i64.wrap (c.tr+1)=rndI (c.tr+1):=wrap_rnd _ (by omega)
      have y2:=z0a (j:=2) HY3.out (v:=.int .u32 r.tx) rfl
      obtain⟨a0,a11,a12,a13,a14⟩:=HX3.out.at
      obtain⟨d0,d11,d12,d13,d14⟩:=HD3.out.at
      have f11:=HD3.out.free 11
      have f12:=HD3.out.free 12
      have f13:=HD3.out.free 13
      have f14:=HD3.out.free 14
      generalize aftW c r=V at *
      have HNE:Hid (B≠G∧B+1≠G):=hid (by have:=HGG.out;omega)
      have gne:B≠G:=HNE.out.1
      clear a0 d0 hst htr
      by_cases hk:r.k=2
      · have HK:Hid (V={ c with tx:=r.tx }):=hid (by rw [HK0.out,hk];rfl)
        rw [hk] at y0
        have hc4:Chg (fun k=>k=G) w3 (w3.setCell ⟨G,14,none⟩ (.int .u32 r.tx)):=(Chg.refl _ _).setCell _ _ fun _=>rfl
        have HD4:Hid (CB (w3.setCell ⟨G,14,none⟩ (.int .u32 r.tx)) G ({ c with tx:=r.tx })):=hid (HD3.out.put 14 (.int .u32 r.tx) _ rfl)
        have HX4:Hid (CB (w3.setCell ⟨G,14,none⟩ (.int .u32 r.tx)) B c):=hid (HX3.out.chg hc4 (by have:=HGG.out;omega))
        have HY4:Hid (RB (w3.setCell ⟨G,14,none⟩ (.int .u32 r.tx)) (B+1) r):=hid (HY3.out.chg hc4 (by have:=HGG.out;omega))
        have HZ4:Hid (CB (w3.setCell ⟨G,14,none⟩ (.int .u32 r.tx)) (B+2) cz):=hid (HZ3.out.chg hc4 (by have:=HGG.out;omega))
        have HB4:Hid (Below W.heap.size W (w3.setCell ⟨G,14,none⟩ (.int .u32 r.tx))):=hid (Chg.below HB3.out HB3.out.size hc4 fun k hk=>by rw [hk];have:=HGG.out;have:=HRE.out;omega)
        clear hc4
        go_wp2_with fail
        go_meet
        rw [HK.out]
        exact⟨HX4,HY4,HZ4,HD4,HB4⟩
      by_cases hk:r.k=5
      · have HK:Hid (V={ c with tr:=rndI (c.tr+1) }):=hid (by rw [HK0.out,hk];rfl)
        rw [hk] at y0
        have hc4:Chg (fun k=>k=G) w3 (w3.setCell ⟨G,13,none⟩ (.int .i64 (rndI (c.tr+1)))):=(Chg.refl _ _).setCell _ _ fun _=>rfl
        have HD4:Hid (CB (w3.setCell ⟨G,13,none⟩ (.int .i64 (rndI (c.tr+1)))) G ({ c with tr:=rndI (c.tr+1) })):=hid (HD3.out.put 13 (.int .i64 (rndI (c.tr+1))) _ rfl)
        have HX4:Hid (CB (w3.setCell ⟨G,13,none⟩ (.int .i64 (rndI (c.tr+1)))) B c):=hid (HX3.out.chg hc4 (by have:=HGG.out;omega))
        have HY4:Hid (RB (w3.setCell ⟨G,13,none⟩ (.int .i64 (rndI (c.tr+1)))) (B+1) r):=hid (HY3.out.chg hc4 (by have:=HGG.out;omega))
        have HZ4:Hid (CB (w3.setCell ⟨G,13,none⟩ (.int .i64 (rndI (c.tr+1)))) (B+2) cz):=hid (HZ3.out.chg hc4 (by have:=HGG.out;omega))
        have HB4:Hid (Below W.heap.size W (w3.setCell ⟨G,13,none⟩ (.int .i64 (rndI (c.tr+1))))):=hid (Chg.below HB3.out HB3.out.size hc4 fun k hk=>by rw [hk];have:=HGG.out;have:=HRE.out;omega)
        clear hc4
        go_wp2_with fail
        go_meet
        rw [HK.out]
        exact⟨HX4,HY4,HZ4,HD4,HB4⟩
      by_cases hk:r.k=7
      · have HK:Hid (V={ c with tx:=0 }):=hid (by rw [HK0.out,hk];rfl)
        rw [hk] at y0
        have hc4:Chg (fun k=>k=G) w3 (w3.setCell ⟨G,14,none⟩ (.int .u32 0)):=(Chg.refl _ _).setCell _ _ fun _=>rfl
        have HD4:Hid (CB (w3.setCell ⟨G,14,none⟩ (.int .u32 0)) G ({ c with tx:=0 })):=hid (HD3.out.put 14 (.int .u32 0) _ rfl)
        have HX4:Hid (CB (w3.setCell ⟨G,14,none⟩ (.int .u32 0)) B c):=hid (HX3.out.chg hc4 (by have:=HGG.out;omega))
        have HY4:Hid (RB (w3.setCell ⟨G,14,none⟩ (.int .u32 0)) (B+1) r):=hid (HY3.out.chg hc4 (by have:=HGG.out;omega))
        have HZ4:Hid (CB (w3.setCell ⟨G,14,none⟩ (.int .u32 0)) (B+2) cz):=hid (HZ3.out.chg hc4 (by have:=HGG.out;omega))
        have HB4:Hid (Below W.heap.size W (w3.setCell ⟨G,14,none⟩ (.int .u32 0))):=hid (Chg.below HB3.out HB3.out.size hc4 fun k hk=>by rw [hk];have:=HGG.out;have:=HRE.out;omega)
        clear hc4
        go_wp2_with fail
        go_meet
        rw [HK.out]
        exact⟨HX4,HY4,HZ4,HD4,HB4⟩
      by_cases hk:r.k=8
      · have HK:Hid (V={ c with bk:=true }):=hid (by rw [HK0.out,hk];rfl)
        rw [hk] at y0
        have hc4:Chg (fun k=>k=G) w3 (w3.setCell ⟨G,11,none⟩ (.bool true)):=(Chg.refl _ _).setCell _ _ fun _=>rfl
        have HD4:Hid (CB (w3.setCell ⟨G,11,none⟩ (.bool true)) G ({ c with bk:=true })):=hid (HD3.out.put 11 (.bool true) _ rfl)
        have HX4:Hid (CB (w3.setCell ⟨G,11,none⟩ (.bool true)) B c):=hid (HX3.out.chg hc4 (by have:=HGG.out;omega))
        have HY4:Hid (RB (w3.setCell ⟨G,11,none⟩ (.bool true)) (B+1) r):=hid (HY3.out.chg hc4 (by have:=HGG.out;omega))
        have HZ4:Hid (CB (w3.setCell ⟨G,11,none⟩ (.bool true)) (B+2) cz):=hid (HZ3.out.chg hc4 (by have:=HGG.out;omega))
        have HB4:Hid (Below W.heap.size W (w3.setCell ⟨G,11,none⟩ (.bool true))):=hid (Chg.below HB3.out HB3.out.size hc4 fun k hk=>by rw [hk];have:=HGG.out;have:=HRE.out;omega)
        clear hc4
        go_wp2_with fail
        go_meet
        rw [HK.out]
        exact⟨HX4,HY4,HZ4,HD4,HB4⟩
      by_cases hk:r.k=4
      · cases hbk:c.bk
        · rw [hbk] at a11
          have HK:Hid (V={ c with tx:=0,st:=c.st+1 }):=hid (by rw [HK0.out,hk,hbk];rfl)
          rw [hk] at y0
          have hc4:Chg (fun k=>k=G) w3 (w3.setCell ⟨G,14,none⟩ (.int .u32 0)):=(Chg.refl _ _).setCell _ _ fun _=>rfl
          have HD4:Hid (CB (w3.setCell ⟨G,14,none⟩ (.int .u32 0)) G ({ c with tx:=0 })):=hid (HD3.out.put 14 (.int .u32 0) _ rfl)
          have HX4:Hid (CB (w3.setCell ⟨G,14,none⟩ (.int .u32 0)) B c):=hid (HX3.out.chg hc4 (by have:=HGG.out;omega))
          have HY4:Hid (RB (w3.setCell ⟨G,14,none⟩ (.int .u32 0)) (B+1) r):=hid (HY3.out.chg hc4 (by have:=HGG.out;omega))
          have HZ4:Hid (CB (w3.setCell ⟨G,14,none⟩ (.int .u32 0)) (B+2) cz):=hid (HZ3.out.chg hc4 (by have:=HGG.out;omega))
          have HB4:Hid (Below W.heap.size W (w3.setCell ⟨G,14,none⟩ (.int .u32 0))):=hid (Chg.below HB3.out HB3.out.size hc4 fun k hk=>by rw [hk];have:=HGG.out;have:=HRE.out;omega)
          clear hc4
          have hc5:Chg (fun k=>k=G) (w3.setCell ⟨G,14,none⟩ (.int .u32 0)) ((w3.setCell ⟨G,14,none⟩ (.int .u32 0)).setCell ⟨G,12,none⟩ (.int .i64 (c.st+1))):=(Chg.refl _ _).setCell _ _ fun _=>rfl
          have HD5:Hid (CB ((w3.setCell ⟨G,14,none⟩ (.int .u32 0)).setCell ⟨G,12,none⟩ (.int .i64 (c.st+1))) G ({ c with tx:=0,st:=c.st+1 })):=hid (HD4.out.put 12 (.int .i64 (c.st+1)) _ rfl)
          have HX5:Hid (CB ((w3.setCell ⟨G,14,none⟩ (.int .u32 0)).setCell ⟨G,12,none⟩ (.int .i64 (c.st+1))) B c):=hid (HX4.out.chg hc5 (by have:=HGG.out;omega))
          have HY5:Hid (RB ((w3.setCell ⟨G,14,none⟩ (.int .u32 0)).setCell ⟨G,12,none⟩ (.int .i64 (c.st+1))) (B+1) r):=hid (HY4.out.chg hc5 (by have:=HGG.out;omega))
          have HZ5:Hid (CB ((w3.setCell ⟨G,14,none⟩ (.int .u32 0)).setCell ⟨G,12,none⟩ (.int .i64 (c.st+1))) (B+2) cz):=hid (HZ4.out.chg hc5 (by have:=HGG.out;omega))
          have HB5:Hid (Below W.heap.size W ((w3.setCell ⟨G,14,none⟩ (.int .u32 0)).setCell ⟨G,12,none⟩ (.int .i64 (c.st+1)))):=hid (Chg.below HB4.out HB4.out.size hc5 fun k hk=>by rw [hk];have:=HGG.out;have:=HRE.out;omega)
          clear hc5
          go_wp2_with fail
          go_meet
          rw [HK.out]
          exact⟨HX5,HY5,HZ5,HD5,HB5⟩
        · rw [hbk] at a11
          have HK:Hid (V={ c with tx:=0,st:=c.st-1 }):=hid (by rw [HK0.out,hk,hbk];rfl)
          rw [hk] at y0
          have hc4:Chg (fun k=>k=G) w3 (w3.setCell ⟨G,14,none⟩ (.int .u32 0)):=(Chg.refl _ _).setCell _ _ fun _=>rfl
          have HD4:Hid (CB (w3.setCell ⟨G,14,none⟩ (.int .u32 0)) G ({ c with tx:=0 })):=hid (HD3.out.put 14 (.int .u32 0) _ rfl)
          have HX4:Hid (CB (w3.setCell ⟨G,14,none⟩ (.int .u32 0)) B c):=hid (HX3.out.chg hc4 (by have:=HGG.out;omega))
          have HY4:Hid (RB (w3.setCell ⟨G,14,none⟩ (.int .u32 0)) (B+1) r):=hid (HY3.out.chg hc4 (by have:=HGG.out;omega))
          have HZ4:Hid (CB (w3.setCell ⟨G,14,none⟩ (.int .u32 0)) (B+2) cz):=hid (HZ3.out.chg hc4 (by have:=HGG.out;omega))
          have HB4:Hid (Below W.heap.size W (w3.setCell ⟨G,14,none⟩ (.int .u32 0))):=hid (Chg.below HB3.out HB3.out.size hc4 fun k hk=>by rw [hk];have:=HGG.out;have:=HRE.out;omega)
          clear hc4
          have hc5:Chg (fun k=>k=G) (w3.setCell ⟨G,14,none⟩ (.int .u32 0)) ((w3.setCell ⟨G,14,none⟩ (.int .u32 0)).setCell ⟨G,12,none⟩ (.int .i64 (c.st-1))):=(Chg.refl _ _).setCell _ _ fun _=>rfl
          have HD5:Hid (CB ((w3.setCell ⟨G,14,none⟩ (.int .u32 0)).setCell ⟨G,12,none⟩ (.int .i64 (c.st-1))) G ({ c with tx:=0,st:=c.st-1 })):=hid (HD4.out.put 12 (.int .i64 (c.st-1)) _ rfl)
          have HX5:Hid (CB ((w3.setCell ⟨G,14,none⟩ (.int .u32 0)).setCell ⟨G,12,none⟩ (.int .i64 (c.st-1))) B c):=hid (HX4.out.chg hc5 (by have:=HGG.out;omega))
          have HY5:Hid (RB ((w3.setCell ⟨G,14,none⟩ (.int .u32 0)).setCell ⟨G,12,none⟩ (.int .i64 (c.st-1))) (B+1) r):=hid (HY4.out.chg hc5 (by have:=HGG.out;omega))
          have HZ5:Hid (CB ((w3.setCell ⟨G,14,none⟩ (.int .u32 0)).setCell ⟨G,12,none⟩ (.int .i64 (c.st-1))) (B+2) cz):=hid (HZ4.out.chg hc5 (by have:=HGG.out;omega))
          have HB5:Hid (Below W.heap.size W ((w3.setCell ⟨G,14,none⟩ (.int .u32 0)).setCell ⟨G,12,none⟩ (.int .i64 (c.st-1)))):=hid (Chg.below HB4.out HB4.out.size hc5 fun k hk=>by rw [hk];have:=HGG.out;have:=HRE.out;omega)
          clear hc5
          go_wp2_with fail
          go_meet
          rw [HK.out]
          exact⟨HX5,HY5,HZ5,HD5,HB5⟩
      rename_i n2 n5 n7 n8
      have HK:Hid (V=c):=hid (by rw [HK0.out,if_neg n2,if_neg hk,if_neg n5,if_neg n7,if_neg n8])
      have b2:(r.k==2)=false:=beq_false_of_ne n2
      have b4:(r.k==4)=false:=beq_false_of_ne hk
      have b5:(r.k==5)=false:=beq_false_of_ne n5
      have b7:(r.k==7)=false:=beq_false_of_ne n7
      have b8:(r.k==8)=false:=beq_false_of_ne n8
      clear HK0 n2 n5 n7 n8 hk
      go_wp2_with fail
      go_meet
      rw [HK.out]
      exact⟨HX3,HY3,HZ3,HD3,HB3⟩
     case rest =>
      clear HX3 HY3 HZ3 HD3 HB3 HK0 y0 hst htr
      obtain⟨HX4,HY4,HZ4,HD4,HB4⟩:=hcut
      have hff:=HF1.out _ HB4.out
      cases hf:z3y (c.x L T M) (r.x La Ta Ma) with
      | false =>
       rw [hf] at hff
       have HE:Hid (A=(c.x L T M,12)):=hid (by rw [HA2.out,if_pos (.inl hf)])
       clear HA2 HG1 HF1 hf HAX
       go_wp2_with (first | ((with_reducible refine z0e HX4.out ?_ ?_);rfl) | ((with_reducible refine z0u HY4.out ?_ ?_);rfl))
       refine hff.mono ?_
       rintro e w7 ⟨rfl,h7⟩
       have HX7:=hid (HX4.out.later h7)
       have HY7:=hid (HY4.out.later h7)
       have HZ7:=hid (HZ4.out.later h7)
       have HD7:=hid (HD4.out.later h7)
       have HB7:=hid (HB4.out.trans (h7.mono HB4.out.size))
       clear h7 HX4 HY4 HZ4 HD4
       clear hff
       go_upto_region 21 with (fail)
       have HZF:=hid (HZ7.out.set (c))
       go_wp2_with (first | ((with_reducible refine z0e HX7.out ?_ ?_);rfl) | ((with_reducible refine z0e HD7.out ?_ ?_);rfl) | ((with_reducible refine z0j (c) HZ7.out ?_ ?_ ?_);rfl;rfl))
       (try simp only [Exit.inBlock,Exit.then])
       refine bodyPost_ret (v:=.tuple #[.agg (ccs (c)),.int .i64 12]) ?_ rfl ?_
       · exact z1t rfl _ _ (B+2) _ _ rfl rfl HZF.out
       · rw [HE.out]
         have hbf:=below_setRow HB7.out (show W.heap.size≤B+2 by have:=HRE.out;omega) (ccs (c))
         exact⟨_,L,T,M,rfl,HP.out _ hbf,rfl,hbf⟩
      | true =>
       rw [hf] at hff
       go_wp2_with (first | ((with_reducible refine z0e HX4.out ?_ ?_);rfl) | ((with_reducible refine z0u HY4.out ?_ ?_);rfl))
       refine hff.mono ?_
       rintro e w7 ⟨rfl,h7⟩
       have HX7:=hid (HX4.out.later h7)
       have HY7:=hid (HY4.out.later h7)
       have HZ7:=hid (HZ4.out.later h7)
       have HD7:=hid (HD4.out.later h7)
       have HB7:=hid (HB4.out.trans (h7.mono HB4.out.size))
       clear h7 HX4 HY4 HZ4 HD4
       clear hff
       have hgg:=HG1.out _ HB7.out
       go_wp2_with ((with_reducible refine z3d HD7.out ?_ ?_ ?_);rfl;rfl)
       refine hgg.mono ?_
       cases hq:z1y (aftR (c.x L T M) (r.x La Ta Ma)) with
       | false =>
        have HE:Hid (A=(c.x L T M,12)):=hid (by rw [HA2.out,if_pos (.inr hq)])
        clear HA2 HG1 HF1 hf hq HAX hgg
        rintro e w8 ⟨rfl,h8⟩
        have HX8:=hid (HX7.out.later h8)
        have HY8:=hid (HY7.out.later h8)
        have HZ8:=hid (HZ7.out.later h8)
        have HD8:=hid (HD7.out.later h8)
        have HB8:=hid (HB7.out.trans (h8.mono HB7.out.size))
        clear h8 HX7 HY7 HZ7 HD7
        go_upto_region 21 with (fail)
        have HZF:=hid (HZ8.out.set (c))
        go_wp2_with (first | ((with_reducible refine z0e HX8.out ?_ ?_);rfl) | ((with_reducible refine z0e HD8.out ?_ ?_);rfl) | ((with_reducible refine z0j (c) HZ8.out ?_ ?_ ?_);rfl;rfl))
        (try simp only [Exit.inBlock,Exit.then])
        refine bodyPost_ret (v:=.tuple #[.agg (ccs (c)),.int .i64 12]) ?_ rfl ?_
        · exact z1t rfl _ _ (B+2) _ _ rfl rfl HZF.out
        · rw [HE.out]
          have hbf:=below_setRow HB8.out (show W.heap.size≤B+2 by have:=HRE.out;omega) (ccs (c))
          exact⟨_,L,T,M,rfl,HP.out _ hbf,rfl,hbf⟩
       | true =>
        have HE:Hid (A=(aftR (c.x L T M) (r.x La Ta Ma),0)):=hid (by rw [HA2.out,if_neg (by rw [hf,hq];simp)])
        clear HA2 HG1 HF1 hf hq hgg
        rintro e w8 ⟨rfl,h8⟩
        have HX8:=hid (HX7.out.later h8)
        have HY8:=hid (HY7.out.later h8)
        have HZ8:=hid (HZ7.out.later h8)
        have HD8:=hid (HD7.out.later h8)
        have HB8:=hid (HB7.out.trans (h8.mono HB7.out.size))
        clear h8 HX7 HY7 HZ7 HD7
        go_upto_region 22 with (fail)
        have HZF:=hid (HZ8.out.set (aftW c r))
        go_wp2_with (first | ((with_reducible refine z0e HX8.out ?_ ?_);rfl) | ((with_reducible refine z0e HD8.out ?_ ?_);rfl) | ((with_reducible refine z0j (aftW c r) HZ8.out ?_ ?_ ?_);rfl;rfl))
        (try simp only [Exit.inBlock,Exit.then])
        refine bodyPost_ret (v:=.tuple #[.agg (ccs (aftW c r)),.int .i64 0]) ?_ rfl ?_
        · exact z1t rfl _ _ (B+2) _ _ rfl rfl HZF.out
        · rw [HE.out]
          have hbf:=below_setRow HB8.out (show W.heap.size≤B+2 by have:=HRE.out;omega) (ccs (aftW c r))
          exact⟨_,L,T,M,rfl,(by show RvM _ (aftW c r).p L T M;rw [z8s];exact HP.out _ hbf),HAX.out,hbf⟩
end Go.Proofs.YtnpjpelbcmgodaaDoor
