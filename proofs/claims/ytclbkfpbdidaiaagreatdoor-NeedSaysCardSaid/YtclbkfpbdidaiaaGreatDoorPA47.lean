import Derived.Test.YtclbkfpbdidaiaaGreatDoorPA46
namespace Go.Proofs.YtclbkfpbdidaiaaGreatDoor
open Go.Lib (hid)
set_option maxHeartbeats 8000000
open Go.RowKit Go.ChangeShapes Go.WideShapes
set_option linter.unusedVariables false
set_option linter.unusedSimpArgs false
set_option maxRecDepth 10000
def lessI (n z:Int):Int:=if n≤z then 0 else n-z
theorem nd_less (n z:Int) (W:World) (h1:0≤n∧n≤1000000) (h2:0≤z∧z≤1000000000000000000):Calls Tryz.prog 55 #[.int .i64 n,.int .i64 z] W fun e w'=>e=.returned (.int .i64 (lessI n z))∧w'=W:=by
 have hz:¬ z<n-9223372036854775807:=by omega
 have hz2:decide (z<n-9223372036854775807)=false:=decide_eq_false hz
 obtain⟨h3,h4⟩:=h1
 obtain⟨h5,h6⟩:=h2
 by_cases hc:n≤z
 · have HE:Hid (lessI n z=0):=hid (if_pos hc)
   have hd:decide (n≤z)=true:=decide_eq_true hc
   clear hz hz2
   go_enter Tryz.func55,Tryz.ntmps55
   go_wp2_with fail
   go_ret
   exact⟨by rw [HE.out];rfl,rfl⟩
 · have HE:Hid (lessI n z=n-z):=hid (if_neg hc)
   have hd:decide (n≤z)=false:=decide_eq_false hc
   go_enter Tryz.func55,Tryz.ntmps55
   go_wp2_with fail
   go_ret
   exact⟨by rw [HE.out];rfl,rfl⟩
theorem nd_throws (c:Cv) (x:Crs) (hx:x.tr=c.tr) (retry:Int) (W:World) (h1:0≤c.tr∧c.tr≤9223372036854775807) (h2:In64 retry):Calls Tryz.prog 51 #[.agg (ccs c),.int .i64 retry] W fun e w'=>e=.returned (.int .i64 (thrC x retry))∧Below W.heap.size W w':=by
 obtain⟨W1,hW1,hxb,hb1⟩:∃ W1,W.alloc (.cells (ccs c) 34)=W1∧CB W1 W.heap.size c∧Below W.heap.size W W1:=⟨_,rfl,CB.new W c,(Below.refl _ _).alloc (Nat.le_refl _) _⟩
 obtain⟨B,hB⟩:∃ B,W.heap.size=B:=⟨_,rfl⟩
 rw [hB] at hxb
 have HW1:=hid hW1
 have HB1:=hid hb1
 have HRE:=hid hB
 have a13:=hxb.at.2.2.2.1
 obtain⟨k,hk⟩:∃ k,keptR retry=k:=⟨_,rfl⟩
 have hk4:0≤k∧k≤4:=by rw [← hk];unfold keptR;split <;> (try split) <;> omega
 have HT:Hid (thrC x retry=if c.tr≤k then k+1-c.tr else 0):=hid (by unfold thrC;rw [hk,hx])
 obtain⟨m,hm⟩:∃ m,max retry 0=m:=⟨_,rfl⟩
 have hmk:min m 4=k:=by rw [← hm,← hk];unfold keptR;split <;> (try split) <;> omega
 obtain⟨d,hd⟩:∃ d,max (k+1-c.tr) 0=d:=⟨_,rfl⟩
 have HD:Hid (thrC x retry=d):=hid (by rw [HT.out,← hd];split <;> omega)
 unfold In64 at h2
 obtain⟨h3,h4⟩:=h1
 obtain⟨h5,h6⟩:=h2
 obtain⟨h7,h8⟩:=hk4
 clear hW1 hxb hb1 hB hx HT hk
 generalize c.tr=tr at *
 go_enter Tryz.func51,Tryz.ntmps51
 go_upto_region 1 with (fail)
 rw [HW1.out,HRE.out]
 go_wp2_with fail
 go_ret
 exact⟨by rw [HD.out];rfl,HB1.out⟩
theorem nr_rest (c:Cv) (L:List Ln) (T:List Tk) (M:List Ln) (retry:Int) (W:World) (hP:CvM W c L T M) (hok:Crok (c.x L T M)) (h1:c.p.ln≤400∧c.p.tn≤400∧c.p.wn≤400) (hr:In64 retry):Calls Tryz.prog 21 #[.agg (ccs c),.int .i64 retry] W fun e w'=>e=.returned (.int .i64 (restC (c.x L T M) retry))∧Below W.heap.size W w':=by
 obtain⟨W1,hW1,hx,hb1⟩:∃ W1,W.alloc (.cells (ccs c) 34)=W1∧CB W1 W.heap.size c∧Below W.heap.size W W1:=⟨_,rfl,CB.new W c,(Below.refl _ _).alloc (Nat.le_refl _) _⟩
 obtain⟨B,hB⟩:∃ B,W.heap.size=B:=⟨_,rfl⟩
 rw [hB] at hx
 have HX:=hid hx
 have HW1:=hid hW1
 have HB1:=hid hb1
 have HRE:=hid hB
 have hgd:=cr_rgood c L T M W1 (hP.later hb1) hok h1
 cases hg:goodC (c.x L T M) with
 | false =>
  rw [hg] at hgd
  have HE:Hid (restC (c.x L T M) retry=0):=hid (by unfold restC;rw [if_pos hg])
  generalize restC (c.x L T M) retry=RV at *
  clear hW1 hx hb1 hB hP hok h1 hg hr
  go_enter Tryz.func21,Tryz.ntmps21
  go_upto_region 1 with (fail)
  rw [HW1.out,HRE.out]
  go_wp2_with ((with_reducible refine z0y HX.out ?_ ?_);rfl)
  refine hgd.mono ?_
  rintro e w2 ⟨rfl,h2⟩
  have HB2:=hid (HB1.out.trans (h2.mono HB1.out.size))
  clear h2 hgd
  go_wp2_with fail
  go_ret
  exact⟨by rw [HE.out];rfl,HB2.out⟩
 | true =>
  rw [hg] at hgd
  have HS:Hid (∀ w',Below W.heap.size W w'→Calls Tryz.prog 13 #[.agg (pcs c.p)] w' (GivesS w' (z0o (c.p.pg L T M)))):=hid fun w' hb=>rsteps_p c.p.pk c.p.od c.p.po c.p.lp c.p.ln c.p.lcp c.p.tp c.p.tn c.p.tcp c.p.wp c.p.wn c.p.wcp c.p.sk c.p.fr c.p.to c.p.q L T M w' (PgM.later hP hb) hok.P ⟨by omega,by omega,by omega⟩
  have HAT:Hid (∀ w',Below W.heap.size W w'→Calls Tryz.prog 19 #[.agg (pcs c.p)] w' fun e w''=>e=.returned (.int .i64 (attP (c.p.pg L T M)))∧Below w'.heap.size w' w''):=hid fun w' hb=>nr_attempt c.p L T M w' (PgM.later hP hb) hok.P h1
  have HPS:Hid (∀ w',Below W.heap.size W w'→∀ f g:Nat,f≤g→g≤(z0o (c.p.pg L T M)).length→Calls Tryz.prog 53 #[.agg (pcs c.p),.int .i64 (f:Int),.int .i64 (g:Int)] w' fun e w''=>e=.returned (.int .i64 (z1d ((z0o (c.p.pg L T M)).take g)-z1d ((z0o (c.p.pg L T M)).take f)))∧Below w'.heap.size w' w''):=hid fun w' hb f g hfg hgl=>nr_passes c.p L T M w' (PgM.later hP hb) hok.P h1 f g hfg hgl
  have hlf:=lenC_fine hg hok.P
  obtain⟨_,g2,g3,g4,g5⟩:=goodC_parts hg
  have g3':0≤c.st:=g3
  have g4':c.st≤lenC (c.x L T M):=g4
  have g5':0≤c.tr∧c.tr≤9223372036854775807:=⟨g5,hok.tr.2⟩
  have HKP:Hid (∀ w',Calls Tryz.prog 54 #[.int .i64 retry] w' fun e w''=>e=.returned (.int .i64 (keptR retry))∧w''=w'):=hid fun w'=>nr_kept retry w' hr
  have hatt:0≤attP (c.p.pg L T M)∧attP (c.p.pg L T M)≤303:=by
   have h:=failL_few (S:=z0o (c.p.pg L T M)) (z2g g2 hok.P).2 (z0o (c.p.pg L T M)).length (Nat.le_refl _)
   rw [failL_all] at h
   exact h
  have hfin:∀ s∈z0o (c.p.pg L T M),FineS s:=(z2g g2 hok.P).2
  have hrv:restC (c.x L T M) retry=if c.bk then z1d ((z0o (c.p.pg L T M)).take c.st.toNat)+12 else z1d ((z0o (c.p.pg L T M)).drop c.st.toNat)+(if c.tr≤keptR retry then keptR retry+1-c.tr else 0)*attP (c.p.pg L T M)+11+z1d (z0o (c.p.pg L T M))+12:=by
   unfold restC
   rw [if_neg (by rw [hg];simp)]
   rfl
  have hk4:0≤keptR retry∧keptR retry≤4:=by unfold keptR;split <;> (try split) <;> omega
  have hln:lenC (c.x L T M)=((z0o (c.p.pg L T M)).length:Int):=rfl
  generalize restC (c.x L T M) retry=RV at *
  generalize keptR retry=k at *
  generalize attP (c.p.pg L T M)=av at *
  generalize z0o (c.p.pg L T M)=S at *
  obtain⟨n,hnn⟩:∃ n,S.length=n:=⟨_,rfl⟩
  rw [hnn] at hln
  have HN:=hid hnn
  rw [hln] at g4' hlf
  obtain⟨i,hi⟩:∃ i:Nat,c.st.toNat=i:=⟨_,rfl⟩
  have hst:c.st=(i:Int):=by omega
  have hin:i≤n:=by omega
  have hn5:n≤5:=by omega
  rw [hi] at hrv
  have HRV:=hid hrv
  have HST:=hid hst
  have HF:=hid hfin
  have h0z:z1d (S.take 0)=0:=rfl
  have hnz:z1d (S.take n)=z1d S:=by rw [← hnn,List.take_length]
  have hiz:z1d S-z1d (S.take i)=z1d (S.drop i):=by have:=passL_split S i;omega
  have hpi:=passL_few (S:=S.take i) (n:=i) (fine_take hfin i) (by rw [List.length_take];omega) (by omega)
  have hpd:=passL_few (S:=S.drop i) (n:=n-i) (fine_drop hfin i) (by rw [List.length_drop];omega) (by omega)
  have hps:=passL_few hfin hnn hn5
  have HP1:Hid (∀ w',Below W.heap.size W w'→Calls Tryz.prog 53 #[.agg (pcs c.p),.int .i64 0,.int .i64 (i:Int)] w' fun e w''=>e=.returned (.int .i64 (z1d (S.take i)))∧Below w'.heap.size w' w''):=hid fun w' hb=>by
   have:=HPS.out w' hb 0 i (Nat.zero_le _) (by omega)
   rw [h0z,Int.sub_zero] at this
   exact this
  have HP2:Hid (∀ w',Below W.heap.size W w'→Calls Tryz.prog 53 #[.agg (pcs c.p),.int .i64 0,.int .i64 (n:Int)] w' fun e w''=>e=.returned (.int .i64 (z1d S))∧Below w'.heap.size w' w''):=hid fun w' hb=>by
   have:=HPS.out w' hb 0 n (Nat.zero_le _) (by omega)
   rw [h0z,Int.sub_zero,hnz] at this
   exact this
  have HP3:Hid (∀ w',Below W.heap.size W w'→Calls Tryz.prog 53 #[.agg (pcs c.p),.int .i64 (i:Int),.int .i64 (n:Int)] w' fun e w''=>e=.returned (.int .i64 (z1d (S.drop i)))∧Below w'.heap.size w' w''):=hid fun w' hb=>by
   have:=HPS.out w' hb i n hin (by omega)
   rw [hnz,hiz] at this
   exact this
  clear hW1 hx hb1 hB hP hok h1 hg hnn hln g2 g3 g4 g3' g4' g5 hlf hfin hrv hi hst hr HPS h0z hnz hiz
  generalize z1d (S.take i)=y1 at *
  generalize z1d (S.drop i)=y3 at *
  generalize z1d S=y2 at *
  go_enter Tryz.func21,Tryz.ntmps21
  go_upto_region 1 with (fail)
  rw [HW1.out,HRE.out]
  go_wp2_with ((with_reducible refine z0y HX.out ?_ ?_);rfl)
  refine hgd.mono ?_
  rintro e w2 ⟨rfl,h2⟩
  have HX2:=hid (HX.out.later h2)
  have HB2:=hid (HB1.out.trans (h2.mono HB1.out.size))
  clear h2 HX hgd
  obtain⟨_,a11,a12,a13,_⟩:=HX2.out.at
  rw [HST.out] at a12
  cases hbk:c.bk with
  | true =>
   rw [hbk] at a11
   have HE:Hid (RV=y1+12):=hid (by rw [HRV.out,if_pos hbk])
   clear HRV hbk
   go_wp2_with ((with_reducible refine z1v HX2.out ?_ ?_);rfl)
   refine (HP1.out _ HB2.out).mono ?_
   rintro e w4 ⟨rfl,hb4⟩
   have HB4:=hid (HB2.out.trans (hb4.mono HB2.out.size))
   clear hb4 HP1
   go_wp2_with fail
   refine (rcost_at (k:=9) (z:=12) rfl (by omega) _).mono ?_
   rintro e w5 ⟨rfl,rfl⟩
   go_wp2_with fail
   go_ret
   exact⟨by rw [HE.out];rfl,HB4.out⟩
  | false =>
   rw [hbk] at a11
   go_wp2_with ((with_reducible refine z1v HX2.out ?_ ?_);rfl)
   refine (HS.out _ HB2.out).mono ?_
   rintro e w3 ⟨p3,k3,H3,rfl,hs3,hb3⟩
   have HX3:=hid (HX2.out.later hb3)
   have HB3:=hid (HB2.out.trans (hb3.mono HB2.out.size))
   simp only [HN.out] at hs3 ⊢
   clear hb3 hs3 HS a11 a12 a13 HX2
   obtain⟨_,_,a12,a13,_⟩:=HX3.out.at
   rw [HST.out] at a12
   have x13:=fun r:After w3=>z0w r a13
   have hk:=fun (p:After w3)=>HKP.out p.w
   obtain⟨tr,htr⟩:∃ tr,c.tr=tr:=⟨_,rfl⟩
   rw [htr] at g5' a13 x13 HRV
   go_upto_region 7 with (fail)
   refine z0r (by kernel_rfl) (by kernel_rfl) ?_
   by_cases hq:tr≤k
   · have hqd:decide (tr≤k)=true:=decide_eq_true hq
     obtain⟨th,hth⟩:∃ th,k+1-tr=th:=⟨_,rfl⟩
     obtain⟨pr,hpr⟩:∃ pr,th*av=pr:=⟨_,rfl⟩
     have hprb:0≤pr∧pr≤1515:=by
      rw [← hpr]
      refine⟨Int.mul_nonneg (by omega) hatt.1,?_⟩
      have:=Int.mul_le_mul (show th≤5 by omega) hatt.2 hatt.1 (by omega)
      omega
     have hwp:IntKind.i64.wrap (th*av)=pr:=by rw [hpr];exact IntWalk.i64_in _ (by omega)
     have HE:Hid (RV=y3+pr+11+y2+12):=hid (by rw [HRV.out,if_neg (by rw [hbk];simp),if_pos hq,hth,hpr])
     have HTH:=hid hth
     have hth5:0≤th∧th≤5:=by omega
     clear HRV hbk hpr hth
     repeat (go_big_quiet_step ((go_at_call 54;exact z1t _ (hk _))))
     refine wpQuiet_nil ?_
     intro w4 hw'
     obtain⟨⟨wq,h6⟩,hw''⟩:=hw'
     subst hw''
     have HX4:=hid (HX3.out.later h6)
     have HB4:=hid (HB3.out.trans (h6.mono HB3.out.size))
     clear hk x13 a12 a13 h6 HX3
     try dsimp only at HX4 HB4 ⊢
     obtain⟨_,_,_,a13,_⟩:=HX4.out.at
     rw [htr] at a13
     have x13:=fun r:After w4=>z0w r a13
     have hk:=fun (p:After w4)=>HKP.out p.w
     go_upto_region 8 with (fail)
     refine z0r (by kernel_rfl) (by kernel_rfl) ?_
     repeat (go_big_quiet_step ((go_at_call 54;exact z1t _ (hk _))))
     refine wpQuiet_nil ?_
     intro w5 hw'
     obtain⟨⟨wr,h6⟩,hw''⟩:=hw'
     subst hw''
     have HX5:=hid (HX4.out.later h6)
     have HB5:=hid (HB4.out.trans (h6.mono HB4.out.size))
     clear hk x13 a13 h6 HX4
     try dsimp only at HX5 HB5 ⊢
     rw [HTH.out]
     obtain⟨_,_,a12,_,_⟩:=HX5.out.at
     rw [HST.out] at a12
     have x12:=fun r:After w5=>z0w r a12
     have hbp:=fun (p:After w5)=>HB5.out.trans (p.h.mono HB5.out.size)
     have hc0:=fun (p:After w5)=>HP3.out p.w (hbp p)
     have hc1:=fun (p:After w5)=>HP2.out p.w (hbp p)
     have hc3:=fun (p:After w5)=>HAT.out p.w (hbp p)
     have hc4:=fun (p:After w5)=>rcost_at (k:=8) (z:=11) rfl (by omega) p.w
     have hc5:=fun (p:After w5)=>rcost_at (k:=9) (z:=12) rfl (by omega) p.w
     go_upto_region 9 with (fail)
     refine z0r (by kernel_rfl) (by kernel_rfl) ?_
     repeat (first | (go_big_quiet_want;(with_reducible refine nq_load_cp HX5.out ?_ ?_);rfl;go_simp;go_big_quiet_on) | go_big_quiet_step (first | (go_at_call 53;first | (with_reducible exact z0k _ (hc0 _)) | (with_reducible exact z0k _ (hc1 _))) | (go_at_call 19;exact z0k _ (hc3 _)) | (go_at_call 46;first | (with_reducible exact z1t _ (hc4 _)) | (with_reducible exact z1t _ (hc5 _)))))
     refine wpQuiet_nil ?_
     intro w6 hw'
     obtain⟨⟨ws,h6⟩,hw''⟩:=hw'
     subst hw''
     clear hc0 hc1 hc3 hc4 hc5 x12 a12
     go_wp2_with fail
     go_ret
     exact⟨by rw [HE.out];rfl,HB5.out.trans (h6.mono HB5.out.size)⟩
   · have hqd:decide (tr≤k)=false:=decide_eq_false hq
     have HE:Hid (RV=y3+11+y2+12):=hid (by rw [HRV.out,if_neg (by rw [hbk];simp),if_neg hq,Int.zero_mul,Int.add_zero])
     clear HRV hbk
     repeat (go_big_quiet_step ((go_at_call 54;exact z1t _ (hk _))))
     refine wpQuiet_nil ?_
     intro w4 hw'
     obtain⟨⟨wr,h6⟩,hw''⟩:=hw'
     subst hw''
     have HX5:=hid (HX3.out.later h6)
     have HB5:=hid (HB3.out.trans (h6.mono HB3.out.size))
     clear hk x13 a12 a13 h6 HX3
     try dsimp only at HX5 HB5 ⊢
     obtain⟨_,_,a12,_,_⟩:=HX5.out.at
     rw [HST.out] at a12
     have x12:=fun r:After w4=>z0w r a12
     have hbp:=fun (p:After w4)=>HB5.out.trans (p.h.mono HB5.out.size)
     have hc0:=fun (p:After w4)=>HP3.out p.w (hbp p)
     have hc1:=fun (p:After w4)=>HP2.out p.w (hbp p)
     have hc3:=fun (p:After w4)=>HAT.out p.w (hbp p)
     have hc4:=fun (p:After w4)=>rcost_at (k:=8) (z:=11) rfl (by omega) p.w
     have hc5:=fun (p:After w4)=>rcost_at (k:=9) (z:=12) rfl (by omega) p.w
     go_upto_region 9 with (fail)
     refine z0r (by kernel_rfl) (by kernel_rfl) ?_
     repeat (first | (go_big_quiet_want;(with_reducible refine nq_load_cp HX5.out ?_ ?_);rfl;go_simp;go_big_quiet_on) | go_big_quiet_step (first | (go_at_call 53;first | (with_reducible exact z0k _ (hc0 _)) | (with_reducible exact z0k _ (hc1 _))) | (go_at_call 19;exact z0k _ (hc3 _)) | (go_at_call 46;first | (with_reducible exact z1t _ (hc4 _)) | (with_reducible exact z1t _ (hc5 _)))))
     refine wpQuiet_nil ?_
     intro w6 hw'
     obtain⟨⟨ws,h6⟩,hw''⟩:=hw'
     subst hw''
     clear hc0 hc1 hc3 hc4 hc5 x12 a12
     go_wp2_with fail
     go_ret
     exact⟨by rw [HE.out];rfl,HB5.out.trans (h6.mono HB5.out.size)⟩
theorem nd_rest (c:Cv) (L:List Ln) (T:List Tk) (M:List Ln) (retry:Int) (W:World) (hw:Words W) (hP:CvM W c L T M) (hok:Crok (c.x L T M)) (h1:c.p.ln≤400∧c.p.tn≤400∧c.p.wn≤400) (hr:In64 retry):Calls Tryz.prog 20 #[.agg (ccs c),.int .i64 retry] W fun e w'=>e=.returned (.int .i64 (restC (c.x L T M) retry))∧Below W.heap.size W w':=by
 obtain⟨W1,hW1,hx,hb1⟩:∃ W1,W.alloc (.cells (ccs c) 34)=W1∧CB W1 W.heap.size c∧Below W.heap.size W W1:=⟨_,rfl,CB.new W c,(Below.refl _ _).alloc (Nat.le_refl _) _⟩
 obtain⟨B,hB⟩:∃ B,W.heap.size=B:=⟨_,rfl⟩
 rw [hB] at hx
 have HX:=hid hx
 have HW1:=hid hW1
 have HB1:=hid hb1
 have HRE:=hid hB
 have hgd:=cr_good c L T M W1 (hw.later hb1) (hP.later hb1) hok h1
 cases hg:goodC (c.x L T M) with
 | false =>
  rw [hg] at hgd
  have HE:Hid (restC (c.x L T M) retry=0):=hid (by unfold restC;rw [if_pos hg])
  generalize restC (c.x L T M) retry=RV at *
  clear hW1 hx hb1 hB hw hP hok h1 hg hr
  go_enter Tryz.func20,Tryz.ntmps20
  go_upto_region 1 with (fail)
  rw [HW1.out,HRE.out]
  go_wp2_with ((with_reducible refine z0y HX.out ?_ ?_);rfl)
  refine hgd.mono ?_
  rintro e w2 ⟨rfl,h2⟩
  have HB2:=hid (HB1.out.trans (h2.mono HB1.out.size))
  clear h2 hgd
  go_wp2_with fail
  go_ret
  exact⟨by rw [HE.out];rfl,HB2.out⟩
 | true =>
  rw [hg] at hgd
  have HS:Hid (∀ w',Below W.heap.size W w'→Calls Tryz.prog 48 #[.agg (pcs c.p)] w' (GivesS w' (z0o (c.p.pg L T M)))):=hid fun w' hb=>steps_p c.p.pk c.p.od c.p.po c.p.lp c.p.ln c.p.lcp c.p.tp c.p.tn c.p.tcp c.p.wp c.p.wn c.p.wcp c.p.sk c.p.fr c.p.to c.p.q L T M w' (hw.later hb) (PgM.later hP hb) hok.P h1
  have HAT:Hid (∀ w',Below W.heap.size W w'→Calls Tryz.prog 18 #[.agg (pcs c.p)] w' fun e w''=>e=.returned (.int .i64 (attP (c.p.pg L T M)))∧Below w'.heap.size w' w''):=hid fun w' hb=>nd_attempt c.p L T M w' (hw.later hb) (PgM.later hP hb) hok.P h1
  have hlf:=lenC_fine hg hok.P
  obtain⟨_,g2,g3,g4,g5⟩:=goodC_parts hg
  have g3':0≤c.st:=g3
  have g4':c.st≤lenC (c.x L T M):=g4
  have g5':0≤c.tr∧c.tr≤9223372036854775807:=⟨g5,hok.tr.2⟩
  have HTH:Hid (∀ w',Calls Tryz.prog 51 #[.agg (ccs c),.int .i64 retry] w' fun e w''=>e=.returned (.int .i64 (thrC (c.x L T M) retry))∧Below w'.heap.size w' w''):=hid fun w'=>nd_throws c (c.x L T M) rfl retry w' g5' hr
  have hth:0≤thrC (c.x L T M) retry∧thrC (c.x L T M) retry≤5:=by
   have g6:0≤(c.x L T M).tr:=g5
   unfold thrC keptR
   split <;> split <;> (try split) <;> omega
  have hatt:0≤attP (c.p.pg L T M)∧attP (c.p.pg L T M)≤303:=by
   have h:=failL_few (S:=z0o (c.p.pg L T M)) (z2g g2 hok.P).2 (z0o (c.p.pg L T M)).length (Nat.le_refl _)
   rw [failL_all] at h
   exact h
  have hfin:∀ s∈z0o (c.p.pg L T M),FineS s:=(z2g g2 hok.P).2
  have hrv:restC (c.x L T M) retry=if c.bk then z1d ((z0o (c.p.pg L T M)).take c.st.toNat)+12 else z1d ((z0o (c.p.pg L T M)).drop c.st.toNat)+thrC (c.x L T M) retry*attP (c.p.pg L T M)+11+z1d (z0o (c.p.pg L T M))+12:=by
   unfold restC
   rw [if_neg (by rw [hg];simp)]
   rfl
  have hln:lenC (c.x L T M)=((z0o (c.p.pg L T M)).length:Int):=rfl
  generalize restC (c.x L T M) retry=RV at *
  generalize thrC (c.x L T M) retry=th at *
  generalize attP (c.p.pg L T M)=av at *
  generalize z0o (c.p.pg L T M)=S at *
  obtain⟨n,hnn⟩:∃ n,S.length=n:=⟨_,rfl⟩
  rw [hnn] at hln
  have HN:=hid hnn
  rw [hln] at g4' hlf
  obtain⟨i,hi⟩:∃ i:Nat,c.st.toNat=i:=⟨_,rfl⟩
  have hst:c.st=(i:Int):=by omega
  have hin:i≤n:=by omega
  have hn5:n≤5:=by omega
  have hn1:1≤n:=by omega
  rw [hi] at hrv
  have HRV:=hid hrv
  have HST:=hid hst
  have HF:=hid hfin
  obtain⟨pr,hpr⟩:∃ pr,th*av=pr:=⟨_,rfl⟩
  have hprb:0≤pr∧pr≤1515:=by
   rw [← hpr]
   refine⟨Int.mul_nonneg hth.1 hatt.1,?_⟩
   have:=Int.mul_le_mul hth.2 hatt.2 hatt.1 (by omega)
   omega
  rw [hpr] at HRV
  clear hW1 hx hb1 hB hw hP hok h1 hg hnn hln g2 g3 g4 g5 g3' g4' g5' hlf hfin hrv hi hst hr
  go_enter Tryz.func20,Tryz.ntmps20
  go_upto_region 1 with (fail)
  rw [HW1.out,HRE.out]
  go_wp2_with ((with_reducible refine z0y HX.out ?_ ?_);rfl)
  refine hgd.mono ?_
  rintro e w2 ⟨rfl,h2⟩
  have HX2:=hid (HX.out.later h2)
  have HB2:=hid (HB1.out.trans (h2.mono HB1.out.size))
  clear h2 HX hgd
  go_wp2_with ((with_reducible refine z1v HX2.out ?_ ?_);rfl)
  refine (HS.out _ HB2.out).mono ?_
  rintro e w3 ⟨p3,k3,H3,rfl,hs3,hb3⟩
  have HX3:=hid (HX2.out.later hb3)
  have HB3:=hid (HB2.out.trans (hb3.mono HB2.out.size))
  simp only [HN.out] at hs3 ⊢
  have hcap:=hs3.row.cap
  have hmax:=hs3.row.max
  obtain⟨b,off,rfl,_,_⟩:=hs3.row.cell hn1
  have HS3:=hid hs3
  have hik:i≤k3:=by omega
  clear hb3 hs3 HS HX2
  obtain⟨_,a11,a12,a13,_⟩:=HX3.out.at
  rw [HST.out] at a12
  cases hbk:c.bk with
  | true =>
   rw [hbk] at a11
   have hpb:=passL_few (S:=S.take i) (n:=i) (fine_take HF.out i) (by rw [List.length_take,HN.out];omega) (by omega)
   have HPA:=hid fun w' (hb:Below w3.heap.size w3 w')=>nd_passes (some ⟨b,off,none⟩) i k3 (H3.take i) (S.take i) w' ((HS3.out.later hb).take i hin) (fine_take HF.out i) (by omega)
   have HE:Hid (RV=z1d (S.take i)+12):=hid (by rw [HRV.out,if_pos hbk])
   clear HRV hbk
   generalize z1d (S.take i)=y at *
   go_wp2_with fail
   refine (HPA.out _ (Below.refl _ _)).mono ?_
   rintro e w4 ⟨rfl,hb4⟩
   have HB4:=hid (HB3.out.trans (hb4.mono HB3.out.size))
   clear hb4 HPA
   go_wp2_with fail
   refine (cost_at (k:=9) (z:=12) rfl _).mono ?_
   rintro e w5 ⟨rfl,hb5⟩
   have HB5:=hid (HB4.out.trans (hb5.mono HB4.out.size))
   clear hb5
   go_wp2_with fail
   go_ret
   exact⟨by rw [HE.out];rfl,HB5.out⟩
  | false =>
   rw [hbk] at a11
   have hpb:=passL_few (S:=S.drop i) (n:=n-i) (fine_drop HF.out i) (by rw [List.length_drop,HN.out]) (by omega)
   have hpc:=passL_few HF.out HN.out hn5
   have HE:Hid (RV=z1d (S.drop i)+pr+11+z1d S+12):=hid (by rw [HRV.out,if_neg (by rw [hbk];simp)])
   have hbp:=fun (p:After w3)=>HB3.out.trans (p.h.mono HB3.out.size)
   have hc1:=fun (p:After w3)=>nd_passes (some ⟨b,off,none⟩) n k3 H3 S p.w (HS3.out.later p.h) HF.out hn5
   have hc2:=fun (p:After w3)=>HTH.out p.w
   have hc3:=fun (p:After w3)=>HAT.out p.w (hbp p)
   have hc4:=fun (p:After w3)=>cost_at (k:=8) (z:=11) rfl p.w
   have hc5:=fun (p:After w3)=>cost_at (k:=9) (z:=12) rfl p.w
   have hwp:IntKind.i64.wrap (th*av)=pr:=by rw [hpr];exact IntWalk.i64_in _ (by omega)
   clear hpr
   have x12:=fun r:After w3=>z0w r a12
   go_upto_region 6 with (fail)
   by_cases hki:k3=i
   · obtain rfl:i=k3:=hki.symm
     obtain rfl:i=n:=by omega
     have hc0:=fun (p:After w3)=>nd_passes (some ⟨b,off,none⟩) (i-i) (i-i) (H3.drop i) (S.drop i) p.w ((HS3.out.later p.h).drop i hin (some ⟨b,off,none⟩) (fun h=>by omega) (fun h=>by cases h)) (fine_drop HF.out i) (by omega)
     simp only [Nat.sub_self] at hc0
     clear HRV hbk
     generalize z1d (S.drop i)=y at *
     generalize z1d S=ya at *
     refine z0r (by kernel_rfl) (by kernel_rfl) ?_
     repeat (first | (go_big_quiet_want;(with_reducible refine nq_load_cr HX3.out ?_ ?_);rfl;go_simp;go_big_quiet_on) | (go_big_quiet_want;(with_reducible refine nq_load_cp HX3.out ?_ ?_);rfl;go_simp;go_big_quiet_on) | go_big_quiet_step (first | (go_at_call 50;first | (with_reducible exact z0k _ (hc0 _)) | (with_reducible exact z0k _ (hc1 _))) | (go_at_call 51;exact z0k _ (hc2 _)) | (go_at_call 18;exact z0k _ (hc3 _)) | (go_at_call 45;first | (with_reducible exact z0k _ (hc4 _)) | (with_reducible exact z0k _ (hc5 _)))))
     refine wpQuiet_nil ?_
     intro w4 hw'
     obtain⟨⟨wq,h6⟩,hw''⟩:=hw'
     subst hw''
     clear hc0 hc1 hc2 hc3 hc4 hc5
     go_wp2_with fail
     go_ret
     exact⟨by rw [HE.out];rfl,HB3.out.trans (h6.mono HB3.out.size)⟩
   · have hc0:=fun (p:After w3)=>nd_passes (some ⟨b,off+i*3,none⟩) (n-i) (k3-i) (H3.drop i) (S.drop i) p.w ((HS3.out.later p.h).drop i hin (some ⟨b,off+i*3,none⟩) (fun h b' off' e=>by cases e;rfl) (fun h=>by cases h)) (fine_drop HF.out i) (by omega)
     clear HRV hbk
     generalize z1d (S.drop i)=y at *
     generalize z1d S=ya at *
     refine z0r (by kernel_rfl) (by kernel_rfl) ?_
     repeat (first | (go_big_quiet_want;(with_reducible refine nq_load_cr HX3.out ?_ ?_);rfl;go_simp;go_big_quiet_on) | (go_big_quiet_want;(with_reducible refine nq_load_cp HX3.out ?_ ?_);rfl;go_simp;go_big_quiet_on) | go_big_quiet_step (first | (go_at_call 50;first | (with_reducible exact z0k _ (hc0 _)) | (with_reducible exact z0k _ (hc1 _))) | (go_at_call 51;exact z0k _ (hc2 _)) | (go_at_call 18;exact z0k _ (hc3 _)) | (go_at_call 45;first | (with_reducible exact z0k _ (hc4 _)) | (with_reducible exact z0k _ (hc5 _)))))
     refine wpQuiet_nil ?_
     intro w4 hw'
     obtain⟨⟨wq,h6⟩,hw''⟩:=hw'
     subst hw''
     clear hc0 hc1 hc2 hc3 hc4 hc5
     go_wp2_with fail
     go_ret
     exact⟨by rw [HE.out];rfl,HB3.out.trans (h6.mono HB3.out.size)⟩
theorem rest_few {x:Crs} {retry:Int} (hok:Pgok x.P):0≤restC x retry∧restC x retry≤5000∧0≤attP x.P∧attP x.P≤303:=by
 have hfn:(∀ s∈z0o x.P,FineS s)∧(z0o x.P).length≤5:=by
  cases hg:z0p 4 4 x.P with
  | false=>rw [steps_no hg];exact⟨(fun s hs=>by cases hs),by simp⟩
  | true=>exact⟨(z2g hg hok).2,(z2g hg hok).1.2⟩
 have ha:=failL_few hfn.1 (z0o x.P).length (Nat.le_refl _)
 rw [failL_all] at ha
 have hb:0≤attP x.P∧attP x.P≤303:=ha
 refine⟨?_,?_,hb.1,hb.2⟩
 · unfold restC
   split
   · omega
   split
   · have:=passL_nn ((z0o x.P).take x.st.toNat)
     omega
   · have h1:=passL_nn ((z0o x.P).drop x.st.toNat)
     have h2:=passL_nn (z0o x.P)
     rename_i hg _
     have hg':=(goodC_parts (show goodC x=true by simpa using hg)).2.2.2.2
     have h3:0≤thrC x retry:=by
      unfold thrC keptR
      split <;> split <;> (try split) <;> omega
     have:=Int.mul_nonneg h3 hb.1
     omega
 · unfold restC
   split
   · omega
   split
   · have:=(passL_few (S:=(z0o x.P).take x.st.toNat) (n:=((z0o x.P).take x.st.toNat).length) (fine_take hfn.1 _) rfl (by rw [List.length_take];omega)).2
     omega
   · have h1:=(passL_few (S:=(z0o x.P).drop x.st.toNat) (n:=((z0o x.P).drop x.st.toNat).length) (fine_drop hfn.1 _) rfl (by rw [List.length_drop];omega)).2
     have h2:=(passL_few hfn.1 rfl hfn.2).2
     rename_i hg _
     have hg':=(goodC_parts (show goodC x=true by simpa using hg)).2.2.2.2
     have h3:0≤thrC x retry∧thrC x retry≤5:=by
      unfold thrC keptR
      split <;> split <;> (try split) <;> omega
     have:=Int.mul_le_mul h3.2 hb.2 hb.1 (by omega)
     omega
theorem nd_hold (c:Cv) (L:List Ln) (T:List Tk) (M:List Ln) (t:Tv) (retry:Int) (W:World) (hw:Words W) (hP:CvM W c L T M) (hok:Crok (c.x L T M)) (h1:c.p.ln≤400∧c.p.tn≤400∧c.p.wn≤400) (hr:In64 retry) (hz:0≤t.c.sz∧t.c.sz≤1000000000000000000):Calls Tryz.prog 22 #[.agg (ccs c),.agg #[.int .u32 t.c.id,.int .u32 t.c.sg,.int .u8 t.c.st,.bool t.c.cp,.bool t.c.dd,.slice t.p t.n t.m,.int .i64 t.c.fs,.int .i64 t.c.sz],.int .i64 retry] W fun e w'=>e=.returned (.int .i64 (holdC (c.x L T M) t.c.dd t.c.sz retry))∧Below W.heap.size W w':=by
 obtain⟨W1,hW1,hx,ht,hb1⟩:=cr_two8 W c t
 obtain⟨B,hB⟩:∃ B,W.heap.size=B:=⟨_,rfl⟩
 rw [hB] at hx ht
 have HX:=hid hx
 have HT:=hid ht
 have HW1:=hid hW1
 have HB1:=hid hb1
 have HRE:=hid hB
 have hgd:=cr_good c L T M W1 (hw.later hb1) (PgM.later hP hb1) hok h1
 cases hg:goodC (c.x L T M) with
 | false =>
  rw [hg] at hgd
  have HE:Hid (holdC (c.x L T M) t.c.dd t.c.sz retry=0):=hid (by unfold holdC;rw [if_pos hg])
  generalize holdC (c.x L T M) t.c.dd t.c.sz retry=RV at *
  clear hW1 hx ht hb1 hB hw hP hok h1 hg hr hz
  go_enter Tryz.func22,Tryz.ntmps22
  go_upto_region 1 with (fail)
  rw [HW1.out,HRE.out]
  go_wp2_with ((with_reducible refine z0y HX.out ?_ ?_);rfl)
  refine hgd.mono ?_
  rintro e w2 ⟨rfl,h2⟩
  have HB2:=hid (HB1.out.trans (h2.mono HB1.out.size))
  clear h2 hgd
  go_wp2_with fail
  go_ret
  exact⟨by rw [HE.out];rfl,HB2.out⟩
 | true =>
  rw [hg] at hgd
  have HRS:Hid (∀ w',Below W.heap.size W w'→Calls Tryz.prog 20 #[.agg (ccs c),.int .i64 retry] w' fun e w''=>e=.returned (.int .i64 (restC (c.x L T M) retry))∧Below w'.heap.size w' w''):=hid fun w' hb=>nd_rest c L T M retry w' (hw.later hb) (PgM.later hP hb) hok h1 hr
  have HAT:Hid (∀ w',Below W.heap.size W w'→Calls Tryz.prog 18 #[.agg (pcs c.p)] w' fun e w''=>e=.returned (.int .i64 (attP (c.p.pg L T M)))∧Below w'.heap.size w' w''):=hid fun w' hb=>nd_attempt c.p L T M w' (hw.later hb) (PgM.later hP hb) hok.P h1
  have hfew:=rest_few (x:=c.x L T M) (retry:=retry) hok.P
  rw [show (c.x L T M).P=c.p.pg L T M from rfl] at hfew
  obtain⟨f1,f2,f3,f4⟩:=hfew
  have hrv:holdC (c.x L T M) t.c.dd t.c.sz retry=if c.tx=0 then restC (c.x L T M) retry+attP (c.p.pg L T M) else lessI (restC (c.x L T M) retry+attP (c.p.pg L T M)+(if t.c.dd=true∧c.bk=false then attP (c.p.pg L T M) else 0)) t.c.sz:=by
   unfold holdC
   rw [if_neg (by rw [hg];simp)]
   rfl
  generalize holdC (c.x L T M) t.c.dd t.c.sz retry=RV at *
  generalize restC (c.x L T M) retry=rs at *
  generalize attP (c.p.pg L T M)=av at *
  have HRV:=hid hrv
  clear hW1 hx ht hb1 hB hw hP hok h1 hg hrv hr
  go_enter Tryz.func22,Tryz.ntmps22
  go_upto_region 1 with (fail)
  rw [HW1.out,HRE.out]
  go_wp2_with ((with_reducible refine z0y HX.out ?_ ?_);rfl)
  refine hgd.mono ?_
  rintro e w2 ⟨rfl,h2⟩
  have HX2:=hid (HX.out.later h2)
  have HT2:=hid (z0b HT.out h2)
  have HB2:=hid (HB1.out.trans (h2.mono HB1.out.size))
  clear h2 HX HT hgd
  go_upto_region 3 with (fail)
  have hbp:=fun (p:After w2)=>HB2.out.trans (p.h.mono HB2.out.size)
  have hc1:=fun (p:After w2)=>HRS.out p.w (hbp p)
  have hc2:=fun (p:After w2)=>HAT.out p.w (hbp p)
  clear hbp
  refine z0r (by kernel_rfl) (by kernel_rfl) ?_
  repeat (first | (go_big_quiet_want;(with_reducible refine nq_load_cr HX2.out ?_ ?_);rfl;go_simp;go_big_quiet_on) | (go_big_quiet_want;(with_reducible refine nq_load_cp HX2.out ?_ ?_);rfl;go_simp;go_big_quiet_on) | go_big_quiet_step (first | (go_at_call 20;exact z0k _ (hc1 _)) | (go_at_call 18;exact z0k _ (hc2 _))))
  refine wpQuiet_nil ?_
  intro w3 hw'
  obtain⟨⟨wq,h6⟩,hw''⟩:=hw'
  subst hw''
  clear hc1 hc2
  have HB3:=hid (HB2.out.trans (h6.mono HB2.out.size))
  have HX3:=hid (HX2.out.later h6)
  have HT3:=hid (z0b HT2.out h6)
  clear h6 HX2 HT2
  obtain⟨_,a11,_,_,a14⟩:=HX3.out.at
  obtain⟨_,_,_,_,b4,_,_,b7⟩:=z1z HT3.out
  cases q0:(c.tx==0) with
  | true =>
   have HE:Hid (RV=rs+av):=hid (by rw [HRV.out,if_pos (by simpa using q0)])
   clear HRV b4 b7 a11
   go_wp2_with fail
   go_ret
   exact⟨by rw [HE.out];rfl,HB3.out⟩
  | false =>
   have hne:c.tx≠0:=by simpa using q0
   have hrv2:=HRV.out
   rw [if_neg hne] at hrv2
   clear HRV hne
   obtain⟨bb,hbb⟩:∃ bb,c.bk=bb:=⟨_,rfl⟩
   obtain⟨dd,hdd⟩:∃ dd,t.c.dd=dd:=⟨_,rfl⟩
   rw [hbb] at a11 hrv2
   rw [hdd] at b4 hrv2
   generalize t.c.sz=sz at *
   obtain⟨z1,z2⟩:=hz
   clear hbb hdd
   cases dd with
   | false =>
    rw [if_neg (by simp),Int.add_zero] at hrv2
    have HE:=hid hrv2
    clear hrv2 a11
    go_wp2_with fail
    refine (nd_less (rs+av) sz _ (by omega) (by omega)).mono ?_
    rintro e w4 ⟨rfl,rfl⟩
    go_wp2_with fail
    go_ret
    exact⟨by rw [HE.out];rfl,HB3.out⟩
   | true =>
    cases bb with
    | true =>
     rw [if_neg (by simp),Int.add_zero] at hrv2
     have HE:=hid hrv2
     clear hrv2
     go_wp2_with fail
     refine (nd_less (rs+av) sz _ (by omega) (by omega)).mono ?_
     rintro e w4 ⟨rfl,rfl⟩
     go_wp2_with fail
     go_ret
     exact⟨by rw [HE.out];rfl,HB3.out⟩
    | false =>
     rw [if_pos ⟨rfl,rfl⟩] at hrv2
     have HE:=hid hrv2
     clear hrv2
     go_wp2_with ((with_reducible refine z1v HX3.out ?_ ?_);rfl)
     refine (HAT.out _ HB3.out).mono ?_
     rintro e w4 ⟨rfl,hb4⟩
     have HB4:=hid (HB3.out.trans (hb4.mono HB3.out.size))
     have HT4:=hid (z0b HT3.out hb4)
     clear hb4 HAT HX3 HT3 b4 b7
     obtain⟨_,_,_,_,_,_,_,b7⟩:=z1z HT4.out
     go_wp2_with fail
     refine (nd_less (rs+av+av) sz _ (by omega) (by omega)).mono ?_
     rintro e w5 ⟨rfl,rfl⟩
     go_wp2_with fail
     go_ret
     exact⟨by rw [HE.out];rfl,HB4.out⟩
theorem nr_hold (c:Cv) (L:List Ln) (T:List Tk) (M:List Ln) (t:Tv) (retry:Int) (W:World) (hP:CvM W c L T M) (hok:Crok (c.x L T M)) (h1:c.p.ln≤400∧c.p.tn≤400∧c.p.wn≤400) (hr:In64 retry) (hz:0≤t.c.sz∧t.c.sz≤1000000000000000000):Calls Tryz.prog 23 #[.agg (ccs c),.agg #[.int .u32 t.c.id,.int .u32 t.c.sg,.int .u8 t.c.st,.bool t.c.cp,.bool t.c.dd,.slice t.p t.n t.m,.int .i64 t.c.fs,.int .i64 t.c.sz],.int .i64 retry] W fun e w'=>e=.returned (.int .i64 (holdC (c.x L T M) t.c.dd t.c.sz retry))∧Below W.heap.size W w':=by
 obtain⟨W1,hW1,hx,ht,hb1⟩:=cr_two8 W c t
 obtain⟨B,hB⟩:∃ B,W.heap.size=B:=⟨_,rfl⟩
 rw [hB] at hx ht
 have HX:=hid hx
 have HT:=hid ht
 have HW1:=hid hW1
 have HB1:=hid hb1
 have HRE:=hid hB
 have hgd:=cr_rgood c L T M W1 (PgM.later hP hb1) hok h1
 cases hg:goodC (c.x L T M) with
 | false =>
  rw [hg] at hgd
  have HE:Hid (holdC (c.x L T M) t.c.dd t.c.sz retry=0):=hid (by unfold holdC;rw [if_pos hg])
  generalize holdC (c.x L T M) t.c.dd t.c.sz retry=RV at *
  clear hW1 hx ht hb1 hB hP hok h1 hg hr hz
  go_enter Tryz.func23,Tryz.ntmps23
  go_upto_region 1 with (fail)
  rw [HW1.out,HRE.out]
  go_wp2_with ((with_reducible refine z0y HX.out ?_ ?_);rfl)
  refine hgd.mono ?_
  rintro e w2 ⟨rfl,h2⟩
  have HB2:=hid (HB1.out.trans (h2.mono HB1.out.size))
  clear h2 hgd
  go_wp2_with fail
  go_ret
  exact⟨by rw [HE.out];rfl,HB2.out⟩
 | true =>
  rw [hg] at hgd
  have HRS:Hid (∀ w',Below W.heap.size W w'→Calls Tryz.prog 21 #[.agg (ccs c),.int .i64 retry] w' fun e w''=>e=.returned (.int .i64 (restC (c.x L T M) retry))∧Below w'.heap.size w' w''):=hid fun w' hb=>nr_rest c L T M retry w' (PgM.later hP hb) hok h1 hr
  have HAT:Hid (∀ w',Below W.heap.size W w'→Calls Tryz.prog 19 #[.agg (pcs c.p)] w' fun e w''=>e=.returned (.int .i64 (attP (c.p.pg L T M)))∧Below w'.heap.size w' w''):=hid fun w' hb=>nr_attempt c.p L T M w' (PgM.later hP hb) hok.P h1
  have hfew:=rest_few (x:=c.x L T M) (retry:=retry) hok.P
  rw [show (c.x L T M).P=c.p.pg L T M from rfl] at hfew
  obtain⟨f1,f2,f3,f4⟩:=hfew
  have hrv:holdC (c.x L T M) t.c.dd t.c.sz retry=if c.tx=0 then restC (c.x L T M) retry+attP (c.p.pg L T M) else lessI (restC (c.x L T M) retry+attP (c.p.pg L T M)+(if t.c.dd=true∧c.bk=false then attP (c.p.pg L T M) else 0)) t.c.sz:=by
   unfold holdC
   rw [if_neg (by rw [hg];simp)]
   rfl
  generalize holdC (c.x L T M) t.c.dd t.c.sz retry=RV at *
  generalize restC (c.x L T M) retry=rs at *
  generalize attP (c.p.pg L T M)=av at *
  have HRV:=hid hrv
  clear hW1 hx ht hb1 hB hP hok h1 hg hrv hr
  go_enter Tryz.func23,Tryz.ntmps23
  go_upto_region 1 with (fail)
  rw [HW1.out,HRE.out]
  go_wp2_with ((with_reducible refine z0y HX.out ?_ ?_);rfl)
  refine hgd.mono ?_
  rintro e w2 ⟨rfl,h2⟩
  have HX2:=hid (HX.out.later h2)
  have HT2:=hid (z0b HT.out h2)
  have HB2:=hid (HB1.out.trans (h2.mono HB1.out.size))
  clear h2 HX HT hgd
  go_upto_region 3 with (fail)
  have hbp:=fun (p:After w2)=>HB2.out.trans (p.h.mono HB2.out.size)
  have hc1:=fun (p:After w2)=>HRS.out p.w (hbp p)
  have hc2:=fun (p:After w2)=>HAT.out p.w (hbp p)
  clear hbp
  refine z0r (by kernel_rfl) (by kernel_rfl) ?_
  repeat (first | (go_big_quiet_want;(with_reducible refine nq_load_cr HX2.out ?_ ?_);rfl;go_simp;go_big_quiet_on) | (go_big_quiet_want;(with_reducible refine nq_load_cp HX2.out ?_ ?_);rfl;go_simp;go_big_quiet_on) | go_big_quiet_step (first | (go_at_call 21;exact z0k _ (hc1 _)) | (go_at_call 19;exact z0k _ (hc2 _))))
  refine wpQuiet_nil ?_
  intro w3 hw'
  obtain⟨⟨wq,h6⟩,hw''⟩:=hw'
  subst hw''
  clear hc1 hc2
  have HB3:=hid (HB2.out.trans (h6.mono HB2.out.size))
  have HX3:=hid (HX2.out.later h6)
  have HT3:=hid (z0b HT2.out h6)
  clear h6 HX2 HT2
  obtain⟨_,a11,_,_,a14⟩:=HX3.out.at
  obtain⟨_,_,_,_,b4,_,_,b7⟩:=z1z HT3.out
  cases q0:(c.tx==0) with
  | true =>
   have HE:Hid (RV=rs+av):=hid (by rw [HRV.out,if_pos (by simpa using q0)])
   clear HRV b4 b7 a11
   go_wp2_with fail
   go_ret
   exact⟨by rw [HE.out];rfl,HB3.out⟩
  | false =>
   have hne:c.tx≠0:=by simpa using q0
   have hrv2:=HRV.out
   rw [if_neg hne] at hrv2
   clear HRV hne
   obtain⟨bb,hbb⟩:∃ bb,c.bk=bb:=⟨_,rfl⟩
   obtain⟨dd,hdd⟩:∃ dd,t.c.dd=dd:=⟨_,rfl⟩
   rw [hbb] at a11 hrv2
   rw [hdd] at b4 hrv2
   generalize t.c.sz=sz at *
   obtain⟨z1,z2⟩:=hz
   clear hbb hdd
   cases dd with
   | false =>
    rw [if_neg (by simp),Int.add_zero] at hrv2
    have HE:=hid hrv2
    clear hrv2 a11
    by_cases hle:rs+av≤sz
    · have hd:decide (rs+av≤sz)=true:=decide_eq_true hle
      have HE2:Hid (RV=0):=hid (by rw [HE.out];exact if_pos hle)
      go_wp2_with fail
      go_ret
      exact⟨by rw [HE2.out];rfl,HB3.out⟩
    · have hd:decide (rs+av≤sz)=false:=decide_eq_false hle
      have HE2:Hid (RV=rs+av-sz):=hid (by rw [HE.out];exact if_neg hle)
      go_wp2_with fail
      go_ret
      exact⟨by rw [HE2.out];rfl,HB3.out⟩
   | true =>
    cases bb with
    | true =>
     rw [if_neg (by simp),Int.add_zero] at hrv2
     have HE:=hid hrv2
     clear hrv2
     by_cases hle:rs+av≤sz
     · have hd:decide (rs+av≤sz)=true:=decide_eq_true hle
       have HE2:Hid (RV=0):=hid (by rw [HE.out];exact if_pos hle)
       go_wp2_with fail
       go_ret
       exact⟨by rw [HE2.out];rfl,HB3.out⟩
     · have hd:decide (rs+av≤sz)=false:=decide_eq_false hle
       have HE2:Hid (RV=rs+av-sz):=hid (by rw [HE.out];exact if_neg hle)
       go_wp2_with fail
       go_ret
       exact⟨by rw [HE2.out];rfl,HB3.out⟩
    | false =>
     rw [if_pos ⟨rfl,rfl⟩] at hrv2
     have HE:=hid hrv2
     clear hrv2
     go_wp2_with ((with_reducible refine z1v HX3.out ?_ ?_);rfl)
     refine (HAT.out _ HB3.out).mono ?_
     rintro e w4 ⟨rfl,hb4⟩
     have HB4:=hid (HB3.out.trans (hb4.mono HB3.out.size))
     have HT4:=hid (z0b HT3.out hb4)
     clear hb4 HAT HX3 HT3 b4 b7
     obtain⟨_,_,_,_,_,_,_,b7⟩:=z1z HT4.out
     by_cases hle:rs+av+av≤sz
     · have hd:decide (rs+av+av≤sz)=true:=decide_eq_true hle
       have HE2:Hid (RV=0):=hid (by rw [HE.out];exact if_pos hle)
       go_wp2_with fail
       go_ret
       exact⟨by rw [HE2.out];rfl,HB4.out⟩
     · have hd:decide (rs+av+av≤sz)=false:=decide_eq_false hle
       have HE2:Hid (RV=rs+av+av-sz):=hid (by rw [HE.out];exact if_neg hle)
       go_wp2_with fail
       go_ret
       exact⟨by rw [HE2.out];rfl,HB4.out⟩
end Go.Proofs.YtclbkfpbdidaiaaGreatDoor
