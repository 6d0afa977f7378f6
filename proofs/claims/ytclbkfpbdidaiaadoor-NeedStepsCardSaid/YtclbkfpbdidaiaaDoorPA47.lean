import Derived.Test.YtclbkfpbdidaiaaDoorPA46
namespace Go.Proofs.YtclbkfpbdidaiaaDoor
open Go.Lib (hid)
set_option maxHeartbeats 8000000
open Go.RowKit Go.ChangeShapes Go.WideShapes
set_option linter.unusedVariables false
set_option linter.unusedSimpArgs false
set_option maxRecDepth 10000
def lessI (n z:Int):Int:=if n≤z then 0 else n-z
theorem nd_less (n z:Int) (W:World) (h1:0≤n∧n≤1000000) (h2:0≤z∧z≤1000000000000000000):Calls Tryd.prog 34 #[.int .i64 n,.int .i64 z] W fun e w'=>e=.returned (.int .i64 (lessI n z))∧w'=W:=by
 have hz:¬ z<n-9223372036854775807:=by omega
 have hz2:decide (z<n-9223372036854775807)=false:=decide_eq_false hz
 obtain⟨h3,h4⟩:=h1
 obtain⟨h5,h6⟩:=h2
 by_cases hc:n≤z
 · have HE:Hid (lessI n z=0):=hid (if_pos hc)
   have hd:decide (n≤z)=true:=decide_eq_true hc
   clear hz hz2
   go_enter Tryd.func34,Tryd.ntmps34
   go_wp2_with fail
   go_ret
   exact⟨by rw [HE.out];rfl,rfl⟩
 · have HE:Hid (lessI n z=n-z):=hid (if_neg hc)
   have hd:decide (n≤z)=false:=decide_eq_false hc
   go_enter Tryd.func34,Tryd.ntmps34
   go_wp2_with fail
   go_ret
   exact⟨by rw [HE.out];rfl,rfl⟩
theorem nd_throws (c:Cv) (x:Crs) (hx:x.tr=c.tr) (retry:Int) (W:World) (h1:0≤c.tr∧c.tr≤9223372036854775807) (h2:In64 retry):Calls Tryd.prog 59 #[.agg (ccs c),.int .i64 retry] W fun e w'=>e=.returned (.int .i64 (thrC x retry))∧Below W.heap.size W w':=by
 obtain⟨W1,hW1,hxb,hb1⟩:∃ W1,W.alloc (.cells (ccs c) 46)=W1∧CB W1 W.heap.size c∧Below W.heap.size W W1:=⟨_,rfl,CB.new W c,(Below.refl _ _).alloc (Nat.le_refl _) _⟩
 obtain⟨B,hB⟩:∃ B,W.heap.size=B:=⟨_,rfl⟩
 rw [hB] at hxb
 have HW1:=hid hW1
 have HB1:=hid hb1
 have HRE:=hid hB
 have a13:=hxb.at.2.2.2.1
 obtain⟨k,hk⟩:∃ k,keptR retry=k:=⟨_,rfl⟩
 have hk4:0≤k∧k≤4:=by rw [← hk];unfold keptR;split <;> (try split) <;> omega
 have HT:Hid (thrC x retry=if c.tr≤k then k+1-c.tr else 0):=hid (by unfold thrC;rw [hk,hx])
 obtain⟨m,hm⟩:∃ m,max retry 0=m:=⟨_,rfl⟩
 have hmk:min m 4=k:=by rw [← hm,← hk];unfold keptR;split <;> (try split) <;> omega
 obtain⟨d,hd⟩:∃ d,max (k+1-c.tr) 0=d:=⟨_,rfl⟩
 have HD:Hid (thrC x retry=d):=hid (by rw [HT.out,← hd];split <;> omega)
 unfold In64 at h2
 obtain⟨h3,h4⟩:=h1
 obtain⟨h5,h6⟩:=h2
 obtain⟨h7,h8⟩:=hk4
 clear hW1 hxb hb1 hB hx HT hk
 generalize c.tr=tr at *
 go_enter Tryd.func59,Tryd.ntmps59
 go_upto_region 1 with (fail)
 rw [HW1.out,HRE.out]
 go_wp2_with fail
 go_ret
 exact⟨by rw [HD.out];rfl,HB1.out⟩
theorem nd_rest (c:Cv) (L:List Ln) (T:List Tk) (M:List Ln) (retry:Int) (W:World) (hw:Words W) (hP:CvM W c L T M) (hok:Crok (c.x L T M)) (h1:c.p.ln≤400∧c.p.tn≤400∧c.p.wn≤400) (hr:In64 retry):Calls Tryd.prog 33 #[.agg (ccs c),.int .i64 retry] W fun e w'=>e=.returned (.int .i64 (restC (c.x L T M) retry))∧Below W.heap.size W w':=by
 obtain⟨W1,hW1,hx,hb1⟩:∃ W1,W.alloc (.cells (ccs c) 46)=W1∧CB W1 W.heap.size c∧Below W.heap.size W W1:=⟨_,rfl,CB.new W c,(Below.refl _ _).alloc (Nat.le_refl _) _⟩
 obtain⟨B,hB⟩:∃ B,W.heap.size=B:=⟨_,rfl⟩
 rw [hB] at hx
 have HX:=hid hx
 have HW1:=hid hW1
 have HB1:=hid hb1
 have HRE:=hid hB
 have hgd:=cr_good c L T M W1 (hw.later hb1) (hP.later hb1) hok h1
 cases hg:goodC (c.x L T M) with
 | false =>
  rw [hg] at hgd
  have HE:Hid (restC (c.x L T M) retry=0):=hid (by unfold restC;rw [if_pos hg])
  generalize restC (c.x L T M) retry=RV at *
  clear hW1 hx hb1 hB hw hP hok h1 hg hr
  go_enter Tryd.func33,Tryd.ntmps33
  go_upto_region 1 with (fail)
  rw [HW1.out,HRE.out]
  go_wp2_with ((with_reducible refine wpList_load_cr HX.out ?_ ?_);rfl)
  refine hgd.mono ?_
  rintro e w2 ⟨rfl,h2⟩
  have HB2:=hid (HB1.out.trans (h2.mono HB1.out.size))
  clear h2 hgd
  go_wp2_with fail
  go_ret
  exact⟨by rw [HE.out];rfl,HB2.out⟩
 | true =>
  rw [hg] at hgd
  have HS:Hid (∀ w',Below W.heap.size W w'→Calls Tryd.prog 15 #[.agg (pcs c.p)] w' (GivesS w' (z0k (c.p.pg L T M)))):=hid fun w' hb=>steps_p c.p.pk c.p.od c.p.po c.p.lp c.p.ln c.p.lcp c.p.tp c.p.tn c.p.tcp c.p.wp c.p.wn c.p.wcp c.p.sk c.p.fr c.p.to c.p.q L T M w' (hw.later hb) (PgM.later hP hb) hok.P h1
  have HAT:Hid (∀ w',Below W.heap.size W w'→Calls Tryd.prog 9 #[.agg (pcs c.p)] w' fun e w''=>e=.returned (.int .i64 (attP (c.p.pg L T M)))∧Below w'.heap.size w' w''):=hid fun w' hb=>nd_attempt c.p L T M w' (hw.later hb) (PgM.later hP hb) hok.P h1
  have hlf:=lenC_fine hg hok.P
  obtain⟨_,g2,g3,g4,g5⟩:=goodC_parts hg
  have g3':0≤c.st:=g3
  have g4':c.st≤lenC (c.x L T M):=g4
  have g5':0≤c.tr∧c.tr≤9223372036854775807:=⟨g5,hok.tr.2⟩
  have HTH:Hid (∀ w',Calls Tryd.prog 59 #[.agg (ccs c),.int .i64 retry] w' fun e w''=>e=.returned (.int .i64 (thrC (c.x L T M) retry))∧Below w'.heap.size w' w''):=hid fun w'=>nd_throws c (c.x L T M) rfl retry w' g5' hr
  have hth:0≤thrC (c.x L T M) retry∧thrC (c.x L T M) retry≤5:=by
   have g6:0≤(c.x L T M).tr:=g5
   unfold thrC keptR
   split <;> split <;> (try split) <;> omega
  have hatt:0≤attP (c.p.pg L T M)∧attP (c.p.pg L T M)≤303:=by
   have h:=failL_few (S:=z0k (c.p.pg L T M)) (z2e g2 hok.P).2 (z0k (c.p.pg L T M)).length (Nat.le_refl _)
   rw [failL_all] at h
   exact h
  have hfin:∀ s∈z0k (c.p.pg L T M),FineS s:=(z2e g2 hok.P).2
  have hrv:restC (c.x L T M) retry=if c.bk then z1j ((z0k (c.p.pg L T M)).take c.st.toNat)+12 else z1j ((z0k (c.p.pg L T M)).drop c.st.toNat)+thrC (c.x L T M) retry*attP (c.p.pg L T M)+11+z1j (z0k (c.p.pg L T M))+12:=by
   unfold restC
   rw [if_neg (by rw [hg];simp)]
   rfl
  have hln:lenC (c.x L T M)=((z0k (c.p.pg L T M)).length:Int):=rfl
  generalize restC (c.x L T M) retry=RV at *
  generalize thrC (c.x L T M) retry=th at *
  generalize attP (c.p.pg L T M)=av at *
  generalize z0k (c.p.pg L T M)=S at *
  obtain⟨n,hnn⟩:∃ n,S.length=n:=⟨_,rfl⟩
  rw [hnn] at hln
  have HN:=hid hnn
  rw [hln] at g4' hlf
  obtain⟨i,hi⟩:∃ i:Nat,c.st.toNat=i:=⟨_,rfl⟩
  have hst:c.st=(i:Int):=by omega
  have hin:i≤n:=by omega
  have hn5:n≤5:=by omega
  have hn1:1≤n:=by omega
  rw [hi] at hrv
  have HRV:=hid hrv
  have HST:=hid hst
  have HF:=hid hfin
  obtain⟨pr,hpr⟩:∃ pr,th*av=pr:=⟨_,rfl⟩
  have hprb:0≤pr∧pr≤1515:=by
   rw [← hpr]
   refine⟨Int.mul_nonneg hth.1 hatt.1,?_⟩
   have:=Int.mul_le_mul hth.2 hatt.2 hatt.1 (by omega)
   omega
  rw [hpr] at HRV
  clear hW1 hx hb1 hB hw hP hok h1 hg hnn hln g2 g3 g4 g5 g3' g4' g5' hlf hfin hrv hi hst hr
  go_enter Tryd.func33,Tryd.ntmps33
  go_upto_region 1 with (fail)
  rw [HW1.out,HRE.out]
  go_wp2_with ((with_reducible refine wpList_load_cr HX.out ?_ ?_);rfl)
  refine hgd.mono ?_
  rintro e w2 ⟨rfl,h2⟩
  have HX2:=hid (HX.out.later h2)
  have HB2:=hid (HB1.out.trans (h2.mono HB1.out.size))
  clear h2 HX hgd
  go_wp2_with ((with_reducible refine wpList_load_cp HX2.out ?_ ?_);rfl)
  refine (HS.out _ HB2.out).mono ?_
  rintro e w3 ⟨p3,k3,H3,rfl,hs3,hb3⟩
  have HX3:=hid (HX2.out.later hb3)
  have HB3:=hid (HB2.out.trans (hb3.mono HB2.out.size))
  simp only [HN.out] at hs3 ⊢
  have hcap:=hs3.row.cap
  have hmax:=hs3.row.max
  obtain⟨b,off,rfl,_,_⟩:=hs3.row.cell hn1
  have HS3:=hid hs3
  have hik:i≤k3:=by omega
  clear hb3 hs3 HS HX2
  obtain⟨_,a11,a12,a13,_⟩:=HX3.out.at
  rw [HST.out] at a12
  cases hbk:c.bk with
  | true =>
   rw [hbk] at a11
   have hpb:=passL_few (S:=S.take i) (n:=i) (fine_take HF.out i) (by rw [List.length_take,HN.out];omega) (by omega)
   have HPA:=hid fun w' (hb:Below w3.heap.size w3 w')=>nd_passes (some ⟨b,off,none⟩) i k3 (H3.take i) (S.take i) w' ((HS3.out.later hb).take i hin) (fine_take HF.out i) (by omega)
   have HE:Hid (RV=z1j (S.take i)+12):=hid (by rw [HRV.out,if_pos hbk])
   clear HRV hbk
   generalize z1j (S.take i)=y at *
   go_wp2_with fail
   refine (HPA.out _ (Below.refl _ _)).mono ?_
   rintro e w4 ⟨rfl,hb4⟩
   have HB4:=hid (HB3.out.trans (hb4.mono HB3.out.size))
   clear hb4 HPA
   go_wp2_with fail
   refine (cost_at (k:=9) (z:=12) rfl _).mono ?_
   rintro e w5 ⟨rfl,hb5⟩
   have HB5:=hid (HB4.out.trans (hb5.mono HB4.out.size))
   clear hb5
   go_wp2_with fail
   go_ret
   exact⟨by rw [HE.out];rfl,HB5.out⟩
  | false =>
   rw [hbk] at a11
   have hpb:=passL_few (S:=S.drop i) (n:=n-i) (fine_drop HF.out i) (by rw [List.length_drop,HN.out]) (by omega)
   have hpc:=passL_few HF.out HN.out hn5
   have HE:Hid (RV=z1j (S.drop i)+pr+11+z1j S+12):=hid (by rw [HRV.out,if_neg (by rw [hbk];simp)])
   have hbp:=fun (p:After w3)=>HB3.out.trans (p.h.mono HB3.out.size)
   have hc1:=fun (p:After w3)=>nd_passes (some ⟨b,off,none⟩) n k3 H3 S p.w (HS3.out.later p.h) HF.out hn5
   have hc2:=fun (p:After w3)=>HTH.out p.w
   have hc3:=fun (p:After w3)=>HAT.out p.w (hbp p)
   have hc4:=fun (p:After w3)=>cost_at (k:=8) (z:=11) rfl p.w
   have hc5:=fun (p:After w3)=>cost_at (k:=9) (z:=12) rfl p.w
   have hwp:IntKind.i64.wrap (th*av)=pr:=by rw [hpr];exact IntWalk.i64_in _ (by omega)
   clear hpr
   have x12:=fun r:After w3=>z1i r a12
   go_upto_region 6 with (fail)
   by_cases hki:k3=i
   · obtain rfl:i=k3:=hki.symm
     obtain rfl:i=n:=by omega
     have hc0:=fun (p:After w3)=>nd_passes (some ⟨b,off,none⟩) (i-i) (i-i) (H3.drop i) (S.drop i) p.w ((HS3.out.later p.h).drop i hin (some ⟨b,off,none⟩) (fun h=>by omega) (fun h=>by cases h)) (fine_drop HF.out i) (by omega)
     simp only [Nat.sub_self] at hc0
     clear HRV hbk
     generalize z1j (S.drop i)=y at *
     generalize z1j S=ya at *
     refine z0t (by kernel_rfl) (by kernel_rfl) ?_
     repeat (first | (go_big_quiet_want;(with_reducible refine nq_load_cr HX3.out ?_ ?_);rfl;go_simp;go_big_quiet_on) | (go_big_quiet_want;(with_reducible refine nq_load_cp HX3.out ?_ ?_);rfl;go_simp;go_big_quiet_on) | go_big_quiet_step (first | (go_at_call 58;first | (with_reducible exact z0g _ (hc0 _)) | (with_reducible exact z0g _ (hc1 _))) | (go_at_call 59;exact z0g _ (hc2 _)) | (go_at_call 9;exact z0g _ (hc3 _)) | (go_at_call 12;first | (with_reducible exact z0g _ (hc4 _)) | (with_reducible exact z0g _ (hc5 _)))))
     refine wpQuiet_nil ?_
     intro w4 hw'
     obtain⟨⟨wq,h6⟩,hw''⟩:=hw'
     subst hw''
     clear hc0 hc1 hc2 hc3 hc4 hc5
     go_wp2_with fail
     go_ret
     exact⟨by rw [HE.out];rfl,HB3.out.trans (h6.mono HB3.out.size)⟩
   · have hc0:=fun (p:After w3)=>nd_passes (some ⟨b,off+i*3,none⟩) (n-i) (k3-i) (H3.drop i) (S.drop i) p.w ((HS3.out.later p.h).drop i hin (some ⟨b,off+i*3,none⟩) (fun h b' off' e=>by cases e;rfl) (fun h=>by cases h)) (fine_drop HF.out i) (by omega)
     clear HRV hbk
     generalize z1j (S.drop i)=y at *
     generalize z1j S=ya at *
     refine z0t (by kernel_rfl) (by kernel_rfl) ?_
     repeat (first | (go_big_quiet_want;(with_reducible refine nq_load_cr HX3.out ?_ ?_);rfl;go_simp;go_big_quiet_on) | (go_big_quiet_want;(with_reducible refine nq_load_cp HX3.out ?_ ?_);rfl;go_simp;go_big_quiet_on) | go_big_quiet_step (first | (go_at_call 58;first | (with_reducible exact z0g _ (hc0 _)) | (with_reducible exact z0g _ (hc1 _))) | (go_at_call 59;exact z0g _ (hc2 _)) | (go_at_call 9;exact z0g _ (hc3 _)) | (go_at_call 12;first | (with_reducible exact z0g _ (hc4 _)) | (with_reducible exact z0g _ (hc5 _)))))
     refine wpQuiet_nil ?_
     intro w4 hw'
     obtain⟨⟨wq,h6⟩,hw''⟩:=hw'
     subst hw''
     clear hc0 hc1 hc2 hc3 hc4 hc5
     go_wp2_with fail
     go_ret
     exact⟨by rw [HE.out];rfl,HB3.out.trans (h6.mono HB3.out.size)⟩
theorem rest_few {x:Crs} {retry:Int} (hok:Pgok x.P):0≤restC x retry∧restC x retry≤5000∧0≤attP x.P∧attP x.P≤303:=by
 have hfn:(∀ s∈z0k x.P,FineS s)∧(z0k x.P).length≤5:=by
  cases hg:z0s 4 4 x.P with
  | false=>rw [steps_no hg];exact⟨(fun s hs=>by cases hs),by simp⟩
  | true=>exact⟨(z2e hg hok).2,(z2e hg hok).1.2⟩
 have ha:=failL_few hfn.1 (z0k x.P).length (Nat.le_refl _)
 rw [failL_all] at ha
 have hb:0≤attP x.P∧attP x.P≤303:=ha
 refine⟨?_,?_,hb.1,hb.2⟩
 · unfold restC
   split
   · omega
   split
   · have:=passL_nn ((z0k x.P).take x.st.toNat)
     omega
   · have h1:=passL_nn ((z0k x.P).drop x.st.toNat)
     have h2:=passL_nn (z0k x.P)
     rename_i hg _
     have hg':=(goodC_parts (show goodC x=true by simpa using hg)).2.2.2.2
     have h3:0≤thrC x retry:=by
      unfold thrC keptR
      split <;> split <;> (try split) <;> omega
     have:=Int.mul_nonneg h3 hb.1
     omega
 · unfold restC
   split
   · omega
   split
   · have:=(passL_few (S:=(z0k x.P).take x.st.toNat) (n:=((z0k x.P).take x.st.toNat).length) (fine_take hfn.1 _) rfl (by rw [List.length_take];omega)).2
     omega
   · have h1:=(passL_few (S:=(z0k x.P).drop x.st.toNat) (n:=((z0k x.P).drop x.st.toNat).length) (fine_drop hfn.1 _) rfl (by rw [List.length_drop];omega)).2
     have h2:=(passL_few hfn.1 rfl hfn.2).2
     rename_i hg _
     have hg':=(goodC_parts (show goodC x=true by simpa using hg)).2.2.2.2
     have h3:0≤thrC x retry∧thrC x retry≤5:=by
      unfold thrC keptR
      split <;> split <;> (try split) <;> omega
     have:=Int.mul_le_mul h3.2 hb.2 hb.1 (by omega)
     omega
theorem nd_hold (c:Cv) (L:List Ln) (T:List Tk) (M:List Ln) (t:Tv) (retry:Int) (W:World) (hw:Words W) (hP:CvM W c L T M) (hok:Crok (c.x L T M)) (h1:c.p.ln≤400∧c.p.tn≤400∧c.p.wn≤400) (hr:In64 retry) (hz:0≤t.c.sz∧t.c.sz≤1000000000000000000):Calls Tryd.prog 18 #[.agg (ccs c),.agg #[.int .u32 t.c.id,.int .u32 t.c.sg,.int .u8 t.c.st,.bool t.c.cp,.bool t.c.dd,.slice t.p t.n t.m,.int .i64 t.c.fs,.int .i64 t.c.sz],.int .i64 retry] W fun e w'=>e=.returned (.int .i64 (holdC (c.x L T M) t.c.dd t.c.sz retry))∧Below W.heap.size W w':=by
 obtain⟨W1,hW1,hx,ht,hb1⟩:=cr_two8 W c t
 obtain⟨B,hB⟩:∃ B,W.heap.size=B:=⟨_,rfl⟩
 rw [hB] at hx ht
 have HX:=hid hx
 have HT:=hid ht
 have HW1:=hid hW1
 have HB1:=hid hb1
 have HRE:=hid hB
 have hgd:=cr_good c L T M W1 (hw.later hb1) (PgM.later hP hb1) hok h1
 cases hg:goodC (c.x L T M) with
 | false =>
  rw [hg] at hgd
  have HE:Hid (holdC (c.x L T M) t.c.dd t.c.sz retry=0):=hid (by unfold holdC;rw [if_pos hg])
  generalize holdC (c.x L T M) t.c.dd t.c.sz retry=RV at *
  clear hW1 hx ht hb1 hB hw hP hok h1 hg hr hz
  go_enter Tryd.func18,Tryd.ntmps18
  go_upto_region 1 with (fail)
  rw [HW1.out,HRE.out]
  go_wp2_with ((with_reducible refine wpList_load_cr HX.out ?_ ?_);rfl)
  refine hgd.mono ?_
  rintro e w2 ⟨rfl,h2⟩
  have HB2:=hid (HB1.out.trans (h2.mono HB1.out.size))
  clear h2 hgd
  go_wp2_with fail
  go_ret
  exact⟨by rw [HE.out];rfl,HB2.out⟩
 | true =>
  rw [hg] at hgd
  have HRS:Hid (∀ w',Below W.heap.size W w'→Calls Tryd.prog 33 #[.agg (ccs c),.int .i64 retry] w' fun e w''=>e=.returned (.int .i64 (restC (c.x L T M) retry))∧Below w'.heap.size w' w''):=hid fun w' hb=>nd_rest c L T M retry w' (hw.later hb) (PgM.later hP hb) hok h1 hr
  have HAT:Hid (∀ w',Below W.heap.size W w'→Calls Tryd.prog 9 #[.agg (pcs c.p)] w' fun e w''=>e=.returned (.int .i64 (attP (c.p.pg L T M)))∧Below w'.heap.size w' w''):=hid fun w' hb=>nd_attempt c.p L T M w' (hw.later hb) (PgM.later hP hb) hok.P h1
  have hfew:=rest_few (x:=c.x L T M) (retry:=retry) hok.P
  rw [show (c.x L T M).P=c.p.pg L T M from rfl] at hfew
  obtain⟨f1,f2,f3,f4⟩:=hfew
  have hrv:holdC (c.x L T M) t.c.dd t.c.sz retry=if c.tx=0 then restC (c.x L T M) retry+attP (c.p.pg L T M) else lessI (restC (c.x L T M) retry+attP (c.p.pg L T M)+(if t.c.dd=true∧c.bk=false then attP (c.p.pg L T M) else 0)) t.c.sz:=by
   unfold holdC
   rw [if_neg (by rw [hg];simp)]
   rfl
  generalize holdC (c.x L T M) t.c.dd t.c.sz retry=RV at *
  generalize restC (c.x L T M) retry=rs at *
  generalize attP (c.p.pg L T M)=av at *
  have HRV:=hid hrv
  clear hW1 hx ht hb1 hB hw hP hok h1 hg hrv hr
  go_enter Tryd.func18,Tryd.ntmps18
  go_upto_region 1 with (fail)
  rw [HW1.out,HRE.out]
  go_wp2_with ((with_reducible refine wpList_load_cr HX.out ?_ ?_);rfl)
  refine hgd.mono ?_
  rintro e w2 ⟨rfl,h2⟩
  have HX2:=hid (HX.out.later h2)
  have HT2:=hid (z0c HT.out h2)
  have HB2:=hid (HB1.out.trans (h2.mono HB1.out.size))
  clear h2 HX HT hgd
  go_upto_region 3 with (fail)
  have hbp:=fun (p:After w2)=>HB2.out.trans (p.h.mono HB2.out.size)
  have hc1:=fun (p:After w2)=>HRS.out p.w (hbp p)
  have hc2:=fun (p:After w2)=>HAT.out p.w (hbp p)
  clear hbp
  refine z0t (by kernel_rfl) (by kernel_rfl) ?_
  repeat (first | (go_big_quiet_want;(with_reducible refine nq_load_cr HX2.out ?_ ?_);rfl;go_simp;go_big_quiet_on) | (go_big_quiet_want;(with_reducible refine nq_load_cp HX2.out ?_ ?_);rfl;go_simp;go_big_quiet_on) | go_big_quiet_step (first | (go_at_call 33;exact z0g _ (hc1 _)) | (go_at_call 9;exact z0g _ (hc2 _))))
  refine wpQuiet_nil ?_
  intro w3 hw'
  obtain⟨⟨wq,h6⟩,hw''⟩:=hw'
  subst hw''
  clear hc1 hc2
  have HB3:=hid (HB2.out.trans (h6.mono HB2.out.size))
  have HX3:=hid (HX2.out.later h6)
  have HT3:=hid (z0c HT2.out h6)
  clear h6 HX2 HT2
  obtain⟨_,a11,_,_,a14⟩:=HX3.out.at
  obtain⟨_,_,_,_,b4,_,_,b7⟩:=txv_cells HT3.out
  cases q0:(c.tx==0) with
  | true =>
   have HE:Hid (RV=rs+av):=hid (by rw [HRV.out,if_pos (by simpa using q0)])
   clear HRV b4 b7 a11
   go_wp2_with fail
   go_ret
   exact⟨by rw [HE.out];rfl,HB3.out⟩
  | false =>
   have hne:c.tx≠0:=by simpa using q0
   have hrv2:=HRV.out
   rw [if_neg hne] at hrv2
   clear HRV hne
   obtain⟨bb,hbb⟩:∃ bb,c.bk=bb:=⟨_,rfl⟩
   obtain⟨dd,hdd⟩:∃ dd,t.c.dd=dd:=⟨_,rfl⟩
   rw [hbb] at a11 hrv2
   rw [hdd] at b4 hrv2
   generalize t.c.sz=sz at *
   obtain⟨z1,z2⟩:=hz
   clear hbb hdd
   cases dd with
   | false =>
    rw [if_neg (by simp),Int.add_zero] at hrv2
    have HE:=hid hrv2
    clear hrv2 a11
    go_wp2_with fail
    refine (nd_less (rs+av) sz _ (by omega) (by omega)).mono ?_
    rintro e w4 ⟨rfl,rfl⟩
    go_wp2_with fail
    go_ret
    exact⟨by rw [HE.out];rfl,HB3.out⟩
   | true =>
    cases bb with
    | true =>
     rw [if_neg (by simp),Int.add_zero] at hrv2
     have HE:=hid hrv2
     clear hrv2
     go_wp2_with fail
     refine (nd_less (rs+av) sz _ (by omega) (by omega)).mono ?_
     rintro e w4 ⟨rfl,rfl⟩
     go_wp2_with fail
     go_ret
     exact⟨by rw [HE.out];rfl,HB3.out⟩
    | false =>
     rw [if_pos ⟨rfl,rfl⟩] at hrv2
     have HE:=hid hrv2
     clear hrv2
     go_wp2_with ((with_reducible refine wpList_load_cp HX3.out ?_ ?_);rfl)
     refine (HAT.out _ HB3.out).mono ?_
     rintro e w4 ⟨rfl,hb4⟩
     have HB4:=hid (HB3.out.trans (hb4.mono HB3.out.size))
     have HT4:=hid (z0c HT3.out hb4)
     clear hb4 HAT HX3 HT3 b4 b7
     obtain⟨_,_,_,_,_,_,_,b7⟩:=txv_cells HT4.out
     go_wp2_with fail
     refine (nd_less (rs+av+av) sz _ (by omega) (by omega)).mono ?_
     rintro e w5 ⟨rfl,rfl⟩
     go_wp2_with fail
     go_ret
     exact⟨by rw [HE.out];rfl,HB4.out⟩
def r1p (p:Rv):Rv:=⟨1,1,0,0,false,0,0,0,0,0,p.pk,p.od,p.po,p.lp,p.ln,p.lcp,p.tp,p.tn,p.tcp,p.wp,p.wn,p.wcp,p.sk,p.fr,p.to,p.q⟩
theorem r1p_x (p:Rv) (L:List Ln) (T:List Tk) (M:List Ln):(r1p p).x L T M=x1st (p.pg L T M):=rfl
theorem r1p_m {p:Rv} {L:List Ln} {T:List Tk} {M:List Ln} {w:World} (h:RvM w p L T M):RvM w (r1p p) L T M:=⟨h.l,h.t,h.o⟩
theorem x1st_bad {P:Pg} (hg:z0s 4 4 P=false):goodX (x1st P)=false:=by
 simp [goodX,x1st,kOk,kS,kT,kB,kA,kO,kP,stepB,addB,outB,progB,hg]
theorem start_bad {P:Pg} (hg:z0s 4 4 P=false):startX (x1st P)=(noC,1):=by
 unfold startX
 rw [if_neg (by rw [x1st_bad hg];simp)]
theorem wpList_load_pl {ops:Array Oper} {rest:List Oper} {a:Act} {w:World} {Q:Exit→Act→World→Prop} {dst:Option Tmp} {x:Operand} {ty:TypeId} {pos:String} {after:Array Edge} {B:Nat} {p:Rv} (hC:w.heap[B]?=some (.cells (pcs p) 33 (0,0))) (hx:a.eval x=.pointer (some ⟨B,0,none⟩))
 (h:wpList Tryd.prog ops Q rest (a.put dst (.agg #[.int .u8 p.pk,.int .u32 p.od,.int .u8 p.po,.slice p.lp p.ln p.lcp,.slice p.tp p.tn p.tcp,.slice p.wp p.wn p.wcp,.int .u8 p.sk,.int .u8 p.fr,.int .u8 p.to,.int .i64 p.q])) w):wpList Tryd.prog ops Q (Oper.mk dst (.load 33 x) ty pos after none::rest) a w :=
 wpList_load_row rfl 33 x rfl B hx 33 (pcs p) (0,0) _ hC Tryd.underlying33 rfl (by kernel_rfl) h
theorem ten_cells {w:World} {B:Nat} {v0 v1 v2 v3 v4 v5 v6 v7 v8 v9:Value} {T:TypeId} (h:w.heap[B]?=some (.cells #[v0,v1,v2,v3,v4,v5,v6,v7,v8,v9] T (0,0))):w.cell? ⟨B,0,none⟩=some v0∧w.cell? ⟨B,1,none⟩=some v1∧w.cell? ⟨B,2,none⟩=some v2∧w.cell? ⟨B,3,none⟩=some v3∧w.cell? ⟨B,4,none⟩=some v4∧w.cell? ⟨B,5,none⟩=some v5∧w.cell? ⟨B,6,none⟩=some v6∧w.cell? ⟨B,7,none⟩=some v7∧w.cell? ⟨B,8,none⟩=some v8∧w.cell? ⟨B,9,none⟩=some v9:=⟨z0a h rfl,z0a h rfl,z0a h rfl,z0a h rfl,z0a h rfl,z0a h rfl,z0a h rfl,z0a h rfl,z0a h rfl,z0a h rfl⟩
end Go.Proofs.YtclbkfpbdidaiaaDoor
