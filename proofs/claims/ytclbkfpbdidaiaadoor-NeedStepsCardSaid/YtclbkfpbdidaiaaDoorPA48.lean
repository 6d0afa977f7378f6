import Derived.Test.YtclbkfpbdidaiaaDoorPA99
import Derived.Test.YtclbkfpbdidaiaaDoorPA47
namespace Go.Proofs.YtclbkfpbdidaiaaDoor
open Go.Lib (hid)
set_option maxHeartbeats 8000000
open Go.RowKit Go.ChangeShapes Go.WideShapes
set_option linter.unusedVariables false
set_option linter.unusedSimpArgs false
set_option maxRecDepth 10000
theorem nd_start (p:Rv) (L:List Ln) (T:List Tk) (M:List Ln) (retry:Int) (W:World) (hw:Words W) (hP:RvM W p L T M) (hok:Pgok (p.pg L T M)) (h1:p.ln≤400∧p.tn≤400∧p.wn≤400) (hr:In64 retry):Calls Tryd.prog 10 #[.agg (pcs p),.int .i64 retry] W fun e w'=>e=.returned (.int .i64 (startN (p.pg L T M) retry))∧Below W.heap.size W w':=by
 have HW:=hid fun w' (hb:Below W.heap.size W w')=>hw.later hb
 have HP:=hid fun w' (hb:Below W.heap.size W w')=>PgM.later hP hb
 have HOK:=hid hok
 have HN:=hid h1
 have HR:=hid hr
 have hb0:Below W.heap.size W (W.alloc (.cells (pcs p) 33)):=(Below.refl _ _).alloc (Nat.le_refl _) _
 have hpb:=z0b W (.cells (pcs p) 33)
 have hs0:(W.alloc (.cells (pcs p) 33)).heap.size=W.heap.size+1:=by simp only [World.alloc,Array.size_push]
 obtain⟨W1,hW1⟩:∃ W1,W.alloc (.cells (pcs p) 33)=W1:=⟨_,rfl⟩
 obtain⟨B,hB⟩:∃ B,W.heap.size=B:=⟨_,rfl⟩
 rw [hW1] at hb0 hpb hs0
 rw [hB] at hpb hs0
 obtain⟨hr2,hb2⟩:=rc_new0 W1 (r1p p)
 have hrz:RB (W1.alloc (.cells #[.int .u8 0,.int .u32 0,.int .u32 0,.int .u8 0,.bool false,.int .u8 0,.int .u8 0,.int .u8 0,.int .i64 0,.int .u8 0,.int .u8 0,.int .u32 0,.int .u8 0,.slice none 0 0,.slice none 0 0,.slice none 0 0,.int .u8 0,.int .u8 0,.int .u8 0,.int .i64 0] 44)) W1.heap.size rz:=RB.new W1 rz
 obtain⟨W2,hW2⟩:∃ W2,(W1.alloc (.cells #[.int .u8 0,.int .u32 0,.int .u32 0,.int .u8 0,.bool false,.int .u8 0,.int .u8 0,.int .u8 0,.int .i64 0,.int .u8 0,.int .u8 0,.int .u32 0,.int .u8 0,.slice none 0 0,.slice none 0 0,.slice none 0 0,.int .u8 0,.int .u8 0,.int .u8 0,.int .i64 0] 44)).setRow W1.heap.size (rcs (r1p p))=W2:=⟨_,rfl⟩
 rw [hW2] at hr2 hb2
 rw [hs0] at hr2
 have HPB:=hid hpb
 have HW1:=hid hW1
 have HRE:=hid hB
 have HSZ:=hid hs0
 have HRZ:=hid hrz
 have HW2:=hid hW2
 have HR2:=hid hr2
 have HB2:=hid (hb0.trans (hb2.mono hb0.size))
 have hst:=cr_startN (r1p p) L T M W2 (HW.out _ HB2.out) (r1p_m (HP.out _ HB2.out)) (by rw [r1p_x];exact x1st_ok hok) h1
 rw [r1p_x] at hst
 have hsz:=size_x (r1p p) L T M
 rw [r1p_x] at hsz
 clear hw hP hok h1 hr hb0 hpb hs0 hW1 hB hr2 hb2 hrz hW2
 go_enter Tryd.func10,Tryd.ntmps10
 go_upto_region 1 with (fail)
 rw [HW1.out,HRE.out]
 go_upto_region 2 with (first | ((with_reducible refine wpList_load_pl HPB.out ?_ ?_);rfl) | ((with_reducible refine wpList_store_rc (r1p p) HRZ.out ?_ ?_ ?_);rfl;rfl))
 rw [HW2.out,HSZ.out]
 clear HW2 HRZ HPB
 cases hg:z0s 4 4 (p.pg L T M) with
 | false =>
  have HE:Hid (startN (p.pg L T M) retry=0):=hid (by unfold startN;rw [if_neg (by rw [hg];simp)])
  rw [start_bad hg] at hst
  clear hsz
  go_wp2_with ((with_reducible refine z1f HR2.out ?_ ?_);rfl)
  refine hst.mono ?_
  rintro e w3 ⟨c,L3,T3,M3,rfl,hm3,hx3,h3,_⟩
  have HB3:=hid (HB2.out.trans (h3.mono HB2.out.size))
  obtain⟨hc4,hb4⟩:=cr_new0 w3 c
  have hz3:CB (w3.alloc (.cells #[.int .u32 0,.int .u8 0,.int .u32 0,.int .u8 0,.slice none 0 0,.slice none 0 0,.slice none 0 0,.int .u8 0,.int .u8 0,.int .u8 0,.int .i64 0,.bool false,.int .i64 0,.int .i64 0,.int .u32 0] 46)) w3.heap.size cz:=CB.new w3 cz
  obtain⟨w4,hw4⟩:∃ w4,(w3.alloc (.cells #[.int .u32 0,.int .u8 0,.int .u32 0,.int .u8 0,.slice none 0 0,.slice none 0 0,.slice none 0 0,.int .u8 0,.int .u8 0,.int .u8 0,.int .i64 0,.bool false,.int .i64 0,.int .i64 0,.int .u32 0] 46)).setRow w3.heap.size (ccs c)=w4:=⟨_,rfl⟩
  rw [hw4] at hc4 hb4
  have HZ3:=hid hz3
  have HW4:=hid hw4
  have HB4:=hid (HB3.out.trans (hb4.mono HB3.out.size))
  clear hc4 hb4 hz3 hw4 h3 hm3 hx3 hst HR2
  go_upto_region 3 with ((with_reducible refine z1z c HZ3.out ?_ ?_ ?_);rfl;rfl)
  rw [HW4.out]
  go_wp2_with fail
  go_ret
  exact⟨by rw [HE.out];rfl,HB4.out⟩
 | true =>
  have HE:Hid (startN (p.pg L T M) retry=sizeX (x1st (p.pg L T M))+holdC (crs0 (p.pg L T M)) false 0 retry):=hid (by unfold startN;rw [if_pos hg])
  rw [start_1st hg] at hst
  go_wp2_with ((with_reducible refine z1f HR2.out ?_ ?_);rfl)
  refine hst.mono ?_
  rintro e w3 ⟨c,L3,T3,M3,rfl,hm3,hx3,h3,_⟩
  have HB3:=hid (HB2.out.trans (h3.mono HB2.out.size))
  have HR3:=hid (HR2.out.later h3)
  obtain⟨hc4,hb4⟩:=cr_new0 w3 c
  have hz3:CB (w3.alloc (.cells #[.int .u32 0,.int .u8 0,.int .u32 0,.int .u8 0,.slice none 0 0,.slice none 0 0,.slice none 0 0,.int .u8 0,.int .u8 0,.int .u8 0,.int .i64 0,.bool false,.int .i64 0,.int .i64 0,.int .u32 0] 46)) w3.heap.size cz:=CB.new w3 cz
  obtain⟨w4,hw4⟩:∃ w4,(w3.alloc (.cells #[.int .u32 0,.int .u8 0,.int .u32 0,.int .u8 0,.slice none 0 0,.slice none 0 0,.slice none 0 0,.int .u8 0,.int .u8 0,.int .u8 0,.int .i64 0,.bool false,.int .i64 0,.int .i64 0,.int .u32 0] 46)).setRow w3.heap.size (ccs c)=w4:=⟨_,rfl⟩
  obtain⟨A,hA⟩:∃ A,w3.heap.size=A:=⟨_,rfl⟩
  rw [hw4] at hc4 hb4
  rw [hA] at hc4
  have HZ3:=hid hz3
  have HW4:=hid hw4
  have HAA:=hid hA
  have HC4:=hid hc4
  have HB4:=hid (HB3.out.trans (hb4.mono HB3.out.size))
  have HR4:=hid (HR3.out.later hb4)
  have HM4:Hid (CvM w4 c L3 T3 M3):=hid (PgM.later hm3 hb4)
  have HX4:=hid hx3
  clear hc4 hb4 hz3 hw4 h3 hm3 hx3 hst HR2 hA HR3
  go_upto_region 3 with ((with_reducible refine z1z c HZ3.out ?_ ?_ ?_);rfl;rfl)
  rw [HW4.out,HAA.out]
  clear HZ3 HW4 HAA
  have hbp:=fun (q:After w4)=>HB4.out.trans (q.h.mono HB4.out.size)
  have hcl:c.p.ln≤400∧c.p.tn≤400∧c.p.wn≤400:=by
   have e:c.p.pg L3 T3 M3=p.pg L T M:=congrArg Crs.P HX4.out
   have e1:L3=L:=congrArg Pg.lines e
   have e2:T3=T:=congrArg Pg.takes e
   have e3:M3=M:=congrArg Pg.owes e
   have g:=HP.out _ (Below.refl _ _)
   have g1:=HM4.out.l.len
   have g2:=HM4.out.t.len
   have g3:=HM4.out.o.len
   have k1:=g.l.len
   have k2:=g.t.len
   have k3:=g.o.len
   have hn:=HN.out
   subst e1 e2 e3
   omega
  have hc1:=fun (q:After w4)=>hsz q.w (HW.out _ (hbp q)) (r1p_m (HP.out _ (hbp q))) (by exact x1st_ok HOK.out) HN.out
  have hc2:=fun (q:After w4)=>nd_hold c L3 T3 M3 tv0 retry q.w (HW.out _ (hbp q)) (PgM.later HM4.out q.h) (by rw [HX4.out];exact⟨by simp only;omega,HOK.out,by unfold In64;simp only;omega,by unfold In64;simp only;omega,by simp only;omega⟩) hcl HR.out ⟨by decide,by decide⟩
  rw [HX4.out] at hc2
  have hc2':∀ (q:After w4),Calls Tryd.prog 18 #[.agg (ccs c),.agg #[.int .u32 0,.int .u32 0,.int .u8 0,.bool false,.bool false,.slice none 0 0,.int .i64 0,.int .i64 0],.int .i64 retry] q.w fun e w'=>e=.returned (.int .i64 (holdC (crs0 (p.pg L T M)) false 0 retry))∧Below q.w.heap.size q.w w':=hc2
  have hh:0≤holdC (crs0 (p.pg L T M)) false 0 retry∧holdC (crs0 (p.pg L T M)) false 0 retry≤6000:=by
   have:=rest_few (x:=crs0 (p.pg L T M)) (retry:=retry) HOK.out
   have ha:attP (crs0 (p.pg L T M)).P=attP (p.pg L T M):=rfl
   rw [ha] at this
   rw [hold_crs0 hg]
   omega
  have hzz:0≤sizeX (x1st (p.pg L T M))∧sizeX (x1st (p.pg L T M))≤500:=by
   have hgx:=x1st_good hg
   have:=good_len hgx
   unfold sizeX
   rw [if_pos hgx]
   omega
  generalize holdC (crs0 (p.pg L T M)) false 0 retry=hv at *
  generalize sizeX (x1st (p.pg L T M))=sv at *
  clear hc2 hbp hcl hsz hg
  go_upto_region 5 with (fail)
  refine z0t (by kernel_rfl) (by kernel_rfl) ?_
  repeat (first | (go_big_quiet_want;(with_reducible refine nq_load_cr HC4.out ?_ ?_);rfl;go_simp;go_big_quiet_on) | (go_big_quiet_want;(with_reducible refine nq_load_rc HR4.out ?_ ?_);rfl;go_simp;go_big_quiet_on) | go_big_quiet_step (first | (go_at_call 17;with_reducible exact z0g _ (hc1 _)) | (go_at_call 18;with_reducible exact z0g _ (hc2' _))))
  refine wpQuiet_nil ?_
  intro w5 hw'
  obtain⟨⟨wq,h6⟩,hw''⟩:=hw'
  subst hw''
  clear hc1 hc2'
  go_wp2_with fail
  go_ret
  exact⟨by rw [HE.out];rfl,HB4.out.trans (h6.mono HB4.out.size)⟩
abbrev nwP:Pg:=⟨5,0,0,[],[],[],0,0,0,3⟩
theorem nw_att:attP nwP=83:=by kernel_rfl
theorem nw_start:startN nwP 0=322:=by kernel_rfl
theorem nw_pass:passS (5,0,[(0,3)])=50:=by kernel_rfl
theorem nw_fail:failS (5,0,[(0,3)])=83:=by kernel_rfl
theorem nw_pok:Pgok nwP:=⟨by decide,by decide,by decide,(fun x hx=>by cases hx),(fun x hx=>by cases hx),(fun x hx=>by cases hx),by decide,by decide,by decide,by unfold In64;decide⟩
theorem nd_works (W:World) (hw:Words W):Calls Tryd.prog 4 #[] W fun e w'=>e=.returned (.bool true)∧Below W.heap.size W w':=by
 have HW:=hid fun w' (hb:Below W.heap.size W w')=>hw.later hb
 obtain⟨G,hG⟩:∃ G,W.heap.size=G:=⟨_,rfl⟩
 have HG:=hid hG
 obtain⟨W1,hW1,hb1⟩:∃ W1,W.alloc (.cells #[.int .u8 0,.int .i64 3] 29)=W1∧Below W.heap.size W W1:=⟨_,rfl,(Below.refl _ _).alloc (Nat.le_refl _) _⟩
 have hblk:=z0b W (.cells #[.int .u8 0,.int .i64 3] 29)
 rw [hW1,hG] at hblk
 have hs1:W1.heap.size=G+1:=by rw [← hW1,← hG];simp only [World.alloc,Array.size_push]
 have hL:LL W1 (some ⟨G,0,none⟩) 1 1 [(0,3)]:=by
  refine⟨rfl,Nat.le_refl _,by decide,(fun h=>by cases h),fun _=>⟨_,_,rfl,z1d hblk,fun j hj i v hv=>?_⟩⟩
  obtain rfl:j=0:=by omega
  show W1.cell? ⟨G,0+0*2+i,none⟩=some v
  simp only [Nat.zero_mul,Nat.zero_add]
  exact z0a hblk (by simpa [lc,l0] using hv)
 have HW1:=hid hW1
 have hb2:Below W1.heap.size W1 (W1.alloc (.cells #[.int .u8 5,.int .u8 0,.slice (some ⟨G,0,none⟩) 1 1] 24)):=(Below.refl _ _).alloc (Nat.le_refl _) _
 have hs2:(W1.alloc (.cells #[.int .u8 5,.int .u8 0,.slice (some ⟨G,0,none⟩) 1 1] 24)).heap.size=G+1+1:=by rw [← hs1];simp only [World.alloc,Array.size_push]
 have hk2:=z0b W1 (.cells #[.int .u8 5,.int .u8 0,.slice (some ⟨G,0,none⟩) 1 1] 24)
 have hb3:Below (W1.alloc (.cells #[.int .u8 5,.int .u8 0,.slice (some ⟨G,0,none⟩) 1 1] 24)).heap.size (W1.alloc (.cells #[.int .u8 5,.int .u8 0,.slice (some ⟨G,0,none⟩) 1 1] 24)) ((W1.alloc (.cells #[.int .u8 5,.int .u8 0,.slice (some ⟨G,0,none⟩) 1 1] 24)).alloc (.cells #[.int .u8 5,.int .u32 0,.int .u8 0,.slice none 0 0,.slice none 0 0,.slice none 0 0,.int .u8 0,.int .u8 0,.int .u8 0,.int .i64 3] 33)):=(Below.refl _ _).alloc (Nat.le_refl _) _
 have hk3:=z0b (W1.alloc (.cells #[.int .u8 5,.int .u8 0,.slice (some ⟨G,0,none⟩) 1 1] 24)) (.cells #[.int .u8 5,.int .u32 0,.int .u8 0,.slice none 0 0,.slice none 0 0,.slice none 0 0,.int .u8 0,.int .u8 0,.int .u8 0,.int .i64 3] 33)
 rw [hs1] at hk2
 rw [hs2] at hk3
 have hk2':=z0c hk2 hb3
 have hb13:=hb2.trans (hb3.mono hb2.size)
 obtain⟨W3,hW3⟩:∃ W3,(W1.alloc (.cells #[.int .u8 5,.int .u8 0,.slice (some ⟨G,0,none⟩) 1 1] 24)).alloc (.cells #[.int .u8 5,.int .u32 0,.int .u8 0,.slice none 0 0,.slice none 0 0,.slice none 0 0,.int .u8 0,.int .u8 0,.int .u8 0,.int .i64 3] 33)=W3:=⟨_,rfl⟩
 rw [hW3] at hk3 hk2' hb13
 have HW3:=hid hW3
 have HL:=hid (hL.later hb13)
 have HB:=hid (hb1.trans (hb13.mono hb1.size))
 have HK2:=hid hk2'
 have HK3:=hid hk3
 clear hw hW1 hblk hb2 hs2 hk2 hb3 hk3 hk2' hb13 hW3 hL hb1 hs1 hG
 obtain⟨p0,hp0⟩:∃ p0:Rv,p0=⟨0,0,0,0,false,0,0,0,0,0,5,0,0,none,0,0,none,0,0,none,0,0,0,0,0,3⟩:=⟨_,rfl⟩
 have hpg:p0.pg [] [] []=nwP:=by rw [hp0];rfl
 have hpm:∀ w,RvM w p0 [] [] []:=fun w=>by rw [hp0];exact⟨SlG.empty _,SlG.empty _,SlG.empty _⟩
 have hpl:p0.ln≤400∧p0.tn≤400∧p0.wn≤400:=by rw [hp0];exact⟨by simp only;omega,by simp only;omega,by simp only;omega⟩
 have HAT:Hid (∀ w,Below W.heap.size W w→Calls Tryd.prog 9 #[.agg #[.int .u8 5,.int .u32 0,.int .u8 0,.slice none 0 0,.slice none 0 0,.slice none 0 0,.int .u8 0,.int .u8 0,.int .u8 0,.int .i64 3]] w fun e w'=>e=.returned (.int .i64 83)∧Below w.heap.size w w'):=hid fun w hb=>by
  have:=nd_attempt p0 [] [] [] w (HW.out w hb) (hpm w) (by rw [hpg];exact nw_pok) hpl
  rw [hpg,nw_att,hp0] at this
  exact this
 have HSA:Hid (∀ w,Below W.heap.size W w→Calls Tryd.prog 10 #[.agg #[.int .u8 5,.int .u32 0,.int .u8 0,.slice none 0 0,.slice none 0 0,.slice none 0 0,.int .u8 0,.int .u8 0,.int .u8 0,.int .i64 3],.int .i64 0] w fun e w'=>e=.returned (.int .i64 322)∧Below w.heap.size w w'):=hid fun w hb=>by
  have:=nd_start p0 [] [] [] 0 w (HW.out w hb) (hpm w) (by rw [hpg];exact nw_pok) hpl (by unfold In64;decide)
  rw [hpg,nw_start,hp0] at this
  exact this
 have HPA:Hid (∀ w,Below W3.heap.size W3 w→Calls Tryd.prog 5 #[.agg #[.int .u8 5,.int .u8 0,.slice (some ⟨G,0,none⟩) 1 1]] w fun e w'=>e=.returned (.int .i64 50)∧Below w.heap.size w w'):=hid fun w hb=>by
  have:=nd_pass 5 0 (some ⟨G,0,none⟩) 1 1 [(0,3)] w (HL.out.later hb) (fun x hx=>by obtain rfl:=List.mem_singleton.1 hx;exact⟨by decide,by unfold In64;decide⟩) (by omega)
  rw [nw_pass] at this
  exact this
 have HFA:Hid (∀ w,Below W3.heap.size W3 w→Calls Tryd.prog 7 #[.agg #[.int .u8 5,.int .u8 0,.slice (some ⟨G,0,none⟩) 1 1]] w fun e w'=>e=.returned (.int .i64 83)∧Below w.heap.size w w'):=hid fun w hb=>by
  have:=nd_fail 5 0 (some ⟨G,0,none⟩) 1 1 [(0,3)] w (HL.out.later hb) (fun x hx=>by obtain rfl:=List.mem_singleton.1 hx;exact⟨by decide,by unfold In64;decide⟩) (by omega)
  rw [nw_fail] at this
  exact this
 clear hp0 hpg hpm hpl p0
 go_enter Tryd.func4,Tryd.ntmps4
 go_upto_region 3 with (fail)
 rw [HG.out,HW1.out,HW3.out]
 obtain⟨k0,k1,k2⟩:=z1h HK2.out
 go_wp2_with fail
 refine (HPA.out _ (Below.refl _ _)).mono ?_
 rintro e w4 ⟨rfl,h4⟩
 have HB4:=hid h4
 obtain⟨k0',k1',k2'⟩:=z1h (z0c HK2.out h4)
 clear h4 k0 k1 k2
 go_wp2_with fail
 refine (HFA.out _ HB4.out).mono ?_
 rintro e w5 ⟨rfl,h5⟩
 have HB5:=hid (HB4.out.trans (h5.mono HB4.out.size))
 have HK5:=hid (z0c HK3.out HB5.out)
 clear h5 k0' k1' k2'
 obtain⟨c0,c1,c2,c3,c4,c5,c6,c7,c8,c9⟩:=ten_cells HK5.out
 go_wp2_with fail
 refine (HAT.out _ (HB.out.trans (HB5.out.mono HB.out.size))).mono ?_
 rintro e w6 ⟨rfl,h6⟩
 have HB6:=hid (HB5.out.trans (h6.mono HB5.out.size))
 have HK6:=hid (z0c HK3.out HB6.out)
 clear h6 c0 c1 c2 c3 c4 c5 c6 c7 c8 c9
 obtain⟨c0,c1,c2,c3,c4,c5,c6,c7,c8,c9⟩:=ten_cells HK6.out
 go_wp2_with fail
 refine (HSA.out _ (HB.out.trans (HB6.out.mono HB.out.size))).mono ?_
 rintro e w7 ⟨rfl,h7⟩
 have HB7:=hid (HB6.out.trans (h7.mono HB6.out.size))
 clear h7 c0 c1 c2 c3 c4 c5 c6 c7 c8 c9
 go_wp2_with fail
 go_ret
 exact⟨rfl,HB.out.trans (HB7.out.mono HB.out.size)⟩
theorem nr_pass (t r:Int) (p:Option Addr) (n c:Nat) (L:List Ln) (W:World) (hL:LL W p n c L) (hok:∀ x∈L,Lnok x) (hn:n≤1000):Calls Tryd.prog 6 #[.agg #[.int .u8 t,.int .u8 r,.slice p n c]] W fun e w'=>e=.returned (.int .i64 (passS (t,r,L)))∧Below W.heap.size W w':=by
 have hb1:Below W.heap.size W (W.alloc (.cells #[.int .u8 t,.int .u8 r,.slice p n c] 24)):=(Below.refl _ _).alloc (Nat.le_refl _) _
 have h2:=ops_two t r L
 have hl:=hL.len
 have HV:Hid (passS (t,r,L)=passN (opsS t r L).length):=hid rfl
 have hm:(opsS t r L).length≤2000:=by omega
 have HB1:=hid hb1
 have HOP:=hid fun w' (hb:Below (W.alloc (.cells #[.int .u8 t,.int .u8 r,.slice p n c] 24)).heap.size (W.alloc (.cells #[.int .u8 t,.int .u8 r,.slice p n c] 24)) w')=>refops_any t r p n c L w' ((hL.later hb1).later hb) hok hn
 obtain⟨W1,hW1⟩:∃ W1,W.alloc (.cells #[.int .u8 t,.int .u8 r,.slice p n c] 24)=W1:=⟨_,rfl⟩
 have hblk:=z0b W (.cells #[.int .u8 t,.int .u8 r,.slice p n c] 24)
 rw [hW1] at HOP HB1 hblk
 have HC:=hid (z1h hblk)
 have HW1:=hid hW1
 generalize passS (t,r,L)=V at *
 generalize opsS t r L=O at *
 generalize hk:O.length=m at *
 have HK:=hid hk
 obtain⟨B,hB⟩:∃ B,W.heap.size=B:=⟨_,rfl⟩
 have HBE:=hid hB
 rw [hB] at HC
 clear hk h2 hl hL hok hn hb1 hW1 hblk hB
 go_enter Tryd.func6,Tryd.ntmps6
 go_upto_region 1 with (fail)
 rw [HW1.out,HBE.out]
 have hbd:Below W1.heap.size W1 W1.drew:=(Below.refl _ _).drew
 refine wp_region_held_drew (S:=fun w'=>Hid (Below W1.heap.size W1 w')) (by kernel_rfl) (hid hbd) (fun hHeld=>?_)
 clear hbd
 generalize W1.drew=Wd at *
 refine wpAnyH_take (i:=1) (oi:=⟨some 4,_,_,_,_,_⟩) (v:=.agg #[.int .u8 t,.int .u8 r,.slice p n c]) rfl (by kernel_rfl) (by kernel_rfl) (by kernel_rfl) (fun _ _ _ h=>h) (Or.inl ⟨by rfl,fun w' hw'=>?_⟩) (by assumption) ?_
 · have c0:=z1i ⟨w',hw'.out⟩ HC.out.1
   have c1:=z1i ⟨w',hw'.out⟩ HC.out.2.1
   have c2:=z1i ⟨w',hw'.out⟩ HC.out.2.2
   dsimp only at c0 c1 c2
   clear hHeld hw' HC
   go_simp
 try simp only [Act.put,sIB,sCZ,sCS]
 refine wpAnyH_ready (rs:=[0]) (by kernel_rfl) (by simp) (AllReadyH.cons rfl (fun K hK=>?_) (AllReadyH.nil))
 go_simp
 go_wp2_with fail
 refine (rcost_at (k:=2) (z:=17) rfl (by omega) _).mono ?_
 rintro e wa ⟨rfl,rfl⟩
 go_wp2_with fail
 refine hK.out _ _ hHeld (fun hHeld2=>?_)
 try simp only [Act.put,sIB,sCZ,sCS]
 clear hK K hHeld
 have hHeld:=hHeld2
 clear hHeld2
 have hop:=HOP.out
 refine wpAnyH_ready (rs:=[2]) (by kernel_rfl) (by simp) (AllReadyH.cons rfl (fun K hK=>?_) (AllReadyH.nil))
 go_simp
 go_wp2_with fail
 refine (HOP.out _ hHeld.out).mono ?_
 rintro e wb ⟨p2,k2,rfl,hs2,hb2,_⟩
 have hSN:Hid (Below W1.heap.size W1 wb):=hid (hHeld.out.trans (hb2.mono hHeld.out.size))
 simp only [HK.out]
 clear hs2 hb2 hop
 go_wp2_with fail
 refine hK.out _ _ hSN (fun hHeld2=>?_)
 try simp only [Act.put,sIB,sCZ,sCS]
 clear hK K hHeld
 have hHeld:=hHeld2
 clear hHeld2
 refine wpAnyH_take (i:=3) (oi:=⟨some 6,_,_,_,_,_⟩) (v:=.int .i64 (m:Int)) rfl (by kernel_rfl) (by kernel_rfl) (by kernel_rfl) (fun _ _ _ h=>h) (Or.inl ⟨by rfl,fun w' hw'=>?_⟩) (by assumption) ?_
 · clear hHeld
   go_simp
   try exact IntWalk.i64_in _ (by omega)
 try simp only [Act.put,sIB,sCZ,sCS]
 refine wpAnyH_ready (rs:=[4]) (by kernel_rfl) (by simp) (AllReadyH.cons rfl (fun K hK=>?_) (AllReadyH.nil))
 go_simp
 go_wp2_with fail
 refine (rcost_at (k:=3) (z:=22) rfl (by omega) _).mono ?_
 rintro e wc ⟨rfl,rfl⟩
 go_wp2_with fail
 refine hK.out _ _ hHeld (fun hHeld2=>?_)
 try simp only [Act.put,sIB,sCZ,sCS]
 clear hK K hHeld
 have hHeld:=hHeld2
 clear hHeld2
 refine wpAnyH_take (i:=5) (oi:=⟨some 8,_,_,_,_,_⟩) (v:=.int .i64 ((m:Int)*22)) rfl (by kernel_rfl) (by kernel_rfl) (by kernel_rfl) (fun _ _ _ h=>h) (Or.inl ⟨by rfl,fun w' hw'=>?_⟩) (by assumption) ?_
 · clear hHeld
   go_simp
   try exact IntWalk.i64_in _ (by omega)
 try simp only [Act.put,sIB,sCZ,sCS]
 refine wpAnyH_take (i:=6) (oi:=⟨some 9,_,_,_,_,_⟩) (v:=.int .i64 (17+(m:Int)*22)) rfl (by kernel_rfl) (by kernel_rfl) (by kernel_rfl) (fun _ _ _ h=>h) (Or.inl ⟨by rfl,fun w' hw'=>?_⟩) (by assumption) ?_
 · clear hHeld
   go_simp
   try exact IntWalk.i64_in _ (by omega)
 try simp only [Act.put,sIB,sCZ,sCS]
 refine wpAnyH_ready (rs:=[7]) (by kernel_rfl) (by simp) (AllReadyH.cons rfl (fun K hK=>?_) (AllReadyH.nil))
 go_simp
 go_wp2_with fail
 refine (rcost_at (k:=4) (z:=11) rfl (by omega) _).mono ?_
 rintro e wd ⟨rfl,rfl⟩
 go_wp2_with fail
 refine hK.out _ _ hHeld (fun hHeld2=>?_)
 try simp only [Act.put,sIB,sCZ,sCS]
 clear hK K hHeld
 have hHeld:=hHeld2
 clear hHeld2
 refine wpAnyH_take (i:=8) (oi:=⟨some 11,_,_,_,_,_⟩) (v:=.int .i64 (17+(m:Int)*22+11)) rfl (by kernel_rfl) (by kernel_rfl) (by kernel_rfl) (fun _ _ _ h=>h) (Or.inl ⟨by rfl,fun w' hw'=>?_⟩) (by assumption) ?_
 · clear hHeld
   go_simp
   try exact IntWalk.i64_in _ (by omega)
 try simp only [Act.put,sIB,sCZ,sCS]
 refine wpAnyH_take (i:=9) (oi:=⟨some 2,_,_,_,_,_⟩) (v:=.int .i64 (17+(m:Int)*22+11)) rfl (by kernel_rfl) (by kernel_rfl) (by kernel_rfl) (fun _ _ _ h=>h) (Or.inl ⟨by rfl,fun w' hw'=>?_⟩) (by assumption) ?_
 · clear hHeld
   go_simp
   try exact IntWalk.i64_in _ (by omega)
 try simp only [Act.put,sIB,sCZ,sCS]
 have h3:=hHeld.out
 refine wpAnyH_done (by kernel_rfl) ?_ _
 clear hHeld
 have HB3:=hid (HB1.out.trans (h3.mono HB1.out.size))
 clear h3
 go_wp2_with fail
 go_ret
 exact⟨congrArg (fun z:Int=>Ending.returned (Value.int .i64 z)) (by rw [HV.out];unfold passN;omega),HB3.out⟩
theorem nr_fail (t r:Int) (p:Option Addr) (n c:Nat) (L:List Ln) (W:World) (hL:LL W p n c L) (hok:∀ x∈L,Lnok x) (hn:n≤1000):Calls Tryd.prog 8 #[.agg #[.int .u8 t,.int .u8 r,.slice p n c]] W fun e w'=>e=.returned (.int .i64 (failS (t,r,L)))∧Below W.heap.size W w':=by
 have hb1:Below W.heap.size W (W.alloc (.cells #[.int .u8 t,.int .u8 r,.slice p n c] 24)):=(Below.refl _ _).alloc (Nat.le_refl _) _
 have h2:=ops_two t r L
 have hl:=hL.len
 have HV:Hid (failS (t,r,L)=failN (opsS t r L).length):=hid rfl
 have hm:(opsS t r L).length≤2000:=by omega
 have HB1:=hid hb1
 have HOP:=hid (refops_any t r p n c L _ (hL.later hb1) hok hn)
 generalize failS (t,r,L)=V at *
 generalize opsS t r L=O at *
 generalize hk:O.length=m at *
 have HK:=hid hk
 clear hk h2 hl hL hok hn hb1
 go_enter Tryd.func8,Tryd.ntmps8
 go_wp2_with fail
 refine HOP.out.mono ?_
 rintro e w1 ⟨p2,c2,rfl,hs2,hb2,_⟩
 have HB2:=hid (HB1.out.trans (hb2.mono HB1.out.size))
 clear hs2 hb2 HOP
 simp only [HK.out]
 go_wp2_with fail
 refine (rcost_at (k:=2) (z:=17) rfl (by omega) _).mono ?_
 rintro e w2 ⟨rfl,rfl⟩
 go_wp2_with fail
 refine (rcost_at (k:=3) (z:=22) rfl (by omega) _).mono ?_
 rintro e w3 ⟨rfl,rfl⟩
 go_wp2_with fail
 refine (rcost_at (k:=5) (z:=11) rfl (by omega) _).mono ?_
 rintro e w5 ⟨rfl,rfl⟩
 go_wp2_with fail
 refine (rcost_at (k:=6) (z:=22) rfl (by omega) _).mono ?_
 rintro e w6 ⟨rfl,rfl⟩
 go_wp2_with fail
 refine (rcost_at (k:=7) (z:=11) rfl (by omega) _).mono ?_
 rintro e w7 ⟨rfl,rfl⟩
 go_wp2_with fail
 go_ret
 exact⟨congrArg (fun z:Int=>Ending.returned (Value.int .i64 z)) (by rw [HV.out];unfold failN;omega),HB2.out⟩
end Go.Proofs.YtclbkfpbdidaiaaDoor
