import Derived.Test.YtclbkfpbdidaiaaGreatDoorPA47
namespace Go.Proofs.YtclbkfpbdidaiaaGreatDoor
open Go.Lib (hid)
set_option maxHeartbeats 16000000
open Go.RowKit Go.ChangeShapes Go.WideShapes
set_option linter.unusedVariables false
set_option linter.unusedSimpArgs false
set_option maxRecDepth 10000
def r1p (p:Rv):Rv:=⟨1,1,0,0,false,0,0,0,0,0,p.pk,p.od,p.po,p.lp,p.ln,p.lcp,p.tp,p.tn,p.tcp,p.wp,p.wn,p.wcp,p.sk,p.fr,p.to,p.q⟩
theorem r1p_x (p:Rv) (L:List Ln) (T:List Tk) (M:List Ln):(r1p p).x L T M=x1st (p.pg L T M):=rfl
theorem r1p_m {p:Rv} {L:List Ln} {T:List Tk} {M:List Ln} {w:World} (h:RvM w p L T M):RvM w (r1p p) L T M:=⟨h.l,h.t,h.o⟩
theorem x1st_bad {P:Pg} (hg:z0p 4 4 P=false):z1n (x1st P)=false:=by
 simp [z1n,x1st,kOk,kS,kT,kB,kA,kO,kP,stepB,addB,outB,progB,hg]
theorem start_bad {P:Pg} (hg:z0p 4 4 P=false):startX (x1st P)=(noC,1):=by
 unfold startX
 rw [if_neg (by rw [x1st_bad hg];simp)]
theorem wpList_load_pl {ops:Array Oper} {rest:List Oper} {a:Act} {w:World} {Q:Exit→Act→World→Prop} {dst:Option Tmp} {x:Operand} {ty:TypeId} {pos:String} {after:Array Edge} {B:Nat} {p:Rv} (hC:w.heap[B]?=some (.cells (pcs p) 26 (0,0))) (hx:a.eval x=.pointer (some ⟨B,0,none⟩))
 (h:wpList Tryz.prog ops Q rest (a.put dst (.agg #[.int .u8 p.pk,.int .u32 p.od,.int .u8 p.po,.slice p.lp p.ln p.lcp,.slice p.tp p.tn p.tcp,.slice p.wp p.wn p.wcp,.int .u8 p.sk,.int .u8 p.fr,.int .u8 p.to,.int .i64 p.q])) w):wpList Tryz.prog ops Q (Oper.mk dst (.load 26 x) ty pos after none::rest) a w :=
 wpList_load_row rfl 26 x rfl B hx 26 (pcs p) (0,0) _ hC Tryz.underlying26 rfl (by kernel_rfl) h
theorem ten_cells {w:World} {B:Nat} {v0 v1 v2 v3 v4 v5 v6 v7 v8 v9:Value} {T:TypeId} (h:w.heap[B]?=some (.cells #[v0,v1,v2,v3,v4,v5,v6,v7,v8,v9] T (0,0))):w.cell? ⟨B,0,none⟩=some v0∧w.cell? ⟨B,1,none⟩=some v1∧w.cell? ⟨B,2,none⟩=some v2∧w.cell? ⟨B,3,none⟩=some v3∧w.cell? ⟨B,4,none⟩=some v4∧w.cell? ⟨B,5,none⟩=some v5∧w.cell? ⟨B,6,none⟩=some v6∧w.cell? ⟨B,7,none⟩=some v7∧w.cell? ⟨B,8,none⟩=some v8∧w.cell? ⟨B,9,none⟩=some v9:=⟨z0a h rfl,z0a h rfl,z0a h rfl,z0a h rfl,z0a h rfl,z0a h rfl,z0a h rfl,z0a h rfl,z0a h rfl,z0a h rfl⟩
theorem nd_start (p:Rv) (L:List Ln) (T:List Tk) (M:List Ln) (retry:Int) (W:World) (hw:Words W) (hP:RvM W p L T M) (hok:Pgok (p.pg L T M)) (h1:p.ln≤400∧p.tn≤400∧p.wn≤400) (hr:In64 retry):Calls Tryz.prog 24 #[.agg (pcs p),.int .i64 retry] W fun e w'=>e=.returned (.int .i64 (startN (p.pg L T M) retry))∧Below W.heap.size W w':=by
 have HW:=hid fun w' (hb:Below W.heap.size W w')=>hw.later hb
 have HP:=hid fun w' (hb:Below W.heap.size W w')=>PgM.later hP hb
 have HOK:=hid hok
 have HN:=hid h1
 have HR:=hid hr
 have hb0:Below W.heap.size W (W.alloc (.cells (pcs p) 26)):=(Below.refl _ _).alloc (Nat.le_refl _) _
 have hpb:=z0c W (.cells (pcs p) 26)
 have hs0:(W.alloc (.cells (pcs p) 26)).heap.size=W.heap.size+1:=by simp only [World.alloc,Array.size_push]
 obtain⟨W1,hW1⟩:∃ W1,W.alloc (.cells (pcs p) 26)=W1:=⟨_,rfl⟩
 obtain⟨B,hB⟩:∃ B,W.heap.size=B:=⟨_,rfl⟩
 rw [hW1] at hb0 hpb hs0
 rw [hB] at hpb hs0
 obtain⟨hr2,hb2⟩:=rc_new0 W1 (r1p p)
 have hrz:RB (W1.alloc (.cells #[.int .u8 0,.int .u32 0,.int .u32 0,.int .u8 0,.bool false,.int .u8 0,.int .u8 0,.int .u8 0,.int .i64 0,.int .u8 0,.int .u8 0,.int .u32 0,.int .u8 0,.slice none 0 0,.slice none 0 0,.slice none 0 0,.int .u8 0,.int .u8 0,.int .u8 0,.int .i64 0] 42)) W1.heap.size rz:=RB.new W1 rz
 obtain⟨W2,hW2⟩:∃ W2,(W1.alloc (.cells #[.int .u8 0,.int .u32 0,.int .u32 0,.int .u8 0,.bool false,.int .u8 0,.int .u8 0,.int .u8 0,.int .i64 0,.int .u8 0,.int .u8 0,.int .u32 0,.int .u8 0,.slice none 0 0,.slice none 0 0,.slice none 0 0,.int .u8 0,.int .u8 0,.int .u8 0,.int .i64 0] 42)).setRow W1.heap.size (rcs (r1p p))=W2:=⟨_,rfl⟩
 rw [hW2] at hr2 hb2
 rw [hs0] at hr2
 have HPB:=hid hpb
 have HW1:=hid hW1
 have HRE:=hid hB
 have HSZ:=hid hs0
 have HRZ:=hid hrz
 have HW2:=hid hW2
 have HR2:=hid hr2
 have HB2:=hid (hb0.trans (hb2.mono hb0.size))
 have hst:=cr_startN (r1p p) L T M W2 (HW.out _ HB2.out) (r1p_m (HP.out _ HB2.out)) (by rw [r1p_x];exact x1st_ok hok) h1
 rw [r1p_x] at hst
 have hsz:=size_x (r1p p) L T M
 rw [r1p_x] at hsz
 clear hw hP hok h1 hr hb0 hpb hs0 hW1 hB hr2 hb2 hrz hW2
 go_enter Tryz.func24,Tryz.ntmps24
 go_upto_region 1 with (fail)
 rw [HW1.out,HRE.out]
 go_upto_region 2 with (first | ((with_reducible refine wpList_load_pl HPB.out ?_ ?_);rfl) | ((with_reducible refine z1b (r1p p) HRZ.out ?_ ?_ ?_);rfl;rfl))
 rw [HW2.out,HSZ.out]
 clear HW2 HRZ HPB
 cases hg:z0p 4 4 (p.pg L T M) with
 | false =>
  have HE:Hid (startN (p.pg L T M) retry=0):=hid (by unfold startN;rw [if_neg (by rw [hg];simp)])
  rw [start_bad hg] at hst
  clear hsz
  go_wp2_with ((with_reducible refine z1l HR2.out ?_ ?_);rfl)
  refine hst.mono ?_
  rintro e w3 ⟨c,L3,T3,M3,rfl,hm3,hx3,h3,_⟩
  have HB3:=hid (HB2.out.trans (h3.mono HB2.out.size))
  obtain⟨hc4,hb4⟩:=cr_new0 w3 c
  have hz3:CB (w3.alloc (.cells #[.int .u32 0,.int .u8 0,.int .u32 0,.int .u8 0,.slice none 0 0,.slice none 0 0,.slice none 0 0,.int .u8 0,.int .u8 0,.int .u8 0,.int .i64 0,.bool false,.int .i64 0,.int .i64 0,.int .u32 0] 34)) w3.heap.size cz:=CB.new w3 cz
  obtain⟨w4,hw4⟩:∃ w4,(w3.alloc (.cells #[.int .u32 0,.int .u8 0,.int .u32 0,.int .u8 0,.slice none 0 0,.slice none 0 0,.slice none 0 0,.int .u8 0,.int .u8 0,.int .u8 0,.int .i64 0,.bool false,.int .i64 0,.int .i64 0,.int .u32 0] 34)).setRow w3.heap.size (ccs c)=w4:=⟨_,rfl⟩
  rw [hw4] at hc4 hb4
  have HZ3:=hid hz3
  have HW4:=hid hw4
  have HB4:=hid (HB3.out.trans (hb4.mono HB3.out.size))
  clear hc4 hb4 hz3 hw4 h3 hm3 hx3 hst HR2
  go_upto_region 3 with ((with_reducible refine wpList_store_cr c HZ3.out ?_ ?_ ?_);rfl;rfl)
  rw [HW4.out]
  go_wp2_with fail
  go_ret
  exact⟨by rw [HE.out];rfl,HB4.out⟩
 | true =>
  have HE:Hid (startN (p.pg L T M) retry=sizeX (x1st (p.pg L T M))+holdC (crs0 (p.pg L T M)) false 0 retry):=hid (by unfold startN;rw [if_pos hg])
  rw [start_1st hg] at hst
  go_wp2_with ((with_reducible refine z1l HR2.out ?_ ?_);rfl)
  refine hst.mono ?_
  rintro e w3 ⟨c,L3,T3,M3,rfl,hm3,hx3,h3,_⟩
  have HB3:=hid (HB2.out.trans (h3.mono HB2.out.size))
  have HR3:=hid (HR2.out.later h3)
  obtain⟨hc4,hb4⟩:=cr_new0 w3 c
  have hz3:CB (w3.alloc (.cells #[.int .u32 0,.int .u8 0,.int .u32 0,.int .u8 0,.slice none 0 0,.slice none 0 0,.slice none 0 0,.int .u8 0,.int .u8 0,.int .u8 0,.int .i64 0,.bool false,.int .i64 0,.int .i64 0,.int .u32 0] 34)) w3.heap.size cz:=CB.new w3 cz
  obtain⟨w4,hw4⟩:∃ w4,(w3.alloc (.cells #[.int .u32 0,.int .u8 0,.int .u32 0,.int .u8 0,.slice none 0 0,.slice none 0 0,.slice none 0 0,.int .u8 0,.int .u8 0,.int .u8 0,.int .i64 0,.bool false,.int .i64 0,.int .i64 0,.int .u32 0] 34)).setRow w3.heap.size (ccs c)=w4:=⟨_,rfl⟩
  obtain⟨A,hA⟩:∃ A,w3.heap.size=A:=⟨_,rfl⟩
  rw [hw4] at hc4 hb4
  rw [hA] at hc4
  have HZ3:=hid hz3
  have HW4:=hid hw4
  have HAA:=hid hA
  have HC4:=hid hc4
  have HB4:=hid (HB3.out.trans (hb4.mono HB3.out.size))
  have HR4:=hid (HR3.out.later hb4)
  have HM4:Hid (CvM w4 c L3 T3 M3):=hid (PgM.later hm3 hb4)
  have HX4:=hid hx3
  clear hc4 hb4 hz3 hw4 h3 hm3 hx3 hst HR2 hA HR3
  go_upto_region 3 with ((with_reducible refine wpList_store_cr c HZ3.out ?_ ?_ ?_);rfl;rfl)
  rw [HW4.out,HAA.out]
  clear HZ3 HW4 HAA
  have hbp:=fun (q:After w4)=>HB4.out.trans (q.h.mono HB4.out.size)
  have hcl:c.p.ln≤400∧c.p.tn≤400∧c.p.wn≤400:=by
   have e:c.p.pg L3 T3 M3=p.pg L T M:=congrArg Crs.P HX4.out
   have e1:L3=L:=congrArg Pg.lines e
   have e2:T3=T:=congrArg Pg.takes e
   have e3:M3=M:=congrArg Pg.owes e
   have g:=HP.out _ (Below.refl _ _)
   have g1:=HM4.out.l.len
   have g2:=HM4.out.t.len
   have g3:=HM4.out.o.len
   have k1:=g.l.len
   have k2:=g.t.len
   have k3:=g.o.len
   have hn:=HN.out
   subst e1 e2 e3
   omega
  have hc1:=fun (q:After w4)=>hsz q.w (HW.out _ (hbp q)) (r1p_m (HP.out _ (hbp q))) (by exact x1st_ok HOK.out) HN.out
  have hc2:=fun (q:After w4)=>nd_hold c L3 T3 M3 tv0 retry q.w (HW.out _ (hbp q)) (PgM.later HM4.out q.h) (by rw [HX4.out];exact⟨by simp only;omega,HOK.out,by unfold In64;simp only;omega,by unfold In64;simp only;omega,by simp only;omega⟩) hcl HR.out ⟨by decide,by decide⟩
  rw [HX4.out] at hc2
  have hc2':∀ (q:After w4),Calls Tryz.prog 22 #[.agg (ccs c),.agg #[.int .u32 0,.int .u32 0,.int .u8 0,.bool false,.bool false,.slice none 0 0,.int .i64 0,.int .i64 0],.int .i64 retry] q.w fun e w'=>e=.returned (.int .i64 (holdC (crs0 (p.pg L T M)) false 0 retry))∧Below q.w.heap.size q.w w':=hc2
  have hh:0≤holdC (crs0 (p.pg L T M)) false 0 retry∧holdC (crs0 (p.pg L T M)) false 0 retry≤6000:=by
   have:=rest_few (x:=crs0 (p.pg L T M)) (retry:=retry) HOK.out
   have ha:attP (crs0 (p.pg L T M)).P=attP (p.pg L T M):=rfl
   rw [ha] at this
   rw [hold_crs0 hg]
   omega
  have hzz:0≤sizeX (x1st (p.pg L T M))∧sizeX (x1st (p.pg L T M))≤500:=by
   have hgx:=x1st_good hg
   have:=good_len hgx
   unfold sizeX
   rw [if_pos hgx]
   omega
  generalize holdC (crs0 (p.pg L T M)) false 0 retry=hv at *
  generalize sizeX (x1st (p.pg L T M))=sv at *
  clear hc2 hbp hcl hsz hg
  go_upto_region 5 with (fail)
  refine z0r (by kernel_rfl) (by kernel_rfl) ?_
  repeat (first | (go_big_quiet_want;(with_reducible refine nq_load_cr HC4.out ?_ ?_);rfl;go_simp;go_big_quiet_on) | (go_big_quiet_want;(with_reducible refine nq_load_rc HR4.out ?_ ?_);rfl;go_simp;go_big_quiet_on) | go_big_quiet_step (first | (go_at_call 28;with_reducible exact z0k _ (hc1 _)) | (go_at_call 22;with_reducible exact z0k _ (hc2' _))))
  refine wpQuiet_nil ?_
  intro w5 hw'
  obtain⟨⟨wq,h6⟩,hw''⟩:=hw'
  subst hw''
  clear hc1 hc2'
  go_wp2_with fail
  go_ret
  exact⟨by rw [HE.out];rfl,HB4.out.trans (h6.mono HB4.out.size)⟩
theorem nq_load_pl {W:World} {K:Act→Prop} {a:Act} {dst:Option Tmp} {x:Operand} {ty:TypeId} {pos:String} {after:Array Edge} {gd:Option (Nat × Bool)} {B:Nat} {p:Rv} (hC:W.heap[B]?=some (.cells (pcs p) 26 (0,0))) (hx:a.eval x=.pointer (some ⟨B,0,none⟩))
 (hk:K (a.put dst (.agg #[.int .u8 p.pk,.int .u32 p.od,.int .u8 p.po,.slice p.lp p.ln p.lcp,.slice p.tp p.tn p.tcp,.slice p.wp p.wn p.wcp,.int .u8 p.sk,.int .u8 p.fr,.int .u8 p.to,.int .i64 p.q]))):(Oper.mk dst (.load 26 x) ty pos after gd).quiet Tryz.prog a (fun w'=>∃ p:After W,w'=p.w) K:=by
 refine⟨.agg (pcs p),fun w hw=>?_,hk⟩
 obtain⟨q,rfl⟩:=hw
 unfold Oper.quietAt execOp
 simp only [hx,Instr.loadAt,Instr.sureAddr,Sem.run_bind,Sem.run_pure,Result.andThen_ok,run_loadVar_row q.w B 26 26 (pcs p) (0,0) _ (z0b hC q.h) Tryz.underlying26 rfl (by kernel_rfl)]
 exact⟨rfl,rfl⟩
def c1p (p:Rv):Cv:=⟨1,p,false,0,0,0⟩
theorem nr_start (p:Rv) (L:List Ln) (T:List Tk) (M:List Ln) (retry:Int) (W:World) (hP:RvM W p L T M) (hok:Pgok (p.pg L T M)) (h1:p.ln≤20∧p.tn≤30∧p.wn≤20) (hr:In64 retry):Calls Tryz.prog 25 #[.agg (pcs p),.int .i64 retry] W fun e w'=>e=.returned (.int .i64 (startN (p.pg L T M) retry))∧Below W.heap.size W w':=by
 have HP:=hid fun w' (hb:Below W.heap.size W w')=>PgM.later hP hb
 have HOK:=hid hok
 have HN:=hid h1
 have HR:=hid hr
 have hb0:Below W.heap.size W (W.alloc (.cells (pcs p) 26)):=(Below.refl _ _).alloc (Nat.le_refl _) _
 have hpb:=z0c W (.cells (pcs p) 26)
 obtain⟨W1,hW1⟩:∃ W1,W.alloc (.cells (pcs p) 26)=W1:=⟨_,rfl⟩
 obtain⟨B,hB⟩:∃ B,W.heap.size=B:=⟨_,rfl⟩
 rw [hW1] at hb0 hpb
 rw [hB] at hpb
 have hgd:Calls Tryz.prog 8 #[.int .i64 4,.int .i64 4,.agg #[.int .u8 p.pk,.int .u32 p.od,.int .u8 p.po,.slice p.lp p.ln p.lcp,.slice p.tp p.tn p.tcp,.slice p.wp p.wn p.wcp,.int .u8 p.sk,.int .u8 p.fr,.int .u8 p.to,.int .i64 p.q]] W1 fun e w'=>e=.returned (.bool (z0p 4 4 (p.pg L T M)))∧Below W1.heap.size W1 w':=rgood_p 4 4 p.pk p.od p.po p.lp p.ln p.lcp p.tp p.tn p.tcp p.wp p.wn p.wcp p.sk p.fr p.to p.q L T M W1 (PgM.later hP hb0) hok ⟨by omega,by omega,by omega⟩
 have HPB:=hid hpb
 have HW1:=hid hW1
 have HRE:=hid hB
 have HB1:=hid hb0
 clear hP hok h1 hr hb0 hpb hW1 hB
 cases hg:z0p 4 4 (p.pg L T M) with
 | false =>
  have HE:Hid (startN (p.pg L T M) retry=0):=hid (by unfold startN;rw [if_neg (by rw [hg];simp)])
  rw [hg] at hgd
  go_enter Tryz.func25,Tryz.ntmps25
  go_upto_region 1 with (fail)
  rw [HW1.out,HRE.out]
  go_wp2_with ((with_reducible refine wpList_load_pl HPB.out ?_ ?_);rfl)
  refine hgd.mono ?_
  rintro e w2 ⟨rfl,h2⟩
  have HB2:=hid (HB1.out.trans (h2.mono HB1.out.size))
  clear h2 hgd
  go_wp2_with fail
  go_ret
  exact⟨by rw [HE.out];rfl,HB2.out⟩
 | true =>
  have HE:Hid (startN (p.pg L T M) retry=sizeX (x1st (p.pg L T M))+holdC (crs0 (p.pg L T M)) false 0 retry):=hid (by unfold startN;rw [if_pos hg])
  rw [hg] at hgd
  have hh:0≤holdC (crs0 (p.pg L T M)) false 0 retry∧holdC (crs0 (p.pg L T M)) false 0 retry≤6000:=by
   have:=rest_few (x:=crs0 (p.pg L T M)) (retry:=retry) HOK.out
   have ha:attP (crs0 (p.pg L T M)).P=attP (p.pg L T M):=rfl
   rw [ha] at this
   rw [hold_crs0 hg]
   omega
  have hzz:0≤sizeX (x1st (p.pg L T M))∧sizeX (x1st (p.pg L T M))≤500:=by
   have hgx:=x1st_good hg
   have:=good_len hgx
   unfold sizeX
   rw [if_pos hgx]
   omega
  go_enter Tryz.func25,Tryz.ntmps25
  go_upto_region 1 with (fail)
  rw [HW1.out,HRE.out]
  go_wp2_with ((with_reducible refine wpList_load_pl HPB.out ?_ ?_);rfl)
  refine hgd.mono ?_
  rintro e w2 ⟨rfl,h2⟩
  have HB2:=hid (HB1.out.trans (h2.mono HB1.out.size))
  have HPB2:=hid (z0b HPB.out h2)
  clear h2 hgd
  obtain⟨hc3,hb3⟩:=cr_new0 w2 (c1p p)
  have hz2:CB (w2.alloc (.cells #[.int .u32 0,.int .u8 0,.int .u32 0,.int .u8 0,.slice none 0 0,.slice none 0 0,.slice none 0 0,.int .u8 0,.int .u8 0,.int .u8 0,.int .i64 0,.bool false,.int .i64 0,.int .i64 0,.int .u32 0] 34)) w2.heap.size cz:=CB.new w2 cz
  obtain⟨w3,hw3⟩:∃ w3,(w2.alloc (.cells #[.int .u32 0,.int .u8 0,.int .u32 0,.int .u8 0,.slice none 0 0,.slice none 0 0,.slice none 0 0,.int .u8 0,.int .u8 0,.int .u8 0,.int .i64 0,.bool false,.int .i64 0,.int .i64 0,.int .u32 0] 34)).setRow w2.heap.size (ccs (c1p p))=w3:=⟨_,rfl⟩
  obtain⟨A,hA⟩:∃ A,w2.heap.size=A:=⟨_,rfl⟩
  rw [hw3] at hc3 hb3
  rw [hA] at hc3
  have HZ2:=hid hz2
  have HW3:=hid hw3
  have HAA:=hid hA
  have HC3:=hid hc3
  have HB3:=hid (HB2.out.trans (hb3.mono HB2.out.size))
  have HPB3:=hid (z0b HPB2.out hb3)
  clear hc3 hb3 hz2 hw3 hA
  go_upto_region 4 with (first | ((with_reducible refine wpList_load_pl HPB2.out ?_ ?_);rfl) | ((with_reducible refine wpList_store_cr (c1p p) HZ2.out ?_ ?_ ?_);rfl;rfl))
  rw [HW3.out,HAA.out]
  clear HZ2 HW3 HAA HPB2
  try simp only [Act.put]
  have hbp:=fun (q:After w3)=>HB3.out.trans (q.h.mono HB3.out.size)
  have hc1:∀ (q:After w3),Calls Tryz.prog 56 #[.agg #[.int .u8 1,.int .u32 1,.int .u32 0,.int .u8 0,.bool false,.int .u8 0,.int .u8 0,.int .u8 0,.int .i64 0,.int .u8 0,.int .u8 p.pk,.int .u32 p.od,.int .u8 p.po,.slice p.lp p.ln p.lcp,.slice p.tp p.tn p.tcp,.slice p.wp p.wn p.wcp,.int .u8 p.sk,.int .u8 p.fr,.int .u8 p.to,.int .i64 p.q]] q.w fun e w'=>e=.returned (.int .i64 (sizeX (x1st (p.pg L T M))))∧Below q.w.heap.size q.w w':=fun (q:After w3)=>rsize_x (r1p p) L T M q.w (r1p_m (HP.out _ (hbp q))) (by exact x1st_ok HOK.out) HN.out
  have hc2:∀ (q:After w3),Calls Tryz.prog 23 #[.agg (ccs (c1p p)),.agg #[.int .u32 0,.int .u32 0,.int .u8 0,.bool false,.bool false,.slice none 0 0,.int .i64 0,.int .i64 0],.int .i64 retry] q.w fun e w'=>e=.returned (.int .i64 (holdC (crs0 (p.pg L T M)) false 0 retry))∧Below q.w.heap.size q.w w':=fun q=>nr_hold (c1p p) L T M tv0 retry q.w (HP.out _ (hbp q)) ⟨by show (0:Int)≤1∧(1:Int)≤4294967295;omega,HOK.out,in0,in0,by show (0:Int)≤0∧(0:Int)≤4294967295;omega⟩ (by have:=HN.out;show p.ln≤400∧p.tn≤400∧p.wn≤400;omega) HR.out ⟨by decide,by decide⟩
  generalize holdC (crs0 (p.pg L T M)) false 0 retry=hv at *
  generalize sizeX (x1st (p.pg L T M))=sv at *
  clear hbp hg
  refine z0r (by kernel_rfl) (by kernel_rfl) ?_
  repeat (first | (go_big_quiet_want;(with_reducible refine nq_load_cr HC3.out ?_ ?_);rfl;go_simp;go_big_quiet_on) | (go_big_quiet_want;(with_reducible refine nq_load_pl HPB3.out ?_ ?_);rfl;go_simp;go_big_quiet_on) | go_big_quiet_step (first | (go_at_call 56;with_reducible exact z0k _ (hc1 _)) | (go_at_call 23;with_reducible exact z0k _ (hc2 _))))
  refine wpQuiet_nil ?_
  intro w5 hw'
  obtain⟨⟨wq,h6⟩,hw''⟩:=hw'
  subst hw''
  clear hc1 hc2
  go_wp2_with fail
  go_ret
  exact⟨by rw [HE.out];rfl,HB3.out.trans (h6.mono HB3.out.size)⟩
abbrev nwP:Pg:=⟨5,0,0,[],[],[],0,0,0,3⟩
theorem nw_att:attP nwP=83:=by kernel_rfl
theorem nw_start:startN nwP 0=322:=by kernel_rfl
theorem nw_pass:passS (5,0,[(0,3)])=50:=by kernel_rfl
theorem nw_fail:failS (5,0,[(0,3)])=83:=by kernel_rfl
theorem nw_pok:Pgok nwP:=⟨by decide,by decide,by decide,(fun x hx=>by cases hx),(fun x hx=>by cases hx),(fun x hx=>by cases hx),by decide,by decide,by decide,by unfold In64;decide⟩
theorem nd_works (W:World) (hw:Words W):Calls Tryz.prog 12 #[] W fun e w'=>e=.returned (.bool true)∧Below W.heap.size W w':=by
 have HW:=hid fun w' (hb:Below W.heap.size W w')=>hw.later hb
 obtain⟨G,hG⟩:∃ G,W.heap.size=G:=⟨_,rfl⟩
 have HG:=hid hG
 obtain⟨W1,hW1,hb1⟩:∃ W1,W.alloc (.cells #[.int .u8 0,.int .i64 3] 76)=W1∧Below W.heap.size W W1:=⟨_,rfl,(Below.refl _ _).alloc (Nat.le_refl _) _⟩
 have hblk:=z0c W (.cells #[.int .u8 0,.int .i64 3] 76)
 rw [hW1,hG] at hblk
 have hs1:W1.heap.size=G+1:=by rw [← hW1,← hG];simp only [World.alloc,Array.size_push]
 have hL:LL W1 (some ⟨G,0,none⟩) 1 1 [(0,3)]:=by
  refine⟨rfl,Nat.le_refl _,by decide,(fun h=>by cases h),fun _=>⟨_,_,rfl,z1s hblk,fun j hj i v hv=>?_⟩⟩
  obtain rfl:j=0:=by omega
  show W1.cell? ⟨G,0+0*2+i,none⟩=some v
  simp only [Nat.zero_mul,Nat.zero_add]
  exact z0a hblk (by simpa [lc,l0] using hv)
 have HW1:=hid hW1
 have hb2:Below W1.heap.size W1 (W1.alloc (.cells #[.int .u8 5,.int .u8 0,.slice (some ⟨G,0,none⟩) 1 1] 52)):=(Below.refl _ _).alloc (Nat.le_refl _) _
 have hs2:(W1.alloc (.cells #[.int .u8 5,.int .u8 0,.slice (some ⟨G,0,none⟩) 1 1] 52)).heap.size=G+1+1:=by rw [← hs1];simp only [World.alloc,Array.size_push]
 have hk2:=z0c W1 (.cells #[.int .u8 5,.int .u8 0,.slice (some ⟨G,0,none⟩) 1 1] 52)
 have hb3:Below (W1.alloc (.cells #[.int .u8 5,.int .u8 0,.slice (some ⟨G,0,none⟩) 1 1] 52)).heap.size (W1.alloc (.cells #[.int .u8 5,.int .u8 0,.slice (some ⟨G,0,none⟩) 1 1] 52)) ((W1.alloc (.cells #[.int .u8 5,.int .u8 0,.slice (some ⟨G,0,none⟩) 1 1] 52)).alloc (.cells #[.int .u8 5,.int .u32 0,.int .u8 0,.slice none 0 0,.slice none 0 0,.slice none 0 0,.int .u8 0,.int .u8 0,.int .u8 0,.int .i64 3] 26)):=(Below.refl _ _).alloc (Nat.le_refl _) _
 have hk3:=z0c (W1.alloc (.cells #[.int .u8 5,.int .u8 0,.slice (some ⟨G,0,none⟩) 1 1] 52)) (.cells #[.int .u8 5,.int .u32 0,.int .u8 0,.slice none 0 0,.slice none 0 0,.slice none 0 0,.int .u8 0,.int .u8 0,.int .u8 0,.int .i64 3] 26)
 rw [hs1] at hk2
 rw [hs2] at hk3
 have hk2':=z0b hk2 hb3
 have hb13:=hb2.trans (hb3.mono hb2.size)
 obtain⟨W3,hW3⟩:∃ W3,(W1.alloc (.cells #[.int .u8 5,.int .u8 0,.slice (some ⟨G,0,none⟩) 1 1] 52)).alloc (.cells #[.int .u8 5,.int .u32 0,.int .u8 0,.slice none 0 0,.slice none 0 0,.slice none 0 0,.int .u8 0,.int .u8 0,.int .u8 0,.int .i64 3] 26)=W3:=⟨_,rfl⟩
 rw [hW3] at hk3 hk2' hb13
 have HW3:=hid hW3
 have HL:=hid (hL.later hb13)
 have HB:=hid (hb1.trans (hb13.mono hb1.size))
 have HK2:=hid hk2'
 have HK3:=hid hk3
 clear hw hW1 hblk hb2 hs2 hk2 hb3 hk3 hk2' hb13 hW3 hL hb1 hs1 hG
 obtain⟨p0,hp0⟩:∃ p0:Rv,p0=⟨0,0,0,0,false,0,0,0,0,0,5,0,0,none,0,0,none,0,0,none,0,0,0,0,0,3⟩:=⟨_,rfl⟩
 have hpg:p0.pg [] [] []=nwP:=by rw [hp0];rfl
 have hpm:∀ w,RvM w p0 [] [] []:=fun w=>by rw [hp0];exact⟨SlG.empty _,SlG.empty _,SlG.empty _⟩
 have hpl:p0.ln≤400∧p0.tn≤400∧p0.wn≤400:=by rw [hp0];exact⟨by simp only;omega,by simp only;omega,by simp only;omega⟩
 have HAT:Hid (∀ w,Below W.heap.size W w→Calls Tryz.prog 18 #[.agg #[.int .u8 5,.int .u32 0,.int .u8 0,.slice none 0 0,.slice none 0 0,.slice none 0 0,.int .u8 0,.int .u8 0,.int .u8 0,.int .i64 3]] w fun e w'=>e=.returned (.int .i64 83)∧Below w.heap.size w w'):=hid fun w hb=>by
  have:=nd_attempt p0 [] [] [] w (HW.out w hb) (hpm w) (by rw [hpg];exact nw_pok) hpl
  rw [hpg,nw_att,hp0] at this
  exact this
 have HSA:Hid (∀ w,Below W.heap.size W w→Calls Tryz.prog 24 #[.agg #[.int .u8 5,.int .u32 0,.int .u8 0,.slice none 0 0,.slice none 0 0,.slice none 0 0,.int .u8 0,.int .u8 0,.int .u8 0,.int .i64 3],.int .i64 0] w fun e w'=>e=.returned (.int .i64 322)∧Below w.heap.size w w'):=hid fun w hb=>by
  have:=nd_start p0 [] [] [] 0 w (HW.out w hb) (hpm w) (by rw [hpg];exact nw_pok) hpl (by unfold In64;decide)
  rw [hpg,nw_start,hp0] at this
  exact this
 have HPA:Hid (∀ w,Below W3.heap.size W3 w→Calls Tryz.prog 14 #[.agg #[.int .u8 5,.int .u8 0,.slice (some ⟨G,0,none⟩) 1 1]] w fun e w'=>e=.returned (.int .i64 50)∧Below w.heap.size w w'):=hid fun w hb=>by
  have:=nd_pass 5 0 (some ⟨G,0,none⟩) 1 1 [(0,3)] w (HL.out.later hb) (fun x hx=>by obtain rfl:=List.mem_singleton.1 hx;exact⟨by decide,by unfold In64;decide⟩) (by omega)
  rw [nw_pass] at this
  exact this
 have HFA:Hid (∀ w,Below W3.heap.size W3 w→Calls Tryz.prog 16 #[.agg #[.int .u8 5,.int .u8 0,.slice (some ⟨G,0,none⟩) 1 1]] w fun e w'=>e=.returned (.int .i64 83)∧Below w.heap.size w w'):=hid fun w hb=>by
  have:=nd_fail 5 0 (some ⟨G,0,none⟩) 1 1 [(0,3)] w (HL.out.later hb) (fun x hx=>by obtain rfl:=List.mem_singleton.1 hx;exact⟨by decide,by unfold In64;decide⟩) (by omega)
  rw [nw_fail] at this
  exact this
 clear hp0 hpg hpm hpl p0
 go_enter Tryz.func12,Tryz.ntmps12
 go_upto_region 3 with (fail)
 rw [HG.out,HW1.out,HW3.out]
 obtain⟨k0,k1,k2⟩:=z1m HK2.out
 go_wp2_with fail
 refine (HPA.out _ (Below.refl _ _)).mono ?_
 rintro e w4 ⟨rfl,h4⟩
 have HB4:=hid h4
 obtain⟨k0',k1',k2'⟩:=z1m (z0b HK2.out h4)
 clear h4 k0 k1 k2
 go_wp2_with fail
 refine (HFA.out _ HB4.out).mono ?_
 rintro e w5 ⟨rfl,h5⟩
 have HB5:=hid (HB4.out.trans (h5.mono HB4.out.size))
 have HK5:=hid (z0b HK3.out HB5.out)
 clear h5 k0' k1' k2'
 obtain⟨c0,c1,c2,c3,c4,c5,c6,c7,c8,c9⟩:=ten_cells HK5.out
 go_wp2_with fail
 refine (HAT.out _ (HB.out.trans (HB5.out.mono HB.out.size))).mono ?_
 rintro e w6 ⟨rfl,h6⟩
 have HB6:=hid (HB5.out.trans (h6.mono HB5.out.size))
 have HK6:=hid (z0b HK3.out HB6.out)
 clear h6 c0 c1 c2 c3 c4 c5 c6 c7 c8 c9
 obtain⟨c0,c1,c2,c3,c4,c5,c6,c7,c8,c9⟩:=ten_cells HK6.out
 go_wp2_with fail
 refine (HSA.out _ (HB.out.trans (HB6.out.mono HB.out.size))).mono ?_
 rintro e w7 ⟨rfl,h7⟩
 have HB7:=hid (HB6.out.trans (h7.mono HB6.out.size))
 clear h7 c0 c1 c2 c3 c4 c5 c6 c7 c8 c9
 go_wp2_with fail
 go_ret
 exact⟨rfl,HB.out.trans (HB7.out.mono HB.out.size)⟩
theorem law_nsays (c:Cv) (L:List Ln) (T:List Tk) (M:List Ln) (t:Tv) (retry:Int) (W:World) (hw:Words W) (hP:CvM W c L T M) (hok:Crok (c.x L T M)) (hr:In64 retry):Calls Tryz.prog 4 #[.agg (ccs c),.agg #[.int .u32 t.c.id,.int .u32 t.c.sg,.int .u8 t.c.st,.bool t.c.cp,.bool t.c.dd,.slice t.p t.n t.m,.int .i64 t.c.fs,.int .i64 t.c.sz],.int .i64 retry] W fun e w'=>e=.returned (.bool true)∧Below W.heap.size W w':=by
 obtain⟨W1,hW1,hx,ht,hb1⟩:=cr_two8 W c t
 obtain⟨B,hB⟩:∃ B,W.heap.size=B:=⟨_,rfl⟩
 rw [hB] at hx ht
 have HX:=hid hx
 have HT:=hid ht
 have HW1:=hid hW1
 have HB1:=hid hb1
 have HRE:=hid hB
 have HW:=hid fun w' (hb:Below W.heap.size W w')=>hw.later hb
 have HP:=hid fun w' (hb:Below W.heap.size W w')=>PgM.later hP hb
 have HOK:=hid hok
 have HR:=hid hr
 have hf:=cr_few c t W1
 clear hW1 hx ht hb1 hB hw hP hok hr
 cases hfw:fewC c t with
 | false =>
  rw [hfw] at hf
  simp only [Bool.false_eq_true,if_false] at hf
  go_enter Tryz.func4,Tryz.ntmps4
  go_upto_region 1 with (fail)
  rw [HW1.out,HRE.out]
  obtain⟨_,_,_,_,_,_,_,b7⟩:=z1z HT.out
  go_wp2_with ((with_reducible refine z0y HX.out ?_ ?_);rfl)
  refine hf.mono ?_
  rintro e w2 ⟨rfl,h2⟩
  have HB2:=hid (HB1.out.trans (h2.mono HB1.out.size))
  clear h2 hf b7
  go_wp2_with fail
  refine (nd_works _ (HW.out _ HB2.out)).mono ?_
  rintro e wz ⟨rfl,hz⟩
  have HBZ:=hid (HB2.out.trans (hz.mono HB2.out.size))
  clear hz
  go_wp2_with fail
  go_ret
  exact⟨rfl,HBZ.out⟩
 | true =>
  rw [hfw] at hf
  simp only [if_true] at hf
  obtain⟨hs1,hs2⟩:=fewC_small hfw
  have HS1:=hid hs1
  have HS2:=hid hs2
  clear hs1 hs2 hfw
  obtain⟨sz,hsz⟩:∃ sz,t.c.sz=sz:=⟨_,rfl⟩
  have HSZ:=hid hsz
  clear hsz
  by_cases q1:sz<0
  · have d1:decide (sz<0)=true:=decide_eq_true q1
    go_enter Tryz.func4,Tryz.ntmps4
    go_upto_region 1 with (fail)
    rw [HW1.out,HRE.out]
    obtain⟨b0,b1,b2,b3,b4,b5,b6,b7⟩:=z1z HT.out
    go_wp2_with ((with_reducible refine z0y HX.out ?_ ?_);rfl)
    refine hf.mono ?_
    rintro e w2 ⟨rfl,h2⟩
    have HB2:=hid (HB1.out.trans (h2.mono HB1.out.size))
    have HT2:=hid (z0b HT.out h2)
    clear h2 hf b0 b1 b2 b3 b4 b5 b6 b7
    obtain⟨_,_,_,_,_,_,_,b7⟩:=z1z HT2.out
    rw [HSZ.out] at b7
    go_wp2_with fail
    refine (nd_works _ (HW.out _ HB2.out)).mono ?_
    rintro e wz ⟨rfl,hz⟩
    have HBZ:=hid (HB2.out.trans (hz.mono HB2.out.size))
    clear hz
    go_wp2_with fail
    go_ret
    exact⟨rfl,HBZ.out⟩
  by_cases q2:1048576<sz
  · have d1:decide (sz<0)=false:=decide_eq_false q1
    have d2:decide (1048576<sz)=true:=decide_eq_true q2
    go_enter Tryz.func4,Tryz.ntmps4
    go_upto_region 1 with (fail)
    rw [HW1.out,HRE.out]
    obtain⟨b0,b1,b2,b3,b4,b5,b6,b7⟩:=z1z HT.out
    go_wp2_with ((with_reducible refine z0y HX.out ?_ ?_);rfl)
    refine hf.mono ?_
    rintro e w2 ⟨rfl,h2⟩
    have HB2:=hid (HB1.out.trans (h2.mono HB1.out.size))
    have HT2:=hid (z0b HT.out h2)
    clear h2 hf b0 b1 b2 b3 b4 b5 b6 b7
    obtain⟨_,_,_,_,_,_,_,b7⟩:=z1z HT2.out
    rw [HSZ.out] at b7
    go_wp2_with fail
    refine (nd_works _ (HW.out _ HB2.out)).mono ?_
    rintro e wz ⟨rfl,hz⟩
    have HBZ:=hid (HB2.out.trans (hz.mono HB2.out.size))
    clear hz
    go_wp2_with fail
    go_ret
    exact⟨rfl,HBZ.out⟩
  have d1:decide (sz<0)=false:=decide_eq_false q1
  have d2:decide (1048576<sz)=false:=decide_eq_false q2
  have HZ:Hid (0≤t.c.sz∧t.c.sz≤1000000000000000000):=hid (by rw [HSZ.out];omega)
  have HS:Hid (∀ w',Below W.heap.size W w'→Calls Tryz.prog 13 #[.agg (pcs c.p)] w' (GivesS w' (z0o (c.p.pg L T M)))):=hid fun w' hb=>rsteps_p c.p.pk c.p.od c.p.po c.p.lp c.p.ln c.p.lcp c.p.tp c.p.tn c.p.tcp c.p.wp c.p.wn c.p.wcp c.p.sk c.p.fr c.p.to c.p.q L T M w' (HP.out _ hb) HOK.out.P (by have:=HS1.out;omega)
  obtain⟨hfin,hn5⟩:=steps_few (P:=c.p.pg L T M) HOK.out.P
  generalize hSS:z0o (c.p.pg L T M)=S at *
  obtain⟨n,hl⟩:∃ n,S.length=n:=⟨_,rfl⟩
  have HL:=hid hl
  rw [hl] at hn5
  have HFJ:Hid (∀ j,j<n→FineS (S.getD j (0,0,[]))):=hid fun j hj=>fine_at hfin (by omega)
  have HSS:=hid hSS
  clear hfin hl hSS q1 q2
  go_enter Tryz.func4,Tryz.ntmps4
  go_upto_region 1 with (fail)
  rw [HW1.out,HRE.out]
  obtain⟨b0,b1,b2,b3,b4,b5,b6,b7⟩:=z1z HT.out
  go_wp2_with ((with_reducible refine z0y HX.out ?_ ?_);rfl)
  refine hf.mono ?_
  rintro e w2 ⟨rfl,h2⟩
  have HB2:=hid (HB1.out.trans (h2.mono HB1.out.size))
  have HT2:=hid (z0b HT.out h2)
  have HX2:=hid (HX.out.later h2)
  clear h2 hf b0 b1 b2 b3 b4 b5 b6 b7 HX HT
  obtain⟨_,_,_,_,_,_,_,b7⟩:=z1z HT2.out
  rw [HSZ.out] at b7
  go_wp2_with ((with_reducible refine z1v HX2.out ?_ ?_);rfl)
  refine (HS.out _ HB2.out).mono ?_
  rintro e w3 ⟨p3,k3,H,rfl,hs3,hb3⟩
  have HB3:=hid (HB2.out.trans (hb3.mono HB2.out.size))
  have HX3:=hid (HX2.out.later hb3)
  have HT3:=hid (z0b HT2.out hb3)
  simp only [HL.out] at hs3 ⊢
  have HR3:=hid hs3
  clear hb3 hs3 HS HX2 HT2 b7 d1 d2
  go_wp2_with fail
  go_loopw [8] (fun ix wr=>∃ j:Nat,j≤n∧ix=.int .i64 j∧Hid (Below w3.heap.size w3 wr)) (fun ix _=>n-(Go.RowKit.intOf ix).toNat)
  case atStart=>exact⟨0,Nat.zero_le _,rfl,hid (Below.refl _ _)⟩
  case round =>
   obtain⟨j,hj,rfl,HB⟩:=hrel
   by_cases hlt:j<n
   case pos =>
    have hlt':(j:Int)<n:=by omega
    have HSA:=hid (HR3.out.later HB.out)
    have hcap:=HSA.out.row.cap
    obtain⟨b',off',heb,_,k0,k1,k2⟩:=step_cells HSA.out.row hlt
    obtain⟨t1,t2,t3⟩:=HSA.out.tells.at j (by rw [HSA.out.row.len];exact hlt)
    subst heb
    have hfine:=HFJ.out j hlt
    rw [t1] at k0
    rw [t2] at k1
    generalize S.getD j (0,0,[])=sj at *
    obtain⟨ts,rs,Lq⟩:=sj
    generalize H.getD j hs0=h3 at *
    obtain⟨y1,y2,ip,il,ic⟩:=h3
    dsimp only at k0 k1 k2 t1 t2 t3
    obtain⟨f1,f2,f3,f4,f5⟩:=hfine
    dsimp only at f1 f2 f3 f4 f5
    have hl1:=t3.len
    have x0:=fun q:After wr=>z0w q k0
    have x1:=fun q:After wr=>z0w q k1
    have x2:=fun q:After wr=>z0w q k2
    have hc1:=fun q:After wr=>nd_pass ts rs ip il ic Lq q.w (t3.later q.h) f4 (by omega)
    have hc2:=fun q:After wr=>nr_pass ts rs ip il ic Lq q.w (t3.later q.h) f4 (by omega)
    have hc3:=fun q:After wr=>nd_fail ts rs ip il ic Lq q.w (t3.later q.h) f4 (by omega)
    have hc4:=fun q:After wr=>nr_fail ts rs ip il ic Lq q.w (t3.later q.h) f4 (by omega)
    generalize passS (ts,rs,Lq)=vp at *
    generalize failS (ts,rs,Lq)=vf at *
    have hpp:(vp==vp)=true:=beq_self_eq_true vp
    have hff:(vf==vf)=true:=beq_self_eq_true vf
    clear t1 t2 t3 f1 f2 f3 f4 f5 hl1
    go_upto_region 7 with (fail)
    refine z0r (by kernel_rfl) (by kernel_rfl) ?_
    repeat (go_big_quiet_step (first | (go_at_call 14;with_reducible exact z0k _ (hc1 _)) | (go_at_call 15;with_reducible exact z0k _ (hc2 _)) | (go_at_call 16;with_reducible exact z0k _ (hc3 _)) | (go_at_call 17;with_reducible exact z0k _ (hc4 _))))
    refine wpQuiet_nil ?_
    intro w4 hw'
    obtain⟨⟨wq,h6⟩,hw''⟩:=hw'
    subst hw''
    have HB4:=hid (HB.out.trans (h6.mono HB.out.size))
    clear hc1 hc2 hc3 hc4 x0 x1 x2 k0 k1 k2 h6
    go_wp2_with fail
    go_roundw
    case rel=>exact⟨j+1,by omega,by go_num,HB4⟩
    case measure=>simp [Go.RowKit.intOf];omega
   obtain rfl:n=j:=by omega
   have HX4:=hid (HX3.out.later HB.out)
   have HT4:=hid (z0b HT3.out HB.out)
   have HB4:=hid (HB3.out.trans (HB.out.mono HB3.out.size))
   have hbp:=fun (q:After wr)=>HB4.out.trans (q.h.mono HB4.out.size)
   have h4:c.p.ln≤400∧c.p.tn≤400∧c.p.wn≤400:=by have:=HS1.out;omega
   obtain⟨b0,b1,b2,b3,b4,b5,b6,b7⟩:=z1z HT4.out
   have y0:=fun q:After wr=>z0w q b0
   have y1:=fun q:After wr=>z0w q b1
   have y2:=fun q:After wr=>z0w q b2
   have y3:=fun q:After wr=>z0w q b3
   have y4:=fun q:After wr=>z0w q b4
   have y5:=fun q:After wr=>z0w q b5
   have y6:=fun q:After wr=>z0w q b6
   have y7:=fun q:After wr=>z0w q b7
   have hc1:=fun (q:After wr)=>nd_attempt c.p L T M q.w (HW.out _ (hbp q)) (HP.out _ (hbp q)) HOK.out.P h4
   have hc2:=fun (q:After wr)=>nr_attempt c.p L T M q.w (HP.out _ (hbp q)) HOK.out.P h4
   have hc3:=fun (q:After wr)=>nd_rest c L T M retry q.w (HW.out _ (hbp q)) (HP.out _ (hbp q)) HOK.out h4 HR.out
   have hc4:=fun (q:After wr)=>nr_rest c L T M retry q.w (HP.out _ (hbp q)) HOK.out h4 HR.out
   have hc5:=fun (q:After wr)=>nd_hold c L T M t retry q.w (HW.out _ (hbp q)) (HP.out _ (hbp q)) HOK.out h4 HR.out HZ.out
   have hc6:=fun (q:After wr)=>nr_hold c L T M t retry q.w (HP.out _ (hbp q)) HOK.out h4 HR.out HZ.out
   have hc7:=fun (q:After wr)=>nd_start c.p L T M retry q.w (HW.out _ (hbp q)) (HP.out _ (hbp q)) HOK.out.P h4 HR.out
   have hc8:=fun (q:After wr)=>nr_start c.p L T M retry q.w (HP.out _ (hbp q)) HOK.out.P HS1.out HR.out
   have hc9:=fun (q:After wr)=>nd_works q.w (HW.out _ (hbp q))
   generalize attP (c.p.pg L T M)=v1 at *
   generalize restC (c.x L T M) retry=v2 at *
   generalize holdC (c.x L T M) t.c.dd t.c.sz retry=v3 at *
   generalize startN (c.p.pg L T M) retry=v4 at *
   have e1:(v1==v1)=true:=beq_self_eq_true v1
   have e2:(v2==v2)=true:=beq_self_eq_true v2
   have e3:(v3==v3)=true:=beq_self_eq_true v3
   have e4:(v4==v4)=true:=beq_self_eq_true v4
   clear hbp h4
   go_upto_region 9 with (fail)
   refine z0r (by kernel_rfl) (by kernel_rfl) ?_
   repeat (first | (go_big_quiet_want;(with_reducible refine nq_load_cr HX4.out ?_ ?_);rfl;go_simp;go_big_quiet_on) | (go_big_quiet_want;(with_reducible refine nq_load_cp HX4.out ?_ ?_);rfl;go_simp;go_big_quiet_on) | go_big_quiet_step (first | (go_at_call 18;with_reducible exact z0k _ (hc1 _)) | (go_at_call 19;with_reducible exact z0k _ (hc2 _)) | (go_at_call 20;with_reducible exact z0k _ (hc3 _)) | (go_at_call 21;with_reducible exact z0k _ (hc4 _)) | (go_at_call 22;with_reducible exact z0k _ (hc5 _)) | (go_at_call 23;with_reducible exact z0k _ (hc6 _)) | (go_at_call 24;with_reducible exact z0k _ (hc7 _)) | (go_at_call 25;with_reducible exact z0k _ (hc8 _)) | (go_at_call 12;exact z0k _ (hc9 _))))
   refine wpQuiet_nil ?_
   intro w5 hw'
   obtain⟨⟨wq,h6⟩,hw''⟩:=hw'
   subst hw''
   clear hc1 hc2 hc3 hc4 hc5 hc6 hc7 hc8 hc9 y0 y1 y2 y3 y4 y5 y6 y7 b0 b1 b2 b3 b4 b5 b6 b7
   go_wp2_with fail
   go_ret
   exact⟨rfl,HB4.out.trans (h6.mono HB4.out.size)⟩
end Go.Proofs.YtclbkfpbdidaiaaGreatDoor
